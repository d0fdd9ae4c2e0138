/- DERIVED. The walk of PlaneCuts. -/
import Derived.Test.YtlgfkkegehpllaaRk
import Derived.Deep.DeepCutAuto
import Derived.Deep.Light
namespace Go.Proofs.Ytlgfkkegehpllaa
open Go.RowKit

/-- what the walk reads all along -/
structure Kc (u V t : World) (xb : Nat) (W H X Y w h : Int) (a a1 ab az : Option Addr) (c c1 : Nat) (C B : List Nat) : Prop where
  p : t.cell? ⟨u.heap.size, 0, none⟩ = some (.int .i64 W) ∧ t.cell? ⟨u.heap.size, 1, none⟩ = some (.int .i64 H) ∧ t.cell? ⟨u.heap.size, 2, none⟩ = some (.slice a C.length c)
  r : t.cell? ⟨u.heap.size + 1, 0, none⟩ = some (.int .i64 X) ∧ t.cell? ⟨u.heap.size + 1, 1, none⟩ = some (.int .i64 Y) ∧ t.cell? ⟨u.heap.size + 1, 2, none⟩ = some (.int .i64 w) ∧ t.cell? ⟨u.heap.size + 1, 3, none⟩ = some (.int .i64 h)
  x : t.cell? ⟨xb, 0, none⟩ = some (.int .i64 W) ∧ t.cell? ⟨xb, 1, none⟩ = some (.int .i64 H) ∧ t.cell? ⟨xb, 2, none⟩ = some (.slice a1 C.length c1)
  sa : Sl t .u8 a C
  sx : Sl t .u8 a1 C
  sb : Sl t .u8 ab B
  ss : Sl t .u8 az B
  bel : Below V.heap.size V t
/-- a plane in a variable, as the document answers it -/
structure Oe (T : World) (y : Nat) (a : Option Addr) (c : Nat) (W H : Int) (L : List Nat) : Prop where
  c0 : T.cell? ⟨y, 0, none⟩ = some (.int .i64 W)
  c1 : T.cell? ⟨y, 1, none⟩ = some (.int .i64 H)
  c2 : T.cell? ⟨y, 2, none⟩ = some (.slice a L.length c)
  sl : Sl T .u8 a L
theorem oe_a {w : World} {a : Option Addr} {c : Nat} {W H : Int} {L : List Nat} (hr : Sl w .u8 a L) : Oe (w.alloc (.cells #[.int .i64 W, .int .i64 H, .slice a L.length c] 24)) w.heap.size a c W H L :=
  ⟨by simp, by simp, by simp, hr.to (from_alloc _ _)⟩
theorem Od.base {V V' T : World} {y c : Nat} {a : Option Addr} {W H : Int} {L : List Nat} (h : Od V' T y a c W H L) (hb : Below V.heap.size V V') : Od V T y a c W H L :=
  ⟨h.c0, h.c1, h.c2, h.rn.mono hb.size, h.ly, Nat.le_trans hb.size h.ny, h.ne, hb.trans (h.bel.mono hb.size)⟩
theorem smB_self (W H : Int) (C : List Nat) : smB W H C W H C = true := by simp [smB]

set_option maxRecDepth 100000 in
set_option maxHeartbeats 4000000 in
theorem cuts_walk {u : World} {a ab : Option Addr} {c cb : Nat} {C B : List Nat} {W H X Y w h : Int} (hs : Sl u .u8 a C) (hl : C.length ≤ 140737488355328) (hsB : Sl u .u8 ab B) (hlB : B.length ≤ 140737488355328) (bX : X ≤ 9223372036854775807) (bY : Y ≤ 9223372036854775807) :
    Calls Try.prog 4 #[.agg #[.int .i64 W, .int .i64 H, .slice a C.length c], .agg #[.int .i64 X, .int .i64 Y, .int .i64 w, .int .i64 h], .slice ab B.length cb] u fun e w' => e = .returned (.bool true) ∧ Below u.heap.size u w' := by
  obtain ⟨L1, e1, hL1, cutP, cutD⟩ := cut_both W H C X Y w h bX bY
  obtain ⟨W2, H2, L2, e2, hL2, layP, layD⟩ := lay_both W H C B X Y w h bX bY hlB
  obtain ⟨W3, H3, L3, e3, hL3, padP, padD⟩ := pad_two W H C w h
  obtain ⟨W4, H4, L4, e4, hL4, podP, podD⟩ := pad_two W H C (IntKind.i64.wrap (W + br X 9)) (IntKind.i64.wrap (H + br Y 9))
  have HcP : Hid _ := cutP
  have HcD : Hid _ := cutD
  have HlP : Hid _ := layP
  have HlD : Hid _ := layD
  have HpP : Hid _ := padP
  have HpD : Hid _ := padD
  have HoP : Hid _ := podP
  have HoD : Hid _ := podD
  clear cutP cutD layP layD padP padD podP podD
  have HBU : Hid (Below u.heap.size u ((u.alloc (.cells #[.int .i64 W, .int .i64 H, .slice a C.length c] 24)).alloc (.cells #[.int .i64 X, .int .i64 Y, .int .i64 w, .int .i64 h] 40))) := to_alloc (from_alloc _ _) _
  have HSa : Hid (Sl ((u.alloc (.cells #[.int .i64 W, .int .i64 H, .slice a C.length c] 24)).alloc (.cells #[.int .i64 X, .int .i64 Y, .int .i64 w, .int .i64 h] 40)) .u8 a C) := hs.to HBU.out
  have HSb : Hid (Sl ((u.alloc (.cells #[.int .i64 W, .int .i64 H, .slice a C.length c] 24)).alloc (.cells #[.int .i64 X, .int .i64 Y, .int .i64 w, .int .i64 h] 40)) .u8 ab B) := hsB.to HBU.out
  have HZ : Hid (((u.alloc (.cells #[.int .i64 W, .int .i64 H, .slice a C.length c] 24)).alloc (.cells #[.int .i64 X, .int .i64 Y, .int .i64 w, .int .i64 h] 40)).heap.size = u.heap.size + 2) := by show _ = _; simp
  have HP : Hid (((u.alloc (.cells #[.int .i64 W, .int .i64 H, .slice a C.length c] 24)).alloc (.cells #[.int .i64 X, .int .i64 Y, .int .i64 w, .int .i64 h] 40)).cell? ⟨u.heap.size, 0, none⟩ = some (.int .i64 W) ∧ ((u.alloc (.cells #[.int .i64 W, .int .i64 H, .slice a C.length c] 24)).alloc (.cells #[.int .i64 X, .int .i64 Y, .int .i64 w, .int .i64 h] 40)).cell? ⟨u.heap.size, 1, none⟩ = some (.int .i64 H) ∧ ((u.alloc (.cells #[.int .i64 W, .int .i64 H, .slice a C.length c] 24)).alloc (.cells #[.int .i64 X, .int .i64 Y, .int .i64 w, .int .i64 h] 40)).cell? ⟨u.heap.size, 2, none⟩ = some (.slice a C.length c)) := by unfold Hid; simp [go_sem]
  have HR : Hid (((u.alloc (.cells #[.int .i64 W, .int .i64 H, .slice a C.length c] 24)).alloc (.cells #[.int .i64 X, .int .i64 Y, .int .i64 w, .int .i64 h] 40)).cell? ⟨u.heap.size + 1, 0, none⟩ = some (.int .i64 X) ∧ ((u.alloc (.cells #[.int .i64 W, .int .i64 H, .slice a C.length c] 24)).alloc (.cells #[.int .i64 X, .int .i64 Y, .int .i64 w, .int .i64 h] 40)).cell? ⟨u.heap.size + 1, 1, none⟩ = some (.int .i64 Y) ∧ ((u.alloc (.cells #[.int .i64 W, .int .i64 H, .slice a C.length c] 24)).alloc (.cells #[.int .i64 X, .int .i64 Y, .int .i64 w, .int .i64 h] 40)).cell? ⟨u.heap.size + 1, 2, none⟩ = some (.int .i64 w) ∧ ((u.alloc (.cells #[.int .i64 W, .int .i64 H, .slice a C.length c] 24)).alloc (.cells #[.int .i64 X, .int .i64 Y, .int .i64 w, .int .i64 h] 40)).cell? ⟨u.heap.size + 1, 3, none⟩ = some (.int .i64 h)) := by unfold Hid; simp [go_sem]
  clear hs hsB
  go_enter Try.func4, Try.ntmps4
  go_wp2_with fail
  generalize ((u.alloc (.cells #[.int .i64 W, .int .i64 H, .slice a C.length c] 24)).alloc (.cells #[.int .i64 X, .int .i64 Y, .int .i64 w, .int .i64 h] 40)) = U at *
  refine (copyPlane_any HSa.out hl).mono ?_
  rintro e w1 ⟨a1, c1, rfl, hn1, hb1⟩
  have HN1 : Hid (Nw U w1 a1 c1 C) := hn1
  have HB1 : Hid (Below U.heap.size U w1) := hb1
  clear hn1 hb1
  go_wp2_with fail
  refine (copyBytes_any (HSb.out.to HB1.out) hlB).mono ?_
  rintro e w2 ⟨az, cs, rfl, hn2, hb2⟩
  have HV : Hid (Below U.heap.size U (w2.alloc (.cells #[.int .i64 W, .int .i64 H, .slice a1 C.length c1] 24))) := to_alloc (below_to HB1.out hb2) _
  have HKV : Hid (Kc u (w2.alloc (.cells #[.int .i64 W, .int .i64 H, .slice a1 C.length c1] 24)) (w2.alloc (.cells #[.int .i64 W, .int .i64 H, .slice a1 C.length c1] 24)) w2.heap.size W H X Y w h a a1 ab az c c1 C B) := by
    have z := HZ.out
    have zV : U.heap.size ≤ w2.heap.size := (below_to HB1.out hb2).size
    obtain ⟨q0, q1, q2⟩ := HP.out
    obtain ⟨q3, q4, q5, q6⟩ := HR.out
    refine ⟨⟨?_, ?_, ?_⟩, ⟨?_, ?_, ?_, ?_⟩, ⟨by simp, by simp, by simp⟩, HSa.out.to HV.out, (HN1.out.sl.to hb2).to (from_alloc _ _), HSb.out.to HV.out, hn2.sl.to (from_alloc _ _), Below.refl _ _⟩
    all_goals rw [newCell HV.out _ _ (by omega)]
    all_goals assumption
  have hxb : U.heap.size ≤ w2.heap.size := (below_to HB1.out hb2).size
  have hcx : C.length ≤ c1 := HN1.out.cap
  have hcs : B.length ≤ cs := hn2.cap
  have HXZ : Hid (w2.heap.size < (w2.alloc (.cells #[.int .i64 W, .int .i64 H, .slice a1 C.length c1] 24)).heap.size) := by show _ < _; simp
  obtain ⟨⟨p0, p1, p2⟩, ⟨r0, r1, r2, r3⟩, ⟨x0, x1, x2⟩, _, _, _, _, _⟩ := HKV.out
  clear hn2 hb2
  go_wp2_with fail
  clear p0 p1 p2 r0 r1 r2 r3 x0 x1 x2
  generalize w2.heap.size = xb at *
  generalize (w2.alloc (.cells #[.int .i64 W, .int .i64 H, .slice a1 C.length c1] 24)) = V at *
  have HK : Hid (∀ t : World, Below V.heap.size V t → Kc u V t xb W H X Y w h a a1 ab az c c1 C B) := fun t ht => by
    have zu := HZ.out
    have zv := HV.out.size
    have hx := HXZ.out
    obtain ⟨⟨q0, q1, q2⟩, ⟨q3, q4, q5, q6⟩, ⟨q7, q8, q9⟩, s0, s1, s2, s3, _⟩ := HKV.out
    refine ⟨⟨?_, ?_, ?_⟩, ⟨?_, ?_, ?_, ?_⟩, ⟨?_, ?_, ?_⟩, s0.to ht, s1.to ht, s2.to ht, s3.to ht, ht⟩
    all_goals rw [newCell ht _ _ (by omega)]
    all_goals assumption
  clear HP HR HZ HN1 HB1 HSa HSb HXZ
  obtain ⟨⟨p0, p1, p2⟩, ⟨r0, r1, r2, r3⟩, ⟨x0, x1, x2⟩, sa, sx, sb, ss, _⟩ := HK.out V (Below.refl _ _)
  have HSA : Hid (Sl V .u8 a C) := sa
  have HSX : Hid (Sl V .u8 a1 C) := sx
  have HSB : Hid (Sl V .u8 ab B) := sb
  have HSS : Hid (Sl V .u8 az B) := ss
  clear sa sx sb ss
  refine (HcP.out V a1 c1 HSX.out hcx).mono ?_
  rintro e w3 ⟨b1, rfl, hr3, hb3⟩
  have HB3 : Hid (Below V.heap.size V w3) := hb3
  have HR3 : Hid (Rn V w3 b1 L1) := hr3
  clear hr3 hb3
  clear p0 p1 p2 r0 r1 r2 r3 x0 x1 x2 HSA HSX HSB HSS
  obtain ⟨⟨p0, p1, p2⟩, ⟨r0, r1, r2, r3⟩, ⟨x0, x1, x2⟩, sa, sx, sb, ss, _⟩ := HK.out w3 HB3.out
  have HSA : Hid (Sl w3 .u8 a C) := sa
  have HSX : Hid (Sl w3 .u8 a1 C) := sx
  have HSB : Hid (Sl w3 .u8 ab B) := sb
  have HSS : Hid (Sl w3 .u8 az B) := ss
  clear sa sx sb ss
  go_wp2_with fail
  refine (HcD.out w3 a c HSA.out).mono ?_
  rintro e w4 ⟨b2, d2, rfl, hr4, hb4⟩
  have HB4 : Hid (Below V.heap.size V w4) := below_to HB3.out hb4
  have HR4 : Hid (Rn V w4 b1 L1) := HR3.out.to hb4
  have HS4 : Hid (Sl w4 .u8 b2 L1) := hr4
  have ee : (e1 != e1) = false := by simp
  clear hr4 hb4
  clear p0 p1 p2 r0 r1 r2 r3 x0 x1 x2 HSA HSX HSB HSS
  go_wp2_with fail
  refine (eqBytes_any HR4.out.sl HS4.out (by omega) (by omega)).mono ?_
  rintro e w5 ⟨rfl, hb5⟩
  rw [eqB_self]
  have HB5 : Hid (Below V.heap.size V w5) := below_to HB4.out hb5
  have HR5 : Hid (Rn V w5 b1 L1) := HR4.out.to hb5
  clear hb5
  go_wp2_with fail
  go_loopw [13] (fun i wr => ∃ (k : Nat) (E : List Nat), k ≤ L1.length ∧ i = .int .i64 k ∧ E.length = L1.length ∧ Rn V wr b1 E ∧ Below V.heap.size V wr) (fun i _ => L1.length - (intOf i).toNat)
  case atStart => exact ⟨0, L1, by omega, rfl, rfl, HR5.out, HB5.out⟩
  case round =>
    clear HR3 HB3 HB4 HR4 HS4 HB5 HR5
    obtain ⟨k, E, hk, rfl, hE, hr, hb⟩ := hrel
    have k0 : 0 ≤ (k : Int) := by omega
    have l1 : (L1.length : Int) ≤ 262144 := by omega
    by_cases hlt : k < L1.length
    · have k1 : (k : Int) < (L1.length : Int) := by omega
      obtain ⟨g, rfl, hg, hrw⟩ : ∃ g, b1 = some ⟨g, 0, none⟩ ∧ V.heap.size ≤ g ∧ Rw wr g E := by
        rcases hr with ⟨rfl, _⟩ | h
        · simp at hE; omega
        · exact h
      have y0 := hrw.cell k (by omega)
      have y1 := hrw.thaw k
      obtain ⟨z, hz⟩ := xor_nat (E.getD k 0)
      have HR2 : Hid (Rn V (wr.setCell ⟨g, k, none⟩ (.int .u8 (z : Int))) (some ⟨g, 0, none⟩) (E.set k z)) := Or.inr ⟨g, rfl, hg, hrw.set k z⟩
      have HB2 : Hid (Below V.heap.size V (wr.setCell ⟨g, k, none⟩ (.int .u8 (z : Int)))) := below_set hb (by simpa using hg) _
      have HE : Hid (E.length = L1.length) := hE
      clear hr hb hrw hE
      generalize E.getD k 0 = v at *
      go_wp2_with fail
      go_roundw
      case rel => exact ⟨k + 1, E.set k z, by omega, by go_num, by rw [List.length_set]; exact HE.out, HR2.out, HB2.out⟩
      case measure => simp [intOf]; omega
    · have HB6 : Hid (Below V.heap.size V wr) := hb
      clear hr hb hE k0 l1
      generalize hwr : wr = w6 at *
      clear hwr
      obtain ⟨⟨p0, p1, p2⟩, ⟨r0, r1, r2, r3⟩, ⟨x0, x1, x2⟩, sa, sx, sb, ss, _⟩ := HK.out w6 HB6.out
      have HSA : Hid (Sl w6 .u8 a C) := sa
      have HSX : Hid (Sl w6 .u8 a1 C) := sx
      have HSB : Hid (Sl w6 .u8 ab B) := sb
      have HSS : Hid (Sl w6 .u8 az B) := ss
      clear sa sx sb ss
      go_wp2_with fail
      refine (HlP.out w6 a1 az c1 cs HSX.out HSS.out hcs).mono ?_
      rintro e w7 ⟨b3, rfl, hr7, hb7⟩
      have HO7 : Hid (Od V (w7.alloc (.cells #[.int .i64 W2, .int .i64 H2, .slice b3 L2.length L2.length] 24)) w7.heap.size b3 L2.length W2 H2 L2) := od_a hr7 HB6.out.size (below_to HB6.out hb7)
      have HB7 : Hid (Below V.heap.size V (w7.alloc (.cells #[.int .i64 W2, .int .i64 H2, .slice b3 L2.length L2.length] 24))) := HO7.out.bel
      clear hr7 hb7
      clear p0 p1 p2 r0 r1 r2 r3 x0 x1 x2 HSA HSX HSB HSS
      obtain ⟨⟨p0, p1, p2⟩, ⟨r0, r1, r2, r3⟩, ⟨x0, x1, x2⟩, sa, sx, sb, ss, _⟩ := HK.out (w7.alloc (.cells #[.int .i64 W2, .int .i64 H2, .slice b3 L2.length L2.length] 24)) HB7.out
      have HSA : Hid (Sl (w7.alloc (.cells #[.int .i64 W2, .int .i64 H2, .slice b3 L2.length L2.length] 24)) .u8 a C) := sa
      have HSX : Hid (Sl (w7.alloc (.cells #[.int .i64 W2, .int .i64 H2, .slice b3 L2.length L2.length] 24)) .u8 a1 C) := sx
      have HSB : Hid (Sl (w7.alloc (.cells #[.int .i64 W2, .int .i64 H2, .slice b3 L2.length L2.length] 24)) .u8 ab B) := sb
      have HSS : Hid (Sl (w7.alloc (.cells #[.int .i64 W2, .int .i64 H2, .slice b3 L2.length L2.length] 24)) .u8 az B) := ss
      clear sa sx sb ss
      go_wp2_with fail
      generalize w7.heap.size = db at *
      generalize (w7.alloc (.cells #[.int .i64 W2, .int .i64 H2, .slice b3 L2.length L2.length] 24)) = V7 at *
      refine (HlD.out V7 a ab c cb HSA.out HSB.out).mono ?_
      rintro e w8 ⟨b4, d4, rfl, hr8, hb8⟩
      have HO8 : Hid (Od V w8 db b3 L2.length W2 H2 L2) := HO7.out.to hb8
      have HO9 : Hid (Od V (w8.alloc (.cells #[.int .i64 W2, .int .i64 H2, .slice b4 L2.length d4] 24)) db b3 L2.length W2 H2 L2) := HO8.out.to (from_alloc _ _)
      have HE9 : Hid (Oe (w8.alloc (.cells #[.int .i64 W2, .int .i64 H2, .slice b4 L2.length d4] 24)) w8.heap.size b4 d4 W2 H2 L2) := oe_a hr8
      have HB8 : Hid (Below V.heap.size V (w8.alloc (.cells #[.int .i64 W2, .int .i64 H2, .slice b4 L2.length d4] 24))) := HO9.out.bel
      clear hr8 hb8 HO7 HO8
      clear p0 p1 p2 r0 r1 r2 r3 x0 x1 x2 HSA HSX HSB HSS
      obtain ⟨⟨p0, p1, p2⟩, ⟨r0, r1, r2, r3⟩, ⟨x0, x1, x2⟩, sa, sx, sb, ss, _⟩ := HK.out (w8.alloc (.cells #[.int .i64 W2, .int .i64 H2, .slice b4 L2.length d4] 24)) HB8.out
      have HSA : Hid (Sl (w8.alloc (.cells #[.int .i64 W2, .int .i64 H2, .slice b4 L2.length d4] 24)) .u8 a C) := sa
      have HSX : Hid (Sl (w8.alloc (.cells #[.int .i64 W2, .int .i64 H2, .slice b4 L2.length d4] 24)) .u8 a1 C) := sx
      have HSB : Hid (Sl (w8.alloc (.cells #[.int .i64 W2, .int .i64 H2, .slice b4 L2.length d4] 24)) .u8 ab B) := sb
      have HSS : Hid (Sl (w8.alloc (.cells #[.int .i64 W2, .int .i64 H2, .slice b4 L2.length d4] 24)) .u8 az B) := ss
      clear sa sx sb ss
      have o0 := HO9.out.c0
      have o1 := HO9.out.c1
      have o2 := HO9.out.c2
      have h0 := HE9.out.c0
      have h1 := HE9.out.c1
      have h2 := HE9.out.c2
      go_wp2_with fail
      clear o0 o1 o2 h0 h1 h2
      generalize w8.heap.size = hb at *
      generalize (w8.alloc (.cells #[.int .i64 W2, .int .i64 H2, .slice b4 L2.length d4] 24)) = V8 at *
      refine (told_far HO9.out.rn HE9.out.sl (by omega)).mono ?_
      rintro e w9 ⟨rfl, hb9⟩
      have HB9 : Hid (Below V.heap.size V w9) := HB8.out.trans (hb9.below (fun g e => (HO9.out.rn.lt g e).1) HB8.out.size)
      clear hb9 HO9 HE9
      clear p0 p1 p2 r0 r1 r2 r3 x0 x1 x2 HSA HSX HSB HSS
      obtain ⟨⟨p0, p1, p2⟩, ⟨r0, r1, r2, r3⟩, ⟨x0, x1, x2⟩, sa, sx, sb, ss, _⟩ := HK.out w9 HB9.out
      have HSA : Hid (Sl w9 .u8 a C) := sa
      have HSX : Hid (Sl w9 .u8 a1 C) := sx
      have HSB : Hid (Sl w9 .u8 ab B) := sb
      have HSS : Hid (Sl w9 .u8 az B) := ss
      clear sa sx sb ss
      go_wp2_with fail
      refine (eqBytes_any HSS.out HSB.out hlB hlB).mono ?_
      rintro e w10 ⟨rfl, hb10⟩
      rw [eqB_self]
      have HB10 : Hid (Below V.heap.size V w10) := below_to HB9.out hb10
      clear hb10
      clear p0 p1 p2 r0 r1 r2 r3 x0 x1 x2 HSA HSX HSB HSS
      obtain ⟨⟨p0, p1, p2⟩, ⟨r0, r1, r2, r3⟩, ⟨x0, x1, x2⟩, sa, sx, sb, ss, _⟩ := HK.out w10 HB10.out
      have HSA : Hid (Sl w10 .u8 a C) := sa
      have HSX : Hid (Sl w10 .u8 a1 C) := sx
      have HSB : Hid (Sl w10 .u8 ab B) := sb
      have HSS : Hid (Sl w10 .u8 az B) := ss
      clear sa sx sb ss
      go_wp2_with fail
      refine (rsame_any HSX.out HSA.out hl hl).mono ?_
      rintro e w11 ⟨rfl, hb11⟩
      rw [smB_self]
      have HB11 : Hid (Below V.heap.size V w11) := below_to HB10.out hb11
      clear hb11
      clear p0 p1 p2 r0 r1 r2 r3 x0 x1 x2 HSA HSX HSB HSS
      obtain ⟨⟨p0, p1, p2⟩, ⟨r0, r1, r2, r3⟩, ⟨x0, x1, x2⟩, sa, sx, sb, ss, _⟩ := HK.out w11 HB11.out
      have HSA : Hid (Sl w11 .u8 a C) := sa
      have HSX : Hid (Sl w11 .u8 a1 C) := sx
      have HSB : Hid (Sl w11 .u8 ab B) := sb
      have HSS : Hid (Sl w11 .u8 az B) := ss
      clear sa sx sb ss
      go_wp2_with fail
      refine (HpP.out w11 a1 c1 HSX.out hcx).mono ?_
      rintro e w12 ⟨b5, rfl, hr12, hb12⟩
      have HO12 : Hid (Od V (w12.alloc (.cells #[.int .i64 W3, .int .i64 H3, .slice b5 L3.length L3.length] 24)) w12.heap.size b5 L3.length W3 H3 L3) := od_a hr12 HB11.out.size (below_to HB11.out hb12)
      have HB12 : Hid (Below V.heap.size V (w12.alloc (.cells #[.int .i64 W3, .int .i64 H3, .slice b5 L3.length L3.length] 24))) := HO12.out.bel
      clear hr12 hb12
      clear p0 p1 p2 r0 r1 r2 r3 x0 x1 x2 HSA HSX HSB HSS
      obtain ⟨⟨p0, p1, p2⟩, ⟨r0, r1, r2, r3⟩, ⟨x0, x1, x2⟩, sa, sx, sb, ss, _⟩ := HK.out (w12.alloc (.cells #[.int .i64 W3, .int .i64 H3, .slice b5 L3.length L3.length] 24)) HB12.out
      have HSA : Hid (Sl (w12.alloc (.cells #[.int .i64 W3, .int .i64 H3, .slice b5 L3.length L3.length] 24)) .u8 a C) := sa
      have HSX : Hid (Sl (w12.alloc (.cells #[.int .i64 W3, .int .i64 H3, .slice b5 L3.length L3.length] 24)) .u8 a1 C) := sx
      have HSB : Hid (Sl (w12.alloc (.cells #[.int .i64 W3, .int .i64 H3, .slice b5 L3.length L3.length] 24)) .u8 ab B) := sb
      have HSS : Hid (Sl (w12.alloc (.cells #[.int .i64 W3, .int .i64 H3, .slice b5 L3.length L3.length] 24)) .u8 az B) := ss
      clear sa sx sb ss
      go_wp2_with fail
      generalize w12.heap.size = kb at *
      generalize (w12.alloc (.cells #[.int .i64 W3, .int .i64 H3, .slice b5 L3.length L3.length] 24)) = V12 at *
      refine (HpD.out V12 a c HSA.out).mono ?_
      rintro e w13 ⟨b6, d6, rfl, hr13, hb13⟩
      have HO13 : Hid (Od V (w13.alloc (.cells #[.int .i64 W3, .int .i64 H3, .slice b6 L3.length d6] 24)) kb b5 L3.length W3 H3 L3) := (HO12.out.to hb13).to (from_alloc _ _)
      have HM13 : Hid (Od V (w13.alloc (.cells #[.int .i64 W3, .int .i64 H3, .slice b6 L3.length d6] 24)) w13.heap.size b6 d6 W3 H3 L3) := od_a hr13 HB12.out.size (below_to HB12.out hb13)
      have HB13 : Hid (Below V.heap.size V (w13.alloc (.cells #[.int .i64 W3, .int .i64 H3, .slice b6 L3.length d6] 24))) := HO13.out.bel
      clear hr13 hb13 HO12
      clear p0 p1 p2 r0 r1 r2 r3 x0 x1 x2 HSA HSX HSB HSS
      obtain ⟨⟨p0, p1, p2⟩, ⟨r0, r1, r2, r3⟩, ⟨x0, x1, x2⟩, sa, sx, sb, ss, _⟩ := HK.out (w13.alloc (.cells #[.int .i64 W3, .int .i64 H3, .slice b6 L3.length d6] 24)) HB13.out
      have HSA : Hid (Sl (w13.alloc (.cells #[.int .i64 W3, .int .i64 H3, .slice b6 L3.length d6] 24)) .u8 a C) := sa
      have HSX : Hid (Sl (w13.alloc (.cells #[.int .i64 W3, .int .i64 H3, .slice b6 L3.length d6] 24)) .u8 a1 C) := sx
      have HSB : Hid (Sl (w13.alloc (.cells #[.int .i64 W3, .int .i64 H3, .slice b6 L3.length d6] 24)) .u8 ab B) := sb
      have HSS : Hid (Sl (w13.alloc (.cells #[.int .i64 W3, .int .i64 H3, .slice b6 L3.length d6] 24)) .u8 az B) := ss
      clear sa sx sb ss
      go_wp2_with fail
      generalize w13.heap.size = mb at *
      generalize (w13.alloc (.cells #[.int .i64 W3, .int .i64 H3, .slice b6 L3.length d6] 24)) = V13 at *
      have HK16 : Hid (∀ t : World, Below V13.heap.size V13 t → (t.cell? ⟨xb, 0, none⟩ = some (.int .i64 W) ∧ t.cell? ⟨xb, 1, none⟩ = some (.int .i64 H) ∧ t.cell? ⟨xb, 2, none⟩ = some (.slice a1 C.length c1) ∧ t.cell? ⟨u.heap.size, 0, none⟩ = some (.int .i64 W) ∧ t.cell? ⟨u.heap.size, 1, none⟩ = some (.int .i64 H) ∧ t.cell? ⟨u.heap.size + 1, 0, none⟩ = some (.int .i64 X) ∧ t.cell? ⟨u.heap.size + 1, 1, none⟩ = some (.int .i64 Y) ∧ Below V13.heap.size V13 t)) := fun t ht => by
        have k := HK.out t (HB13.out.trans (ht.mono HB13.out.size))
        exact ⟨k.x.1, k.x.2.1, k.x.2.2, k.p.1, k.p.2.1, k.r.1, k.r.2.1, ht⟩
      have KO16 : Hid (∀ t : World, Below V13.heap.size V13 t → Calls Try.prog 28 #[.agg #[.int .i64 W, .int .i64 H, .slice a1 C.length c1], .int .i64 (IntKind.i64.wrap (W + br X 9)), .int .i64 (IntKind.i64.wrap (H + br Y 9))] t fun e w' => ∃ b9 c9, e = .returned (.tuple #[.agg #[.int .i64 W4, .int .i64 H4, .slice b9 L4.length c9], .int .i64 e4]) ∧ Rn t w' b9 L4 ∧ Below V13.heap.size V13 w' ∧ Below t.heap.size t w') := fun t ht => by
        have k := HK.out t (HB13.out.trans (ht.mono HB13.out.size))
        refine (HoP.out t a1 c1 (k.sx) hcx).mono ?_
        rintro e w' ⟨b9, rfl, hr, hb⟩
        exact ⟨b9, L4.length, rfl, hr, below_to ht hb, hb⟩
      have KB16 : Hid (∀ (t : World) (i : Int), Calls Try.prog 30 #[.int .i64 i, .int .i64 9] t fun e w' => e = .returned (.int .i64 (br i 9)) ∧ t = w') := fun t i => (bring_any (by omega)).mono (by rintro e w' ⟨rfl, rfl⟩; exact ⟨rfl, rfl⟩)
      clear p0 p1 p2 r0 r1 r2 r3 x0 x1 x2 HSA HSX HSB HSS
      go_cut [22, 23] (fun s22 s23 T => ∃ ob b9 c9, s22 = .pointer (some ⟨ob, 0, none⟩) ∧ s23 = .int .i64 e4 ∧ Od V13 T ob b9 c9 W4 H4 L4)
      case first =>
        go_region_held3 (fun t => t.cell? ⟨xb, 0, none⟩ = some (.int .i64 W) ∧ t.cell? ⟨xb, 1, none⟩ = some (.int .i64 H) ∧ t.cell? ⟨xb, 2, none⟩ = some (.slice a1 C.length c1) ∧ t.cell? ⟨u.heap.size, 0, none⟩ = some (.int .i64 W) ∧ t.cell? ⟨u.heap.size, 1, none⟩ = some (.int .i64 H) ∧ t.cell? ⟨u.heap.size + 1, 0, none⟩ = some (.int .i64 X) ∧ t.cell? ⟨u.heap.size + 1, 1, none⟩ = some (.int .i64 Y) ∧ Below V13.heap.size V13 t)
          ((exact HK16.out _ (by solve | (repeat (first | with_reducible assumption | with_reducible refine to_alloc ?_ _ | with_reducible refine below_set ?_ ?_ _ | with_reducible refine below_drew ?_ | with_reducible exact Below.refl _ _ | (dsimp only; omega))))))
          ((first | (go_at_call 30; with_reducible refine (KB16.out _ _).mono ?_; rintro e wq ⟨rfl, rfl⟩) | (go_at_call 28; with_reducible refine (KO16.out _ ?_).mono ?_; (focus (first | with_reducible assumption | exact below_drew (Below.refl _ _) | exact below_drew (to_alloc (Below.refl _ _) _) | exact to_alloc (below_drew (Below.refl _ _)) _)); rintro e wA ⟨b9, c9, rfl, hrA, hbA, hcA⟩; have hsA := hbA.size; have hkA := newCell hcA; have hfA := newFrozen hcA; have hqA := newNe hcA; have hzA := newLt hcA)))
        all_goals
          go_wp2_with fail
          go_meet
          go_light
          refine ⟨_, b9, c9, rfl, rfl, ?_⟩
          first | exact od_a hrA (Nat.le_refl _) hbA | exact od_b hrA (by simp) hbA (by rw [newCell hcA _ _ (by simp)]; simp) (by rw [newCell hcA _ _ (by simp)]; simp) (by rw [newCell hcA _ _ (by simp)]; simp)
      obtain ⟨ob, b7, c7, rfl, rfl, hO16⟩ := hcut
      have HO16 : Hid (Od V13 wc ob b7 c7 W4 H4 L4) := hO16
      have HB16 : Hid (Below V.heap.size V wc) := HB13.out.trans (hO16.bel.mono HB13.out.size)
      clear hO16 HK16 KO16 KB16
      generalize wc = V16 at *
      obtain ⟨⟨p0, p1, p2⟩, ⟨r0, r1, r2, r3⟩, ⟨x0, x1, x2⟩, sa, sx, sb, ss, _⟩ := HK.out V16 HB16.out
      have HSA : Hid (Sl V16 .u8 a C) := sa
      have HSX : Hid (Sl V16 .u8 a1 C) := sx
      have HSB : Hid (Sl V16 .u8 ab B) := sb
      have HSS : Hid (Sl V16 .u8 az B) := ss
      clear sa sx sb ss
      go_wp2_with fail
      have HK17 : Hid (∀ t : World, Below V16.heap.size V16 t → (t.cell? ⟨u.heap.size, 2, none⟩ = some (.slice a C.length c) ∧ t.cell? ⟨u.heap.size, 0, none⟩ = some (.int .i64 W) ∧ t.cell? ⟨u.heap.size, 1, none⟩ = some (.int .i64 H) ∧ t.cell? ⟨u.heap.size + 1, 0, none⟩ = some (.int .i64 X) ∧ t.cell? ⟨u.heap.size + 1, 1, none⟩ = some (.int .i64 Y) ∧ Below V16.heap.size V16 t)) := fun t ht => by
        have k := HK.out t (HB16.out.trans (ht.mono HB16.out.size))
        exact ⟨k.p.2.2, k.p.1, k.p.2.1, k.r.1, k.r.2.1, ht⟩
      have KO17 : Hid (∀ t : World, Below V16.heap.size V16 t → Calls Try.prog 29 #[.agg #[.int .i64 W, .int .i64 H, .slice a C.length c], .int .i64 (IntKind.i64.wrap (W + br X 9)), .int .i64 (IntKind.i64.wrap (H + br Y 9))] t fun e w' => ∃ b9 c9, e = .returned (.tuple #[.agg #[.int .i64 W4, .int .i64 H4, .slice b9 L4.length c9], .int .i64 e4]) ∧ Rn t w' b9 L4 ∧ Below V16.heap.size V16 w' ∧ Below t.heap.size t w') := fun t ht => by
        have k := HK.out t (HB16.out.trans (ht.mono HB16.out.size))
        refine (HoD.out t a c (k.sa)).mono ?_
        rintro e w' ⟨b9, c9, rfl, hr, hb⟩
        exact ⟨b9, c9, rfl, hr, below_to ht hb, hb⟩
      have KB17 : Hid (∀ (t : World) (i : Int), Calls Try.prog 30 #[.int .i64 i, .int .i64 9] t fun e w' => e = .returned (.int .i64 (br i 9)) ∧ t = w') := fun t i => (bring_any (by omega)).mono (by rintro e w' ⟨rfl, rfl⟩; exact ⟨rfl, rfl⟩)
      clear p0 p1 p2 r0 r1 r2 r3 x0 x1 x2 HSA HSX HSB HSS
      go_cut [24, 25] (fun s22 s23 T => ∃ ob b9 c9, s22 = .pointer (some ⟨ob, 0, none⟩) ∧ s23 = .int .i64 e4 ∧ Od V16 T ob b9 c9 W4 H4 L4)
      case first =>
        go_region_held3 (fun t => t.cell? ⟨u.heap.size, 2, none⟩ = some (.slice a C.length c) ∧ t.cell? ⟨u.heap.size, 0, none⟩ = some (.int .i64 W) ∧ t.cell? ⟨u.heap.size, 1, none⟩ = some (.int .i64 H) ∧ t.cell? ⟨u.heap.size + 1, 0, none⟩ = some (.int .i64 X) ∧ t.cell? ⟨u.heap.size + 1, 1, none⟩ = some (.int .i64 Y) ∧ Below V16.heap.size V16 t)
          ((exact HK17.out _ (by solve | (repeat (first | with_reducible assumption | with_reducible refine to_alloc ?_ _ | with_reducible refine below_set ?_ ?_ _ | with_reducible refine below_drew ?_ | with_reducible exact Below.refl _ _ | (dsimp only; omega))))))
          ((first | (go_at_call 30; with_reducible refine (KB17.out _ _).mono ?_; rintro e wq ⟨rfl, rfl⟩) | (go_at_call 29; with_reducible refine (KO17.out _ ?_).mono ?_; (focus (first | with_reducible assumption | exact below_drew (Below.refl _ _) | exact below_drew (to_alloc (Below.refl _ _) _) | exact to_alloc (below_drew (Below.refl _ _)) _)); rintro e wA ⟨b9, c9, rfl, hrA, hbA, hcA⟩; have hsA := hbA.size; have hkA := newCell hcA; have hfA := newFrozen hcA; have hqA := newNe hcA; have hzA := newLt hcA)))
        all_goals
          go_wp2_with fail
          go_meet
          go_light
          refine ⟨_, b9, c9, rfl, rfl, ?_⟩
          first | exact od_a hrA (Nat.le_refl _) hbA | exact od_b hrA (by simp) hbA (by rw [newCell hcA _ _ (by simp)]; simp) (by rw [newCell hcA _ _ (by simp)]; simp) (by rw [newCell hcA _ _ (by simp)]; simp)
      obtain ⟨tb, b8, c8, rfl, rfl, hO17⟩ := hcut
      have HO17 : Hid (Od V16 wc tb b8 c8 W4 H4 L4) := hO17
      have HB17 : Hid (Below V.heap.size V wc) := HB16.out.trans (hO17.bel.mono HB16.out.size)
      clear hO17 HK17 KO17 KB17
      generalize wc = V17 at *
      have z16 : V13.heap.size ≤ V16.heap.size := HO16.out.bel.size
      have HG5 : Hid (∀ g, b5 = some ⟨g, 0, none⟩ → V.heap.size ≤ g ∧ g < V13.heap.size) := fun g e => HO13.out.rn.lt g e
      have HG7 : Hid (∀ g, b7 = some ⟨g, 0, none⟩ → V13.heap.size ≤ g) := fun g e => (HO16.out.rn.lt g e).1
      have HG8 : Hid (∀ g, b8 = some ⟨g, 0, none⟩ → V16.heap.size ≤ g) := fun g e => (HO17.out.rn.lt g e).1
      have ny7 := HO16.out.ny
      have ny8 := HO17.out.ny
      have HOk : Hid (Od V V17 kb b5 L3.length W3 H3 L3) := (HO13.out.to HO16.out.bel).to HO17.out.bel
      have HOm : Hid (Od V V17 mb b6 d6 W3 H3 L3) := (HM13.out.to HO16.out.bel).to HO17.out.bel
      have HOo : Hid (Od V V17 ob b7 c7 W4 H4 L4) := (HO16.out.to HO17.out.bel).base HB13.out
      have HOt : Hid (Od V V17 tb b8 c8 W4 H4 L4) := HO17.out.base HB16.out
      clear HO13 HM13 HO16 HO17
      have o0 := HOk.out.c0
      have o1 := HOk.out.c1
      have o2 := HOk.out.c2
      have h0 := HOm.out.c0
      have h1 := HOm.out.c1
      have h2 := HOm.out.c2
      go_wp2_with fail
      clear o0 o1 o2 h0 h1 h2
      refine (told_far HOk.out.rn HOm.out.rn.sl (by omega)).mono ?_
      rintro e w18 ⟨rfl, hk18⟩
      have HQo : Hid (Od V w18 ob b7 c7 W4 H4 L4) := HOo.out.ka hk18 (fun g e => by
        have h5 := HG5.out g e
        exact ⟨h5.1, by omega, fun g' e' => by have := HG7.out g' e'; omega⟩)
      have HQt : Hid (Od V w18 tb b8 c8 W4 H4 L4) := HOt.out.ka hk18 (fun g e => by
        have h5 := HG5.out g e
        exact ⟨h5.1, by omega, fun g' e' => by have := HG8.out g' e'; omega⟩)
      have HB18 : Hid (Below V.heap.size V w18) := HQo.out.bel
      clear hk18 HOk HOm HOo HOt HG5 ny7 ny8 z16
      have o0 := HQo.out.c0
      have o1 := HQo.out.c1
      have o2 := HQo.out.c2
      have h0 := HQt.out.c0
      have h1 := HQt.out.c1
      have h2 := HQt.out.c2
      go_wp2_with fail
      clear o0 o1 o2 h0 h1 h2
      refine (told_far HQo.out.rn HQt.out.rn.sl (by omega)).mono ?_
      rintro e w19 ⟨rfl, hk19⟩
      have HB19 : Hid (Below V.heap.size V w19) := HB18.out.trans (hk19.below (fun g e => (HQo.out.rn.lt g e).1) HB18.out.size)
      clear hk19 HQo HQt HB18
      obtain ⟨⟨p0, p1, p2⟩, ⟨r0, r1, r2, r3⟩, ⟨x0, x1, x2⟩, sa, sx, sb, ss, _⟩ := HK.out w19 HB19.out
      have HSA : Hid (Sl w19 .u8 a C) := sa
      have HSX : Hid (Sl w19 .u8 a1 C) := sx
      have HSB : Hid (Sl w19 .u8 ab B) := sb
      have HSS : Hid (Sl w19 .u8 az B) := ss
      clear sa sx sb ss
      go_wp2_with fail
      refine (rsame_any HSX.out HSA.out hl hl).mono ?_
      rintro e w20 ⟨rfl, hb20⟩
      rw [smB_self]
      have HB20 : Hid (Below V.heap.size V w20) := below_to HB19.out hb20
      clear hb20
      clear p0 p1 p2 r0 r1 r2 r3 x0 x1 x2 HSA HSX HSB HSS
      go_wp2_with fail
      refine works_true.mono ?_
      rintro e w21 ⟨rfl, hb21⟩
      have HB21 : Hid (Below V.heap.size V w21) := below_to HB20.out hb21
      clear hb21
      go_wp2_with fail
      go_ret
      exact ⟨rfl, (HBU.out.trans (HV.out.mono HBU.out.size)).trans (HB21.out.mono (Nat.le_trans HBU.out.size HV.out.size))⟩

end Go.Proofs.Ytlgfkkegehpllaa
