/- DERIVED. The document's Above, Left. -/
import Derived.Test.YtpideemiijhkgaaDoorQb
import Derived.Test.YtpideemiijhkgaaDoorWs
namespace Go.Proofs.YtpideemiijhkgaaDoor
open Go.RowKit

theorem Wp.kf {g h : Nat} {v w : World} {C : List Nat} (hw : Wp v h C) (k : Kf g v w) (hn : h ≠ g) : Wp w h C := ⟨Nat.lt_of_lt_of_le hw.lt k.size, fun j hj => by rw [k.cell _ _ hw.lt hn]; exact hw.cell j hj, fun j => by rw [k.frozen _ _ hw.lt hn]; exact hw.th j⟩
/-- samples and an error are answered, in new memory or none -/
def Rx (u w' : World) (e : Ending) (L : List Nat) (er : Int) : Prop := ∃ a c, e = .returned (.tuple #[.slice a L.length c, .int .i64 er]) ∧ Sl w' .u8 a L ∧ Below u.heap.size u w' ∧ ∀ b o s, a = some ⟨b, o, s⟩ → u.heap.size ≤ b
theorem rx_no {u w' : World} {e : Ending} (h : e = .returned (.tuple #[.slice none 0 0, .int .i64 2]) ∧ Below u.heap.size u w') : Rx u w' e [] 2 := by
  obtain ⟨rfl, hb⟩ := h
  exact ⟨none, 0, rfl, Or.inl rfl, hb, fun _ _ _ e => by cases e⟩
theorem InOk.prod {C : List Nat} {w X Y rw rh : Int} (h : InOk C w X Y rw rh) : 1 ≤ rw ∧ rw ≤ 64 ∧ 1 ≤ rh ∧ rh ≤ 64 ∧ 0 ≤ rw * rh ∧ rw * rh ≤ 4096 := by
  obtain ⟨w0, w1, h, h0, h1, hl, hw⟩ := h
  obtain ⟨k1, k2, k3, k4, k5, k6⟩ := hw
  have a1 : rw ≤ 64 := by omega
  have a2 : rh ≤ 64 := by omega
  refine ⟨k1, a1, k2, a2, Int.mul_nonneg (by omega) (by omega), ?_⟩
  have := Int.mul_le_mul a1 a2 (by omega) (by omega)
  omega

set_option maxRecDepth 100000 in
set_option maxHeartbeats 2000000 in
theorem qabove_ok {u : World} {a ao : Option Addr} {c co : Nat} {C D : List Nat} {w h X Y rw rh : Nat} (hs : Sl u .u8 a C) (hC : Byt C) (ho : Sl u .u8 ao D) (hD : Byt D) (w0 : 1 ≤ w) (w1 : w ≤ 64) (h0 : 1 ≤ h) (h1 : h ≤ 64) (hl : C.length = w * h) (r0 : 1 ≤ rw) (r1 : 1 ≤ rh) (hX : X + rw ≤ w) (hY : Y + rh ≤ h) (hlD : D.length = rw * rh) (d0 : 4 ≤ rh) (d1 : rh ≤ 32) :
    Calls Tryd.prog 23 #[.slice a C.length c, .int .i64 (w : Int), .agg #[.int .i64 (X : Int), .int .i64 (Y : Int), .int .i64 (rw : Int), .int .i64 (rh : Int)], .slice ao D.length co] u fun e w' => Rx u w' e (mbL w C X Y rw rh (fun _ y => wt rh y) D) 0 := by
  obtain ⟨n, hn⟩ : ∃ n, n = rw * rh := ⟨_, rfl⟩
  have hnb : n ≤ 64 * 64 := by rw [hn]; exact Nat.mul_le_mul (by omega) (by omega)
  have hn0 : 0 < n := by rw [hn]; exact Nat.mul_pos r0 r1
  have HN : Hid (n = rw * rh) := hn
  have en : (rw : Int) * (rh : Int) = (n : Int) := by rw [← Int.natCast_mul, hn]
  obtain ⟨bo, oo, rfl, hbo, hco⟩ := ho.form (by rw [hlD, ← hn]; exact hn0)
  have HO : Hid (Sl u .u8 (some ⟨bo, oo, none⟩) D) := ho
  have HLD : Hid (D.length = n) := by show _ = _; rw [hlD, ← hn]
  rw [hlD, ← hn]
  have hCb : C.length ≤ 4096 := by rw [hl]; exact Nat.mul_le_mul w1 h1
  have hC0 : 0 < C.length := by rw [hl]; exact Nat.mul_pos w0 h0
  have HS : Hid (Sl u .u8 a C) := hs
  have HBC : Hid (Byt C) := hC
  have HBD : Hid (Byt D) := hD
  have HWt : Hid (∀ t : World, Calls Tryd.prog 20 #[.int .i64 (rh : Int)] t fun e w' => ∃ g c, e = .returned (.tuple #[.slice (some ⟨g, 0, none⟩) rh c, .int .i64 0]) ∧ (∀ j, j < rh → w'.cell? ⟨g, j, none⟩ = some (.int .i64 (wt rh j : Nat))) ∧ g < w'.heap.size ∧ Below t.heap.size t w') := fun t => qweights_ok d0 d1
  have HIn : Hid (∀ t : World, Calls Tryd.prog 44 #[.slice a C.length c, .int .i64 (w : Int), .agg #[.int .i64 (X : Int), .int .i64 (Y : Int), .int .i64 (rw : Int), .int .i64 (rh : Int)]] t fun e w' => e = .returned (.bool true) ∧ Below t.heap.size t w') := fun t => qwithin_yes ⟨by omega, by omega, (h : Int), by omega, by omega, by rw [hl, Int.natCast_mul], ⟨by omega, by omega, by omega, by omega, by omega, by omega⟩⟩
  have HSt : Hid (∀ m, m < n → (Y + m / rw) * w + X + m % rw < C.length ∧ (baL w C X Y rw rh (fun _ y => wt rh y) D m).getD ((Y + m / rw) * w + X + m % rw) 0 = C.getD ((Y + m / rw) * w + X + m % rw) 0 ∧ (baL w C X Y rw rh (fun _ y => wt rh y) D m).set ((Y + m / rw) * w + X + m % rw) (bl (wt rh (m / rw)) (C.getD ((Y + m / rw) * w + X + m % rw) 0) (D.getD m 0)) = baL w C X Y rw rh (fun _ y => wt rh y) D (m + 1)) := fun m hm => baL_set (fun _ y => wt rh y) D w0 hl r0 hX hY (by rw [← hn]; exact hm)
  have HAl : Hid (baL w C X Y rw rh (fun _ y => wt rh y) D n = mbL w C X Y rw rh (fun _ y => wt rh y) D) := by show _ = _; rw [hn]; exact baL_all (fun _ y => wt rh y) D w0 hl hY
  have HZe : Hid (baL w C X Y rw rh (fun _ y => wt rh y) D 0 = C) := baL_zero _ _ _ _ _ _ _ _
  have HLn : Hid (∀ m, (baL w C X Y rw rh (fun _ y => wt rh y) D m).length = C.length) := fun m => baL_len _ _ _ _ _ _ _ _ _
  have HVr : Hid (∀ m, m < n → m / rw < rh) := fun m hm => div_of (by rw [← hn]; exact hm)
  have i0 : (1 : Int) ≤ (rw : Int) := by omega
  have i1 : (rw : Int) ≤ 64 := by omega
  have i2 : (rh : Int) ≤ 64 := by omega
  have n1 : (n : Int) ≤ 4096 := by omega
  have dd : (rh : Int) ≤ 32 := by omega
  have nb : ((n : Int) != (n : Int)) = false := by simp
  have HML : Hid ((mbL w C X Y rw rh (fun _ y => wt rh y) D).length = C.length) := mbL_len _ _ _ _ _ _ _ _
  have HWy : Hid (X + rw ≤ w ∧ Y + rh ≤ h ∧ w ≤ 64 ∧ h ≤ 64) := ⟨hX, hY, w1, h1⟩
  clear hs hC ho hD hl hlD hco hn hnb hbo d0 d1 h0 h1 hX hY w0 w1 r1
  generalize (fun _ y => wt rh y) = kf at *
  go_enter Tryd.func23, Tryd.ntmps23
  go_wp2_with fail
  refine (HWt.out _).mono ?_
  rintro e v1 ⟨gw, cw, rfl, hcw, hgw, hb⟩
  have c0 : v1.cell? ⟨u.heap.size, 0, none⟩ = some (.int .i64 (X : Int)) := by rw [newCell hb _ _ (by simp)]; simp
  have c1 : v1.cell? ⟨u.heap.size, 1, none⟩ = some (.int .i64 (Y : Int)) := by rw [newCell hb _ _ (by simp)]; simp
  have c2 : v1.cell? ⟨u.heap.size, 2, none⟩ = some (.int .i64 (rw : Int)) := by rw [newCell hb _ _ (by simp)]; simp
  have c3 : v1.cell? ⟨u.heap.size, 3, none⟩ = some (.int .i64 (rh : Int)) := by rw [newCell hb _ _ (by simp)]; simp
  have hz : u.heap.size < v1.heap.size := Nat.lt_of_lt_of_le (by simp) hb.size
  have HB1 : Hid (Below u.heap.size u v1) := below_to (from_alloc _ _) hb
  have HC1 : Hid (∀ j, j < rh → v1.cell? ⟨gw, j, none⟩ = some (.int .i64 (wt rh j : Nat))) := hcw
  have C0 : Hid _ := c0
  have C1 : Hid _ := c1
  have C2 : Hid _ := c2
  have C3 : Hid _ := c3
  clear hcw hb HWt
  go_wp2_with fail
  refine (HIn.out _).mono ?_
  rintro e v2 ⟨rfl, hb⟩
  clear c0 c1 c2 c3
  have c2 : v2.cell? ⟨u.heap.size, 2, none⟩ = some (.int .i64 (rw : Int)) := by rw [newCell hb _ _ hz]; exact C2.out
  have c3 : v2.cell? ⟨u.heap.size, 3, none⟩ = some (.int .i64 (rh : Int)) := by rw [newCell hb _ _ hz]; exact C3.out
  have HB2 : Hid (Below v1.heap.size v1 v2) := hb
  clear hb HIn
  go_wp2_with fail
  refine (copyBytes_any (HS.out.to (below_to HB1.out HB2.out)) (by omega)).mono ?_
  rintro e v3 ⟨a', c', rfl, hnw, hb⟩
  obtain ⟨g, rfl, hwp⟩ := hnw.wp hC0
  have hgn : v2.heap.size ≤ g := hnw.new g 0 none rfl
  have HW3 : Hid (Wp v3 g (baL w C X Y rw rh kf D 0)) := by show Wp _ _ _; rw [HZe.out]; exact hwp
  have hb13 : Below v1.heap.size v1 v3 := below_to HB2.out hb
  have HB3 : Hid (Below u.heap.size u v3) := below_to HB1.out hb13
  have hg1 : v1.heap.size ≤ g := Nat.le_trans HB2.out.size hgn
  have hg3 : g < v3.heap.size := hwp.lt
  have hs13 : v1.heap.size ≤ v3.heap.size := hb13.size
  have HK : Hid (∀ t : World, Kf g v3 t → (t.cell? ⟨u.heap.size, 0, none⟩ = some (.int .i64 (X : Int)) ∧ t.cell? ⟨u.heap.size, 1, none⟩ = some (.int .i64 (Y : Int)) ∧ t.cell? ⟨u.heap.size, 2, none⟩ = some (.int .i64 (rw : Int)) ∧ (∀ j, j < rh → t.cell? ⟨gw, j, none⟩ = some (.int .i64 (wt rh j : Nat))) ∧ (∀ j, j < n → t.cell? ⟨bo, oo + j, none⟩ = some (.int .u8 (D.getD j 0 : Nat))) ∧ Below u.heap.size u t)) := fun t ht => by
    have hu : u.heap.size ≤ v1.heap.size := by omega
    refine ⟨?_, ?_, ?_, fun j hj => ?_, fun j hj => ?_, HB3.out.trans (ht.below (by omega) (by omega))⟩
    · rw [ht.cell _ _ (by omega) (by omega), newCell hb13 _ _ hz]; exact C0.out
    · rw [ht.cell _ _ (by omega) (by omega), newCell hb13 _ _ hz]; exact C1.out
    · rw [ht.cell _ _ (by omega) (by omega), newCell hb13 _ _ hz]; exact C2.out
    · rw [ht.cell _ _ (by omega) (by omega), newCell hb13 _ _ hgw]; exact HC1.out j hj
    · have hO := HO.out.low HB3.out ht (by omega)
      obtain ⟨b', o', e', _, hcc⟩ := hO.form (by rw [HLD.out]; omega)
      simp only [Option.some.injEq, Addr.mk.injEq, and_true] at e'
      obtain ⟨rfl, rfl⟩ := e'
      exact hcc j (by rw [HLD.out]; exact hj)
  have HGn : Hid (u.heap.size ≤ g) := by show _ ≤ _; omega
  clear hnw hb hwp hb13 HB2 HC1 C0 C1 C2 C3 c2 c3 hgn
  go_wp2_with fail
  go_loopw [13] (fun i wr => ∃ m : Nat, m ≤ n ∧ i = .int .i64 m ∧ Wp wr g (baL w C X Y rw rh kf D m) ∧ Kf g v3 wr) (fun i _ => n - (intOf i).toNat)
  case atStart => exact ⟨0, by omega, rfl, HW3.out, Kf.refl _ _⟩
  case round =>
    clear HW3
    obtain ⟨m, hm, rfl, hw, hf⟩ := hrel
    by_cases hlt : m < n
    · obtain ⟨k0, k1, k2, k3, k4, hbu⟩ := HK.out wr hf
      obtain ⟨s0, s1, s2⟩ := HSt.out m hlt
      have hvr := HVr.out m hlt
      have k3' := k3 _ hvr
      have k4' := k4 m hlt
      obtain ⟨wb0, wb1⟩ := wt_in hvr
      have HBl : Hid (Calls Tryd.prog 45 #[.slice (some ⟨g, 0, none⟩) C.length c', .int .i64 (((Y + m / rw) * w + X + m % rw : Nat) : Int), .int .i64 ((wt rh (m / rw) : Nat) : Int), .int .u8 ((D.getD m 0 : Nat) : Int)] wr.drew fun e w' => e = .returned (.tuple #[]) ∧ Wp w' g (baL w C X Y rw rh kf D (m + 1)) ∧ Kb g wr.drew w') := by
        have := qblend_any (c := c') hw.drew (HLn.out m) s0 (by omega) (by rw [s1]; exact HBC.out _) (show wt rh (m / rw) ≤ 64 by omega) (HBD.out m)
        rwa [s1, s2] at this
      have hwn := HWy.out
      have em : (m : Int) % (rw : Int) = ((m % rw : Nat) : Int) := by rw [Int.natCast_emod]
      have em' : (m : Int).tmod (rw : Int) = ((m % rw : Nat) : Int) := by rw [Int.tmod_eq_emod_of_nonneg (by omega)]; exact em
      have ed : (m : Int) / (rw : Int) = ((m / rw : Nat) : Int) := by rw [Int.natCast_ediv]
      have ed' : (m : Int).tdiv (rw : Int) = ((m / rw : Nat) : Int) := by rw [Int.tdiv_eq_ediv_of_nonneg (by omega)]; exact ed
      have hmy : m / rw < rh := div_of (by rw [← HN.out]; exact hlt)
      have hmx : m % rw < rw := Nat.mod_lt _ r0
      have HKm : Hid (∀ t : World, Kf g v3 t → (t.cell? ⟨u.heap.size, 0, none⟩ = some (.int .i64 (X : Int)) ∧ t.cell? ⟨u.heap.size, 1, none⟩ = some (.int .i64 (Y : Int)) ∧ t.cell? ⟨u.heap.size, 2, none⟩ = some (.int .i64 (rw : Int)) ∧ t.cell? ⟨gw, m / rw, none⟩ = some (.int .i64 (wt rh (m / rw) : Nat)) ∧ t.cell? ⟨bo, oo + m, none⟩ = some (.int .u8 (D.getD m 0 : Nat)))) := fun t ht => by
        obtain ⟨q0, q1, q2, q3, q4, _⟩ := HK.out t ht
        exact ⟨q0, q1, q2, q3 _ hvr, q4 m hlt⟩
      have HF : Hid (Kf g v3 wr) := hf
      generalize wt rh (m / rw) = kk at *
      generalize D.getD m 0 = dd' at *
      generalize m % rw = ix at *
      generalize m / rw = iy at *
      obtain ⟨p1, hp1⟩ : ∃ p1, p1 = Y + iy := ⟨_, rfl⟩
      rw [← hp1] at HBl s0
      obtain ⟨p2, hp2⟩ : ∃ p2, p2 = p1 * w := ⟨_, rfl⟩
      rw [← hp2] at HBl s0
      have p2b : p2 ≤ 64 * 64 := by rw [hp2]; exact Nat.mul_le_mul (by omega) (by omega)
      have e1 : (Y : Int) + (iy : Int) = (p1 : Int) := by omega
      have f1 : IntKind.i64.wrap (p1 : Int) = (p1 : Int) := by rw [IntKind.wrap_i64]; omega
      have e2 : (p1 : Int) * (w : Int) = (p2 : Int) := by rw [hp2, Int.natCast_mul]
      have f2 : IntKind.i64.wrap (p2 : Int) = (p2 : Int) := by rw [IntKind.wrap_i64]; omega
      have f3 : IntKind.i64.wrap ((p2 : Int) + (X : Int)) = (p2 : Int) + (X : Int) := by rw [IntKind.wrap_i64]; omega
      have f4 : IntKind.i64.wrap ((p2 : Int) + (X : Int) + (ix : Int)) = ((p2 + X + ix : Nat) : Int) := by rw [IntKind.wrap_i64]; omega
      have f5 : IntKind.i64.wrap (iy : Int) = (iy : Int) := by rw [IntKind.wrap_i64]; omega
      have f6 : IntKind.i64.wrap (ix : Int) = (ix : Int) := by rw [IntKind.wrap_i64]; omega
      have m0 : (0 : Int) ≤ (m : Int) := by omega
      have m1 : (m : Int) < (n : Int) := by omega
      have v0 : (0 : Int) ≤ (iy : Int) := by omega
      have v1' : (iy : Int) < (rh : Int) := by omega
      have rz : ¬ (rw : Int) = 0 := by omega
      have rz2 : ¬ rw = 0 := by omega
      generalize p2 + X + ix = pp at *
      clear hw hf s1 s2 hp1 hp2 k3 k4 hbu s0 hwn wb0 wb1
      go_wp2_with fail
      go_region_held3 (fun t => t.cell? ⟨u.heap.size, 0, none⟩ = some (.int .i64 (X : Int)) ∧ t.cell? ⟨u.heap.size, 1, none⟩ = some (.int .i64 (Y : Int)) ∧ t.cell? ⟨u.heap.size, 2, none⟩ = some (.int .i64 (rw : Int)) ∧ t.cell? ⟨gw, iy, none⟩ = some (.int .i64 (kk : Int)) ∧ t.cell? ⟨bo, oo + m, none⟩ = some (.int .u8 (dd' : Int)))
        ((exact HKm.out _ (by first | exact HF.out.drew | exact HF.out.drew.kb (by assumption))))
        ((go_at_call 45; refine HBl.out.mono ?_; rintro e w5 ⟨rfl, hw5, hk5⟩))
      go_wp2_with fail
      go_roundw
      case rel => exact ⟨m + 1, by omega, by go_num, hw5, HF.out.drew.kb hk5⟩
      case measure => simp [intOf]; omega
    · obtain rfl : m = n := by omega
      have HSl : Hid (Sl wr .u8 (some ⟨g, 0, none⟩) (mbL w C X Y rw rh kf D)) := by show Sl _ _ _ _; rw [← HAl.out]; exact hw.sl
      have HB : Hid (Below u.heap.size u wr) := (HK.out wr hf).2.2.2.2.2
      clear hw hf
      go_wp2_with fail
      go_ret2
      exact ⟨_, c', by rw [HML.out]; rfl, HSl.out, HB.out, fun b o s e => by simp only [Option.some.injEq, Addr.mk.injEq] at e; rw [← e.1]; exact HGn.out⟩

set_option maxRecDepth 100000 in
set_option maxHeartbeats 1000000 in
theorem qabove_no {u : World} {a ao : Option Addr} {c co : Nat} {C D : List Nat} {w X Y rw rh : Int} (hCl : C.length ≤ 140737488355328) (hn : ¬ ((4 ≤ rh ∧ rh ≤ 32) ∧ BOk C w X Y rw rh D)) :
    Calls Tryd.prog 23 #[.slice a C.length c, .int .i64 w, .agg #[.int .i64 X, .int .i64 Y, .int .i64 rw, .int .i64 rh], .slice ao D.length co] u fun e w' => e = .returned (.tuple #[.slice none 0 0, .int .i64 2]) ∧ Below u.heap.size u w' := by
  have HWt : Hid (∃ (er : Int) (aw : Option Addr) (nw : Nat), (er = 0 → 4 ≤ rh ∧ rh ≤ 32) ∧ (er = 0 ∨ er = 2) ∧ ∀ t : World, Calls Tryd.prog 20 #[.int .i64 rh] t fun e w' => ∃ a' c', e = .returned (.tuple #[.slice a' nw c', .int .i64 er]) ∧ Below t.heap.size t w') := by
    by_cases hd : 4 ≤ rh ∧ rh ≤ 32
    · obtain ⟨d, ed⟩ : ∃ d : Nat, rh = (d : Int) := ⟨rh.toNat, by omega⟩
      refine ⟨0, none, d, fun _ => hd, Or.inl rfl, fun t => ?_⟩
      rw [ed]
      refine (qweights_ok (u := t) (n := d) (by omega) (by omega)).mono ?_
      rintro e w' ⟨g, c, rfl, _, _, hb⟩
      exact ⟨_, c, rfl, hb⟩
    · refine ⟨2, none, 0, fun h => by omega, Or.inr rfl, fun t => ?_⟩
      refine (qweights_no hd).mono ?_
      rintro e w' ⟨rfl, rfl⟩
      exact ⟨none, 0, rfl, Below.refl _ _⟩
  obtain ⟨er, aw, nw, he, he2, hW⟩ := HWt.out
  have HW : Hid _ := hW
  clear HWt hW
  by_cases hi : InOk C w X Y rw rh
  · have HIn : Hid (∀ t : World, Calls Tryd.prog 44 #[.slice a C.length c, .int .i64 w, .agg #[.int .i64 X, .int .i64 Y, .int .i64 rw, .int .i64 rh]] t fun e w' => e = .returned (.bool true) ∧ Below t.heap.size t w') := fun t => qwithin_yes hi
    rcases he2 with rfl | rfl
    · have hne : (D.length : Int) ≠ rw * rh := fun e => hn ⟨he rfl, BOk.iff.2 ⟨hi, e⟩⟩
      obtain ⟨j0, j1, j2, j3, j4, j5⟩ := hi.prod
      have hb1 : ((D.length : Int) != rw * rh) = true := by rw [bne_iff_ne]; exact hne
      have hwr : IntKind.i64.wrap (rw * rh) = rw * rh := by rw [IntKind.wrap_i64]; omega
      clear hi hn he hne hCl
      generalize hpp : rw * rh = pp at *
      go_enter Tryd.func23, Tryd.ntmps23
      go_wp2_with fail
      refine (HW.out _).mono ?_
      rintro e v1 ⟨a1, c1, rfl, hb⟩
      have q0 : v1.cell? ⟨u.heap.size, 0, none⟩ = some (.int .i64 X) := by rw [newCell hb _ _ (by simp)]; simp
      have q1 : v1.cell? ⟨u.heap.size, 1, none⟩ = some (.int .i64 Y) := by rw [newCell hb _ _ (by simp)]; simp
      have q2 : v1.cell? ⟨u.heap.size, 2, none⟩ = some (.int .i64 rw) := by rw [newCell hb _ _ (by simp)]; simp
      have q3 : v1.cell? ⟨u.heap.size, 3, none⟩ = some (.int .i64 rh) := by rw [newCell hb _ _ (by simp)]; simp
      have hz : u.heap.size < v1.heap.size := Nat.lt_of_lt_of_le (by simp) hb.size
      have HB1 : Hid (Below u.heap.size u v1) := below_to (from_alloc _ _) hb
      have Q2 : Hid _ := q2
      have Q3 : Hid _ := q3
      clear hb
      go_wp2_with fail
      refine (HIn.out _).mono ?_
      rintro e v2 ⟨rfl, hb⟩
      have r2 : v2.cell? ⟨u.heap.size, 2, none⟩ = some (.int .i64 rw) := by rw [newCell hb _ _ hz]; exact Q2.out
      have r3 : v2.cell? ⟨u.heap.size, 3, none⟩ = some (.int .i64 rh) := by rw [newCell hb _ _ hz]; exact Q3.out
      have HB2 : Hid (Below u.heap.size u v2) := below_to HB1.out hb
      clear hb q0 q1 q2 q3
      go_wp2_with fail
      go_ret2
      exact ⟨rfl, HB2.out⟩
    · clear hi hn he hCl
      go_enter Tryd.func23, Tryd.ntmps23
      go_wp2_with fail
      refine (HW.out _).mono ?_
      rintro e v1 ⟨a1, c1, rfl, hb⟩
      have q0 : v1.cell? ⟨u.heap.size, 0, none⟩ = some (.int .i64 X) := by rw [newCell hb _ _ (by simp)]; simp
      have q1 : v1.cell? ⟨u.heap.size, 1, none⟩ = some (.int .i64 Y) := by rw [newCell hb _ _ (by simp)]; simp
      have q2 : v1.cell? ⟨u.heap.size, 2, none⟩ = some (.int .i64 rw) := by rw [newCell hb _ _ (by simp)]; simp
      have q3 : v1.cell? ⟨u.heap.size, 3, none⟩ = some (.int .i64 rh) := by rw [newCell hb _ _ (by simp)]; simp
      have HB1 : Hid (Below u.heap.size u v1) := below_to (from_alloc _ _) hb
      clear hb
      go_wp2_with fail
      refine (HIn.out _).mono ?_
      rintro e v2 ⟨rfl, hb⟩
      have HB2 : Hid (Below u.heap.size u v2) := below_to HB1.out hb
      clear hb q0 q1 q2 q3
      go_wp2_with fail
      go_ret2
      exact ⟨rfl, HB2.out⟩
  · have HIn : Hid (∀ t : World, Calls Tryd.prog 44 #[.slice a C.length c, .int .i64 w, .agg #[.int .i64 X, .int .i64 Y, .int .i64 rw, .int .i64 rh]] t fun e w' => e = .returned (.bool false) ∧ Below t.heap.size t w') := fun t => qwithin_no hi hCl
    clear hi hn he he2 hCl
    go_enter Tryd.func23, Tryd.ntmps23
    go_wp2_with fail
    refine (HW.out _).mono ?_
    rintro e v1 ⟨a1, c1, rfl, hb⟩
    have q0 : v1.cell? ⟨u.heap.size, 0, none⟩ = some (.int .i64 X) := by rw [newCell hb _ _ (by simp)]; simp
    have q1 : v1.cell? ⟨u.heap.size, 1, none⟩ = some (.int .i64 Y) := by rw [newCell hb _ _ (by simp)]; simp
    have q2 : v1.cell? ⟨u.heap.size, 2, none⟩ = some (.int .i64 rw) := by rw [newCell hb _ _ (by simp)]; simp
    have q3 : v1.cell? ⟨u.heap.size, 3, none⟩ = some (.int .i64 rh) := by rw [newCell hb _ _ (by simp)]; simp
    have HB1 : Hid (Below u.heap.size u v1) := below_to (from_alloc _ _) hb
    clear hb
    go_wp2_with fail
    refine (HIn.out _).mono ?_
    rintro e v2 ⟨rfl, hb⟩
    have HB2 : Hid (Below u.heap.size u v2) := below_to HB1.out hb
    clear hb q0 q1 q2 q3
    go_wp2_with fail
    go_ret2
    exact ⟨rfl, HB2.out⟩

set_option maxRecDepth 100000 in
set_option maxHeartbeats 2000000 in
theorem qleft_ok {u : World} {a ao : Option Addr} {c co : Nat} {C D : List Nat} {w h X Y rw rh : Nat} (hs : Sl u .u8 a C) (hC : Byt C) (ho : Sl u .u8 ao D) (hD : Byt D) (w0 : 1 ≤ w) (w1 : w ≤ 64) (h0 : 1 ≤ h) (h1 : h ≤ 64) (hl : C.length = w * h) (r0 : 1 ≤ rw) (r1 : 1 ≤ rh) (hX : X + rw ≤ w) (hY : Y + rh ≤ h) (hlD : D.length = rw * rh) (d0 : 4 ≤ rw) (d1 : rw ≤ 32) :
    Calls Tryd.prog 25 #[.slice a C.length c, .int .i64 (w : Int), .agg #[.int .i64 (X : Int), .int .i64 (Y : Int), .int .i64 (rw : Int), .int .i64 (rh : Int)], .slice ao D.length co] u fun e w' => Rx u w' e (mbL w C X Y rw rh (fun x _ => wt rw x) D) 0 := by
  obtain ⟨n, hn⟩ : ∃ n, n = rw * rh := ⟨_, rfl⟩
  have hnb : n ≤ 64 * 64 := by rw [hn]; exact Nat.mul_le_mul (by omega) (by omega)
  have hn0 : 0 < n := by rw [hn]; exact Nat.mul_pos r0 r1
  have HN : Hid (n = rw * rh) := hn
  have en : (rw : Int) * (rh : Int) = (n : Int) := by rw [← Int.natCast_mul, hn]
  obtain ⟨bo, oo, rfl, hbo, hco⟩ := ho.form (by rw [hlD, ← hn]; exact hn0)
  have HO : Hid (Sl u .u8 (some ⟨bo, oo, none⟩) D) := ho
  have HLD : Hid (D.length = n) := by show _ = _; rw [hlD, ← hn]
  rw [hlD, ← hn]
  have hCb : C.length ≤ 4096 := by rw [hl]; exact Nat.mul_le_mul w1 h1
  have hC0 : 0 < C.length := by rw [hl]; exact Nat.mul_pos w0 h0
  have HS : Hid (Sl u .u8 a C) := hs
  have HBC : Hid (Byt C) := hC
  have HBD : Hid (Byt D) := hD
  have HWt : Hid (∀ t : World, Calls Tryd.prog 20 #[.int .i64 (rw : Int)] t fun e w' => ∃ g c, e = .returned (.tuple #[.slice (some ⟨g, 0, none⟩) rw c, .int .i64 0]) ∧ (∀ j, j < rw → w'.cell? ⟨g, j, none⟩ = some (.int .i64 (wt rw j : Nat))) ∧ g < w'.heap.size ∧ Below t.heap.size t w') := fun t => qweights_ok d0 d1
  have HIn : Hid (∀ t : World, Calls Tryd.prog 44 #[.slice a C.length c, .int .i64 (w : Int), .agg #[.int .i64 (X : Int), .int .i64 (Y : Int), .int .i64 (rw : Int), .int .i64 (rh : Int)]] t fun e w' => e = .returned (.bool true) ∧ Below t.heap.size t w') := fun t => qwithin_yes ⟨by omega, by omega, (h : Int), by omega, by omega, by rw [hl, Int.natCast_mul], ⟨by omega, by omega, by omega, by omega, by omega, by omega⟩⟩
  have HSt : Hid (∀ m, m < n → (Y + m / rw) * w + X + m % rw < C.length ∧ (baL w C X Y rw rh (fun x _ => wt rw x) D m).getD ((Y + m / rw) * w + X + m % rw) 0 = C.getD ((Y + m / rw) * w + X + m % rw) 0 ∧ (baL w C X Y rw rh (fun x _ => wt rw x) D m).set ((Y + m / rw) * w + X + m % rw) (bl (wt rw (m % rw)) (C.getD ((Y + m / rw) * w + X + m % rw) 0) (D.getD m 0)) = baL w C X Y rw rh (fun x _ => wt rw x) D (m + 1)) := fun m hm => baL_set (fun x _ => wt rw x) D w0 hl r0 hX hY (by rw [← hn]; exact hm)
  have HAl : Hid (baL w C X Y rw rh (fun x _ => wt rw x) D n = mbL w C X Y rw rh (fun x _ => wt rw x) D) := by show _ = _; rw [hn]; exact baL_all (fun x _ => wt rw x) D w0 hl hY
  have HZe : Hid (baL w C X Y rw rh (fun x _ => wt rw x) D 0 = C) := baL_zero _ _ _ _ _ _ _ _
  have HLn : Hid (∀ m, (baL w C X Y rw rh (fun x _ => wt rw x) D m).length = C.length) := fun m => baL_len _ _ _ _ _ _ _ _ _
  have HVr : Hid (∀ m, m < n → m % rw < rw) := fun m hm => Nat.mod_lt _ r0
  have i0 : (1 : Int) ≤ (rw : Int) := by omega
  have i1 : (rw : Int) ≤ 64 := by omega
  have i2 : (rh : Int) ≤ 64 := by omega
  have n1 : (n : Int) ≤ 4096 := by omega
  have dd : (rw : Int) ≤ 32 := by omega
  have nb : ((n : Int) != (n : Int)) = false := by simp
  have HML : Hid ((mbL w C X Y rw rh (fun x _ => wt rw x) D).length = C.length) := mbL_len _ _ _ _ _ _ _ _
  have HWy : Hid (X + rw ≤ w ∧ Y + rh ≤ h ∧ w ≤ 64 ∧ h ≤ 64) := ⟨hX, hY, w1, h1⟩
  clear hs hC ho hD hl hlD hco hn hnb hbo d0 d1 h0 h1 hX hY w0 w1 r1
  generalize (fun x _ => wt rw x) = kf at *
  go_enter Tryd.func25, Tryd.ntmps25
  go_wp2_with fail
  refine (HWt.out _).mono ?_
  rintro e v1 ⟨gw, cw, rfl, hcw, hgw, hb⟩
  have c0 : v1.cell? ⟨u.heap.size, 0, none⟩ = some (.int .i64 (X : Int)) := by rw [newCell hb _ _ (by simp)]; simp
  have c1 : v1.cell? ⟨u.heap.size, 1, none⟩ = some (.int .i64 (Y : Int)) := by rw [newCell hb _ _ (by simp)]; simp
  have c2 : v1.cell? ⟨u.heap.size, 2, none⟩ = some (.int .i64 (rw : Int)) := by rw [newCell hb _ _ (by simp)]; simp
  have c3 : v1.cell? ⟨u.heap.size, 3, none⟩ = some (.int .i64 (rh : Int)) := by rw [newCell hb _ _ (by simp)]; simp
  have hz : u.heap.size < v1.heap.size := Nat.lt_of_lt_of_le (by simp) hb.size
  have HB1 : Hid (Below u.heap.size u v1) := below_to (from_alloc _ _) hb
  have HC1 : Hid (∀ j, j < rw → v1.cell? ⟨gw, j, none⟩ = some (.int .i64 (wt rw j : Nat))) := hcw
  have C0 : Hid _ := c0
  have C1 : Hid _ := c1
  have C2 : Hid _ := c2
  have C3 : Hid _ := c3
  clear hcw hb HWt
  go_wp2_with fail
  refine (HIn.out _).mono ?_
  rintro e v2 ⟨rfl, hb⟩
  clear c0 c1 c2 c3
  have c2 : v2.cell? ⟨u.heap.size, 2, none⟩ = some (.int .i64 (rw : Int)) := by rw [newCell hb _ _ hz]; exact C2.out
  have c3 : v2.cell? ⟨u.heap.size, 3, none⟩ = some (.int .i64 (rh : Int)) := by rw [newCell hb _ _ hz]; exact C3.out
  have HB2 : Hid (Below v1.heap.size v1 v2) := hb
  clear hb HIn
  go_wp2_with fail
  refine (copyBytes_any (HS.out.to (below_to HB1.out HB2.out)) (by omega)).mono ?_
  rintro e v3 ⟨a', c', rfl, hnw, hb⟩
  obtain ⟨g, rfl, hwp⟩ := hnw.wp hC0
  have hgn : v2.heap.size ≤ g := hnw.new g 0 none rfl
  have HW3 : Hid (Wp v3 g (baL w C X Y rw rh kf D 0)) := by show Wp _ _ _; rw [HZe.out]; exact hwp
  have hb13 : Below v1.heap.size v1 v3 := below_to HB2.out hb
  have HB3 : Hid (Below u.heap.size u v3) := below_to HB1.out hb13
  have hg1 : v1.heap.size ≤ g := Nat.le_trans HB2.out.size hgn
  have hg3 : g < v3.heap.size := hwp.lt
  have hs13 : v1.heap.size ≤ v3.heap.size := hb13.size
  have HK : Hid (∀ t : World, Kf g v3 t → (t.cell? ⟨u.heap.size, 0, none⟩ = some (.int .i64 (X : Int)) ∧ t.cell? ⟨u.heap.size, 1, none⟩ = some (.int .i64 (Y : Int)) ∧ t.cell? ⟨u.heap.size, 2, none⟩ = some (.int .i64 (rw : Int)) ∧ (∀ j, j < rw → t.cell? ⟨gw, j, none⟩ = some (.int .i64 (wt rw j : Nat))) ∧ (∀ j, j < n → t.cell? ⟨bo, oo + j, none⟩ = some (.int .u8 (D.getD j 0 : Nat))) ∧ Below u.heap.size u t)) := fun t ht => by
    have hu : u.heap.size ≤ v1.heap.size := by omega
    refine ⟨?_, ?_, ?_, fun j hj => ?_, fun j hj => ?_, HB3.out.trans (ht.below (by omega) (by omega))⟩
    · rw [ht.cell _ _ (by omega) (by omega), newCell hb13 _ _ hz]; exact C0.out
    · rw [ht.cell _ _ (by omega) (by omega), newCell hb13 _ _ hz]; exact C1.out
    · rw [ht.cell _ _ (by omega) (by omega), newCell hb13 _ _ hz]; exact C2.out
    · rw [ht.cell _ _ (by omega) (by omega), newCell hb13 _ _ hgw]; exact HC1.out j hj
    · have hO := HO.out.low HB3.out ht (by omega)
      obtain ⟨b', o', e', _, hcc⟩ := hO.form (by rw [HLD.out]; omega)
      simp only [Option.some.injEq, Addr.mk.injEq, and_true] at e'
      obtain ⟨rfl, rfl⟩ := e'
      exact hcc j (by rw [HLD.out]; exact hj)
  have HGn : Hid (u.heap.size ≤ g) := by show _ ≤ _; omega
  clear hnw hb hwp hb13 HB2 HC1 C0 C1 C2 C3 c2 c3 hgn
  go_wp2_with fail
  go_loopw [13] (fun i wr => ∃ m : Nat, m ≤ n ∧ i = .int .i64 m ∧ Wp wr g (baL w C X Y rw rh kf D m) ∧ Kf g v3 wr) (fun i _ => n - (intOf i).toNat)
  case atStart => exact ⟨0, by omega, rfl, HW3.out, Kf.refl _ _⟩
  case round =>
    clear HW3
    obtain ⟨m, hm, rfl, hw, hf⟩ := hrel
    by_cases hlt : m < n
    · obtain ⟨k0, k1, k2, k3, k4, hbu⟩ := HK.out wr hf
      obtain ⟨s0, s1, s2⟩ := HSt.out m hlt
      have hvr := HVr.out m hlt
      have k3' := k3 _ hvr
      have k4' := k4 m hlt
      obtain ⟨wb0, wb1⟩ := wt_in hvr
      have HBl : Hid (Calls Tryd.prog 45 #[.slice (some ⟨g, 0, none⟩) C.length c', .int .i64 (((Y + m / rw) * w + X + m % rw : Nat) : Int), .int .i64 ((wt rw (m % rw) : Nat) : Int), .int .u8 ((D.getD m 0 : Nat) : Int)] wr.drew fun e w' => e = .returned (.tuple #[]) ∧ Wp w' g (baL w C X Y rw rh kf D (m + 1)) ∧ Kb g wr.drew w') := by
        have := qblend_any (c := c') hw.drew (HLn.out m) s0 (by omega) (by rw [s1]; exact HBC.out _) (show wt rw (m % rw) ≤ 64 by omega) (HBD.out m)
        rwa [s1, s2] at this
      have hwn := HWy.out
      have em : (m : Int) % (rw : Int) = ((m % rw : Nat) : Int) := by rw [Int.natCast_emod]
      have em' : (m : Int).tmod (rw : Int) = ((m % rw : Nat) : Int) := by rw [Int.tmod_eq_emod_of_nonneg (by omega)]; exact em
      have ed : (m : Int) / (rw : Int) = ((m / rw : Nat) : Int) := by rw [Int.natCast_ediv]
      have ed' : (m : Int).tdiv (rw : Int) = ((m / rw : Nat) : Int) := by rw [Int.tdiv_eq_ediv_of_nonneg (by omega)]; exact ed
      have hmy : m / rw < rh := div_of (by rw [← HN.out]; exact hlt)
      have hmx : m % rw < rw := Nat.mod_lt _ r0
      have HKm : Hid (∀ t : World, Kf g v3 t → (t.cell? ⟨u.heap.size, 0, none⟩ = some (.int .i64 (X : Int)) ∧ t.cell? ⟨u.heap.size, 1, none⟩ = some (.int .i64 (Y : Int)) ∧ t.cell? ⟨u.heap.size, 2, none⟩ = some (.int .i64 (rw : Int)) ∧ t.cell? ⟨gw, m % rw, none⟩ = some (.int .i64 (wt rw (m % rw) : Nat)) ∧ t.cell? ⟨bo, oo + m, none⟩ = some (.int .u8 (D.getD m 0 : Nat)))) := fun t ht => by
        obtain ⟨q0, q1, q2, q3, q4, _⟩ := HK.out t ht
        exact ⟨q0, q1, q2, q3 _ hvr, q4 m hlt⟩
      have HF : Hid (Kf g v3 wr) := hf
      generalize wt rw (m % rw) = kk at *
      generalize D.getD m 0 = dd' at *
      generalize m % rw = ix at *
      generalize m / rw = iy at *
      obtain ⟨p1, hp1⟩ : ∃ p1, p1 = Y + iy := ⟨_, rfl⟩
      rw [← hp1] at HBl s0
      obtain ⟨p2, hp2⟩ : ∃ p2, p2 = p1 * w := ⟨_, rfl⟩
      rw [← hp2] at HBl s0
      have p2b : p2 ≤ 64 * 64 := by rw [hp2]; exact Nat.mul_le_mul (by omega) (by omega)
      have e1 : (Y : Int) + (iy : Int) = (p1 : Int) := by omega
      have f1 : IntKind.i64.wrap (p1 : Int) = (p1 : Int) := by rw [IntKind.wrap_i64]; omega
      have e2 : (p1 : Int) * (w : Int) = (p2 : Int) := by rw [hp2, Int.natCast_mul]
      have f2 : IntKind.i64.wrap (p2 : Int) = (p2 : Int) := by rw [IntKind.wrap_i64]; omega
      have f3 : IntKind.i64.wrap ((p2 : Int) + (X : Int)) = (p2 : Int) + (X : Int) := by rw [IntKind.wrap_i64]; omega
      have f4 : IntKind.i64.wrap ((p2 : Int) + (X : Int) + (ix : Int)) = ((p2 + X + ix : Nat) : Int) := by rw [IntKind.wrap_i64]; omega
      have f5 : IntKind.i64.wrap (iy : Int) = (iy : Int) := by rw [IntKind.wrap_i64]; omega
      have f6 : IntKind.i64.wrap (ix : Int) = (ix : Int) := by rw [IntKind.wrap_i64]; omega
      have m0 : (0 : Int) ≤ (m : Int) := by omega
      have m1 : (m : Int) < (n : Int) := by omega
      have v0 : (0 : Int) ≤ (ix : Int) := by omega
      have v1' : (ix : Int) < (rw : Int) := by omega
      have rz : ¬ (rw : Int) = 0 := by omega
      have rz2 : ¬ rw = 0 := by omega
      generalize p2 + X + ix = pp at *
      clear hw hf s1 s2 hp1 hp2 k3 k4 hbu s0 hwn wb0 wb1
      go_wp2_with fail
      go_region_held3 (fun t => t.cell? ⟨u.heap.size, 0, none⟩ = some (.int .i64 (X : Int)) ∧ t.cell? ⟨u.heap.size, 1, none⟩ = some (.int .i64 (Y : Int)) ∧ t.cell? ⟨u.heap.size, 2, none⟩ = some (.int .i64 (rw : Int)) ∧ t.cell? ⟨gw, ix, none⟩ = some (.int .i64 (kk : Int)) ∧ t.cell? ⟨bo, oo + m, none⟩ = some (.int .u8 (dd' : Int)))
        ((exact HKm.out _ (by first | exact HF.out.drew | exact HF.out.drew.kb (by assumption))))
        ((go_at_call 45; refine HBl.out.mono ?_; rintro e w5 ⟨rfl, hw5, hk5⟩))
      go_wp2_with fail
      go_roundw
      case rel => exact ⟨m + 1, by omega, by go_num, hw5, HF.out.drew.kb hk5⟩
      case measure => simp [intOf]; omega
    · obtain rfl : m = n := by omega
      have HSl : Hid (Sl wr .u8 (some ⟨g, 0, none⟩) (mbL w C X Y rw rh kf D)) := by show Sl _ _ _ _; rw [← HAl.out]; exact hw.sl
      have HB : Hid (Below u.heap.size u wr) := (HK.out wr hf).2.2.2.2.2
      clear hw hf
      go_wp2_with fail
      go_ret2
      exact ⟨_, c', by rw [HML.out]; rfl, HSl.out, HB.out, fun b o s e => by simp only [Option.some.injEq, Addr.mk.injEq] at e; rw [← e.1]; exact HGn.out⟩

set_option maxRecDepth 100000 in
set_option maxHeartbeats 1000000 in
theorem qleft_no {u : World} {a ao : Option Addr} {c co : Nat} {C D : List Nat} {w X Y rw rh : Int} (hCl : C.length ≤ 140737488355328) (hn : ¬ ((4 ≤ rw ∧ rw ≤ 32) ∧ BOk C w X Y rw rh D)) :
    Calls Tryd.prog 25 #[.slice a C.length c, .int .i64 w, .agg #[.int .i64 X, .int .i64 Y, .int .i64 rw, .int .i64 rh], .slice ao D.length co] u fun e w' => e = .returned (.tuple #[.slice none 0 0, .int .i64 2]) ∧ Below u.heap.size u w' := by
  have HWt : Hid (∃ (er : Int) (aw : Option Addr) (nw : Nat), (er = 0 → 4 ≤ rw ∧ rw ≤ 32) ∧ (er = 0 ∨ er = 2) ∧ ∀ t : World, Calls Tryd.prog 20 #[.int .i64 rw] t fun e w' => ∃ a' c', e = .returned (.tuple #[.slice a' nw c', .int .i64 er]) ∧ Below t.heap.size t w') := by
    by_cases hd : 4 ≤ rw ∧ rw ≤ 32
    · obtain ⟨d, ed⟩ : ∃ d : Nat, rw = (d : Int) := ⟨rw.toNat, by omega⟩
      refine ⟨0, none, d, fun _ => hd, Or.inl rfl, fun t => ?_⟩
      rw [ed]
      refine (qweights_ok (u := t) (n := d) (by omega) (by omega)).mono ?_
      rintro e w' ⟨g, c, rfl, _, _, hb⟩
      exact ⟨_, c, rfl, hb⟩
    · refine ⟨2, none, 0, fun h => by omega, Or.inr rfl, fun t => ?_⟩
      refine (qweights_no hd).mono ?_
      rintro e w' ⟨rfl, rfl⟩
      exact ⟨none, 0, rfl, Below.refl _ _⟩
  obtain ⟨er, aw, nw, he, he2, hW⟩ := HWt.out
  have HW : Hid _ := hW
  clear HWt hW
  by_cases hi : InOk C w X Y rw rh
  · have HIn : Hid (∀ t : World, Calls Tryd.prog 44 #[.slice a C.length c, .int .i64 w, .agg #[.int .i64 X, .int .i64 Y, .int .i64 rw, .int .i64 rh]] t fun e w' => e = .returned (.bool true) ∧ Below t.heap.size t w') := fun t => qwithin_yes hi
    rcases he2 with rfl | rfl
    · have hne : (D.length : Int) ≠ rw * rh := fun e => hn ⟨he rfl, BOk.iff.2 ⟨hi, e⟩⟩
      obtain ⟨j0, j1, j2, j3, j4, j5⟩ := hi.prod
      have hb1 : ((D.length : Int) != rw * rh) = true := by rw [bne_iff_ne]; exact hne
      have hwr : IntKind.i64.wrap (rw * rh) = rw * rh := by rw [IntKind.wrap_i64]; omega
      clear hi hn he hne hCl
      generalize hpp : rw * rh = pp at *
      go_enter Tryd.func25, Tryd.ntmps25
      go_wp2_with fail
      refine (HW.out _).mono ?_
      rintro e v1 ⟨a1, c1, rfl, hb⟩
      have q0 : v1.cell? ⟨u.heap.size, 0, none⟩ = some (.int .i64 X) := by rw [newCell hb _ _ (by simp)]; simp
      have q1 : v1.cell? ⟨u.heap.size, 1, none⟩ = some (.int .i64 Y) := by rw [newCell hb _ _ (by simp)]; simp
      have q2 : v1.cell? ⟨u.heap.size, 2, none⟩ = some (.int .i64 rw) := by rw [newCell hb _ _ (by simp)]; simp
      have q3 : v1.cell? ⟨u.heap.size, 3, none⟩ = some (.int .i64 rh) := by rw [newCell hb _ _ (by simp)]; simp
      have hz : u.heap.size < v1.heap.size := Nat.lt_of_lt_of_le (by simp) hb.size
      have HB1 : Hid (Below u.heap.size u v1) := below_to (from_alloc _ _) hb
      have Q2 : Hid _ := q2
      have Q3 : Hid _ := q3
      clear hb
      go_wp2_with fail
      refine (HIn.out _).mono ?_
      rintro e v2 ⟨rfl, hb⟩
      have r2 : v2.cell? ⟨u.heap.size, 2, none⟩ = some (.int .i64 rw) := by rw [newCell hb _ _ hz]; exact Q2.out
      have r3 : v2.cell? ⟨u.heap.size, 3, none⟩ = some (.int .i64 rh) := by rw [newCell hb _ _ hz]; exact Q3.out
      have HB2 : Hid (Below u.heap.size u v2) := below_to HB1.out hb
      clear hb q0 q1 q2 q3
      go_wp2_with fail
      go_ret2
      exact ⟨rfl, HB2.out⟩
    · clear hi hn he hCl
      go_enter Tryd.func25, Tryd.ntmps25
      go_wp2_with fail
      refine (HW.out _).mono ?_
      rintro e v1 ⟨a1, c1, rfl, hb⟩
      have q0 : v1.cell? ⟨u.heap.size, 0, none⟩ = some (.int .i64 X) := by rw [newCell hb _ _ (by simp)]; simp
      have q1 : v1.cell? ⟨u.heap.size, 1, none⟩ = some (.int .i64 Y) := by rw [newCell hb _ _ (by simp)]; simp
      have q2 : v1.cell? ⟨u.heap.size, 2, none⟩ = some (.int .i64 rw) := by rw [newCell hb _ _ (by simp)]; simp
      have q3 : v1.cell? ⟨u.heap.size, 3, none⟩ = some (.int .i64 rh) := by rw [newCell hb _ _ (by simp)]; simp
      have HB1 : Hid (Below u.heap.size u v1) := below_to (from_alloc _ _) hb
      clear hb
      go_wp2_with fail
      refine (HIn.out _).mono ?_
      rintro e v2 ⟨rfl, hb⟩
      have HB2 : Hid (Below u.heap.size u v2) := below_to HB1.out hb
      clear hb q0 q1 q2 q3
      go_wp2_with fail
      go_ret2
      exact ⟨rfl, HB2.out⟩
  · have HIn : Hid (∀ t : World, Calls Tryd.prog 44 #[.slice a C.length c, .int .i64 w, .agg #[.int .i64 X, .int .i64 Y, .int .i64 rw, .int .i64 rh]] t fun e w' => e = .returned (.bool false) ∧ Below t.heap.size t w') := fun t => qwithin_no hi hCl
    clear hi hn he he2 hCl
    go_enter Tryd.func25, Tryd.ntmps25
    go_wp2_with fail
    refine (HW.out _).mono ?_
    rintro e v1 ⟨a1, c1, rfl, hb⟩
    have q0 : v1.cell? ⟨u.heap.size, 0, none⟩ = some (.int .i64 X) := by rw [newCell hb _ _ (by simp)]; simp
    have q1 : v1.cell? ⟨u.heap.size, 1, none⟩ = some (.int .i64 Y) := by rw [newCell hb _ _ (by simp)]; simp
    have q2 : v1.cell? ⟨u.heap.size, 2, none⟩ = some (.int .i64 rw) := by rw [newCell hb _ _ (by simp)]; simp
    have q3 : v1.cell? ⟨u.heap.size, 3, none⟩ = some (.int .i64 rh) := by rw [newCell hb _ _ (by simp)]; simp
    have HB1 : Hid (Below u.heap.size u v1) := below_to (from_alloc _ _) hb
    clear hb
    go_wp2_with fail
    refine (HIn.out _).mono ?_
    rintro e v2 ⟨rfl, hb⟩
    have HB2 : Hid (Below u.heap.size u v2) := below_to HB1.out hb
    clear hb q0 q1 q2 q3
    go_wp2_with fail
    go_ret2
    exact ⟨rfl, HB2.out⟩

end Go.Proofs.YtpideemiijhkgaaDoor
