/- DERIVED. Both Fetches answer alike; the walks of SubpelFetches and SubpelKinds. -/
import Derived.Test.YtgmdanipcnkhdaaDoorDe
import Derived.Test.YtgmdanipcnkhdaaDoorHa
import Derived.Deep.DeepCutAuto
namespace Go.Proofs.YtgmdanipcnkhdaaDoor
open Go.RowKit

/-- samples in new memory, or none -/
def Aw (u w' : World) (a : Option Addr) (L : List Nat) : Prop := (L = [] ∧ a = none) ∨ ∃ g, a = some ⟨g, 0, none⟩ ∧ Rw w' g L ∧ u.heap.size ≤ g
theorem Aw.sl {u w' : World} {a : Option Addr} {L : List Nat} (h : Aw u w' a L) : Sl w' .u8 a L := by
  rcases h with ⟨h, _⟩ | ⟨g, rfl, hr, _⟩
  · exact Or.inl h
  · exact hr.sl
/-- what both answer -/
theorem both_fetch {C : List Nat} (hC : Byt C) (W H px py pw ph pk : Int) : ∃ (L : List Nat) (er : Int), L.length ≤ 4096 ∧
    (∀ (t : World) (a : Option Addr) (c : Nat), Gt t → Sl t .u8 a C → Calls Tryd.prog 13 #[.agg #[.int .i64 W, .int .i64 H, .slice a C.length c], .int .i64 px, .int .i64 py, .int .i64 pw, .int .i64 ph, .int .i64 pk] t fun e w' => ∃ a' c', e = .returned (.tuple #[.slice a' L.length c', .int .i64 er]) ∧ Aw t w' a' L ∧ Below t.heap.size t w') ∧
    (∀ (t : World) (a : Option Addr) (c : Nat), Sl t .u8 a C → Calls Tryd.prog 14 #[.agg #[.int .i64 W, .int .i64 H, .slice a C.length c], .int .i64 px, .int .i64 py, .int .i64 pw, .int .i64 ph, .int .i64 pk] t fun e w' => ∃ a' c', e = .returned (.tuple #[.slice a' L.length c', .int .i64 er]) ∧ Sl w' .u8 a' L ∧ Below t.heap.size t w') := by
  by_cases h : FOk W H C px py pw ph pk
  · obtain ⟨x, y, rfl, rfl, x0, x1, y0, y1, hl⟩ := h.pl.nat
    have h1 := h.w
    have h2 := h.h
    have h3 := h.k
    obtain ⟨wd, rfl⟩ : ∃ wd : Nat, pw = (wd : Int) := ⟨pw.toNat, by omega⟩
    obtain ⟨ht, rfl⟩ : ∃ ht : Nat, ph = (ht : Int) := ⟨ph.toNat, by omega⟩
    obtain ⟨k, rfl⟩ : ∃ k : Nat, pk = (k : Int) := ⟨pk.toNat, by omega⟩
    refine ⟨fe C x y px py wd ht k, 0, ?_, fun t a c hg hs => ?_, fun t a c hs => ?_⟩
    · rw [fe_len]; exact Nat.mul_le_mul (show wd ≤ 64 by omega) (show ht ≤ 64 by omega)
    · refine (fetch_ok hg hs hC h).mono ?_
      rintro e w' ⟨g, rfl, hr, hlo, hb⟩
      exact ⟨_, _, rfl, Or.inr ⟨g, rfl, hr, hlo⟩, hb⟩
    · refine (rfetch_ok hs hC h).mono ?_
      rintro e w' ⟨a', c', rfl, hs', hb⟩
      exact ⟨a', c', rfl, hs', hb⟩
  · refine ⟨[], 2, by simp, fun t a c _ _ => ?_, fun t a c _ => ?_⟩
    · refine (fetch_no h).mono ?_
      rintro e w' ⟨rfl, hb⟩
      exact ⟨none, 0, rfl, Or.inl ⟨rfl, rfl⟩, hb⟩
    · refine (rfetch_no h).mono ?_
      rintro e w' ⟨rfl, hb⟩
      exact ⟨none, 0, rfl, Or.inl rfl, hb⟩

/-- samples that may be written, whatever they are -/
structure Wz (w : World) (g n : Nat) : Prop where
  cell : ∀ j, j < n → ∃ z, w.cell? ⟨g, j, none⟩ = some (.int .u8 z)
  th : ∀ j, w.frozen? ⟨g, j, none⟩ = false
theorem Rw.wz {w : World} {g : Nat} {L : List Nat} (h : Rw w g L) : Wz w g L.length := ⟨fun j hj => ⟨_, h.cell j hj⟩, h.thaw⟩
theorem Wz.set {w : World} {g n k : Nat} (h : Wz w g n) (z : Int) : Wz (w.setCell ⟨g, k, none⟩ (.int .u8 z)) g n := by
  refine ⟨fun j hj => ?_, fun j => by rw [World.frozen?_setCell]; exact h.th j⟩
  obtain ⟨y, hy⟩ := h.cell j hj
  by_cases e : j = k
  · subst e; exact ⟨z, World.cell?_setCell_same _ _ _ hy⟩
  · exact ⟨y, by rw [set_cell_ne e]; exact hy⟩

set_option maxRecDepth 100000 in
set_option maxHeartbeats 2000000 in
theorem fetches_walk {u : World} {a : Option Addr} {c : Nat} {C : List Nat} {W H la lb lc ld le : Int} (hg : Gt u) (hin : PlIn u W H a c C) (hl : C.length ≤ 140737488355328) :
    Calls Tryd.prog 4 #[.agg #[.int .i64 W, .int .i64 H, .slice a C.length c], .agg #[.int .i64 la, .int .i64 lb, .int .i64 lc, .int .i64 ld, .int .i64 le]] u fun e w' => e = .returned (.bool true) ∧ Below u.heap.size u w' := by
  have HG : Hid (Gt u) := hg
  have HI : Hid (PlIn u W H a c C) := hin
  have HCl : Hid (C.length ≤ 140737488355328) := hl
  obtain ⟨L, er, hLl, hA, hB⟩ := both_fetch hin.byt W H la lb lc ld le
  have HLl : Hid (L.length ≤ 4096) := hLl
  have HA : Hid _ := hA
  have HD : Hid _ := hB
  have l1 : (L.length : Int) ≤ 4096 := by omega
  clear hg hin hl hA hB hLl
  go_enter Tryd.func4, Tryd.ntmps4
  go_wp2_with fail
  have HB0 : Hid (Below u.heap.size u ((u.alloc (.cells #[.int .i64 W, .int .i64 H, .slice a C.length c] 30)).alloc (.cells #[.int .i64 la, .int .i64 lb, .int .i64 lc, .int .i64 ld, .int .i64 le] 32))) := to_alloc (from_alloc _ _) _
  have HC0 : Hid (Cx ((u.alloc (.cells #[.int .i64 W, .int .i64 H, .slice a C.length c] 30)).alloc (.cells #[.int .i64 la, .int .i64 lb, .int .i64 lc, .int .i64 ld, .int .i64 le] 32)) u.heap.size (u.heap.size + 1) W H a C.length c la lb lc ld le) := Cx.start u W H a C.length c la lb lc ld le
  generalize (u.alloc (.cells #[.int .i64 W, .int .i64 H, .slice a C.length c] 30)).alloc (.cells #[.int .i64 la, .int .i64 lb, .int .i64 lc, .int .i64 ld, .int .i64 le] 32) = v0 at *
  refine (copyPlane_any (HI.out.sl.to HB0.out) HCl.out).mono ?_
  rintro e v1 ⟨a', c', rfl, hnw, hb⟩
  have HB1 : Hid (Below u.heap.size u v1) := below_to HB0.out hb
  have HC1 : Hid (Cx v1 u.heap.size (u.heap.size + 1) W H a C.length c la lb lc ld le) := HC0.out.to hb
  have HS1 : Hid (Sl v1 .u8 a' C) := hnw.sl
  clear hb hnw HB0 HC0
  go_upto_region 2 with fail
  have HB2 : Hid (Below u.heap.size u (v1.alloc (.cells #[.int .i64 W, .int .i64 H, .slice a' C.length c'] 30))) := to_alloc HB1.out _
  have HC2 : Hid (Cx (v1.alloc (.cells #[.int .i64 W, .int .i64 H, .slice a' C.length c'] 30)) u.heap.size (u.heap.size + 1) W H a C.length c la lb lc ld le) := HC1.out.to (from_alloc _ _)
  have HS2 : Hid (Sl (v1.alloc (.cells #[.int .i64 W, .int .i64 H, .slice a' C.length c'] 30)) .u8 a' C) := HS1.out.to (from_alloc _ _)
  have HN2 : Hid ((v1.alloc (.cells #[.int .i64 W, .int .i64 H, .slice a' C.length c'] 30)).cell? ⟨v1.heap.size, 0, none⟩ = some (.int .i64 W) ∧ (v1.alloc (.cells #[.int .i64 W, .int .i64 H, .slice a' C.length c'] 30)).cell? ⟨v1.heap.size, 1, none⟩ = some (.int .i64 H) ∧ (v1.alloc (.cells #[.int .i64 W, .int .i64 H, .slice a' C.length c'] 30)).cell? ⟨v1.heap.size, 2, none⟩ = some (.slice a' C.length c') ∧ v1.heap.size < (v1.alloc (.cells #[.int .i64 W, .int .i64 H, .slice a' C.length c'] 30)).heap.size) := by
    refine ⟨?_, ?_, ?_, ?_⟩ <;> simp
  generalize (v1.alloc (.cells #[.int .i64 W, .int .i64 H, .slice a' C.length c'] 30)) = v at *
  generalize v1.heap.size = ib at *
  clear HB1 HC1 HS1
  have HAll : Hid (∀ t : World, Below v.heap.size v t → Cx t u.heap.size (u.heap.size + 1) W H a C.length c la lb lc ld le ∧ Sl t .u8 a' C ∧ Sl t .u8 a C ∧ Gt t ∧ (t.cell? ⟨ib, 0, none⟩ = some (.int .i64 W) ∧ t.cell? ⟨ib, 1, none⟩ = some (.int .i64 H) ∧ t.cell? ⟨ib, 2, none⟩ = some (.slice a' C.length c')) ∧ Below u.heap.size u t) := fun t ht => by
    obtain ⟨n0, n1, n2, n3⟩ := HN2.out
    exact ⟨HC2.out.to ht, HS2.out.to ht, (HI.out.sl.to HB2.out).to ht, (HG.out.to HB2.out).to ht, ⟨by rw [newCell ht _ _ n3]; exact n0, by rw [newCell ht _ _ n3]; exact n1, by rw [newCell ht _ _ n3]; exact n2⟩, below_to HB2.out ht⟩
  obtain ⟨hcx, _, _, hgt, ⟨n0, n1, n2⟩, _⟩ := HAll.out v (Below.refl _ _)
  have l0 := hcx.l.c0
  have l1' := hcx.l.c1
  have l2 := hcx.l.c2
  have l3 := hcx.l.c3
  have l4 := hcx.l.c4
  have HGv : Hid (Gt v) := hgt
  clear hcx hgt HB2 HC2 HN2
  go_wp2_with fail
  refine Calls.mono (HA.out _ _ _ HGv.out HS2.out) ?_
  rintro e v2 ⟨ax, cx, rfl, haw, hb⟩
  have HAw : Hid (Aw v v2 ax L) := haw
  have HB3 : Hid (Below v.heap.size v v2) := hb
  clear haw hb HA HGv HS2 n0 n1 n2 l0 l1' l2 l3 l4
  obtain ⟨hcx, _, hsl, _, _, _⟩ := HAll.out v2 HB3.out
  have l0 := hcx.l.c0
  have l1' := hcx.l.c1
  have l2 := hcx.l.c2
  have l3 := hcx.l.c3
  have l4 := hcx.l.c4
  have p0 := hcx.p0
  have p1 := hcx.p1
  have p2 := hcx.p2
  have HSl : Hid _ := hsl
  clear hcx hsl
  go_wp2_with fail
  refine Calls.mono (HD.out _ _ _ HSl.out) ?_
  rintro e v3 ⟨ay, cy, rfl, hsy, hb⟩
  have HB4 : Hid (Below v.heap.size v v3) := below_to HB3.out hb
  have HAw3 : Hid (Aw v v3 ax L) := by
    rcases HAw.out with h | ⟨g, h1, h2, h3⟩
    · exact Or.inl h
    · exact Or.inr ⟨g, h1, h2.to hb, h3⟩
  have HE : Hid (Calls Tryd.prog 15 #[.slice ax L.length cx, .slice ay L.length cy] v3 fun e w' => e = .returned (.bool true) ∧ Below v3.heap.size v3 w') := by
    have := eqBytes_any (w := v3) (c := cx) (d := cy) HAw3.out.sl hsy (by have := HLl.out; omega) (by have := HLl.out; omega)
    rwa [eqB_self] at this
  have hee : (er == er) = true := by simp
  clear hsy hb HD HSl HAw HB3 l0 l1' l2 l3 l4 p0 p1 p2
  go_wp2_with fail
  refine HE.out.mono ?_
  rintro e v4 ⟨rfl, hb⟩
  have HB5 : Hid (Below v.heap.size v v4) := below_to HB4.out hb
  have HW5 : Hid (0 < L.length → ∃ g, ax = some ⟨g, 0, none⟩ ∧ v.heap.size ≤ g ∧ Wz v4 g L.length) := fun h0 => by
    rcases HAw3.out with ⟨h, _⟩ | ⟨g, h1, h2, h3⟩
    · rw [h] at h0; simp at h0
    · exact ⟨g, h1, h3, (h2.to hb).wz⟩
  clear hb HE HAw3 HB4 hee
  go_wp2_with fail
  go_loopw [11] (fun i wr => ∃ j : Nat, j ≤ L.length ∧ i = .int .i64 j ∧ Below v.heap.size v wr ∧ (0 < L.length → ∃ g, ax = some ⟨g, 0, none⟩ ∧ v.heap.size ≤ g ∧ Wz wr g L.length)) (fun i _ => L.length - (intOf i).toNat)
  case atStart => exact ⟨0, by omega, rfl, HB5.out, HW5.out⟩
  case round =>
    clear HB5 HW5
    obtain ⟨j, hj, rfl, hbr, hw⟩ := hrel
    by_cases hlt : j < L.length
    · obtain ⟨g, rfl, hgl, hwz⟩ := hw (by omega)
      obtain ⟨z, c0⟩ := hwz.cell j hlt
      have c1 := hwz.th j
      have j0 : (0 : Int) ≤ (j : Int) := by omega
      have j1 : (j : Int) < (L.length : Int) := by omega
      have HWn : Hid (∀ y, Wz (wr.setCell ⟨g, j, none⟩ (.int .u8 y)) g L.length) := fun y => hwz.set y
      have HBn : Hid (∀ y, Below v.heap.size v (wr.setCell ⟨g, j, none⟩ (.int .u8 y))) := fun y => below_set hbr hgl _
      have HGl : Hid (v.heap.size ≤ g) := hgl
      clear hwz hbr hw hgl
      go_wp2_with fail
      go_roundw
      case rel => exact ⟨j + 1, by omega, by go_num, HBn.out _, fun _ => ⟨g, rfl, HGl.out, HWn.out _⟩⟩
      case measure => simp [intOf]; omega
    · obtain ⟨hcx, hs1, hs2, hgt, ⟨n0, n1, n2⟩, hbu⟩ := HAll.out wr hbr
      have p0 := hcx.p0
      have p1 := hcx.p1
      have p2 := hcx.p2
      have HBu : Hid _ := hbu
      have HGt : Hid (Gt wr) := hgt
      have HSm : Hid (Calls Tryd.prog 16 #[.agg #[.int .i64 W, .int .i64 H, .slice a' C.length c'], .agg #[.int .i64 W, .int .i64 H, .slice a C.length c]] wr fun e w' => e = .returned (.bool true) ∧ Below wr.heap.size wr w') := by
        have := rsame_any (w := wr) (W := W) (H := H) (W' := W) (H' := H) (c := c') (d := c) hs1 hs2 HCl.out HCl.out
        rwa [smB_self] at this
      clear hcx hs1 hs2 hgt hbu hw hbr
      go_wp2_with fail
      refine HSm.out.mono ?_
      rintro e w6 ⟨rfl, hb6⟩
      have HB6 : Hid (Below u.heap.size u w6) := below_to HBu.out hb6
      have HG6 : Hid (Gt w6) := HGt.out.to hb6
      clear hb6 HSm HBu HGt
      go_wp2_with fail
      refine (works_true HG6.out).mono ?_
      rintro e w7 ⟨rfl, hb7⟩
      have HB7 : Hid (Below u.heap.size u w7) := below_to HB6.out hb7
      clear hb7
      go_wp2_with fail
      go_ret
      exact ⟨rfl, HB7.out⟩

set_option maxRecDepth 100000 in
set_option maxHeartbeats 2000000 in
theorem kinds_walk {u : World} {a : Option Addr} {c : Nat} {C : List Nat} {W H xx yy : Int} (hg : Gt u) (hin : PlIn u W H a c C) :
    Calls Tryd.prog 5 #[.agg #[.int .i64 W, .int .i64 H, .slice a C.length c], .int .i64 xx, .int .i64 yy] u fun e w' => e = .returned (.bool true) ∧ Below u.heap.size u w' := by
  have HG : Hid (Gt u) := hg
  have HI : Hid (PlIn u W H a c C) := hin
  have HK1 : Hid (∀ t : World, Calls Tryd.prog 17 #[.int .i64 xx, .int .i64 40] t fun e w' => e = .returned (.int .i64 (xx % 40)) ∧ t = w') := fun t => bring_any (by omega) (by omega)
  have HK2 : Hid (∀ t : World, Calls Tryd.prog 17 #[.int .i64 yy, .int .i64 40] t fun e w' => e = .returned (.int .i64 (yy % 40)) ∧ t = w') := fun t => bring_any (by omega) (by omega)
  have x0 : 0 ≤ xx % 40 := by omega
  have x1 : xx % 40 < 40 := by omega
  have y0 : 0 ≤ yy % 40 := by omega
  have y1 : yy % 40 < 40 := by omega
  generalize xx % 40 = X at *
  generalize yy % 40 = Y at *
  clear hg hin
  go_enter Tryd.func5, Tryd.ntmps5
  go_wp2_with (first | (go_at_call 17; with_reducible refine (HK1.out _).mono ?_; rintro e w' ⟨rfl, rfl⟩) | (go_at_call 17; with_reducible refine (HK2.out _).mono ?_; rintro e w' ⟨rfl, rfl⟩))
  have HB0 : Hid (Below u.heap.size u (u.alloc (.cells #[.int .i64 W, .int .i64 H, .slice a C.length c] 30))) := from_alloc _ _
  have HAll : Hid (∀ t : World, Below (u.alloc (.cells #[.int .i64 W, .int .i64 H, .slice a C.length c] 30)).heap.size (u.alloc (.cells #[.int .i64 W, .int .i64 H, .slice a C.length c] 30)) t → (t.cell? ⟨u.heap.size, 0, none⟩ = some (.int .i64 W) ∧ t.cell? ⟨u.heap.size, 1, none⟩ = some (.int .i64 H) ∧ t.cell? ⟨u.heap.size, 2, none⟩ = some (.slice a C.length c)) ∧ Sl t .u8 a C ∧ Gt t ∧ Below u.heap.size u t) := fun t ht => by
    refine ⟨⟨?_, ?_, ?_⟩, (HI.out.sl.to HB0.out).to ht, (HG.out.to HB0.out).to ht, below_to HB0.out ht⟩ <;> (rw [newCell ht _ _ (by simp)]; simp)
  generalize (u.alloc (.cells #[.int .i64 W, .int .i64 H, .slice a C.length c] 30)) = v at *
  clear HB0 HK1 HK2
  go_loopw [7] (fun i wr => ∃ n : Nat, n ≤ 16 ∧ i = .int .i64 n ∧ Below v.heap.size v wr) (fun i _ => 16 - (intOf i).toNat)
  case atStart => exact ⟨0, by omega, rfl, Below.refl _ _⟩
  case round =>
    obtain ⟨n, hn, rfl, hb⟩ := hrel
    have HB : Hid (Below v.heap.size v wr) := hb
    clear hb
    by_cases hlt : n < 16
    · have n0 : (0 : Int) ≤ (n : Int) := by omega
      have n1 : (n : Int) < 16 := by omega
      go_wp2_with fail
      go_loopw [8] (fun i wr => ∃ m : Nat, m ≤ 3 ∧ i = .int .i64 m ∧ Below v.heap.size v wr) (fun i _ => 3 - (intOf i).toNat)
      case atStart => exact ⟨0, by omega, rfl, HB.out⟩
      case round =>
        clear HB
        obtain ⟨m, hm, rfl, hb⟩ := hrel
        have HB : Hid (Below v.heap.size v wr) := hb
        by_cases hlm : m < 3
        · have m0 : (0 : Int) ≤ (m : Int) := by omega
          have m1 : (m : Int) < 3 := by omega
          obtain ⟨⟨p0, p1, p2⟩, hsl, hgt, _⟩ := HAll.out wr hb
          obtain ⟨r, hr⟩ : ∃ r : Nat, r = (n * 7 + m) % 16 := ⟨_, rfl⟩
          have r1 : (r : Int) < 16 := by omega
          have t1 : ((n : Int) * 7 + (m : Int)).tmod 16 = (r : Int) := by rw [Int.tmod_eq_emod_of_nonneg (by omega)]; omega
          have t2 : ((n : Int) * 7 + (m : Int)) % 16 = (r : Int) := by omega
          obtain ⟨L, er, hLl, hA, hB⟩ := both_fetch HI.out.byt W H (X * 16 - 160 + (n : Int)) (Y * 16 - 160 + (r : Int)) 4 4 (m : Int)
          have HLl : Hid (L.length ≤ 4096) := hLl
          have HA : Hid _ := hA
          have HD : Hid _ := hB
          have HSl : Hid _ := hsl
          have HGt : Hid _ := hgt
          have hee : (er != er) = false := by simp
          clear hb hr hsl hgt hA hB hLl
          go_wp2_with fail
          refine Calls.mono (HA.out _ _ _ HGt.out HSl.out) ?_
          rintro e v2 ⟨ax, cx, rfl, haw, hb⟩
          have HSx : Hid (Sl v2 .u8 ax L) := haw.sl
          have HB2 : Hid (Below v.heap.size v v2) := below_to HB.out hb
          clear haw hb HA HGt HSl p0 p1 p2 HB
          obtain ⟨⟨p0, p1, p2⟩, hsl, _, _⟩ := HAll.out v2 HB2.out
          have HSl : Hid _ := hsl
          clear hsl
          go_wp2_with fail
          refine Calls.mono (HD.out _ _ _ HSl.out) ?_
          rintro e v3 ⟨ay, cy, rfl, hsy, hb⟩
          have HB3 : Hid (Below v.heap.size v v3) := below_to HB2.out hb
          have HE : Hid (Calls Tryd.prog 15 #[.slice ax L.length cx, .slice ay L.length cy] v3 fun e w' => e = .returned (.bool true) ∧ Below v3.heap.size v3 w') := by
            have := eqBytes_any (w := v3) (c := cx) (d := cy) (HSx.out.to hb) hsy (by have := HLl.out; omega) (by have := HLl.out; omega)
            rwa [eqB_self] at this
          clear hsy hb HD HSl HSx HB2 p0 p1 p2
          go_wp2_with fail
          refine HE.out.mono ?_
          rintro e v4 ⟨rfl, hb⟩
          have HB4 : Hid (Below v.heap.size v v4) := below_to HB3.out hb
          clear hb HE HB3
          go_wp2_with fail
          go_roundw
          case rel => exact ⟨m + 1, by omega, by go_num, HB4.out⟩
          case measure => simp [intOf]; omega
        · clear hb
          go_wp2_with fail
          go_roundw
          case rel => exact ⟨n + 1, by omega, by go_num, HB.out⟩
          case measure => simp [intOf]; omega
    · obtain ⟨_, _, hgt, hbu⟩ := HAll.out wr HB.out
      have HGt : Hid _ := hgt
      have HBu : Hid _ := hbu
      clear hgt hbu
      go_wp2_with fail
      refine (works_true HGt.out).mono ?_
      rintro e w7 ⟨rfl, hb7⟩
      have HB7 : Hid (Below u.heap.size u w7) := below_to HBu.out hb7
      clear hb7
      go_wp2_with fail
      go_ret
      exact ⟨rfl, HB7.out⟩

end Go.Proofs.YtgmdanipcnkhdaaDoor
