/- DERIVED. The walk of works. -/
import Derived.Test.YtddnnlofdicgkabDoorHl
namespace Go.Proofs.YtddnnlofdicgkabDoor
open Go.RowKit

/-- a row of one's own and no error, its length told -/
def N5 (w w' : World) (e : Ending) (M : Nat) (C : List Int) : Prop := ∃ g c, e = .returned (.tuple #[.slice (some ⟨g, 0, none⟩) M c, .int .i64 0]) ∧ C.length = M ∧ Oi w' w.heap.size (some ⟨g, 0, none⟩) M c C ∧ Below w.heap.size w w'
theorem tinv_go {w : World} {b o c s n k M L : Nat} {C R : List Int} (hq : Qt w) (hs : Si w (some ⟨b, o, none⟩) C) (hn : C.length = M) (hcap : M ≤ c) (hbl : b < w.heap.size) (hk : (k : Int) ∈ tys (n : Int)) (hsd : s = min n 32) (hC : M = s * s) (hM : Mst C 1048576) (hR : tab n (invF n s k C) = R) (hL : L = n * n) :
    Calls Tryd.prog 10 #[.int .i64 (n : Int), .int .i64 (k : Int), .slice (some ⟨b, o, none⟩) M c] w fun e w' => N5 w w' e L R := by
  subst hn
  refine (tinv_ok hq hs hcap hbl hk hsd hC hM).mono ?_
  rintro e w' ⟨g, c', rfl, ho, hb⟩
  subst hR
  rw [tab_len, ← hL] at ho
  exact ⟨g, c', by rw [tab_len, ← hL], by rw [tab_len, ← hL], ho, hb⟩
theorem tfwd_go {w : World} {b o c s n k M L : Nat} {C R : List Int} (hq : Qt w) (hs : Si w (some ⟨b, o, none⟩) C) (hn : C.length = M) (hcap : M ≤ c) (hbl : b < w.heap.size) (hk : (k : Int) ∈ tys (n : Int)) (hsd : s = min n 32) (hC : M = n * n) (hM : Mst C 255) (hR : tab s (fwdF n k C) = R) (hL : L = s * s) :
    Calls Tryd.prog 11 #[.int .i64 (n : Int), .int .i64 (k : Int), .slice (some ⟨b, o, none⟩) M c] w fun e w' => N5 w w' e L R := by
  subst hn
  refine (tfwd_ok hq hs hcap hbl hk hsd hC hM).mono ?_
  rintro e w' ⟨g, c', rfl, ho, hb⟩
  subst hR
  rw [tab_len, ← hL] at ho
  exact ⟨g, c', by rw [tab_len, ← hL], by rw [tab_len, ← hL], ho, hb⟩
theorem eq_yes {w : World} {a b : Option Addr} {n m c d : Nat} {C D : List Int} (h1 : Si w a C) (h2 : Si w b D) (hn : C.length = n) (hm : D.length = m) (e : C = D) (hl : n ≤ 140737488355328) :
    Calls Tryd.prog 12 #[.slice a n c, .slice b m d] w fun e w' => e = .returned (.bool true) ∧ Below w.heap.size w w' := by
  subst e; subst hn; subst hm
  have := eqInts_any (c := c) (d := d) h1 h2 hl hl
  rwa [eqI_self] at this
theorem Ri.low {t : Nat} {w : World} {g : Nat} {C : List Int} (h : Ri t w g C) : g < w.heap.size := h.lt
def mstB (C : List Int) (M : Int) : Bool := bdB C M
theorem wk1 : tab 4 (fwdF 4 0 (fs 16 10 10)) = fs 16 316 0 := by decide +kernel
theorem wk2 : tab 4 (invF 4 4 0 (fs 16 320 0)) = fs 16 10 10 := by decide +kernel
theorem wk3 : tab 4 (invF 4 4 9 (fs 16 4 0)) = fs 16 1 1 := by decide +kernel
theorem wk4 : tab 4 (fwdF 4 9 (fs 16 3 3)) = fs 16 12 0 := by decide +kernel
theorem kin4 (k : Nat) (h : k < 10) : (k : Int) ∈ tys ((4 : Nat) : Int) := by
  show _ ∈ upL 10
  exact List.mem_map.2 ⟨k, List.mem_range.2 h, rfl⟩

set_option maxRecDepth 100000 in
set_option maxHeartbeats 1000000 in
theorem works_any {w : World} (hq : Qt w) : Calls Tryd.prog 5 #[] w fun e w' => e = .returned (.bool true) ∧ Below w.heap.size w w' := by
  have HQ0 : Hid (Qt w) := hq
  have HB0 : Hid (Below w.heap.size w w) := Below.refl _ _
  clear hq
  go_enter Tryd.func5, Tryd.ntmps5
  go_wp2_with fail
  refine (first_any (n := 16) (v := 10) (x := 10) (by omega) (by omega)).mono ?_
  rintro e w1a ⟨rfl, hr, hb⟩
  have HRa1 : Hid (Ri 3 w1a w.heap.size (fs 16 10 10)) := hr
  have HBa1 : Hid (Below w.heap.size w w1a) := below_to HB0.out hb
  have HQa1 : Hid (Qt w1a) := HQ0.out.to hb
  clear hr hb
  go_wp2_with fail
  refine (tfwd_go (n := 4) (k := 0) (s := 4) (M := 16) (L := 16) HQa1.out HRa1.out.si (fs_len _ _ _) (by omega) HRa1.out.lt (kin4 0 (by omega)) rfl rfl (bdB_mst (by decide +kernel)) wk1 rfl).mono ?_
  rintro e w1b ⟨g1, c1, rfl, -, ho, hb⟩
  have HOg1_1 : Hid (Si w1b (some ⟨g1, 0, none⟩) (fs 16 316 0)) := ho.si
  have HB1 : Hid (Below w.heap.size w w1b) := below_to HBa1.out hb
  have HQ1 : Hid (Qt w1b) := HQa1.out.to hb
  clear ho hb HRa1 HQa1 HQ0
  go_wp2_with fail
  refine (first_any (n := 16) (v := 320) (x := 0) (by omega) (by omega)).mono ?_
  rintro e w2a ⟨rfl, hr, hb⟩
  have HRa2 : Hid (Ri 3 w2a w1b.heap.size (fs 16 320 0)) := hr
  have HBa2 : Hid (Below w.heap.size w w2a) := below_to HB1.out hb
  have HQa2 : Hid (Qt w2a) := HQ1.out.to hb
  have HOg1_2a : Hid (Si w2a (some ⟨g1, 0, none⟩) (fs 16 316 0)) := HOg1_1.out.to hb
  clear hr hb
  go_wp2_with fail
  refine (tinv_go (n := 4) (k := 0) (s := 4) (M := 16) (L := 16) HQa2.out HRa2.out.si (fs_len _ _ _) (by omega) HRa2.out.lt (kin4 0 (by omega)) rfl rfl (bdB_mst (by decide +kernel)) wk2 rfl).mono ?_
  rintro e w2b ⟨g2, c2, rfl, -, ho, hb⟩
  have HOg2_2 : Hid (Si w2b (some ⟨g2, 0, none⟩) (fs 16 10 10)) := ho.si
  have HB2 : Hid (Below w.heap.size w w2b) := below_to HBa2.out hb
  have HQ2 : Hid (Qt w2b) := HQa2.out.to hb
  have HOg1_2 : Hid (Si w2b (some ⟨g1, 0, none⟩) (fs 16 316 0)) := HOg1_2a.out.to hb
  clear ho hb HRa2 HQa2 HQ1
  go_wp2_with fail
  refine (first_any (n := 16) (v := 4) (x := 0) (by omega) (by omega)).mono ?_
  rintro e w3a ⟨rfl, hr, hb⟩
  have HRa3 : Hid (Ri 3 w3a w2b.heap.size (fs 16 4 0)) := hr
  have HBa3 : Hid (Below w.heap.size w w3a) := below_to HB2.out hb
  have HQa3 : Hid (Qt w3a) := HQ2.out.to hb
  have HOg1_3a : Hid (Si w3a (some ⟨g1, 0, none⟩) (fs 16 316 0)) := HOg1_2.out.to hb
  have HOg2_3a : Hid (Si w3a (some ⟨g2, 0, none⟩) (fs 16 10 10)) := HOg2_2.out.to hb
  clear hr hb
  go_wp2_with fail
  refine (tinv_go (n := 4) (k := 9) (s := 4) (M := 16) (L := 16) HQa3.out HRa3.out.si (fs_len _ _ _) (by omega) HRa3.out.lt (kin4 9 (by omega)) rfl rfl (bdB_mst (by decide +kernel)) wk3 rfl).mono ?_
  rintro e w3b ⟨g3, c3, rfl, -, ho, hb⟩
  have HOg3_3 : Hid (Si w3b (some ⟨g3, 0, none⟩) (fs 16 1 1)) := ho.si
  have HB3 : Hid (Below w.heap.size w w3b) := below_to HBa3.out hb
  have HQ3 : Hid (Qt w3b) := HQa3.out.to hb
  have HOg1_3 : Hid (Si w3b (some ⟨g1, 0, none⟩) (fs 16 316 0)) := HOg1_3a.out.to hb
  have HOg2_3 : Hid (Si w3b (some ⟨g2, 0, none⟩) (fs 16 10 10)) := HOg2_3a.out.to hb
  clear ho hb HRa3 HQa3 HQ2
  go_wp2_with fail
  refine (first_any (n := 16) (v := 3) (x := 3) (by omega) (by omega)).mono ?_
  rintro e w4a ⟨rfl, hr, hb⟩
  have HRa4 : Hid (Ri 3 w4a w3b.heap.size (fs 16 3 3)) := hr
  have HBa4 : Hid (Below w.heap.size w w4a) := below_to HB3.out hb
  have HQa4 : Hid (Qt w4a) := HQ3.out.to hb
  have HOg1_4a : Hid (Si w4a (some ⟨g1, 0, none⟩) (fs 16 316 0)) := HOg1_3.out.to hb
  have HOg2_4a : Hid (Si w4a (some ⟨g2, 0, none⟩) (fs 16 10 10)) := HOg2_3.out.to hb
  have HOg3_4a : Hid (Si w4a (some ⟨g3, 0, none⟩) (fs 16 1 1)) := HOg3_3.out.to hb
  clear hr hb
  go_wp2_with fail
  refine (tfwd_go (n := 4) (k := 9) (s := 4) (M := 16) (L := 16) HQa4.out HRa4.out.si (fs_len _ _ _) (by omega) HRa4.out.lt (kin4 9 (by omega)) rfl rfl (bdB_mst (by decide +kernel)) wk4 rfl).mono ?_
  rintro e w4b ⟨g4, c4, rfl, -, ho, hb⟩
  have HOg4_4 : Hid (Si w4b (some ⟨g4, 0, none⟩) (fs 16 12 0)) := ho.si
  have HB4 : Hid (Below w.heap.size w w4b) := below_to HBa4.out hb
  have HQ4 : Hid (Qt w4b) := HQa4.out.to hb
  have HOg1_4 : Hid (Si w4b (some ⟨g1, 0, none⟩) (fs 16 316 0)) := HOg1_4a.out.to hb
  have HOg2_4 : Hid (Si w4b (some ⟨g2, 0, none⟩) (fs 16 10 10)) := HOg2_4a.out.to hb
  have HOg3_4 : Hid (Si w4b (some ⟨g3, 0, none⟩) (fs 16 1 1)) := HOg3_4a.out.to hb
  clear ho hb HRa4 HQa4 HQ3
  go_wp2_with fail
  refine (first_any (n := 16) (v := 316) (x := 0) (by omega) (by omega)).mono ?_
  rintro e w5a ⟨rfl, hr, hb⟩
  have HRa5 : Hid (Ri 3 w5a w4b.heap.size (fs 16 316 0)) := hr
  have HBa5 : Hid (Below w.heap.size w w5a) := below_to HB4.out hb
  have HOg1_5a : Hid (Si w5a (some ⟨g1, 0, none⟩) (fs 16 316 0)) := HOg1_4.out.to hb
  have HOg2_5a : Hid (Si w5a (some ⟨g2, 0, none⟩) (fs 16 10 10)) := HOg2_4.out.to hb
  have HOg3_5a : Hid (Si w5a (some ⟨g3, 0, none⟩) (fs 16 1 1)) := HOg3_4.out.to hb
  have HOg4_5a : Hid (Si w5a (some ⟨g4, 0, none⟩) (fs 16 12 0)) := HOg4_4.out.to hb
  clear hr hb
  go_wp2_with fail
  refine (eq_yes HOg1_5a.out HRa5.out.si (fs_len _ _ _) (fs_len _ _ _) rfl (by omega)).mono ?_
  rintro e w5b ⟨rfl, hb⟩
  have HB5 : Hid (Below w.heap.size w w5b) := below_to HBa5.out hb
  have HOg2_5 : Hid (Si w5b (some ⟨g2, 0, none⟩) (fs 16 10 10)) := HOg2_5a.out.to hb
  have HOg3_5 : Hid (Si w5b (some ⟨g3, 0, none⟩) (fs 16 1 1)) := HOg3_5a.out.to hb
  have HOg4_5 : Hid (Si w5b (some ⟨g4, 0, none⟩) (fs 16 12 0)) := HOg4_5a.out.to hb
  clear hb HRa5
  go_wp2_with fail
  refine (first_any (n := 16) (v := 10) (x := 10) (by omega) (by omega)).mono ?_
  rintro e w6a ⟨rfl, hr, hb⟩
  have HRa6 : Hid (Ri 3 w6a w5b.heap.size (fs 16 10 10)) := hr
  have HBa6 : Hid (Below w.heap.size w w6a) := below_to HB5.out hb
  have HOg2_6a : Hid (Si w6a (some ⟨g2, 0, none⟩) (fs 16 10 10)) := HOg2_5.out.to hb
  have HOg3_6a : Hid (Si w6a (some ⟨g3, 0, none⟩) (fs 16 1 1)) := HOg3_5.out.to hb
  have HOg4_6a : Hid (Si w6a (some ⟨g4, 0, none⟩) (fs 16 12 0)) := HOg4_5.out.to hb
  clear hr hb
  go_wp2_with fail
  refine (eq_yes HOg2_6a.out HRa6.out.si (fs_len _ _ _) (fs_len _ _ _) rfl (by omega)).mono ?_
  rintro e w6b ⟨rfl, hb⟩
  have HB6 : Hid (Below w.heap.size w w6b) := below_to HBa6.out hb
  have HOg3_6 : Hid (Si w6b (some ⟨g3, 0, none⟩) (fs 16 1 1)) := HOg3_6a.out.to hb
  have HOg4_6 : Hid (Si w6b (some ⟨g4, 0, none⟩) (fs 16 12 0)) := HOg4_6a.out.to hb
  clear hb HRa6
  go_wp2_with fail
  refine (first_any (n := 16) (v := 1) (x := 1) (by omega) (by omega)).mono ?_
  rintro e w7a ⟨rfl, hr, hb⟩
  have HRa7 : Hid (Ri 3 w7a w6b.heap.size (fs 16 1 1)) := hr
  have HBa7 : Hid (Below w.heap.size w w7a) := below_to HB6.out hb
  have HOg3_7a : Hid (Si w7a (some ⟨g3, 0, none⟩) (fs 16 1 1)) := HOg3_6.out.to hb
  have HOg4_7a : Hid (Si w7a (some ⟨g4, 0, none⟩) (fs 16 12 0)) := HOg4_6.out.to hb
  clear hr hb
  go_wp2_with fail
  refine (eq_yes HOg3_7a.out HRa7.out.si (fs_len _ _ _) (fs_len _ _ _) rfl (by omega)).mono ?_
  rintro e w7b ⟨rfl, hb⟩
  have HB7 : Hid (Below w.heap.size w w7b) := below_to HBa7.out hb
  have HOg4_7 : Hid (Si w7b (some ⟨g4, 0, none⟩) (fs 16 12 0)) := HOg4_7a.out.to hb
  clear hb HRa7
  go_wp2_with fail
  refine (first_any (n := 16) (v := 12) (x := 0) (by omega) (by omega)).mono ?_
  rintro e w8a ⟨rfl, hr, hb⟩
  have HRa8 : Hid (Ri 3 w8a w7b.heap.size (fs 16 12 0)) := hr
  have HBa8 : Hid (Below w.heap.size w w8a) := below_to HB7.out hb
  have HOg4_8a : Hid (Si w8a (some ⟨g4, 0, none⟩) (fs 16 12 0)) := HOg4_7.out.to hb
  clear hr hb
  go_wp2_with fail
  refine (eq_yes HOg4_8a.out HRa8.out.si (fs_len _ _ _) (fs_len _ _ _) rfl (by omega)).mono ?_
  rintro e w8b ⟨rfl, hb⟩
  have HB8 : Hid (Below w.heap.size w w8b) := below_to HBa8.out hb
  clear hb HRa8
  go_wp2_with fail
  go_ret
  exact ⟨rfl, HB8.out⟩

end Go.Proofs.YtddnnlofdicgkabDoor
