/- DERIVED. Apart and New, the program's and the document's, whatever they are asked. -/
import Derived.Test.YtlgfkkegehpllabPt
import Derived.Test.YtlgfkkegehpllabLa
namespace Go.Proofs.Ytlgfkkegehpllab
open Go.RowKit

/-- planes of one size that may be -/
def APk (W H : Int) (C : List Nat) (W' H' : Int) (D : List Nat) : Prop := POk W H C ∧ POk W' H' D ∧ W = W' ∧ H = H'
noncomputable def apN (W H : Int) (C : List Nat) (W' H' : Int) (D : List Nat) : Nat := open Classical in if APk W H C W' H' D then apS C D C.length else 0
noncomputable def apE (W H : Int) (C : List Nat) (W' H' : Int) (D : List Nat) : Int := open Classical in if APk W H C W' H' D then 0 else 2
/-- what At answers -/
noncomputable def atV (W H : Int) (C : List Nat) (i j : Int) : Nat := open Classical in if POk W H C then C.getD (nr j H.toNat * W.toNat + nr i W.toNat) 0 else 0
theorem at_any {w : World} {a : Option Addr} {c : Nat} {C : List Nat} {W H i j : Int} (hs : Sl w .u8 a C) :
    Calls Try.prog 5 #[.agg #[.int .i64 W, .int .i64 H, .slice a C.length c], .int .i64 i, .int .i64 j] w fun e w' => e = .returned (.int .u8 (atV W H C i j : Nat)) ∧ Below w.heap.size w w' := by
  by_cases h : POk W H C
  · obtain ⟨x, y, rfl, rfl, b1, b2, b3, b4, hl⟩ := h.nat
    rw [show atV (x : Int) (y : Int) C i j = C.getD (nr j y * x + nr i x) 0 from by unfold atV; rw [if_pos h]; simp]
    exact at_ok hs b1 b2 b3 b4 hl
  · rw [show atV W H C i j = 0 from by unfold atV; rw [if_neg h]]
    exact at_no h
set_option maxHeartbeats 400000 in
theorem side_yes {u : World} {n : Int} (h0 : 1 ≤ n) (h1 : n ≤ 512) : Calls Try.prog 21 #[.int .i64 n] u fun e w' => e = .returned (.bool true) ∧ w' = u := by
  go_enter Try.func21, Try.ntmps21
  go_wp2
  go_ret
  exact ⟨rfl, rfl⟩
set_option maxHeartbeats 400000 in
theorem side_no {u : World} {n : Int} (h : n < 1 ∨ 512 < n) : Calls Try.prog 21 #[.int .i64 n] u fun e w' => e = .returned (.bool false) ∧ w' = u := by
  rcases (show n < 1 ∨ (1 ≤ n ∧ decide (n ≤ 512) = false) by rcases h with h | h; exact Or.inl h; exact Or.inr ⟨by omega, by simp; omega⟩) with h | ⟨h1, h2⟩
  · go_enter Try.func21, Try.ntmps21
    go_wp2
    go_ret
    exact ⟨rfl, rfl⟩
  · go_enter Try.func21, Try.ntmps21
    go_wp2
    all_goals
      go_ret
      exact ⟨by first | rfl | simp [h2], rfl⟩

set_option maxHeartbeats 1000000 in
theorem apart_bad2 {u : World} {a b : Option Addr} {c d : Nat} {C D : List Nat} {W H W' H' : Int} (hp : POk W H C) (hn : ¬ POk W' H' D) :
    Calls Try.prog 8 #[.agg #[.int .i64 W, .int .i64 H, .slice a C.length c], .agg #[.int .i64 W', .int .i64 H', .slice b D.length d]] u fun e w' => e = .returned (.tuple #[.int .u64 0, .int .i64 2]) ∧ Below u.heap.size u w' := by
  have hck : ck W H C = 0 := ck_ok hp
  have hck2 : ck W' H' D = 2 := ck_no hn
  clear hn hp
  go_enter Try.func8, Try.ntmps8
  go_wp2_with fail
  refine check_any.mono ?_
  rintro e w1 ⟨rfl, hb⟩
  rw [hck]
  have d0 : w1.cell? ⟨u.heap.size, 0, none⟩ = some (.int .i64 W) := by rw [newCell hb _ _ (by simp; omega)]; simp
  have d1 : w1.cell? ⟨u.heap.size, 1, none⟩ = some (.int .i64 H) := by rw [newCell hb _ _ (by simp; omega)]; simp
  have d3 : w1.cell? ⟨u.heap.size + 1, 0, none⟩ = some (.int .i64 W') := by rw [newCell hb _ _ (by simp)]; simp
  have d4 : w1.cell? ⟨u.heap.size + 1, 1, none⟩ = some (.int .i64 H') := by rw [newCell hb _ _ (by simp)]; simp
  have d5 : w1.cell? ⟨u.heap.size + 1, 2, none⟩ = some (.slice b D.length d) := by rw [newCell hb _ _ (by simp)]; simp
  have HB : Hid (Below u.heap.size u w1) := below_to (to_alloc (from_alloc u _) _) hb
  clear hb hck
  go_wp2_with fail
  refine check_any.mono ?_
  rintro e w2 ⟨rfl, hb⟩
  rw [hck2]
  have HB2 : Hid (Below u.heap.size u w2) := below_to HB.out hb
  clear hb
  go_wp2_with fail
  go_ret2
  exact ⟨rfl, HB2.out⟩

set_option maxHeartbeats 1000000 in
theorem apart_bad3 {u : World} {a b : Option Addr} {c d : Nat} {C D : List Nat} {W H W' H' : Int} (hp : POk W H C) (hp2 : POk W' H' D) (hn : ¬ (W = W' ∧ H = H')) :
    Calls Try.prog 8 #[.agg #[.int .i64 W, .int .i64 H, .slice a C.length c], .agg #[.int .i64 W', .int .i64 H', .slice b D.length d]] u fun e w' => e = .returned (.tuple #[.int .u64 0, .int .i64 2]) ∧ Below u.heap.size u w' := by
  have hck : ck W H C = 0 := ck_ok hp
  have hck2 : ck W' H' D = 0 := ck_ok hp2
  clear hp2 hp
  go_enter Try.func8, Try.ntmps8
  go_wp2_with fail
  refine check_any.mono ?_
  rintro e w1 ⟨rfl, hb⟩
  rw [hck]
  have d0 : w1.cell? ⟨u.heap.size, 0, none⟩ = some (.int .i64 W) := by rw [newCell hb _ _ (by simp; omega)]; simp
  have d1 : w1.cell? ⟨u.heap.size, 1, none⟩ = some (.int .i64 H) := by rw [newCell hb _ _ (by simp; omega)]; simp
  have d3 : w1.cell? ⟨u.heap.size + 1, 0, none⟩ = some (.int .i64 W') := by rw [newCell hb _ _ (by simp)]; simp
  have d4 : w1.cell? ⟨u.heap.size + 1, 1, none⟩ = some (.int .i64 H') := by rw [newCell hb _ _ (by simp)]; simp
  have d5 : w1.cell? ⟨u.heap.size + 1, 2, none⟩ = some (.slice b D.length d) := by rw [newCell hb _ _ (by simp)]; simp
  have HB : Hid (Below u.heap.size u w1) := below_to (to_alloc (from_alloc u _) _) hb
  have hz1 : u.heap.size + 2 ≤ w1.heap.size := by have := hb.size; simp at this; omega
  clear hb hck
  go_wp2_with fail
  refine check_any.mono ?_
  rintro e w2 ⟨rfl, hb⟩
  rw [hck2]
  have c0 : w2.cell? ⟨u.heap.size, 0, none⟩ = some (.int .i64 W) := by rw [newCell hb _ _ (by omega)]; exact d0
  have c1 : w2.cell? ⟨u.heap.size, 1, none⟩ = some (.int .i64 H) := by rw [newCell hb _ _ (by omega)]; exact d1
  have c3 : w2.cell? ⟨u.heap.size + 1, 0, none⟩ = some (.int .i64 W') := by rw [newCell hb _ _ (by omega)]; exact d3
  have c4 : w2.cell? ⟨u.heap.size + 1, 1, none⟩ = some (.int .i64 H') := by rw [newCell hb _ _ (by omega)]; exact d4
  have HB2 : Hid (Below u.heap.size u w2) := below_to HB.out hb
  clear hb d0 d1 d3 d4 d5
  by_cases hW : W = W'
  · have hH : ¬ H = H' := fun e => hn ⟨hW, e⟩
    have h1 : (W != W') = false := by simp [hW]
    have h2 : (H != H') = true := by simp [hH]
    clear hn hW hH
    go_wp2_with fail
    go_ret2
    exact ⟨rfl, HB2.out⟩
  · have h1 : (W != W') = true := by simp [hW]
    clear hn hW
    go_wp2_with fail
    go_ret2
    exact ⟨rfl, HB2.out⟩

theorem apart_any {u : World} {a b : Option Addr} {c d : Nat} {C D : List Nat} {W H W' H' : Int} (hs : Sl u .u8 a C) (hs2 : Sl u .u8 b D) (hC : Byt C) (hD : Byt D) :
    Calls Try.prog 8 #[.agg #[.int .i64 W, .int .i64 H, .slice a C.length c], .agg #[.int .i64 W', .int .i64 H', .slice b D.length d]] u fun e w' => e = .returned (.tuple #[.int .u64 (apN W H C W' H' D : Nat), .int .i64 (apE W H C W' H' D)]) ∧ Below u.heap.size u w' := by
  by_cases h : APk W H C W' H' D
  · obtain ⟨h1, h2, rfl, rfl⟩ := h
    rw [show apN W H C W H D = apS C D C.length from by unfold apN; rw [if_pos ⟨h1, h2, rfl, rfl⟩], show apE W H C W H D = 0 from by unfold apE; rw [if_pos ⟨h1, h2, rfl, rfl⟩]]
    exact apart_ok hs hs2 h1 h2 hC hD
  · rw [show apN W H C W' H' D = 0 from by unfold apN; rw [if_neg h], show apE W H C W' H' D = 2 from by unfold apE; rw [if_neg h]]
    by_cases h1 : POk W H C
    · by_cases h2 : POk W' H' D
      · exact apart_bad3 h1 h2 (fun k => h ⟨h1, h2, k.1, k.2⟩)
      · exact apart_bad2 h1 h2
    · exact apart_bad h1

set_option maxHeartbeats 1000000 in
set_option maxHeartbeats 1000000 in
set_option maxHeartbeats 1000000 in
set_option maxHeartbeats 1000000 in
theorem new_no {u : World} {W H : Int} {v : Nat} (h : ¬ (1 ≤ W ∧ W ≤ 512 ∧ 1 ≤ H ∧ H ≤ 512)) :
    Calls Try.prog 13 #[.int .i64 W, .int .i64 H, .int .u8 (v : Int)] u fun e w' => Pz u w' e := by
  rcases (show W < 1 ∨ (1 ≤ W ∧ 512 < W) ∨ (1 ≤ W ∧ W ≤ 512 ∧ H < 1) ∨ (1 ≤ W ∧ W ≤ 512 ∧ 1 ≤ H ∧ 512 < H) by omega) with h1 | ⟨h1, h2⟩ | ⟨h1, h2, h3⟩ | ⟨h1, h2, h3, h4⟩
  all_goals
    clear h
    go_enter Try.func13, Try.ntmps13
    go_wp2_with (go_at_call 21; first | (refine (side_yes (by omega) (by omega)).mono ?_; rintro e w1 ⟨rfl, rfl⟩) | (refine (side_no (by omega)).mono ?_; rintro e w1 ⟨rfl, rfl⟩))
    exact bodyPost_ret (v := .tuple #[.agg #[.int .i64 0, .int .i64 0, .slice none 0 0], .int .i64 2]) (by simp [results, Try.results13, go_sem]) rfl ⟨rfl, by go_grown⟩

set_option maxHeartbeats 1000000 in
def RnInv (v0 : World) (g n v : Nat) (iv : Value) (wr : World) : Prop := ∃ k : Nat, k ≤ n ∧ iv = .int .i64 k ∧ Rw wr g (splice (List.replicate n 0) 0 (List.replicate k v)) ∧ Kb g v0 wr


end Go.Proofs.Ytlgfkkegehpllab
