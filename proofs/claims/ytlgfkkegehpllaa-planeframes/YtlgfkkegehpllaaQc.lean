/- DERIVED. Apart and New, the program's and the document's, whatever they are asked. -/
import Derived.Test.YtlgfkkegehpllaaQb
import Derived.Test.YtlgfkkegehpllaaLa
namespace Go.Proofs.Ytlgfkkegehpllaa
open Go.RowKit

/-- planes of one size that may be -/
def APk (W H : Int) (C : List Nat) (W' H' : Int) (D : List Nat) : Prop := POk W H C ∧ POk W' H' D ∧ W = W' ∧ H = H'
noncomputable def apN (W H : Int) (C : List Nat) (W' H' : Int) (D : List Nat) : Nat := open Classical in if APk W H C W' H' D then apS C D C.length else 0
noncomputable def apE (W H : Int) (C : List Nat) (W' H' : Int) (D : List Nat) : Int := open Classical in if APk W H C W' H' D then 0 else 2
/-- what At answers -/
noncomputable def atV (W H : Int) (C : List Nat) (i j : Int) : Nat := open Classical in if POk W H C then C.getD (nr j H.toNat * W.toNat + nr i W.toNat) 0 else 0
theorem at_any {w : World} {a : Option Addr} {c : Nat} {C : List Nat} {W H i j : Int} (hs : Sl w .u8 a C) :
    Calls Try.prog 14 #[.agg #[.int .i64 W, .int .i64 H, .slice a C.length c], .int .i64 i, .int .i64 j] w fun e w' => e = .returned (.int .u8 (atV W H C i j : Nat)) ∧ Below w.heap.size w w' := by
  by_cases h : POk W H C
  · obtain ⟨x, y, rfl, rfl, b1, b2, b3, b4, hl⟩ := h.nat
    rw [show atV (x : Int) (y : Int) C i j = C.getD (nr j y * x + nr i x) 0 from by unfold atV; rw [if_pos h]; simp]
    exact at_ok hs b1 b2 b3 b4 hl
  · rw [show atV W H C i j = 0 from by unfold atV; rw [if_neg h]]
    exact at_no h
theorem rat_any {w : World} {a : Option Addr} {c : Nat} {C : List Nat} {W H i j : Int} (hs : Sl w .u8 a C) :
    Calls Try.prog 15 #[.agg #[.int .i64 W, .int .i64 H, .slice a C.length c], .int .i64 i, .int .i64 j] w fun e w' => e = .returned (.int .u8 (atV W H C i j : Nat)) ∧ Below w.heap.size w w' := by
  by_cases h : POk W H C
  · obtain ⟨x, y, rfl, rfl, b1, b2, b3, b4, hl⟩ := h.nat
    rw [show atV (x : Int) (y : Int) C i j = C.getD (nr j y * x + nr i x) 0 from by unfold atV; rw [if_pos h]; simp]
    exact rat_ok hs b1 b2 b3 b4 hl
  · rw [show atV W H C i j = 0 from by unfold atV; rw [if_neg h]]
    exact rat_no h

set_option maxHeartbeats 400000 in
theorem side_yes {u : World} {n : Int} (h0 : 1 ≤ n) (h1 : n ≤ 512) : Calls Try.prog 44 #[.int .i64 n] u fun e w' => e = .returned (.bool true) ∧ w' = u := by
  go_enter Try.func44, Try.ntmps44
  go_wp2
  go_ret
  exact ⟨rfl, rfl⟩
set_option maxHeartbeats 400000 in
theorem side_no {u : World} {n : Int} (h : n < 1 ∨ 512 < n) : Calls Try.prog 44 #[.int .i64 n] u fun e w' => e = .returned (.bool false) ∧ w' = u := by
  rcases (show n < 1 ∨ (1 ≤ n ∧ decide (n ≤ 512) = false) by rcases h with h | h; exact Or.inl h; exact Or.inr ⟨by omega, by simp; omega⟩) with h | ⟨h1, h2⟩
  · go_enter Try.func44, Try.ntmps44
    go_wp2
    go_ret
    exact ⟨rfl, rfl⟩
  · go_enter Try.func44, Try.ntmps44
    go_wp2
    all_goals
      go_ret
      exact ⟨by first | rfl | simp [h2], rfl⟩

set_option maxHeartbeats 1000000 in
theorem apart_bad2 {u : World} {a b : Option Addr} {c d : Nat} {C D : List Nat} {W H W' H' : Int} (hp : POk W H C) (hn : ¬ POk W' H' D) :
    Calls Try.prog 16 #[.agg #[.int .i64 W, .int .i64 H, .slice a C.length c], .agg #[.int .i64 W', .int .i64 H', .slice b D.length d]] u fun e w' => e = .returned (.tuple #[.int .u64 0, .int .i64 2]) ∧ Below u.heap.size u w' := by
  have hck : ck W H C = 0 := ck_ok hp
  have hck2 : ck W' H' D = 2 := ck_no hn
  clear hn hp
  go_enter Try.func16, Try.ntmps16
  go_wp2_with fail
  refine check_any.mono ?_
  rintro e w1 ⟨rfl, hb⟩
  rw [hck]
  have d0 : w1.cell? ⟨u.heap.size, 0, none⟩ = some (.int .i64 W) := by rw [newCell hb _ _ (by simp; omega)]; simp
  have d1 : w1.cell? ⟨u.heap.size, 1, none⟩ = some (.int .i64 H) := by rw [newCell hb _ _ (by simp; omega)]; simp
  have d3 : w1.cell? ⟨u.heap.size + 1, 0, none⟩ = some (.int .i64 W') := by rw [newCell hb _ _ (by simp)]; simp
  have d4 : w1.cell? ⟨u.heap.size + 1, 1, none⟩ = some (.int .i64 H') := by rw [newCell hb _ _ (by simp)]; simp
  have d5 : w1.cell? ⟨u.heap.size + 1, 2, none⟩ = some (.slice b D.length d) := by rw [newCell hb _ _ (by simp)]; simp
  have HB : Hid (Below u.heap.size u w1) := below_to (to_alloc (from_alloc u _) _) hb
  clear hb hck
  go_wp2_with fail
  refine check_any.mono ?_
  rintro e w2 ⟨rfl, hb⟩
  rw [hck2]
  have HB2 : Hid (Below u.heap.size u w2) := below_to HB.out hb
  clear hb
  go_wp2_with fail
  go_ret2
  exact ⟨rfl, HB2.out⟩

set_option maxHeartbeats 1000000 in
theorem apart_bad3 {u : World} {a b : Option Addr} {c d : Nat} {C D : List Nat} {W H W' H' : Int} (hp : POk W H C) (hp2 : POk W' H' D) (hn : ¬ (W = W' ∧ H = H')) :
    Calls Try.prog 16 #[.agg #[.int .i64 W, .int .i64 H, .slice a C.length c], .agg #[.int .i64 W', .int .i64 H', .slice b D.length d]] u fun e w' => e = .returned (.tuple #[.int .u64 0, .int .i64 2]) ∧ Below u.heap.size u w' := by
  have hck : ck W H C = 0 := ck_ok hp
  have hck2 : ck W' H' D = 0 := ck_ok hp2
  clear hp2 hp
  go_enter Try.func16, Try.ntmps16
  go_wp2_with fail
  refine check_any.mono ?_
  rintro e w1 ⟨rfl, hb⟩
  rw [hck]
  have d0 : w1.cell? ⟨u.heap.size, 0, none⟩ = some (.int .i64 W) := by rw [newCell hb _ _ (by simp; omega)]; simp
  have d1 : w1.cell? ⟨u.heap.size, 1, none⟩ = some (.int .i64 H) := by rw [newCell hb _ _ (by simp; omega)]; simp
  have d3 : w1.cell? ⟨u.heap.size + 1, 0, none⟩ = some (.int .i64 W') := by rw [newCell hb _ _ (by simp)]; simp
  have d4 : w1.cell? ⟨u.heap.size + 1, 1, none⟩ = some (.int .i64 H') := by rw [newCell hb _ _ (by simp)]; simp
  have d5 : w1.cell? ⟨u.heap.size + 1, 2, none⟩ = some (.slice b D.length d) := by rw [newCell hb _ _ (by simp)]; simp
  have HB : Hid (Below u.heap.size u w1) := below_to (to_alloc (from_alloc u _) _) hb
  have hz1 : u.heap.size + 2 ≤ w1.heap.size := by have := hb.size; simp at this; omega
  clear hb hck
  go_wp2_with fail
  refine check_any.mono ?_
  rintro e w2 ⟨rfl, hb⟩
  rw [hck2]
  have c0 : w2.cell? ⟨u.heap.size, 0, none⟩ = some (.int .i64 W) := by rw [newCell hb _ _ (by omega)]; exact d0
  have c1 : w2.cell? ⟨u.heap.size, 1, none⟩ = some (.int .i64 H) := by rw [newCell hb _ _ (by omega)]; exact d1
  have c3 : w2.cell? ⟨u.heap.size + 1, 0, none⟩ = some (.int .i64 W') := by rw [newCell hb _ _ (by omega)]; exact d3
  have c4 : w2.cell? ⟨u.heap.size + 1, 1, none⟩ = some (.int .i64 H') := by rw [newCell hb _ _ (by omega)]; exact d4
  have HB2 : Hid (Below u.heap.size u w2) := below_to HB.out hb
  clear hb d0 d1 d3 d4 d5
  by_cases hW : W = W'
  · have hH : ¬ H = H' := fun e => hn ⟨hW, e⟩
    have h1 : (W != W') = false := by simp [hW]
    have h2 : (H != H') = true := by simp [hH]
    clear hn hW hH
    go_wp2_with fail
    go_ret2
    exact ⟨rfl, HB2.out⟩
  · have h1 : (W != W') = true := by simp [hW]
    clear hn hW
    go_wp2_with fail
    go_ret2
    exact ⟨rfl, HB2.out⟩

theorem apart_any {u : World} {a b : Option Addr} {c d : Nat} {C D : List Nat} {W H W' H' : Int} (hs : Sl u .u8 a C) (hs2 : Sl u .u8 b D) (hC : Byt C) (hD : Byt D) :
    Calls Try.prog 16 #[.agg #[.int .i64 W, .int .i64 H, .slice a C.length c], .agg #[.int .i64 W', .int .i64 H', .slice b D.length d]] u fun e w' => e = .returned (.tuple #[.int .u64 (apN W H C W' H' D : Nat), .int .i64 (apE W H C W' H' D)]) ∧ Below u.heap.size u w' := by
  by_cases h : APk W H C W' H' D
  · obtain ⟨h1, h2, rfl, rfl⟩ := h
    rw [show apN W H C W H D = apS C D C.length from by unfold apN; rw [if_pos ⟨h1, h2, rfl, rfl⟩], show apE W H C W H D = 0 from by unfold apE; rw [if_pos ⟨h1, h2, rfl, rfl⟩]]
    exact apart_ok hs hs2 h1 h2 hC hD
  · rw [show apN W H C W' H' D = 0 from by unfold apN; rw [if_neg h], show apE W H C W' H' D = 2 from by unfold apE; rw [if_neg h]]
    by_cases h1 : POk W H C
    · by_cases h2 : POk W' H' D
      · exact apart_bad3 h1 h2 (fun k => h ⟨h1, h2, k.1, k.2⟩)
      · exact apart_bad2 h1 h2
    · exact apart_bad h1

set_option maxHeartbeats 1000000 in
theorem rapart_bad {u : World} {a b : Option Addr} {c d : Nat} {C D : List Nat} {W H W' H' : Int} (hn : ¬ POk W H C) :
    Calls Try.prog 17 #[.agg #[.int .i64 W, .int .i64 H, .slice a C.length c], .agg #[.int .i64 W', .int .i64 H', .slice b D.length d]] u fun e w' => e = .returned (.tuple #[.int .u64 0, .int .i64 2]) ∧ Below u.heap.size u w' := by
  have hck : ck W H C = 2 := ck_no hn
  clear hn
  go_enter Try.func17, Try.ntmps17
  go_wp2_with fail
  refine rcheck_any.mono ?_
  rintro e w1 ⟨rfl, hb⟩
  rw [hck]
  have HB : Hid (Below u.heap.size u w1) := below_to (to_alloc (from_alloc u _) _) hb
  clear hb hck
  go_wp2_with fail
  go_ret2
  exact ⟨rfl, HB.out⟩

set_option maxHeartbeats 1000000 in
theorem rapart_bad2 {u : World} {a b : Option Addr} {c d : Nat} {C D : List Nat} {W H W' H' : Int} (hp : POk W H C) (hn : ¬ POk W' H' D) :
    Calls Try.prog 17 #[.agg #[.int .i64 W, .int .i64 H, .slice a C.length c], .agg #[.int .i64 W', .int .i64 H', .slice b D.length d]] u fun e w' => e = .returned (.tuple #[.int .u64 0, .int .i64 2]) ∧ Below u.heap.size u w' := by
  have hck : ck W H C = 0 := ck_ok hp
  have hck2 : ck W' H' D = 2 := ck_no hn
  clear hn hp
  go_enter Try.func17, Try.ntmps17
  go_wp2_with fail
  refine rcheck_any.mono ?_
  rintro e w1 ⟨rfl, hb⟩
  rw [hck]
  have d0 : w1.cell? ⟨u.heap.size, 0, none⟩ = some (.int .i64 W) := by rw [newCell hb _ _ (by simp; omega)]; simp
  have d1 : w1.cell? ⟨u.heap.size, 1, none⟩ = some (.int .i64 H) := by rw [newCell hb _ _ (by simp; omega)]; simp
  have d3 : w1.cell? ⟨u.heap.size + 1, 0, none⟩ = some (.int .i64 W') := by rw [newCell hb _ _ (by simp)]; simp
  have d4 : w1.cell? ⟨u.heap.size + 1, 1, none⟩ = some (.int .i64 H') := by rw [newCell hb _ _ (by simp)]; simp
  have d5 : w1.cell? ⟨u.heap.size + 1, 2, none⟩ = some (.slice b D.length d) := by rw [newCell hb _ _ (by simp)]; simp
  have HB : Hid (Below u.heap.size u w1) := below_to (to_alloc (from_alloc u _) _) hb
  clear hb hck
  go_wp2_with fail
  refine rcheck_any.mono ?_
  rintro e w2 ⟨rfl, hb⟩
  rw [hck2]
  have HB2 : Hid (Below u.heap.size u w2) := below_to HB.out hb
  clear hb
  go_wp2_with fail
  go_ret2
  exact ⟨rfl, HB2.out⟩

set_option maxHeartbeats 1000000 in
theorem rapart_bad3 {u : World} {a b : Option Addr} {c d : Nat} {C D : List Nat} {W H W' H' : Int} (hp : POk W H C) (hp2 : POk W' H' D) (hn : ¬ (W = W' ∧ H = H')) :
    Calls Try.prog 17 #[.agg #[.int .i64 W, .int .i64 H, .slice a C.length c], .agg #[.int .i64 W', .int .i64 H', .slice b D.length d]] u fun e w' => e = .returned (.tuple #[.int .u64 0, .int .i64 2]) ∧ Below u.heap.size u w' := by
  have hck : ck W H C = 0 := ck_ok hp
  have hck2 : ck W' H' D = 0 := ck_ok hp2
  clear hp2 hp
  go_enter Try.func17, Try.ntmps17
  go_wp2_with fail
  refine rcheck_any.mono ?_
  rintro e w1 ⟨rfl, hb⟩
  rw [hck]
  have d0 : w1.cell? ⟨u.heap.size, 0, none⟩ = some (.int .i64 W) := by rw [newCell hb _ _ (by simp; omega)]; simp
  have d1 : w1.cell? ⟨u.heap.size, 1, none⟩ = some (.int .i64 H) := by rw [newCell hb _ _ (by simp; omega)]; simp
  have d3 : w1.cell? ⟨u.heap.size + 1, 0, none⟩ = some (.int .i64 W') := by rw [newCell hb _ _ (by simp)]; simp
  have d4 : w1.cell? ⟨u.heap.size + 1, 1, none⟩ = some (.int .i64 H') := by rw [newCell hb _ _ (by simp)]; simp
  have d5 : w1.cell? ⟨u.heap.size + 1, 2, none⟩ = some (.slice b D.length d) := by rw [newCell hb _ _ (by simp)]; simp
  have HB : Hid (Below u.heap.size u w1) := below_to (to_alloc (from_alloc u _) _) hb
  have hz1 : u.heap.size + 2 ≤ w1.heap.size := by have := hb.size; simp at this; omega
  clear hb hck
  go_wp2_with fail
  refine rcheck_any.mono ?_
  rintro e w2 ⟨rfl, hb⟩
  rw [hck2]
  have c0 : w2.cell? ⟨u.heap.size, 0, none⟩ = some (.int .i64 W) := by rw [newCell hb _ _ (by omega)]; exact d0
  have c1 : w2.cell? ⟨u.heap.size, 1, none⟩ = some (.int .i64 H) := by rw [newCell hb _ _ (by omega)]; exact d1
  have c3 : w2.cell? ⟨u.heap.size + 1, 0, none⟩ = some (.int .i64 W') := by rw [newCell hb _ _ (by omega)]; exact d3
  have c4 : w2.cell? ⟨u.heap.size + 1, 1, none⟩ = some (.int .i64 H') := by rw [newCell hb _ _ (by omega)]; exact d4
  have HB2 : Hid (Below u.heap.size u w2) := below_to HB.out hb
  clear hb d0 d1 d3 d4 d5
  by_cases hW : W = W'
  · have hH : ¬ H = H' := fun e => hn ⟨hW, e⟩
    have h1 : (W != W') = false := by simp [hW]
    have h2 : (H != H') = true := by simp [hH]
    clear hn hW hH
    go_wp2_with fail
    go_ret2
    exact ⟨rfl, HB2.out⟩
  · have h1 : (W != W') = true := by simp [hW]
    clear hn hW
    go_wp2_with fail
    go_ret2
    exact ⟨rfl, HB2.out⟩

theorem rapart_any {u : World} {a b : Option Addr} {c d : Nat} {C D : List Nat} {W H W' H' : Int} (hs : Sl u .u8 a C) (hs2 : Sl u .u8 b D) (hC : Byt C) (hD : Byt D) :
    Calls Try.prog 17 #[.agg #[.int .i64 W, .int .i64 H, .slice a C.length c], .agg #[.int .i64 W', .int .i64 H', .slice b D.length d]] u fun e w' => e = .returned (.tuple #[.int .u64 (apN W H C W' H' D : Nat), .int .i64 (apE W H C W' H' D)]) ∧ Below u.heap.size u w' := by
  by_cases h : APk W H C W' H' D
  · obtain ⟨h1, h2, rfl, rfl⟩ := h
    rw [show apN W H C W H D = apS C D C.length from by unfold apN; rw [if_pos ⟨h1, h2, rfl, rfl⟩], show apE W H C W H D = 0 from by unfold apE; rw [if_pos ⟨h1, h2, rfl, rfl⟩]]
    exact rapart_ok hs hs2 h1 h2 hC hD
  · rw [show apN W H C W' H' D = 0 from by unfold apN; rw [if_neg h], show apE W H C W' H' D = 2 from by unfold apE; rw [if_neg h]]
    by_cases h1 : POk W H C
    · by_cases h2 : POk W' H' D
      · exact rapart_bad3 h1 h2 (fun k => h ⟨h1, h2, k.1, k.2⟩)
      · exact rapart_bad2 h1 h2
    · exact rapart_bad h1

set_option maxHeartbeats 1000000 in
theorem new_no {u : World} {W H : Int} {v : Nat} (h : ¬ (1 ≤ W ∧ W ≤ 512 ∧ 1 ≤ H ∧ H ≤ 512)) :
    Calls Try.prog 18 #[.int .i64 W, .int .i64 H, .int .u8 (v : Int)] u fun e w' => Pz u w' e := by
  rcases (show W < 1 ∨ (1 ≤ W ∧ 512 < W) ∨ (1 ≤ W ∧ W ≤ 512 ∧ H < 1) ∨ (1 ≤ W ∧ W ≤ 512 ∧ 1 ≤ H ∧ 512 < H) by omega) with h1 | ⟨h1, h2⟩ | ⟨h1, h2, h3⟩ | ⟨h1, h2, h3, h4⟩
  all_goals
    clear h
    go_enter Try.func18, Try.ntmps18
    go_wp2_with (go_at_call 44; first | (refine (side_yes (by omega) (by omega)).mono ?_; rintro e w1 ⟨rfl, rfl⟩) | (refine (side_no (by omega)).mono ?_; rintro e w1 ⟨rfl, rfl⟩))
    exact bodyPost_ret (v := .tuple #[.agg #[.int .i64 0, .int .i64 0, .slice none 0 0], .int .i64 2]) (by simp [results, Try.results18, go_sem]) rfl ⟨rfl, by go_grown⟩

set_option maxHeartbeats 1000000 in
theorem rnew_no {u : World} {W H : Int} {v : Nat} (h : ¬ (1 ≤ W ∧ W ≤ 512 ∧ 1 ≤ H ∧ H ≤ 512)) :
    Calls Try.prog 19 #[.int .i64 W, .int .i64 H, .int .u8 (v : Int)] u fun e w' => Pz u w' e := by
  rcases (show W < 1 ∨ (1 ≤ W ∧ 512 < W) ∨ (1 ≤ W ∧ W ≤ 512 ∧ H < 1) ∨ (1 ≤ W ∧ W ≤ 512 ∧ 1 ≤ H ∧ 512 < H) by omega) with h1 | ⟨h1, h2⟩ | ⟨h1, h2, h3⟩ | ⟨h1, h2, h3, h4⟩
  all_goals
    clear h
    go_enter Try.func19, Try.ntmps19
    go_wp2_with fail
    exact bodyPost_ret (v := .tuple #[.agg #[.int .i64 0, .int .i64 0, .slice none 0 0], .int .i64 2]) (by simp [results, Try.results19, go_sem]) rfl ⟨rfl, by go_grown⟩


def RnInv (v0 : World) (g n v : Nat) (iv : Value) (wr : World) : Prop := ∃ k : Nat, k ≤ n ∧ iv = .int .i64 k ∧ Rw wr g (splice (List.replicate n 0) 0 (List.replicate k v)) ∧ Kb g v0 wr

set_option maxRecDepth 100000 in
set_option maxHeartbeats 2000000 in
theorem rnew_ok {u : World} {x y v : Nat} (hx0 : 1 ≤ x) (hx1 : x ≤ 512) (hy0 : 1 ≤ y) (hy1 : y ≤ 512) :
    Calls Try.prog 19 #[.int .i64 (x : Int), .int .i64 (y : Int), .int .u8 (v : Int)] u fun e w' => Pn u w' e x y (List.replicate (x * y) v) := by
  obtain ⟨n, hn⟩ : ∃ n, n = x * y := ⟨_, rfl⟩
  have hnb : n ≤ 262144 := by rw [hn]; exact prod_le hx1 hy1
  have en : (x : Int) * (y : Int) = (n : Int) := by rw [← Int.natCast_mul, hn]
  rw [← hn]
  have n1 : (n : Int) ≤ 262144 := by omega
  have hmk := mk_row (n := n) (by omega)
  have i1 : (1 : Int) ≤ (x : Int) := by omega
  have i2 : (x : Int) ≤ 512 := by omega
  have i3 : (1 : Int) ≤ (y : Int) := by omega
  have i4 : (y : Int) ≤ 512 := by omega
  clear hn
  obtain ⟨V, hV⟩ : ∃ V, V = (((u.alloc (.cells #[.int .i64 0, .int .i64 0, .slice none 0 0] 24)).alloc (.cells (madeCells #[.int .u8 0] n) 5)).alloc (.cells #[.int .i64 (x : Int), .int .i64 (y : Int), .slice (some ⟨u.heap.size + 1, 0, none⟩) n n] 24)) := ⟨_, rfl⟩
  have HR : Hid (Rw V (u.heap.size + 1) (List.replicate n 0)) := by unfold Hid; rw [hV]; exact (Rw.madeAt _ _ (by simp)).to (from_alloc _ _)
  have HB : Hid (Below u.heap.size u V) := by unfold Hid; rw [hV]; exact to_alloc (to_alloc (from_alloc _ _) _) _
  have hz : V.heap.size = u.heap.size + 3 := by rw [hV]; simp
  have c0 : V.cell? ⟨u.heap.size, 0, none⟩ = some (.int .i64 0) := by rw [hV]; simp [go_sem]
  have c1 : V.cell? ⟨u.heap.size, 1, none⟩ = some (.int .i64 0) := by rw [hV]; simp [go_sem]
  have c2 : V.cell? ⟨u.heap.size, 2, none⟩ = some (.slice none 0 0) := by rw [hV]; simp [go_sem]
  have f0 : ∀ o, V.frozen? ⟨u.heap.size, o, none⟩ = false := fun o => by rw [hV]; simp [go_sem]
  have q0 : V.cell? ⟨u.heap.size + 1 + 1, 0, none⟩ = some (.int .i64 (x : Int)) := by rw [hV]; simp [go_sem]
  have q1 : V.cell? ⟨u.heap.size + 1 + 1, 1, none⟩ = some (.int .i64 (y : Int)) := by rw [hV]; simp [go_sem]
  have q2 : V.cell? ⟨u.heap.size + 1 + 1, 2, none⟩ = some (.slice (some ⟨u.heap.size + 1, 0, none⟩) n n) := by rw [hV]; simp [go_sem]
  have HC0 : Hid _ := c0
  have HC1 : Hid _ := c1
  have HC2 : Hid _ := c2
  have HF : Hid _ := f0
  have Q0 : Hid _ := q0
  have Q1 : Hid _ := q1
  have Q2 : Hid _ := q2
  have HZ : Hid _ := hz
  clear c0 c1 c2 f0 q0 q1 q2 hz
  have HV : Hid _ := hV
  clear hV
  go_enter Try.func19, Try.ntmps19
  go_wp2_with fail
  rw [← HV.out]
  clear HV hmk
  go_loopw [9] (fun i wr => RnInv V (u.heap.size + 1) n v i wr) (fun i _ => n - (intOf i).toNat)
  case atStart => exact ⟨0, Nat.zero_le _, rfl, by rw [splice_rep_zero]; exact HR.out, Kb.refl _ _⟩
  case round =>
    obtain ⟨k, hk, rfl, hr, hkb⟩ := hrel
    have HR2 : Hid _ := hr
    have HK : Hid _ := hkb
    have q0 : wr.cell? ⟨u.heap.size + 1 + 1, 0, none⟩ = some (.int .i64 (x : Int)) := by rw [hkb.cell _ _ (by omega)]; exact Q0.out
    have q1 : wr.cell? ⟨u.heap.size + 1 + 1, 1, none⟩ = some (.int .i64 (y : Int)) := by rw [hkb.cell _ _ (by omega)]; exact Q1.out
    have q2 : wr.cell? ⟨u.heap.size + 1 + 1, 2, none⟩ = some (.slice (some ⟨u.heap.size + 1, 0, none⟩) n n) := by rw [hkb.cell _ _ (by omega)]; exact Q2.out
    by_cases hlt : k < n
    · have c1 := hr.cell k (by rw [splice_len _ _ _ (by simp; omega)]; simpa using hlt)
      have c2 := hr.thaw k
      generalize (splice (List.replicate n 0) 0 (List.replicate k v)).getD k 0 = old at c1
      have b0 : 0 ≤ (k : Int) := by omega
      have b1 : (k : Int) < (n : Int) := by omega
      have HS : Hid ((splice (List.replicate n 0) 0 (List.replicate k v)).set k v = splice (List.replicate n 0) 0 (List.replicate (k + 1) v)) := by
        have := splice_rep_step (C := List.replicate n 0) (o := 0) (k := k) (v := v) (by simpa using hlt)
        rwa [Nat.zero_add] at this
      clear hr hkb
      go_wp2_with fail
      go_roundw
      case rel => exact ⟨k + 1, by omega, by go_num, by rw [← HS.out]; exact HR2.out.set _ _, HK.out.trans (Kb.setCell _ _ _ _)⟩
      case measure => simp [intOf]; omega
    · have hk' : k = n := by omega
      subst hk'
      have c0 : wr.cell? ⟨u.heap.size, 0, none⟩ = some (.int .i64 0) := by rw [hkb.cell _ _ (by omega)]; exact HC0.out
      have c1 : wr.cell? ⟨u.heap.size, 1, none⟩ = some (.int .i64 0) := by rw [hkb.cell _ _ (by omega)]; exact HC1.out
      have c2 : wr.cell? ⟨u.heap.size, 2, none⟩ = some (.slice none 0 0) := by rw [hkb.cell _ _ (by omega)]; exact HC2.out
      have f0 : ∀ o, wr.frozen? ⟨u.heap.size, o, none⟩ = false := fun o => by rw [hkb.frozen _ _ (by omega)]; exact HF.out o
      clear hr hkb
      go_wp2_with fail
      have hr2 := HR2.out
      rw [splice_all (by simp)] at hr2
      refine bodyPost_ret (v := .tuple #[.agg #[.int .i64 (x : Int), .int .i64 (y : Int), .slice (some ⟨u.heap.size + 1, 0, none⟩) k k], .int .i64 0]) (by simp [results, Try.results19, go_sem, c0, c1, c2]) rfl ?_
      refine ⟨u.heap.size + 1, ret_pl (by simp), by omega, ((hr2.far (a := ⟨u.heap.size, 0, none⟩) (by simp) _).far (a := ⟨u.heap.size, 1, none⟩) (by simp) _).far (a := ⟨u.heap.size, 2, none⟩) (by simp) _, ?_⟩
      exact below_set (below_set (below_set (HB.out.trans (HK.out.below (by omega))) (by simp) _) (by simp) _) (by simp) _

end Go.Proofs.Ytlgfkkegehpllaa
