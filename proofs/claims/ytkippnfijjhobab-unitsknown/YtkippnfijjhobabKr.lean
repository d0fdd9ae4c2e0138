/- DERIVED. Join, grouped, Units of what UnitsKnown says. -/
import Derived.Test.YtkippnfijjhobabKq
namespace Go.Proofs.Ytkippnfijjhobab
open Go.RowKit

/-- a slice of noughts, just made: an object that none may look into -/
theorem zeros_u8 (n : Nat) : madeCells #[.int .u8 0] n = (bs (List.replicate n 0)).toArray := by
  refine Array.ext (by simp [madeCells, bs]) fun j h1 h2 => ?_
  simp [madeCells, bs, Nat.mod_one]
theorem made_u8 (n : Nat) (hn : n ≤ 140737488355328) : ∃ (O : Obj) (Z : List Nat), Z.length = n ∧ (∀ i, Z.getD i 0 = 0) ∧ Z = List.replicate n 0 ∧ (∀ u : World, (Instr.makeSlice 24 (.int .i64 (n : Int)) (.int .i64 (n : Int))).run Try.prog u = .ok (.slice (some ⟨u.heap.size, 0, none⟩) n n) (u.alloc O)) ∧ ∀ u : World, By (u.alloc O) (u.heap.size + 1) (.slice (some ⟨u.heap.size, 0, none⟩) n n) Z := by
  have hz : ∀ i, (List.replicate n 0).getD i 0 = 0 := fun i => by
    rw [List.getD_eq_getElem?_getD, List.getElem?_replicate]
    split <;> rfl
  refine ⟨.cells (madeCells #[.int .u8 0] n) 5, List.replicate n 0, by simp, hz, rfl, fun u => run_make_row' 24 5 (.int .u8 0) 1 Try.underlying24 Try.info5 rfl .i64 .i64 n (by omega) (by omega) u, fun u => ?_⟩
  rw [zeros_u8]
  have hl : (List.replicate n 0).length = n := by simp
  refine ⟨⟨some ⟨u.heap.size, 0, none⟩, n, by rw [hl], by omega, (fun e => nomatch e), Or.inr ⟨u.heap.size, 0, rfl, by omega, fun j hj => ?_⟩⟩, fun i => by rw [hz]; omega, by omega⟩
  have := World.news_of_block (cs := (bs (List.replicate n 0)).toArray) (heap_alloc_new u (.cells (bs (List.replicate n 0)).toArray 5)) j _ (bs_get _ j hj)
  rw [addr_add] at this
  exact this
/-- pieces that were just built -/
theorem ob_lit {u : World} {cs : Array Value} {n : Nat} (L : List Oh) (P : List Pc) (hcs : cs = (oc L).toArray) (hn : n = P.length) (h : Hs u u.heap.size L P) : Ob (u.alloc (.cells cs 29)) (u.heap.size + 1) (.slice (some ⟨u.heap.size, 0, none⟩) n n) P := by
  subst hcs hn
  refine ⟨some ⟨u.heap.size, 0, none⟩, P.length, L, rfl, Nat.le_refl _, Or.inr ⟨u.heap.size, 0, rfl, by omega, fun j hj => ?_⟩, (h.below (from_alloc _ _) (Nat.le_refl _)).mono (by omega)⟩
  obtain ⟨h1, h2⟩ := oc_at L j hj
  have hn := World.news_of_block (cs := (oc L).toArray) (heap_alloc_new u (.cells (oc L).toArray 29))
  have k1 := hn (j * 2) _ (by simpa using h1)
  have k2 := hn (j * 2 + 1) _ (by simpa using h2)
  rw [addr_add] at k1 k2
  exact ⟨k1, by rw [Nat.add_assoc]; exact k2⟩
theorem hs_nil (u : World) (N : Nat) : Hs u N [] [] := ⟨rfl, fun j hj => by simp at hj⟩
theorem hs_cons {u : World} {N : Nat} {h : Oh} {p : Pc} {L : List Oh} {P : List Pc} (h1 : Hd1 u N h p) (h2 : Hs u N L P) : Hs u N (h :: L) (p :: P) := by
  refine ⟨by simp [h2.len], fun j hj => ?_⟩
  cases j with
  | zero => exact h1
  | succ j => simpa [List.getD_eq_getElem?_getD] using h2.at' j (by simpa using hj)
theorem hd_nil {u : World} {N : Nat} (t : Int) : Hd1 u N (t, none, 0, 0) (t, []) := ⟨rfl, by_nil _ _⟩
theorem hd_by {u : World} {N n c : Nat} {a : Option Addr} {C : List Nat} (t : Int) (h : By u N (.slice a n c) C) : Hd1 u N (t, a, n, c) (t, C) := ⟨rfl, h⟩
/-- Join of pieces just built -/
theorem join_lit {w u : World} {cs : Array Value} {n : Nat} {R : List Nat × Nat} (L : List Oh) (P : List Pc) (hu : Below w.heap.size w u) (h : Hs u u.heap.size L P) (hcs : cs = (oc L).toArray) (hn : n = P.length) (hz : szP P ≤ 1099511627776) (hl : P.length ≤ 1000) (hR : joinP P [] = R) :
    Calls Try.prog 5 #[.slice (some ⟨u.heap.size, 0, none⟩) n n] (u.alloc (.cells cs 29)) fun e w' => ∃ a c, e = .returned (.tuple #[.slice a R.1.length c, .int .i64 (R.2 : Int)]) ∧ w'.ownsRow w.heap.size 5 1 (.slice a R.1.length c) R.1.length (bs R.1) ∧ Below w.heap.size w w' := by
  subst hR
  refine (join_any (ob_lit L P hcs hn h) (by simp) hz (by omega)).mono ?_
  rintro e w' ⟨a, c, rfl, h1, h2⟩
  exact ⟨a, c, rfl, own_mono h1 (by have := hu.size; simp; omega), below_to (below_to hu (from_alloc _ _)) h2⟩
/-- what a refused Join answers -/
theorem join_err {w u : World} {cs : Array Value} {n : Nat} {E : Int} (e : Nat) (L : List Oh) (P : List Pc) (hu : Below w.heap.size w u) (h : Hs u u.heap.size L P) (hcs : cs = (oc L).toArray) (hn : n = P.length) (hz : szP P ≤ 1099511627776) (hl : P.length ≤ 1000) (hR : joinP P [] = ([], e)) (hE : (e : Int) = E) :
    Calls Try.prog 5 #[.slice (some ⟨u.heap.size, 0, none⟩) n n] (u.alloc (.cells cs 29)) fun e w' => ∃ a c, e = .returned (.tuple #[.slice a 0 c, .int .i64 E]) ∧ Below w.heap.size w w' := by
  refine (join_lit L P hu h hcs hn hz hl hR).mono ?_
  rintro e w' ⟨a, c, rfl, _, h2⟩
  exact ⟨a, c, by simp [hE], h2⟩
theorem jn3 {w u : World} (hu : Below w.heap.size w u) : Calls Try.prog 5 #[.slice (some ⟨u.heap.size, 0, none⟩) 1 1] (u.alloc (.cells #[.int .i64 0, .slice none 0 0] 29)) fun e w' => ∃ a c, e = .returned (.tuple #[.slice a 0 c, .int .i64 2]) ∧ Below w.heap.size w w' :=
  join_err 2 [(0, none, 0, 0)] [(0, [])] hu (hs_cons (hd_nil 0) (hs_nil _ _)) rfl rfl (by decide) (by decide) (by decide +kernel) rfl
theorem jn4 {w u : World} (hu : Below w.heap.size w u) : Calls Try.prog 5 #[.slice (some ⟨u.heap.size, 0, none⟩) 2 2] (u.alloc (.cells #[.int .i64 1, .slice none 0 0, .int .i64 4, .slice none 0 0] 29)) fun e w' => ∃ a c, e = .returned (.tuple #[.slice a 0 c, .int .i64 2]) ∧ Below w.heap.size w w' :=
  join_err 2 [(1, none, 0, 0), (4, none, 0, 0)] [(1, []), (4, [])] hu (hs_cons (hd_nil 1) (hs_cons (hd_nil 4) (hs_nil _ _))) rfl rfl (by decide) (by decide) (by decide +kernel) rfl
theorem jn5 {w u : World} (hu : Below w.heap.size w u) : Calls Try.prog 5 #[.slice none 0 0] u fun e w' => ∃ a c, e = .returned (.tuple #[.slice a 0 c, .int .i64 0]) ∧ Below w.heap.size w w' := by
  have h : Ob u 0 (.slice none 0 0) [] := ⟨none, 0, [], rfl, Nat.le_refl _, Or.inl rfl, hs_nil _ _⟩
  refine (join_any h (by omega) (by decide) (by simp)).mono ?_
  rintro e w' ⟨a, c, rfl, _, h2⟩
  exact ⟨a, c, rfl, below_to hu h2⟩
theorem jn2 {w u : World} {Z : List Nat} {g : Nat} (hu : Below w.heap.size w u) (hZ : Z = List.replicate 200 0) (hg : By u u.heap.size (.slice (some ⟨g, 0, none⟩) 200 200) Z) : Calls Try.prog 5 #[.slice (some ⟨u.heap.size, 0, none⟩) 2 2] (u.alloc (.cells #[.int .i64 2, .slice none 0 0, .int .i64 1, .slice (some ⟨g, 0, none⟩) 200 200] 29)) fun e w' => ∃ a c C, e = .returned (.tuple #[.slice a 205 c, .int .i64 0]) ∧ 205 ≤ c ∧ C.length = 205 ∧ C.take 5 = [32, 0, 16, 200, 1] ∧ By w' w'.heap.size (.slice a 205 c) C ∧ Below w.heap.size w w' := by
  subst hZ
  refine (join_lit (R := ([32, 0, 16, 200, 1] ++ List.replicate 200 0, 0)) [(2, none, 0, 0), (1, some ⟨g, 0, none⟩, 200, 200)] [(2, []), (1, List.replicate 200 0)] hu (hs_cons (hd_nil 2) (hs_cons (hd_by 1 hg) (hs_nil _ _))) rfl rfl (by decide +kernel) (by decide) (by decide +kernel)).mono ?_
  rintro e w' ⟨a, c, rfl, h1, h2⟩
  have hl : ([32, 0, 16, 200, 1] ++ List.replicate 200 0).length = 205 := by decide +kernel
  simp only [hl] at h1 ⊢
  exact ⟨a, c, _, rfl, (own_form h1).1, hl, by decide +kernel, By.ofOwn hl.symm h1 (small_byt (by decide +kernel)) (by rw [hl]; omega), h2⟩
theorem joinP_big {P : List Pc} {Z : List Nat} (h : 16777216 < Z.length) : joinP ((3, Z) :: P) [] = ([], 5) := by
  rw [joinP, if_neg (show ¬ tyB 3 = false by decide), if_pos h]
theorem jn7 {w u : World} {Z : List Nat} {g : Nat} (hu : Below w.heap.size w u) (hZ : Z.length = 16777217) (hg : By u u.heap.size (.slice (some ⟨g, 0, none⟩) 16777217 16777217) Z) : Calls Try.prog 5 #[.slice (some ⟨u.heap.size, 0, none⟩) 1 1] (u.alloc (.cells #[.int .i64 3, .slice (some ⟨g, 0, none⟩) 16777217 16777217] 29)) fun e w' => ∃ a c, e = .returned (.tuple #[.slice a 0 c, .int .i64 5]) ∧ Below w.heap.size w w' :=
  join_err 5 [(3, some ⟨g, 0, none⟩, 16777217, 16777217)] [(3, Z)] hu (hs_cons (hd_by 3 hg) (hs_nil _ _)) rfl rfl (by simp [szP, hZ]) (by simp) (joinP_big (by omega)) rfl
theorem jn8 {w u : World} {Z : List Nat} {g : Nat} (hu : Below w.heap.size w u) (hZ : Z.length = 16777217) (hg : By u u.heap.size (.slice (some ⟨g, 0, none⟩) 16777217 16777217) Z) : Calls Try.prog 5 #[.slice (some ⟨u.heap.size, 0, none⟩) 2 2] (u.alloc (.cells #[.int .i64 3, .slice (some ⟨g, 0, none⟩) 16777217 16777217, .int .i64 9, .slice none 0 0] 29)) fun e w' => ∃ a c, e = .returned (.tuple #[.slice a 0 c, .int .i64 5]) ∧ Below w.heap.size w w' :=
  join_err 5 [(3, some ⟨g, 0, none⟩, 16777217, 16777217), (9, none, 0, 0)] [(3, Z), (9, [])] hu (hs_cons (hd_by 3 hg) (hs_cons (hd_nil 9) (hs_nil _ _))) rfl rfl (by simp [szP, hZ]) (by simp) (joinP_big (by omega)) rfl
theorem jn9 {w u : World} {Y : List Nat} {a0 : Option Addr} {c0 : Nat} (hu : Below w.heap.size w u) (hY : Y.length = 16777216) (hg : By u u.heap.size (.slice a0 16777216 c0) Y) : Calls Try.prog 5 #[.slice (some ⟨u.heap.size, 0, none⟩) 1 1] (u.alloc (.cells #[.int .i64 3, .slice a0 16777216 c0] 29)) fun e w' => ∃ a c, e = .returned (.tuple #[.slice a 16777221 c, .int .i64 0]) ∧ Below w.heap.size w w' := by
  have hR : joinP [(3, Y)] [] = (pcB (3, Y), 0) := by
    rw [joinP, if_neg (show ¬ tyB 3 = false by decide), if_neg (by simp only; omega)]
    simp [joinP]
  have hl : (pcB (3, Y)).length = 16777221 := by
    have : (lebB 16777216).length = 4 := by decide +kernel
    simp [pcB, hY, this]
  refine (join_lit [(3, a0, 16777216, c0)] [(3, Y)] hu (hs_cons (hd_by 3 hg) (hs_nil _ _)) rfl rfl (by simp [szP, hY]) (by simp) hR).mono ?_
  rintro e w' ⟨a, c, rfl, _, h2⟩
  simp only [hl]
  exact ⟨a, c, rfl, h2⟩
theorem gp1 {w u : World} (hu : Below w.heap.size w u) : Calls Try.prog 8 #[.slice (some ⟨u.heap.size, 0, none⟩) 6 6] (u.alloc (.cells #[.int .i64 2, .int .i64 3, .int .i64 2, .int .i64 2, .int .i64 1, .int .i64 3] 3)) fun e w' => ∃ a c, e = .returned (.slice a 3 c) ∧ Si w' a [1, 0, 2] ∧ Below w.heap.size w w' := by
  have hg : gpR [2, 3, 2, 2, 1, 3] = [1, 0, 2] := by decide +kernel
  have := grouped_any (n := 6) (c := 6) (Si.built u [2, 3, 2, 2, 1, 3] 3) rfl (by decide)
  rw [hg] at this
  refine this.mono ?_
  rintro e w' ⟨a, c, rfl, h1, h2⟩
  exact ⟨a, c, rfl, h1, below_to (below_to hu (from_alloc _ _)) h2⟩
theorem gp2 {w u : World} (hu : Below w.heap.size w u) : Calls Try.prog 8 #[.slice (some ⟨u.heap.size, 0, none⟩) 1 1] (u.alloc (.cells #[.int .i64 3] 3)) fun e w' => ∃ a c, e = .returned (.slice a 1 c) ∧ Si w' a [-1] ∧ Below w.heap.size w w' := by
  have hg : gpR [3] = [-1] := by decide +kernel
  have := grouped_any (n := 1) (c := 1) (Si.built u [3] 3) rfl (by decide)
  rw [hg] at this
  refine this.mono ?_
  rintro e w' ⟨a, c, rfl, h1, h2⟩
  exact ⟨a, c, rfl, h1, below_to (below_to hu (from_alloc _ _)) h2⟩
theorem gp3 {w u : World} (hu : Below w.heap.size w u) : Calls Try.prog 8 #[.slice (some ⟨u.heap.size, 0, none⟩) 2 2] (u.alloc (.cells #[.int .i64 2, .int .i64 4] 3)) fun e w' => ∃ a c, e = .returned (.slice a 1 c) ∧ Si w' a [-1] ∧ Below w.heap.size w w' := by
  have hg : gpR [2, 4] = [-1] := by decide +kernel
  have := grouped_any (n := 2) (c := 2) (Si.built u [2, 4] 3) rfl (by decide)
  rw [hg] at this
  refine this.mono ?_
  rintro e w' ⟨a, c, rfl, h1, h2⟩
  exact ⟨a, c, rfl, h1, below_to (below_to hu (from_alloc _ _)) h2⟩
theorem gp4 {w u : World} (hu : Below w.heap.size w u) : Calls Try.prog 8 #[.slice (some ⟨u.heap.size, 0, none⟩) 2 2] (u.alloc (.cells #[.int .i64 2, .int .i64 0] 3)) fun e w' => ∃ a c, e = .returned (.slice a 1 c) ∧ Si w' a [-1] ∧ Below w.heap.size w w' := by
  have hg : gpR [2, 0] = [-1] := by decide +kernel
  have := grouped_any (n := 2) (c := 2) (Si.built u [2, 0] 3) rfl (by decide)
  rw [hg] at this
  refine this.mono ?_
  rintro e w' ⟨a, c, rfl, h1, h2⟩
  exact ⟨a, c, rfl, h1, below_to (below_to hu (from_alloc _ _)) h2⟩
theorem gp0 {w u : World} (hu : Below w.heap.size w u) : Calls Try.prog 8 #[.slice none 0 0] u fun e w' => ∃ a c, e = .returned (.slice a 0 c) ∧ Below w.heap.size w w' := by
  have hg : gpR [] = [] := by decide +kernel
  have := grouped_any (n := 0) (c := 0) (Si.nil u none) rfl (by decide)
  rw [hg] at this
  refine this.mono ?_
  rintro e w' ⟨a, c, rfl, h1, h2⟩
  exact ⟨a, c, rfl, below_to hu h2⟩
theorem ei_lit {w u : World} {cs : Array Value} {n c : Nat} {a : Option Addr} {C : List Int} (hs : Si u a C) (hu : Below w.heap.size w u) (hcs : cs = (is C).toArray) (hn : C.length = n) (hl : n ≤ 1000) : Calls Try.prog 7 #[.slice a n c, .slice (some ⟨u.heap.size, 0, none⟩) n n] (u.alloc (.cells cs 3)) fun e w' => e = .returned (.bool true) ∧ Below w.heap.size w w' := by
  subst hcs
  refine (eqInts_at (hs.to (from_alloc _ _)) (Si.built u C 3) hn hn (by omega) (by omega)).mono ?_
  rintro e w' ⟨rfl, h⟩
  exact ⟨by rw [eqI_self], below_to (below_to hu (from_alloc _ _)) h⟩
theorem un2 {w u : World} {g : Nat} (hu : Below w.heap.size w u) (hg : By u u.heap.size (.slice (some ⟨g, 0, none⟩) 1 1) [1]) : Calls Try.prog 9 #[.slice (some ⟨u.heap.size, 0, none⟩) 2 2] (u.alloc (.cells #[.int .i64 2, .slice none 0 0, .int .i64 2, .slice (some ⟨g, 0, none⟩) 1 1] 29)) fun e w' => ∃ v, e = .returned (.tuple #[v, .int .i64 4]) ∧ Below w.heap.size w w' := by
  have hR : unP [(2, []), (2, [1])] [] = ([], 4) := by decide +kernel
  have := units_any (ob_lit [(2, none, 0, 0), (2, some ⟨g, 0, none⟩, 1, 1)] [(2, []), (2, [1])] rfl rfl (hs_cons (hd_nil 2) (hs_cons (hd_by 2 hg) (hs_nil u _)))) (by simp) (by simp)
  rw [hR] at this
  refine this.mono ?_
  rintro e w' ⟨v, rfl, _, h⟩
  exact ⟨v, rfl, below_to (below_to hu (from_alloc _ _)) h⟩
theorem eb_lit {w u : World} {M : Nat} {v : Value} {cs : Array Value} {n : Nat} {b : List Nat} (h : By u M v b) (hM : M ≤ u.heap.size) (hu : Below w.heap.size w u) (hcs : cs = (bs b).toArray) (hn : n = b.length) (hb : b.all (· < 256) = true) (hl : b.length ≤ 1000) : Calls Try.prog 6 #[v, .slice (some ⟨u.heap.size, 0, none⟩) n n] (u.alloc (.cells cs 5)) fun e w' => e = .returned (.bool true) ∧ Below w.heap.size w w' := by
  refine (eqBytes_by (h.below (from_alloc _ _) hM) (by_lit b hcs hn hb hl)).mono ?_
  rintro e w' ⟨rfl, k, rfl⟩
  exact ⟨by simp, below_drewN (below_to hu (from_alloc _ _)) k⟩
end Go.Proofs.Ytkippnfijjhobab
