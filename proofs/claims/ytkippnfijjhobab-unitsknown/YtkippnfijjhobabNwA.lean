/- DERIVED. The walks of slices.Clone over bytes, of bits.New and of (*bits.Reader).Rest. -/
import Derived.Test.YtkippnfijjhobabRdC
import Derived.Deep.AppendLies
import Derived.Deep.RegionHeld3
namespace Go.Proofs.Ytkippnfijjhobab
open Go.RowKit

/-- bytes, as cells -/
def bs (zs : List Nat) : List Value := zs.map fun z : Nat => .int .u8 (z : Int)
theorem bs_length (zs : List Nat) : (bs zs).length = zs.length := by simp [bs]
theorem bs_get (zs : List Nat) (j : Nat) (h : j < zs.length) : (bs zs)[j]? = some (.int .u8 (zs.getD j 0 : Nat)) := by
  simp [bs, List.getElem?_eq_getElem h]
theorem bs_one (zs : List Nat) : ∀ u ∈ bs zs, u.oneCell' = true := by
  intro u hu
  obtain ⟨z, _, rfl⟩ := List.mem_map.1 hu
  rfl
theorem Try.info5 : (Try.prog.info? 5).map (fun i => (i.zero, i.size, i.bytes)) = some (some (.int .u8 0), 1, 1) := by kernel_rfl

theorem clone_q22 (w : World) (a : Option Addr) (n c n' c' : Nat) : (binOp .eql 24 (.slice a n c) (.slice none n' c')).run Try.prog w = .ok (.bool a.isNone) w := Lib.run_eql_slice_nil w 24 5 a n c n' c' Try.underlying24

set_option maxHeartbeats 400000 in
theorem clone_nil (w : World) : Calls Try.prog 26 #[.slice none 0 0] w fun e w' => e = .returned (.slice none 0 0) ∧ w' = w := by
  have q22 := clone_q22
  go_enter Try.func26, Try.ntmps26
  go_wp2
  go_ret
  exact ⟨rfl, rfl⟩

set_option maxHeartbeats 400000 in
theorem clone_empty (ad : Addr) (c : Nat) (w : World) : Calls Try.prog 26 #[.slice (some ad) 0 c] w fun e w' => e = .returned (.slice (some ⟨w.heap.size, 0, none⟩) 0 0) ∧ w' = w.alloc (.cells #[] 5) := by
  have q22 := clone_q22
  go_enter Try.func26, Try.ntmps26
  go_wp2
  go_ret
  exact ⟨rfl, rfl⟩

set_option maxHeartbeats 400000 in
theorem clone_some (ad : Addr) (c : Nat) (zs : List Nat) (w : World) (hc : ∀ j, j < zs.length → w.cell? (ad.add j) = some (.int .u8 (zs.getD j 0 : Nat))) (hl : zs.length ≤ 140737488355328) (h0 : 0 < zs.length) :
    Calls Try.prog 26 #[.slice (some ad) zs.length c] w fun e w' => ∃ v, e = .returned v ∧ w'.ownsRow w.heap.size 5 1 v zs.length (bs zs) ∧ Below w.heap.size w w' := by
  have q22 := clone_q22
  obtain ⟨i, hi, hz0, hz1, hz2⟩ := info_parts Try.info5
  have hown : (w.alloc (.cells #[] 5)).ownsRow w.heap.size 5 1 (.slice (some ⟨w.heap.size, 0, none⟩) 0 0) 0 [] := World.ownsRow_made w #[] 0 (Nat.le_refl _) (by simp) (by simp)
  have hnews : ∀ j u, (bs zs)[j]? = some u → (w.alloc (.cells #[] 5)).cell? (ad.add j) = some u := by
    intro j u hu
    have hj : j < zs.length := by have := List.getElem?_eq_some_iff.1 hu; obtain ⟨h1, _⟩ := this; rw [bs_length] at h1; exact h1
    rw [bs_get zs j hj] at hu
    rw [← hu]
    have := hc j hj
    rw [World.cell?_alloc_lt _ _ _ (World.block_lt_of_cell? w _ this)]
    exact this
  go_enter Try.func26, Try.ntmps26
  go_wp2_with (at_builtin; refine wpList_append_lies _ (by rfl) _ _ _ (by rfl) w.heap.size 5 i (.int .u8 0) 1 1 Try.underlying24 hi hz0 hz1 hz2 rfl (by omega) _ 0 [] (by rfl) hown ad zs.length c (bs zs) (by rfl) (by rw [bs_length, Nat.mul_one]) hnews (bs_one zs) h0 (by unfold maxLen; omega) (by omega) (by simp) (w.heap.size + 1) (by simp) ?_; intro g cap w1 hown1 hgrow hat hlt)
  go_ret
  rw [List.nil_append, Nat.zero_add] at hown1
  refine ⟨_, rfl, hown1, ?_⟩
  exact ((Below.refl _ _).alloc (Nat.le_refl _) _).grown hgrow (by simp) (fun k hk => by simp [Value.ownBlock] at hk; omega)

/-- a byte slice that can be read: nil, or cells behind an address -/
def SrcOf (w : World) (v : Value) (zs : List Nat) : Prop :=
  (zs = [] ∧ v = .slice none 0 0) ∨ ∃ ad c, v = .slice (some ad) zs.length c ∧ ∀ j, j < zs.length → w.cell? (ad.add j) = some (.int .u8 (zs.getD j 0 : Nat))

theorem own_slice {w : World} {B e size n : Nat} {v : Value} {xs : List Value} (h : w.ownsRow B e size v n xs) : ∃ a c, v = .slice a n c := by
  rcases h.2 with ⟨rfl, rfl⟩ | ⟨g, cap, cur, rfl, _⟩
  · exact ⟨_, _, rfl⟩
  · exact ⟨_, _, rfl⟩

theorem clone_any {w : World} {v : Value} {zs : List Nat} (h : SrcOf w v zs) (hl : zs.length ≤ 140737488355328) :
    Calls Try.prog 26 #[v] w fun e w' => ∃ a c, e = .returned (.slice a zs.length c) ∧ w'.ownsRow w.heap.size 5 1 (.slice a zs.length c) zs.length (bs zs) ∧ Below w.heap.size w w' := by
  rcases h with ⟨rfl, rfl⟩ | ⟨ad, c, rfl, hc⟩
  · refine (clone_nil w).mono ?_
    rintro e w' ⟨rfl, rfl⟩
    exact ⟨_, _, rfl, World.ownsRow_nil _ _ _ _, Below.refl _ _⟩
  · by_cases h0 : zs.length = 0
    · obtain rfl : zs = [] := List.eq_nil_of_length_eq_zero h0
      refine (clone_empty ad c w).mono ?_
      rintro e w' ⟨rfl, rfl⟩
      exact ⟨_, _, rfl, World.ownsRow_made w #[] 0 (Nat.le_refl _) (by simp) (by simp), (Below.refl _ _).alloc (Nat.le_refl _) _⟩
    · refine (clone_some ad c zs w hc hl (by omega)).mono ?_
      rintro e w' ⟨v, rfl, h1, h2⟩
      obtain ⟨a, c, rfl⟩ := own_slice h1
      exact ⟨a, c, rfl, h1, h2⟩

/-- an owned row of bytes, as a reader's data -/
theorem Dat.ofOwn {w : World} {B : Nat} {v : Value} {r : Nat} {zs : List Nat} (h : w.ownsRow B 5 1 v zs.length (bs zs)) (hr : v.ownBlock ≠ some r) : Dat w v r zs := by
  obtain ⟨h1, h2⟩ := h
  rcases h2 with ⟨rfl, h0⟩ | ⟨g, cap, cur, rfl, hB, hg, hn, hm, hs, ht⟩
  · exact Or.inl ⟨List.eq_nil_of_length_eq_zero h0, rfl⟩
  · refine Or.inr ⟨g, cap, fun e => hr (by simp [Value.ownBlock, e]), ?_, hn, rfl, fun i hi => ?_⟩
    · rcases Nat.lt_or_ge g w.heap.size with hlt | hge
      · exact hlt
      · rw [Array.getElem?_eq_none hge] at hg; cases hg
    · have hown : w.ownsRow B 5 1 (.slice (some ⟨g, 0, none⟩) zs.length cap) zs.length (bs zs) := ⟨h1, Or.inr ⟨g, cap, cur, rfl, hB, hg, hn, hm, hs, ht⟩⟩
      rw [hown.cellAt i (by omega)]
      exact bs_get zs i hi

set_option maxHeartbeats 400000 in
theorem new_any {w : World} {v : Value} {zs : List Nat} (h : SrcOf w v zs) (hz : ∀ i, zs.getD i 0 < 256) (hl : zs.length ≤ 140737488355328) :
    Calls Try.prog 21 #[v] w fun e w' => ∃ r v', e = .returned (.pointer (some ⟨r, 0, none⟩)) ∧ Rd w' r v' zs 0 ∧ w.heap.size ≤ r ∧ (∀ g, v'.ownBlock = some g → w.heap.size ≤ g) ∧ Below w.heap.size w w' := by
  go_enter Try.func21, Try.ntmps21
  go_wp2_with fail
  refine (clone_any h hl).mono ?_
  rintro e w1 ⟨a1, c1, rfl, hown, hb⟩
  have hlt := hown.lt
  have hlt' : Hid (∀ k, (Value.slice a1 zs.length c1).ownBlock = some k → w.heap.size ≤ k ∧ k < w1.heap.size) := hlt
  clear hlt
  go_wp2_with fail
  go_ret
  have hsz := hb.size
  refine ⟨_, _, rfl, ⟨by simp, by simp, ?_, by simp, by simp, by simp, hz, hl, by omega⟩, by omega, fun g hg => (hlt'.out g hg).1, hb.alloc hsz _⟩
  exact Dat.ofOwn (hown.alloc _) (fun e => by have := (hlt'.out _ e).2; omega)

theorem Rd.own_lt {w : World} {r : Nat} {v : Value} {zs : List Nat} {p : Nat} (h : Rd w r v zs p) : ∀ g, v.ownBlock = some g → g < w.heap.size ∧ g ≠ r := by
  intro g hg
  rcases h.cells with ⟨_, rfl⟩ | ⟨g', c, h1, h2, h3, rfl, h5⟩
  · simp [Value.ownBlock] at hg
  · simp [Value.ownBlock] at hg
    subst hg
    exact ⟨h2, h1⟩

/-- a reader whose two blocks have not turned -/
theorem Rd.carry {w w' : World} {r : Nat} {v : Value} {zs : List Nat} {p : Nat} (h : Rd w r v zs p) (hr : w'.heap[r]? = w.heap[r]?) (hg : ∀ g, v.ownBlock = some g → w'.heap[g]? = w.heap[g]?) (hs : w.heap.size ≤ w'.heap.size) : Rd w' r v zs p := by
  have ec : ∀ o, w'.cell? ⟨r, o, none⟩ = w.cell? ⟨r, o, none⟩ := fun o => World.cell?_of_block (w := w) hr
  refine ⟨by rw [ec]; exact h.made, by rw [ec]; exact h.data, ?_, by rw [ec]; exact h.place, by rw [World.frozen?_of_block (w := w) (a := ⟨r, 2, none⟩) hr]; exact h.thaw, Nat.lt_of_lt_of_le h.low hs, h.byt, h.len, h.bnd⟩
  rcases h.cells with h1 | ⟨g, c, h1, h2, h3, h4, h5⟩
  · exact Or.inl h1
  · exact Or.inr ⟨g, c, h1, Nat.lt_of_lt_of_le h2 hs, h3, h4, fun i hi => by rw [World.cell?_of_block (w := w) (a := ⟨g, i, none⟩) (hg g (by rw [h4]; rfl))]; exact h5 i hi⟩

theorem own_mono {w : World} {base base' : Nat} {e : TypeId} {size : Nat} {v : Value} {n : Nat} {xs : List Value} (h : w.ownsRow base e size v n xs) (hb : base' ≤ base) : w.ownsRow base' e size v n xs := by
  refine ⟨h.1, ?_⟩
  rcases h.2 with h1 | ⟨g, cap, cur, h1, h2, h3⟩
  · exact Or.inl h1
  · exact Or.inr ⟨g, cap, cur, h1, Nat.le_trans hb h2, h3⟩

theorem addr_add (g k j : Nat) : (⟨g, k, none⟩ : Addr).add j = ⟨g, k + j, none⟩ := by unfold Addr.add; split <;> simp_all

theorem getD_drop (zs : List Nat) (k j : Nat) : (zs.drop k).getD j 0 = zs.getD (k + j) 0 := by
  simp [List.getD_eq_getElem?_getD, List.getElem?_drop]

/-- Clone behind a draw, of a tail of a row that lay there -/
theorem clone_tail {w x : World} {g k c n : Nat} {zs : List Nat} (ad : Addr) (had : ∀ j, j < n → ad.add j = ⟨g, k + j, none⟩) (hn : n = zs.length - k) (hg : g < w.heap.size) (hb : Below w.heap.size w x) (hl : zs.length ≤ 140737488355328)
    (hc : ∀ i, i < zs.length → w.cell? ⟨g, i, none⟩ = some (.int .u8 (zs.getD i 0 : Nat))) :
    Calls Try.prog 26 #[.slice (some ad) n c] x fun e x' => ∃ a cc, e = .returned (.slice a n cc) ∧ x'.ownsRow w.heap.size 5 1 (.slice a n cc) n (bs (zs.drop k)) ∧ Below w.heap.size w x' := by
  have e : n = (zs.drop k).length := by rw [List.length_drop, hn]
  have hs : SrcOf x (.slice (some ad) n c) (zs.drop k) := Or.inr ⟨ad, c, by rw [e], fun j hj => by
    rw [had j (by omega), hb.cell (p := ⟨g, k + j, none⟩) hg, hc (k + j) (by omega), getD_drop]⟩
  refine (clone_any hs (by omega)).mono ?_
  rintro e1 x' ⟨a, cc, rfl, h1, h2⟩
  rw [← e] at h1 ⊢
  exact ⟨a, cc, rfl, own_mono h1 hb.size, hb.trans (h2.mono hb.size)⟩

end Go.Proofs.Ytkippnfijjhobab
