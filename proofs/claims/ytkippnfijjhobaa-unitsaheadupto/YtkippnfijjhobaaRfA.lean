/- DERIVED. The document's own reader (zoetroperef01.Reader) in memory, and the walks of its number, Left, Fixed and Signed. -/
import Derived.Test.YtkippnfijjhobaaRwD
namespace Go.Proofs.Ytkippnfijjhobaa
open Go.RowKit

/-- the document's reader in block x, its bits in block g -/
structure Rf (w : World) (x g c : Nat) (zs : List Nat) (p : Nat) : Prop where
  data : w.cell? ⟨x, 0, none⟩ = some (.slice (some ⟨g, 0, none⟩) (8 * zs.length) c)
  cells : ∀ i, i < 8 * zs.length → w.cell? ⟨g, i, none⟩ = some (.int .i64 (bitAt zs i : Nat))
  cap : 8 * zs.length ≤ c
  place : w.cell? ⟨x, 1, none⟩ = some (.int .i64 p)
  thaw : w.frozen? ⟨x, 1, none⟩ = false
  low : x < w.heap.size
  glow : g < w.heap.size
  apart : g ≠ x
  byt : ∀ i, zs.getD i 0 < 256
  len : zs.length ≤ 1048576
  bnd : p ≤ 8 * zs.length

theorem Rf.carry {w w' : World} {x g c : Nat} {zs : List Nat} {p : Nat} (h : Rf w x g c zs p) (hx : w'.heap[x]? = w.heap[x]?) (hg : w'.heap[g]? = w.heap[g]?) (hs : w.heap.size ≤ w'.heap.size) : Rf w' x g c zs p := by
  have ec : ∀ o, w'.cell? ⟨x, o, none⟩ = w.cell? ⟨x, o, none⟩ := fun o => World.cell?_of_block (w := w) hx
  have eg : ∀ o, w'.cell? ⟨g, o, none⟩ = w.cell? ⟨g, o, none⟩ := fun o => World.cell?_of_block (w := w) hg
  exact ⟨by rw [ec]; exact h.data, fun i hi => by rw [eg]; exact h.cells i hi, h.cap, by rw [ec]; exact h.place, by rw [World.frozen?_of_block (w := w) (a := ⟨x, 1, none⟩) hx]; exact h.thaw, Nat.lt_of_lt_of_le h.low hs, Nat.lt_of_lt_of_le h.glow hs, h.apart, h.byt, h.len, h.bnd⟩
theorem Rf.same {w w' : World} {x g c : Nat} {zs : List Nat} {p : Nat} (h : Rf w x g c zs p) (e : w'.heap = w.heap) : Rf w' x g c zs p := h.carry (by rw [e]) (by rw [e]) (by rw [e]; exact Nat.le_refl _)
theorem Rf.below {w w' : World} {x g c : Nat} {zs : List Nat} {p : Nat} (h : Rf w x g c zs p) (hb : Below w.heap.size w w') : Rf w' x g c zs p :=
  h.carry (hb.block x h.low) (hb.block g h.glow) hb.size
theorem Rf.put {w : World} {x g c : Nat} {zs : List Nat} {p : Nat} (h : Rf w x g c zs p) {q : Nat} {y : Int} (hy : y = (q : Int)) (hq : q ≤ 8 * zs.length) : Rf (w.setCell ⟨x, 1, none⟩ (.int .i64 y)) x g c zs q := by
  subst hy
  have hf : ∀ a, (w.setCell ⟨x, 1, none⟩ (.int .i64 q)).frozen? a = w.frozen? a := fun a => by simp
  have ha := h.apart
  refine ⟨?_, ?_, h.cap, ?_, by rw [hf]; exact h.thaw, by have := h.low; simp [World.setCell]; exact this, by have := h.glow; simp [World.setCell]; exact this, ha, h.byt, h.len, hq⟩
  · rw [World.cell?_setCell_other _ _ _ _ (by simp)]; exact h.data
  · intro i hi
    rw [World.cell?_setCell_other _ _ _ _ (by simp)]; exact h.cells i hi
  · exact World.cell?_setCell_same _ _ _ h.place

set_option maxHeartbeats 1000000 in
theorem number_rf {w : World} {x g c : Nat} {zs : List Nat} {p : Nat} (h : Rf w x g c zs p) (q n : Nat) (hn : n ≤ 32) (hb : q + n ≤ 8 * zs.length) :
    Calls Try.prog 47 #[.pointer (some ⟨x, 0, none⟩), .int .i64 q, .int .i64 n] w fun e w' => e = .returned (.int .u64 (num zs q n : Nat)) ∧ w' = w := by
  have hd := h.data
  have hcap := h.cap
  have hlen := h.len
  have HC : Hid (∀ i, i < 8 * zs.length → w.cell? ⟨g, i, none⟩ = some (.int .i64 (bitAt zs i : Nat))) := h.cells
  clear h
  go_enter Try.func47, Try.ntmps47
  go_wp2_with fail
  go_loop [7, 8] (fun v i => ∃ k : Nat, k ≤ n ∧ i = .int .i64 k ∧ v = .int .u64 (num zs q k : Nat)) (fun _ i => n - (intOf i).toNat)
  case atStart => exact ⟨0, Nat.zero_le _, rfl, rfl⟩
  case round =>
    obtain ⟨k, hk, rfl, rfl⟩ := hrel
    by_cases hlt : k < n
    · have hc1 := HC.out (q + k) (by omega)
      have hb1 := bitAt_lt zs (q + k)
      have hn1 : num zs q k < 4294967296 := Nat.lt_of_lt_of_le (num_lt _ _ _) (show 2 ^ k ≤ 2 ^ 32 from Nat.pow_le_pow_right (by omega) (by omega))
      have hs : num zs q (k + 1) = 2 * num zs q k + bitAt zs (q + k) := rfl
      have HS : Hid _ := hs
      clear hs
      generalize bitAt zs (q + k) = bt at *
      go_wp2_with fail
      go_round
      case rel => exact ⟨k + 1, by omega, by go_num, int_eq (by rw [HS.out]; omega)⟩
      case measure => simp [intOf]; omega
    · obtain rfl : k = n := by omega
      go_wp2_with fail
      go_ret
      exact ⟨rfl, rfl⟩

set_option maxHeartbeats 400000 in
theorem left_rfq {w : World} {x g c : Nat} {zs : List Nat} {p : Nat} (h : Rf w x g c zs p) :
    Calls Try.prog 37 #[.pointer (some ⟨x, 0, none⟩)] w fun e w' => e = .returned (.int .i64 (8 * zs.length - p : Nat)) ∧ ∃ k, w' = w.drewN k := by
  have hd := h.data
  have hp := h.place
  have hlen := h.len
  have hbnd := h.bnd
  go_enter Try.func37, Try.ntmps37
  go_wp2_with fail
  go_quiet (fail)
  go_wp2
  go_ret
  exact ⟨ret_int (by omega), ⟨_, rfl⟩⟩

theorem left_rf {w : World} {x g c : Nat} {zs : List Nat} {p : Nat} (h : Rf w x g c zs p) :
    Calls Try.prog 37 #[.pointer (some ⟨x, 0, none⟩)] w fun e w' => e = .returned (.int .i64 (8 * zs.length - p : Nat)) ∧ Rf w' x g c zs p ∧ Kp x w w' := by
  refine (left_rfq h).mono ?_
  rintro e w' ⟨rfl, k, rfl⟩
  exact ⟨rfl, h.same rfl, Kp.drewN _ _ _⟩

end Go.Proofs.Ytkippnfijjhobaa
