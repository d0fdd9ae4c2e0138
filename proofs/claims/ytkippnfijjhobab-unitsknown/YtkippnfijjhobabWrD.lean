/- DERIVED. The walks of (*bits.Writer) Uvlc, Align and Bytes over a writer in memory. -/
import Derived.Test.YtkippnfijjhobabWrC
namespace Go.Proofs.Ytkippnfijjhobab
open Go.RowKit

theorem lenAux_bounds : ∀ (f x : Nat), x < 2 ^ f → x ≠ 0 → 1 ≤ Lib.bitLenAux f x ∧ 2 ^ (Lib.bitLenAux f x - 1) ≤ x ∧ x < 2 ^ Lib.bitLenAux f x
  | 0, x, h, h0 => by simp at h; omega
  | f + 1, x, h, h0 => by
    rw [Lib.bitLenAux, if_neg h0]
    by_cases h1 : x / 2 = 0
    · have : x = 1 := by omega
      subst this
      have e : Lib.bitLenAux f (1 / 2) = 0 := by cases f <;> simp [Lib.bitLenAux]
      rw [e]; decide
    · obtain ⟨a, b, c⟩ := lenAux_bounds f (x / 2) (by rw [Nat.pow_succ] at h; omega) h1
      obtain ⟨k, hk⟩ : ∃ k, Lib.bitLenAux f (x / 2) = k + 1 := ⟨_, (Nat.sub_add_cancel a).symm⟩
      rw [hk] at b c ⊢
      rw [show 1 + (k + 1) - 1 = k + 1 from by omega, show 1 + (k + 1) = (k + 1) + 1 from by omega, Nat.pow_succ 2 (k + 1), Nat.pow_succ 2 k]
      rw [Nat.pow_succ] at c
      simp at b
      omega
theorem len_bounds (x : Nat) (h : x < 4294967296) (h0 : x ≠ 0) : 1 ≤ Lib.bitLen x ∧ 2 ^ (Lib.bitLen x - 1) ≤ x ∧ x < 2 ^ Lib.bitLen x ∧ Lib.bitLen x ≤ 32 := by
  obtain ⟨a, b, c⟩ := lenAux_bounds 64 x (by omega) h0
  exact ⟨a, b, c, Lib.bitLen_le x 32 (by omega) (by omega)⟩

def wUvlc (t V v : Nat) : Nat × Nat × Nat :=
  if v = 4294967295 then (2, t, V) else (0, t + (Lib.bitLen (v + 1) - 1) + Lib.bitLen (v + 1), (V * 2 ^ (Lib.bitLen (v + 1) - 1) + 0) * 2 ^ Lib.bitLen (v + 1) + (v + 1))

def wAlign (t V : Nat) : Nat × Nat := (8 * ((t + 7) / 8), V * 2 ^ (8 * ((t + 7) / 8) - t))
theorem Wv.align {ys : List Nat} {t V : Nat} (h : Wv ys t V) : Wv ys (8 * ((t + 7) / 8)) (V * 2 ^ (8 * ((t + 7) / 8) - t)) := by
  have hl := h.len
  refine ⟨h.byt, by omega, ?_, ?_⟩
  · rw [h.val, hl, Nat.sub_self]; simp
  · have := h.vlt
    calc V * 2 ^ (8 * ((t + 7) / 8) - t) < 2 ^ t * 2 ^ (8 * ((t + 7) / 8) - t) := Nat.mul_lt_mul_of_pos_right this (Nat.two_pow_pos _)
      _ = 2 ^ (8 * ((t + 7) / 8)) := by rw [← Nat.pow_add]; congr 1; omega

theorem SrcOf.ofOwn {w : World} {B : Nat} {v : Value} {zs : List Nat} (h : w.ownsRow B 5 1 v zs.length (bs zs)) : SrcOf w v zs := by
  obtain ⟨h1, h2⟩ := h
  rcases h2 with ⟨rfl, h0⟩ | ⟨g, cap, cur, rfl, hB, hg, hn, hm, hs, ht⟩
  · exact Or.inl ⟨List.eq_nil_of_length_eq_zero h0, rfl⟩
  · refine Or.inr ⟨⟨g, 0, none⟩, cap, rfl, fun j hj => ?_⟩
    have hown : w.ownsRow B 5 1 (.slice (some ⟨g, 0, none⟩) zs.length cap) zs.length (bs zs) := ⟨h1, Or.inr ⟨g, cap, cur, rfl, hB, hg, hn, hm, hs, ht⟩⟩
    rw [addr_add, Nat.zero_add, hown.cellAt j (by omega)]
    exact bs_get zs j hj

/-- a writer whose two blocks have not turned -/
theorem Wr.carry {w w' : World} {B x : Nat} {d : Value} {ys : List Nat} {t V : Nat} (h : Wr w B x d ys t V) (hx : w'.heap[x]? = w.heap[x]?) (hg : ∀ g, d.ownBlock = some g → w'.heap[g]? = w.heap[g]?) (hs : w.heap.size ≤ w'.heap.size) : Wr w' B x d ys t V := by
  have ec : ∀ o, w'.cell? ⟨x, o, none⟩ = w.cell? ⟨x, o, none⟩ := fun o => World.cell?_of_block (w := w) hx
  have ef : ∀ o, w'.frozen? ⟨x, o, none⟩ = w.frozen? ⟨x, o, none⟩ := fun o => World.frozen?_of_block (w := w) hx
  refine ⟨by rw [ec]; exact h.made, by rw [ec]; exact h.data, ?_, h.apart, by rw [ec]; exact h.free, by rw [ef]; exact h.thaw1, by rw [ef]; exact h.thaw2, ⟨h.low.1, Nat.lt_of_lt_of_le h.low.2 hs⟩, h.wv⟩
  refine ⟨h.own.1, ?_⟩
  rcases h.own.2 with h1 | ⟨g, cap, cur, h1, h2, h3, h4⟩
  · exact Or.inl h1
  · exact Or.inr ⟨g, cap, cur, h1, h2, by rw [hg g (by rw [h1]; rfl)]; exact h3, h4⟩
theorem Wr.below {w w' : World} {B x : Nat} {d : Value} {ys : List Nat} {t V : Nat} (h : Wr w B x d ys t V) (hb : Below w.heap.size w w') : Wr w' B x d ys t V :=
  h.carry (hb.block x h.low.2) (fun g hg => hb.block g (h.own.lt g hg).2) hb.size

set_option maxHeartbeats 400000 in
theorem bytes_wr {w : World} {B x : Nat} {d : Value} {ys : List Nat} {t V : Nat} (h : Wr w B x d ys t V) (ht : t ≤ 1125899906842624) :
    Calls Try.prog 20 #[.pointer (some ⟨x, 0, none⟩)] w fun e w' => ∃ a c, e = .returned (.slice a ys.length c) ∧ w'.ownsRow w.heap.size 5 1 (.slice a ys.length c) ys.length (bs ys) ∧ Below w.heap.size w w' := by
  have hm := h.made
  obtain ⟨a, c, rfl⟩ := own_slice h.own
  have hd := h.data
  have hl := h.wv.len
  have HL : Hid (ys.length = (t + 7) / 8) := hl
  clear hl
  go_enter Try.func20, Try.ntmps20
  go_wp2_with fail
  refine (wnone_made _ _ hm).mono ?_; rintro e w' ⟨rfl, rfl⟩
  go_wp2_with fail
  refine (clone_any (SrcOf.ofOwn h.own) (by have := HL.out; omega)).mono ?_; rintro e w1 ⟨a1, c1, rfl, ho1, hb1⟩
  go_wp2_with fail
  go_ret
  exact ⟨a1, c1, rfl, ho1, hb1⟩

end Go.Proofs.Ytkippnfijjhobab
