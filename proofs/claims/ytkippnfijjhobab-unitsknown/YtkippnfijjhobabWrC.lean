/- DERIVED. The walks of (*bits.Writer) none, Fixed, Signed, Align, Bytes and of bits.Write over a writer in memory. -/
import Derived.Test.YtkippnfijjhobabWrB
namespace Go.Proofs.Ytkippnfijjhobab
open Go.RowKit

set_option maxHeartbeats 400000 in
theorem wnone_made (x : Nat) (w : World) (hm : w.cell? ⟨x, 0, none⟩ = some (.bool true)) :
    Calls Try.prog 24 #[.pointer (some ⟨x, 0, none⟩)] w fun e w' => e = .returned (.bool false) ∧ w' = w := by
  go_enter Try.func24, Try.ntmps24
  go_wp2
  go_ret
  exact ⟨rfl, rfl⟩

set_option maxHeartbeats 400000 in
theorem write_new (w : World) :
    Calls Try.prog 17 #[] w fun e w' => e = .returned (.pointer (some ⟨w.heap.size, 0, none⟩)) ∧ Wr w' w.heap.size w.heap.size (.slice none 0 0) [] 0 0 ∧ Below w.heap.size w w' := by
  go_enter Try.func17, Try.ntmps17
  go_wp2
  go_ret
  exact ⟨rfl, ⟨by simp, by simp, World.ownsRow_nil _ _ _ _, by simp [Value.ownBlock], by simp, by simp, by simp, by simp, wv_nil⟩, (Below.refl _ _).alloc (Nat.le_refl _) _⟩

/-- behind a call: the writer holds so much, and nothing else has turned -/
def WrK (w w' : World) (B x : Nat) (d : Value) (t V : Nat) : Prop := ∃ d' ys', Wr w' B x d' ys' t V ∧ Kw x d d' w w'

/-- a writer's call: error, bits, number -/
def wFixed (t V v : Nat) (n : Int) : Nat × Nat × Nat :=
  if n < 0 ∨ 32 < n ∨ v / 2 ^ n.toNat ≠ 0 then (2, t, V) else (0, t + n.toNat, V * 2 ^ n.toNat + v)

set_option maxHeartbeats 1000000 in
theorem fixed_wr {w : World} {B x : Nat} {d : Value} {ys : List Nat} {t V : Nat} (h : Wr w B x d ys t V) (ht : t ≤ 1099511627776) (v : Nat) (n : Int) (hv : v < 4294967296) :
    Calls Try.prog 18 #[.pointer (some ⟨x, 0, none⟩), .int .u32 v, .int .i64 n] w fun e w' => e = .returned (.int .i64 (wFixed t V v n).1) ∧ WrK w w' B x d (wFixed t V v n).2.1 (wFixed t V v n).2.2 := by
  have hm := h.made
  by_cases h1 : n < 0 ∨ 32 < n
  · rw [show wFixed t V v n = (2, t, V) from if_pos (by omega)]
    by_cases h2 : n < 0
    all_goals
      go_enter Try.func18, Try.ntmps18
      go_wp2_with fail
      refine (wnone_made _ _ hm).mono ?_; rintro e w' ⟨rfl, rfl⟩
      go_wp2_with fail
      go_ret
      exact ⟨rfl, d, ys, h, Kw.refl _ _ _⟩
  · have h3 : 0 ≤ n := by omega
    have h4 : n ≤ 32 := by omega
    obtain ⟨m, rfl⟩ := Int.eq_ofNat_of_zero_le h3
    have ec : (v : Int) / 2 ^ m = ((v / 2 ^ m : Nat) : Int) := by simp
    by_cases h5 : v / 2 ^ m = 0
    · rw [show wFixed t V v m = (0, t + m, V * 2 ^ m + v) from if_neg (fun hh => by rcases hh with hh | hh | hh; omega; omega; exact hh h5)]
      have hlt : v < 2 ^ m := by rcases Nat.div_eq_zero_iff.1 h5 with e | e; have := Nat.two_pow_pos m; omega; exact e
      have hb : ((v : Int) / 2 ^ m != 0) = false := by rw [ec, h5]; rfl
      clear ec
      go_enter Try.func18, Try.ntmps18
      go_wp2_with fail
      refine (wnone_made _ _ hm).mono ?_; rintro e w' ⟨rfl, rfl⟩
      go_wp2_with fail
      refine (put_wr B x d ys t V v m _ h (by omega) hlt ht).mono ?_; rintro e w2 ⟨d2, y2, rfl, hw2, hk2⟩
      go_wp2_with fail
      go_ret
      exact ⟨rfl, d2, y2, hw2, hk2⟩
    · rw [show wFixed t V v m = (2, t, V) from if_pos (Or.inr (Or.inr h5))]
      have hb : ((v : Int) / 2 ^ m != 0) = true := by rw [ec, bne_iff_ne]; exact fun hh => h5 (by exact_mod_cast hh)
      clear ec
      go_enter Try.func18, Try.ntmps18
      go_wp2_with fail
      refine (wnone_made _ _ hm).mono ?_; rintro e w' ⟨rfl, rfl⟩
      go_wp2_with fail
      go_ret
      exact ⟨rfl, d, ys, h, Kw.refl _ _ _⟩

def wSigned (t V : Nat) (v : Int) (n : Int) : Nat × Nat × Nat :=
  if n < 1 ∨ 31 < n ∨ v.natAbs / 2 ^ n.toNat ≠ 0 then (2, t, V) else (0, t + 1 + n.toNat, (V * 2 ^ 1 + if v < 0 then 1 else 0) * 2 ^ n.toNat + v.natAbs)

end Go.Proofs.Ytkippnfijjhobab
