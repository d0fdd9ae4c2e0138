/- DERIVED. The head of a piece, written by both sides. -/
import Derived.Test.YtkippnfijjhobabTj
import Derived.Test.YtkippnfijjhobabTc
namespace Go.Proofs.Ytkippnfijjhobab
open Go.RowKit

theorem nil_wv : Wv [] 0 0 := ⟨by simp, rfl, rfl, by simp⟩
theorem push1_wv (k : Nat) (hk : k < 256) : Wv [k] 8 k := by
  have := nil_wv.push rfl k hk
  simpa using this
theorem lebGo4_t (n : Nat) : ∀ f t V, (lebGo f t V n).1 ≤ t + 8 * (f + 1) := fun f t V => lebGo_le f t V n
/-- a byte written into a new writer -/
theorem fixed8_wr {w : World} {B x : Nat} {d : Value} {ys : List Nat} {k : Nat} {K : Int} (hK : K = (k : Int)) (hk : k < 256) (h : Wr w B x d ys 0 0) :
    Calls Try.prog 18 #[.pointer (some ⟨x, 0, none⟩), .int .u32 K, .int .i64 8] w fun e w' => e = .returned (.int .i64 0) ∧ ∃ d', Wr w' B x d' [k] 8 k ∧ Kw x d d' w w' := by
  subst hK
  have e : wFixed 0 0 k 8 = (0, 8, k) := by
    unfold wFixed
    rw [if_neg (by intro hh; rcases hh with hh | hh | hh; omega; omega; exact hh (by show k / 2 ^ 8 = 0; omega))]
    simp
  have := fixed_wr h (by omega) k 8 (by omega)
  rw [e] at this
  refine this.mono ?_
  rintro e w' ⟨rfl, d', ys', h1, h2⟩
  have : ys' = [k] := h1.wv.same (push1_wv k hk)
  subst this
  exact ⟨rfl, d', h1, h2⟩
/-- a leb behind a byte -/
theorem leb8_wr {w : World} {B x : Nat} {d : Value} {k n : Nat} {K : Int} (hK : K = (n : Int)) (hk : k < 256) (hn : n < 4294967296) (h : Wr w B x d [k] 8 k) :
    Calls Try.prog 19 #[.pointer (some ⟨x, 0, none⟩), .int .u32 K] w fun e w' => e = .returned (.int .i64 0) ∧ ∃ d' T X, T ≤ 48 ∧ Wr w' B x d' (k :: lebB n) T X ∧ Kw x d d' w w' := by
  subst hK
  have := leb_wr h (by omega) n hn
  rw [show wLeb 8 k n = (0, (lebGo 4 8 k n).1, (lebGo 4 8 k n).2) from if_pos (by omega)] at this
  refine this.mono ?_
  rintro e w' ⟨rfl, d', ys', h1, h2⟩
  have : ys' = [k] ++ lebA 4 n := h1.wv.same (lebGo_wv 4 8 k n [k] (push1_wv k hk) (by omega) (by omega))
  subst this
  exact ⟨rfl, d', _, _, lebGo4_t n 4 8 k, h1, h2⟩
/-- what head answers -/
def HdQ (w : World) (t : Int) (n : Nat) (e : Ending) (w' : World) : Prop := ∃ a c, e = .returned (.slice a ((lebB n).length + 1) c) ∧ w'.ownsRow w.heap.size 5 1 (.slice a ((lebB n).length + 1) c) ((lebB n).length + 1) (bs ((16 * t).toNat :: lebB n)) ∧ Below w.heap.size w w'

set_option maxHeartbeats 1000000 in
set_option maxRecDepth 100000 in
theorem head_any {w : World} {t : Int} {a : Option Addr} {n c : Nat} (ht : tyB t = true) (hn : n ≤ 16777216) :
    Calls Try.prog 13 #[.agg #[.int .i64 t, .slice a n c]] w fun e w' => HdQ w t n e w' := by
  have ht' := (tyB_iff t).1 ht
  obtain ⟨k, hk⟩ : ∃ k : Nat, k = (16 * t).toNat := ⟨_, rfl⟩
  have hkt : 16 * t = (k : Int) := by omega
  have hk256 : k < 256 := by omega
  unfold HdQ
  rw [← hk]
  have HF : Hid (∀ (x : Nat) (u : World), Wr u x x (.slice none 0 0) [] 0 0 → Calls Try.prog 18 #[.pointer (some ⟨x, 0, none⟩), .int .u32 (k : Int), .int .i64 8] u fun e w' => e = .returned (.int .i64 0) ∧ ∃ d', Wr w' x x d' [k] 8 k ∧ Kw x (.slice none 0 0) d' u w') := fun x u h => fixed8_wr rfl hk256 h
  have HG : Hid (∀ (x : Nat) (d : Value) (u : World), Wr u x x d [k] 8 k → Calls Try.prog 19 #[.pointer (some ⟨x, 0, none⟩), .int .u32 (n : Int)] u fun e w' => e = .returned (.int .i64 0) ∧ ∃ d' T X, T ≤ 48 ∧ Wr w' x x d' (k :: lebB n) T X ∧ Kw x d d' u w') := fun x d u h => leb8_wr rfl hk256 (by omega) h
  have t0 : 0 ≤ t := by omega
  have t1 : t ≤ 3 := by omega
  clear hk ht ht'
  have hw : IntKind.u32.wrap (16 * t) = (k : Int) := by rw [IntKind.wrap_u32]; omega
  have hw2 : (t * 16) % 4294967296 = (k : Int) := by omega
  have hw3 : t * 16 = (k : Int) := by omega
  have HK : Hid (t * 16 = (k : Int)) := hw3
  clear hkt hw hw2 hw3
  go_enter Try.func13, Try.ntmps13
  go_wp2_with fail
  have hbV := from_alloc w (.cells #[.int .i64 t, .slice a n c] 29)
  have zc0 : (w.alloc (.cells #[.int .i64 t, .slice a n c] 29)).cell? ⟨w.heap.size, 0, none⟩ = some (.int .i64 t) := by simp
  have zc1 : (w.alloc (.cells #[.int .i64 t, .slice a n c] 29)).cell? ⟨w.heap.size, 1, none⟩ = some (.slice a n c) := by simp
  have hVs : (w.alloc (.cells #[.int .i64 t, .slice a n c] 29)).heap.size = w.heap.size + 1 := by simp
  generalize (w.alloc (.cells #[.int .i64 t, .slice a n c] 29)) = V at *
  have HV : Hid (V.heap.size = w.heap.size + 1) := hVs
  clear hVs
  refine (write_new _).mono ?_; rintro e w1 ⟨rfl, hw1, hb1⟩
  have y0 : w1.cell? ⟨w.heap.size, 0, none⟩ = some (.int .i64 t) := by rw [newCell hb1 _ _ (by have := HV.out; omega)]; exact zc0
  have y1 : w1.cell? ⟨w.heap.size, 1, none⟩ = some (.slice a n c) := by rw [newCell hb1 _ _ (by have := HV.out; omega)]; exact zc1
  go_wp2_with fail
  rw [HK.out]
  refine (HF.out _ _ hw1).mono ?_; rintro e w2 ⟨rfl, d2, hw2, hk2⟩
  have hB2 : Below V.heap.size V w2 := hb1.trans (hw1.kwBelow hk2)
  have y1' : w2.cell? ⟨w.heap.size, 1, none⟩ = some (.slice a n c) := by rw [newCell hB2 _ _ (by have := HV.out; omega)]; exact zc1
  go_wp2_with fail
  refine (HG.out _ _ _ hw2).mono ?_; rintro e w3 ⟨rfl, d3, T, X, hT, hw3, hk3⟩
  have hB3 : Below V.heap.size V w3 := hB2.trans (hw2.kwBelow hk3)
  go_wp2_with fail
  refine (bytes_wr hw3 (by omega)).mono ?_; rintro e w4 ⟨a4, c4, rfl, hown4, hb4⟩
  have hB4 : Below V.heap.size V w4 := below_to hB3 hb4
  have HO : Hid (w4.ownsRow w3.heap.size 5 1 (.slice a4 (k :: lebB n).length c4) (k :: lebB n).length (bs (k :: lebB n))) := hown4
  clear hown4
  go_wp2_with fail
  go_ret
  exact ⟨a4, c4, rfl, own_mono HO.out (by have := hB3.size; have := HV.out; omega), hbV.trans (hB4.mono (by have := HV.out; omega))⟩

end Go.Proofs.Ytkippnfijjhobab
