/- DERIVED. Contrary numbers; predictions of so many samples; what CflSigns asks of one sample. -/
import Derived.Test.YtlcegnnhlfafgaaHa
namespace Go.Proofs.Ytlcegnnhlfafgaa
open Go.RowKit

/-- contrary numbers, the first k of them -/
def ngL (X : List Int) (n k : Nat) : List Int := (List.range n).map fun i => if i < k then - X.getD i 0 else 0
theorem ngL_len (X : List Int) (n k : Nat) : (ngL X n k).length = n := by simp [ngL]
theorem ngL_get (X : List Int) (n k i : Nat) (h : i < n) : (ngL X n k).getD i 0 = if i < k then - X.getD i 0 else 0 := by simp [ngL, h]
theorem ngL_zero (X : List Int) (n : Nat) : ngL X n 0 = List.replicate n 0 := by
  refine ext_getD (by rw [ngL_len, List.length_replicate]) fun j hj => ?_
  rw [ngL_len] at hj
  rw [ngL_get _ _ _ _ hj]; simp [hj]
theorem ngL_set (X : List Int) (n k : Nat) (h : k < n) : (ngL X n k).set k (- X.getD k 0) = ngL X n (k + 1) := by
  refine ext_getD (by rw [List.length_set, ngL_len, ngL_len]) fun j hj => ?_
  rw [List.length_set, ngL_len] at hj
  rw [getD_set _ _ _ _ (by rw [ngL_len]; exact h), ngL_get _ _ _ _ hj, ngL_get _ _ _ _ hj]
  by_cases e : k = j
  · subst e; rw [if_pos rfl, if_pos (show k < k + 1 by omega)]
  · rw [if_neg e]
    by_cases g : j < k
    · rw [if_pos g, if_pos (show j < k + 1 by omega)]
    · rw [if_neg g, if_neg (show ¬ j < k + 1 by omega)]
theorem ngL_wi {X : List Int} {n : Nat} (hX : wiB 2048 X = true) (hl : X.length = n) : wiB 2048 (ngL X n n) = true := wiB_yes fun j hj => by
  rw [ngL_len] at hj
  rw [ngL_get _ _ _ _ hj, if_pos hj]
  have := wiB_at hX j (by omega)
  omega
theorem zero_wi (n : Nat) : wiB 2048 (List.replicate n 0) = true := wiB_yes fun j hj => by
  rw [List.length_replicate] at hj
  simp [hj]

/-- Predict of n samples, the answer by a name -/
theorem pred_n {u : World} {a' : Option Addr} {c' n g c2 : Nat} {D P : List Nat} {X : List Int} {be : Int} (hs : Sl u .u8 a' D) (hb : Byt D) (hl : D.length = n) (hx : Si u (some ⟨g, 0, none⟩) X) (hxl : X.length = n) (hw : wiB 2048 X = true) (h1 : n ≤ 1024) (b0 : -16 ≤ be) (b1 : be ≤ 16) (hP : pdL D X be = P) :
    Calls Try.prog 15 #[.slice a' n c', .slice (some ⟨g, 0, none⟩) n c2, .int .i64 be] u fun e w' => ∃ g', e = .returned (.tuple #[.slice (some ⟨g', 0, none⟩) n n, .int .i64 0]) ∧ Rw w' g' P ∧ u.heap.size ≤ g' ∧ Below u.heap.size u w' := by
  subst hP
  have := predict_ok (c := c') (c2 := c2) (n := n) hs hx hb ⟨by omega, by omega, hw, b0, b1⟩ hxl
  rw [hl] at this
  refine this.mono ?_
  rintro e w' ⟨g', rfl, h2, h3, h4⟩
  exact ⟨g', by rw [pdL_len, hl], h2, h3, h4⟩

theorem pd_side {b : Nat} (hb : b < 256) (p : Int) : (b < pd b p → ¬ p < 0) ∧ (pd b p < b → ¬ 0 < p) := by
  have h := pd_cl b p
  unfold cl at h
  constructor
  · intro h1 h2
    have := mv_npos (p := p) (by omega)
    split at h
    · omega
    · split at h <;> omega
  · intro h1 h2
    have := mv_pos (p := p) (by omega)
    split at h
    · omega
    · split at h <;> omega
theorem pd_far {b : Nat} (p : Int) (h1 : 0 < pd b p) (h2 : pd b p < 255) (h3 : 0 < pd b (-p)) (h4 : pd b (-p) < 255) : ((pd b p : Nat) : Int) - (b : Int) = (b : Int) - ((pd b (-p) : Nat) : Int) := by
  have k1 := pd_cl b p
  have k2 := pd_cl b (-p)
  rw [mv_neg] at k2
  unfold cl at k1 k2
  split at k1 <;> split at k2 <;> (try split at k1) <;> (try split at k2) <;> omega

/-- what CflSigns looks at, behind all predictions -/
structure Sg (w : World) (a' : Option Addr) (D : List Nat) (ga : Nat) (PA : List Nat) (gc : Nat) (PC : List Nat) (gx : Nat) (X : List Int) (wr : World) : Prop where
  base : Sl wr .u8 a' D
  pa : Rw wr ga PA
  pc : Rw wr gc PC
  num : Ri 3 wr gx X
  bel : Below w.heap.size w wr
theorem Sg.to {w : World} {a' : Option Addr} {D : List Nat} {ga : Nat} {PA : List Nat} {gc : Nat} {PC : List Nat} {gx : Nat} {X : List Int} {wr wr' : World} (h : Sg w a' D ga PA gc PC gx X wr) (hb : Below wr.heap.size wr wr') : Sg w a' D ga PA gc PC gx X wr' :=
  ⟨h.base.to hb, h.pa.to hb, h.pc.to hb, h.num.to hb, below_to h.bel hb⟩
theorem Sg.drewN {w : World} {a' : Option Addr} {D : List Nat} {ga : Nat} {PA : List Nat} {gc : Nat} {PC : List Nat} {gx : Nat} {X : List Int} {wr : World} (h : Sg w a' D ga PA gc PC gx X wr) (k : Nat) : Sg w a' D ga PA gc PC gx X (wr.drewN k) := h.to (below_drewN (Below.refl _ _) k)

end Go.Proofs.Ytlcegnnhlfafgaa
