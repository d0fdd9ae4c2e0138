/- DERIVED. Rows of a plane: parts, cuts, what is laid; copy as a law. -/
import Derived.Test.YtpideemiijhkgabDoorPm
import Derived.Laws.CopyOwn
namespace Go.Proofs.YtpideemiijhkgabDoor
open Go.RowKit

theorem tab_self (L : List Nat) : tab L.length (fun j => L.getD j 0) = L := (eq_tab rfl fun _ _ => rfl).symm
theorem splice_len (L : List Nat) (o : Nat) (c : List Nat) (h : o + c.length ≤ L.length) : (splice L o c).length = L.length := length_splice L o c h
theorem splice_get (L : List Nat) (o : Nat) (c : List Nat) (h : o + c.length ≤ L.length) (j : Nat) : (splice L o c).getD j 0 = if o ≤ j ∧ j < o + c.length then c.getD (j - o) 0 else L.getD j 0 := by
  simp only [splice, List.getD_eq_getElem?_getD, List.getElem?_append, List.getElem?_take, List.getElem?_drop, List.length_take]
  have e : min o L.length = o := by omega
  rw [e]
  by_cases h1 : j < o
  · rw [if_pos h1, if_pos h1, if_neg (by omega)]
  · rw [if_neg h1]
    by_cases h2 : j < o + c.length
    · rw [if_pos (by omega), if_pos (by omega)]
    · rw [if_neg (by omega), if_neg (by omega), show o + c.length + (j - o - c.length) = j from by omega]
theorem lt_row {y w i : Nat} (hw : 0 < w) : i < y * w ↔ i / w < y := by rw [Nat.div_lt_iff_lt_mul hw]
/-- n samples from place o on -/
def seg (C : List Nat) (o n : Nat) : List Nat := tab n fun j => C.getD (o + j) 0
theorem seg_len (C : List Nat) (o n : Nat) : (seg C o n).length = n := tab_len _ _
theorem seg_get (C : List Nat) (o n : Nat) {j : Nat} (h : j < n) : (seg C o n).getD j 0 = C.getD (o + j) 0 := tab_get _ h
theorem seg_all (C : List Nat) : seg C 0 C.length = C := by unfold seg; simp only [Nat.zero_add]; exact tab_self C
/-- the samples of a rectangle -/
def cutF (W : Nat) (C : List Nat) (X Y w i : Nat) : Nat := C.getD ((Y + i / w) * W + (X + i % w)) 0
def cutL (W : Nat) (C : List Nat) (X Y w h : Nat) : List Nat := tab (w * h) (cutF W C X Y w)
def cutP (W : Nat) (C : List Nat) (X Y w h y : Nat) : List Nat := tab (w * h) fun i => if i < y * w then cutF W C X Y w i else 0
theorem cutP_len (W : Nat) (C : List Nat) (X Y w h y : Nat) : (cutP W C X Y w h y).length = w * h := tab_len _ _
theorem cutL_len (W : Nat) (C : List Nat) (X Y w h : Nat) : (cutL W C X Y w h).length = w * h := tab_len _ _
theorem cutP_zero (W : Nat) (C : List Nat) (X Y w h : Nat) : cutP W C X Y w h 0 = List.replicate (w * h) 0 := by
  unfold cutP
  refine (eq_tab (by simp) fun j hj => ?_).symm
  rw [rep_get hj, if_neg (by omega)]
theorem cutP_all (W : Nat) (C : List Nat) (X Y w h : Nat) : cutP W C X Y w h h = cutL W C X Y w h := tab_eq fun j hj => by rw [if_pos (by rw [Nat.mul_comm]; exact hj)]
theorem cutP_step (W : Nat) (C : List Nat) (X Y w h y : Nat) (hy : y < h) : splice (cutP W C X Y w h y) (y * w) (seg C ((Y + y) * W + X) w) = cutP W C X Y w h (y + 1) := by
  have hr := row_le (w := w) hy
  have e : (y + 1) * w = y * w + w := by rw [Nat.add_mul, Nat.one_mul]
  have hf : y * w + (seg C ((Y + y) * W + X) w).length ≤ (cutP W C X Y w h y).length := by rw [seg_len, cutP_len]; exact hr
  refine list_eq_of_getD (by rw [splice_len _ _ _ hf, cutP_len, cutP_len]) fun j hj => ?_
  rw [splice_len _ _ _ hf, cutP_len] at hj
  rw [splice_get _ _ _ hf, seg_len]
  unfold cutP
  rw [tab_get _ hj, tab_get _ hj]
  by_cases h1 : y * w ≤ j ∧ j < y * w + w
  · obtain ⟨d, m⟩ := dm h1.1 h1.2
    rw [if_pos h1, if_pos (by omega), seg_get _ _ _ (by omega)]
    unfold cutF
    rw [d, m, Nat.add_assoc]
  · rw [if_neg h1]
    by_cases h2 : j < y * w
    · rw [if_pos h2, if_pos (by omega)]
    · rw [if_neg h2, if_neg (by omega)]
/-- a plane with other samples in a rectangle's first y rows -/
def layF (W : Nat) (C : List Nat) (X Y w : Nat) (B : List Nat) (y i : Nat) : Nat := if X ≤ i % W ∧ i % W < X + w ∧ Y ≤ i / W ∧ i / W < Y + y then B.getD ((i / W - Y) * w + (i % W - X)) 0 else C.getD i 0
def layL (W : Nat) (C : List Nat) (X Y w : Nat) (B : List Nat) (y : Nat) : List Nat := tab C.length (layF W C X Y w B y)
theorem layL_len (W : Nat) (C : List Nat) (X Y w : Nat) (B : List Nat) (y : Nat) : (layL W C X Y w B y).length = C.length := tab_len _ _
theorem layL_get {W : Nat} {C : List Nat} {X Y w : Nat} {B : List Nat} {y i : Nat} (h : i < C.length) : (layL W C X Y w B y).getD i 0 = layF W C X Y w B y i := tab_get _ h
theorem layL_zero (W : Nat) (C : List Nat) (X Y w : Nat) (B : List Nat) : layL W C X Y w B 0 = C := by
  unfold layL
  exact (eq_tab rfl fun j _ => by unfold layF; rw [if_neg (by omega)]).symm
theorem layL_step {W H : Nat} {C : List Nat} {X Y w h : Nat} {B : List Nat} {y : Nat} (hC : C.length = W * H) (hX : X + w ≤ W) (hY : Y + h ≤ H) (hy : y < h) : splice (layL W C X Y w B y) ((Y + y) * W + X) (seg B (y * w) w) = layL W C X Y w B (y + 1) := by
  have hr := row_le (y := Y + y) (h := H) (w := W) (by omega)
  have hf : (Y + y) * W + X + (seg B (y * w) w).length ≤ (layL W C X Y w B y).length := by rw [seg_len, layL_len, hC]; omega
  refine list_eq_of_getD (by rw [splice_len _ _ _ hf, layL_len, layL_len]) fun j hj => ?_
  rw [splice_len _ _ _ hf, layL_len] at hj
  rw [splice_get _ _ _ hf, seg_len]
  rw [layL_get hj, layL_get hj]
  unfold layF
  by_cases h1 : (Y + y) * W + X ≤ j ∧ j < (Y + y) * W + X + w
  · obtain ⟨d, m⟩ := dm (y := Y + y) (w := W) (i := j) (by omega) (by omega)
    rw [if_pos h1, d, m, if_pos (by omega), seg_get _ _ _ (by omega)]
    congr 1
    rw [show Y + y - Y = y from by omega]
    omega
  · rw [if_neg h1]
    by_cases hW : W = 0
    · subst hW; rw [if_neg (by omega), if_neg (by omega)]
    · obtain ⟨p, q⟩ := parts j W (by omega)
      by_cases h2 : X ≤ j % W ∧ j % W < X + w ∧ Y ≤ j / W ∧ j / W < Y + y
      · rw [if_pos h2, if_pos (by omega)]
      · rw [if_neg h2, if_neg]
        intro h3
        have e : j / W = Y + y := by omega
        rw [e] at p
        omega
theorem Tryd.size5 : (Tryd.prog.info? 5).map (·.size) = some 1 := by kernel_rfl
theorem Sl.seg {w : World} {k : IntKind} {b o : Nat} {C : List Nat} (h : Sl w k (some ⟨b, o, none⟩) C) (p n : Nat) (hp : p + n ≤ C.length) : Sl w k (some ⟨b, o + p, none⟩) (seg C p n) := by
  by_cases h0 : n = 0
  · left; exact List.eq_nil_of_length_eq_zero (by rw [seg_len]; exact h0)
  · obtain ⟨b', o', e, h2, h3⟩ := h.form (by omega)
    simp only [Option.some.injEq, Addr.mk.injEq] at e
    obtain ⟨rfl, rfl, _⟩ := e
    refine Or.inr ⟨b, o + p, rfl, h2, fun j hj => ?_⟩
    rw [seg_len] at hj
    rw [seg_get _ _ _ hj, Nat.add_assoc]
    exact h3 (p + j) (by omega)
theorem ns_splice (k : IntKind) (C : List Nat) (o : Nat) (D : List Nat) : ns k (splice C o D) = splice (ns k C) o (ns k D) := by simp [ns, splice]
/-- copy into a row -/
theorem wpList_copy_rw {w : World} {ops : Array Oper} {rest : List Oper} {o : Oper} {a : Act} {Q : Exit → Act → World → Prop} (hgd : o.guard = none) (d s : Operand)
    (ho : o.op = .call { callee := .builtin .copy, args := #[d, s], argTypes := #[22, 22] })
    (dp sp : Option Addr) (dLen dCap sLen sCap : Nat) (hd : a.eval d = .slice dp dLen dCap) (hs : a.eval s = .slice sp sLen sCap)
    (g off : Nat) (C D : List Nat) (hg : Rw w g C) (hn : D.length = Nat.min sLen dLen) (hdp : dp = some ⟨g, off, none⟩) (hsp : Sl w .u8 sp D) (hfit : off + D.length ≤ C.length)
    (h : ∀ w', Rw w' g (splice C off D) → Kb g w w' → wpList Tryd.prog ops Q rest (a.put o.dst (goInt D.length)) w') :
    wpList Tryd.prog ops Q (o :: rest) a w := by
  by_cases h0 : D.length = 0
  · obtain rfl : D = [] := List.eq_nil_of_length_eq_zero h0
    refine wpList_copy_nothing hgd d s 22 22 ho 5 Tryd.underlying22 Tryd.size5 dp sp dLen dCap sLen sCap hd hs (by simpa using hn.symm) ?_
    exact h w ⟨by simpa [splice] using hg.heap⟩ (Kb.refl _ _)
  · subst hdp
    obtain ⟨b, p, rfl, _, hc⟩ := hsp.form (by omega)
    have hl := ns_length .u8 D
    have hl2 := ns_length .u8 C
    refine wpList_copy_own hgd d s 22 22 ho 5 Tryd.underlying22 Tryd.size5 g off dLen dCap ⟨b, p, none⟩ sLen sCap hd hs _ 5 hg.heap (ns .u8 D) (by rw [hl]; exact hn) ?_ (by rw [hl]; simp only [List.size_toArray]; omega) (ns_one _ _) ?_
    · intro j v hj
      have hjl : j < D.length := by have := List.getElem?_eq_some_iff.1 hj; obtain ⟨h1, _⟩ := this; omega
      rw [ns_get _ D j hjl] at hj
      rw [← hj, addr_add]
      exact hc j hjl
    · rw [hl]
      refine h _ ⟨?_⟩ (Kb.setRow _ _ _)
      rw [ns_splice]
      simpa [splice, hl] using setRow_heap w g _ _ 5 _ hg.heap
/-- the same in a region that draws its order -/
theorem step_copy_rw {ops : Array Oper} {o : Oper} {a : Act} {w : World} {K : Act → World → Prop} {Q : Exit → Act → World → Prop} {E : Prop} (hgd : o.guard = none) (d s : Operand)
    (ho : o.op = .call { callee := .builtin .copy, args := #[d, s], argTypes := #[22, 22] })
    (dp sp : Option Addr) (dLen dCap sLen sCap : Nat) (hd : a.eval d = .slice dp dLen dCap) (hs : a.eval s = .slice sp sLen sCap)
    (g off : Nat) (C D : List Nat) (hg : Rw w g C) (hn : D.length = Nat.min sLen dLen) (h0 : 0 < D.length) (hdp : dp = some ⟨g, off, none⟩) (hsp : Sl w .u8 sp D) (hfit : off + D.length ≤ C.length)
    (h : ∀ w', Rw w' g (splice C off D) → Kb g w w' → K (a.put o.dst (goInt D.length)) w') :
    if Region.wanted o (yielded ops a.tmps) = true then Oper.wp Tryd.prog o a w K Q else E := by
  have hw : Region.wanted o (yielded ops a.tmps) = true := by simp [Region.wanted, hgd]
  rw [if_pos hw]
  subst hdp
  obtain ⟨b, p, rfl, _, hc⟩ := hsp.form h0
  have hl := ns_length .u8 D
  have hl2 := ns_length .u8 C
  have hrun := run_copy_row (P := Tryd.prog) w 22 22 o.type 5 g off dLen dCap ⟨b, p, none⟩ sLen sCap _ 5 (ns .u8 D) Tryd.underlying22 Tryd.size5 hg.heap (by rw [hl]; exact hn) (by
    intro j v hj
    have hjl : j < D.length := by have := List.getElem?_eq_some_iff.1 hj; obtain ⟨h1, _⟩ := this; omega
    rw [ns_get _ D j hjl] at hj
    rw [← hj, addr_add]
    exact hc j hjl) (by rw [hl]; simp only [List.size_toArray]; omega) (ns_one _ _)
  unfold Oper.wp
  simp [execOp, ho, resolve, invoke, builtin, hd, hs, hrun, Result.andThen]
  rw [hl]
  refine h _ ⟨?_⟩ (Kb.setRow _ _ _)
  rw [ns_splice]
  simpa [splice, hl] using setRow_heap w g _ _ 5 _ hg.heap
theorem splice_all {C D : List Nat} (h : D.length = C.length) : splice C 0 D = D := by
  refine list_eq_of_getD (by rw [splice_len _ _ _ (by omega), h]) fun j hj => ?_
  rw [splice_len _ _ _ (by omega)] at hj
  rw [splice_get _ _ _ (by omega), if_pos (by omega), Nat.sub_zero]

end Go.Proofs.YtpideemiijhkgabDoor
