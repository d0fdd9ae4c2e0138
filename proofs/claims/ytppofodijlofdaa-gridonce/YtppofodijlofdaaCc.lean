/- DERIVED. Rows of cells; cellAt, cellsOf. -/
import Derived.Test.YtppofodijlofdaaCb
namespace Go.Proofs.Ytppofodijlofdaa
open Go.RowKit

/-- cells, as they lie in memory -/
def zs (C : List (Int × Int)) : List Value := C.flatMap fun c => [.int .i64 c.1, .int .i64 c.2]
theorem zs_nil : zs [] = [] := rfl
theorem zs_cons (c : Int × Int) (C : List (Int × Int)) : zs (c :: C) = .int .i64 c.1 :: .int .i64 c.2 :: zs C := rfl
theorem zs_append (A B : List (Int × Int)) : zs (A ++ B) = zs A ++ zs B := by simp [zs]
theorem zs_length : ∀ C : List (Int × Int), (zs C).length = C.length * 2
  | [] => rfl
  | c :: C => by rw [zs_cons, List.length_cons, List.length_cons, zs_length C, List.length_cons]; omega
theorem zs_one (C : List (Int × Int)) : ∀ u ∈ zs C, u.oneCell' = true := by
  intro u hu
  obtain ⟨c, _, h⟩ := List.mem_flatMap.1 hu
  simp at h
  rcases h with rfl | rfl <;> rfl
theorem zs_at : ∀ (C : List (Int × Int)) (k : Nat), k < C.length → (zs C)[k * 2]? = some (.int .i64 (C.getD k (0, 0)).1) ∧ (zs C)[k * 2 + 1]? = some (.int .i64 (C.getD k (0, 0)).2)
  | [], k, hk => by simp at hk
  | c :: C, 0, _ => ⟨rfl, rfl⟩
  | c :: C, k + 1, hk => by
    have := zs_at C k (by simpa using hk)
    rw [zs_cons, show (k + 1) * 2 = k * 2 + 1 + 1 from by omega]
    exact ⟨by simpa using this.1, by simpa using this.2⟩
/-- a slice from address a holds the cells C -/
def Sc (w : World) (a : Option Addr) (C : List (Int × Int)) : Prop :=
  C = [] ∨ ∃ b o, a = some ⟨b, o, none⟩ ∧ b < w.heap.size ∧ ∀ k, k < C.length → w.cell? ⟨b, o + k * 2, none⟩ = some (.int .i64 (C.getD k (0, 0)).1) ∧ w.cell? ⟨b, o + k * 2 + 1, none⟩ = some (.int .i64 (C.getD k (0, 0)).2)
theorem Sc.below {w w' : World} {a : Option Addr} {C : List (Int × Int)} (h : Sc w a C) {B : Nat} (hb : Below B w w') (hB : w.heap.size ≤ B) : Sc w' a C := by
  rcases h with h | ⟨b, o, h1, h2, h3⟩
  · exact Or.inl h
  · exact Or.inr ⟨b, o, h1, Nat.lt_of_lt_of_le h2 hb.size, fun k hk => by rw [newCell hb b _ (by omega), newCell hb b _ (by omega)]; exact h3 k hk⟩
theorem Sc.to {w w' : World} {a : Option Addr} {C : List (Int × Int)} (h : Sc w a C) (hb : Below w.heap.size w w') : Sc w' a C := h.below hb (Nat.le_refl _)
/-- a row of cells that the call itself made -/
structure Oc (w : World) (B : Nat) (a : Option Addr) (n c : Nat) (C : List (Int × Int)) : Prop where
  own : w.ownsRow B 74 2 (.slice a n c) n (zs C)
theorem Oc.len {w : World} {B n c : Nat} {a : Option Addr} {C : List (Int × Int)} (h : Oc w B a n c C) : C.length = n := by have := h.own.1; rw [zs_length] at this; omega
theorem Oc.nil (w : World) (B : Nat) : Oc w B none 0 0 [] := ⟨World.ownsRow_nil _ _ _ _⟩
theorem Oc.to {w w' : World} {B n c : Nat} {a : Option Addr} {C : List (Int × Int)} (h : Oc w B a n c C) (hb : Below w.heap.size w w') : Oc w' B a n c C := ⟨own_below h.own hb⟩
theorem Oc.sc {w : World} {B n c : Nat} {a : Option Addr} {C : List (Int × Int)} (h : Oc w B a n c C) : Sc w a C := by
  have hl := h.len
  by_cases h0 : C.length = 0
  · exact Or.inl (List.eq_nil_of_length_eq_zero h0)
  · obtain ⟨b, cap, hv, _, hlt⟩ := h.own.form (by omega)
    simp only [Value.slice.injEq] at hv
    obtain ⟨rfl, _, rfl⟩ := hv
    refine Or.inr ⟨b, 0, rfl, hlt, fun k hk => ?_⟩
    have := zs_at C k hk
    rw [Nat.zero_add, h.own.cellAt (k * 2) (by omega), h.own.cellAt (k * 2 + 1) (by omega)]
    exact this
theorem Try.info74 : (Try.prog.info? 74).map (fun i => (i.zero, i.size, i.bytes)) = some (some (.agg #[.int .i64 0, .int .i64 0]), 2, 16) := by kernel_rfl
/-- 'append(l, c)' on a row of cells -/
theorem wpList_append_cell (wr : World) {ops : Array Oper} {rest : List Oper} {o : Oper} {a : Act} {Q : Exit → Act → World → Prop} (hgd : o.guard = none) (s x : Operand)
    (ho : o.op = .call { callee := .builtin .append, args := #[s, x], argTypes := #[71, 71] })
    (B n c : Nat) (C : List (Int × Int)) (ad : Option Addr) (y y' : Int) (hown : Oc wr B ad n c C) (hB : B ≤ wr.heap.size) (hL : n < 1048576)
    (hs : a.eval s = .slice ad n c) (hx : a.eval x = .slice (some ⟨wr.heap.size, 0, none⟩) 1 1)
    (h : ∀ ad' cap w', Oc w' B ad' (n + 1) cap (C ++ [(y, y')]) → Below B wr w' → B ≤ w'.heap.size → wpList Try.prog ops Q rest (a.put o.dst (.slice ad' (n + 1) cap)) w') :
    wpList Try.prog ops Q (o :: rest) a (wr.alloc (.cells #[.int .i64 y, .int .i64 y'] 74)) := by
  obtain ⟨i, hi, hz0, hz1, hz2⟩ := info_parts Try.info74
  have hnews : ∀ j u, (zs [(y, y')])[j]? = some u → (wr.alloc (.cells #[.int .i64 y, .int .i64 y'] 74)).cell? ((⟨wr.heap.size, 0, none⟩ : Addr).add j) = some u := World.news_of_block (cs := #[.int .i64 y, .int .i64 y']) (heap_alloc_new wr _)
  refine wpList_append_lies _ hgd s x 71 ho B 74 i (.agg #[.int .i64 0, .int .i64 0]) 2 16 Try.underlying71 hi hz0 hz1 hz2 rfl (by omega) (.slice ad n c) n (zs C) hs (hown.own.alloc _) ⟨wr.heap.size, 0, none⟩ 1 1 (zs [(y, y')]) hx (by rfl) hnews (zs_one _) (by omega) (by unfold maxLen; omega) (by omega) (by simp; omega) (wr.heap.size + 1) (by simp) ?_
  intro g cap w' hown' hgrow hat _
  have hgr : wr.grownBy w' (Value.slice ad n c).ownBlock := ⟨hgrow.os, hgrow.tape, hgrow.output, Nat.le_trans (by simp) hgrow.size, fun i hi hne => by
    rw [hgrow.block i (by simp; omega) hne]
    exact (MapKept.heap_alloc wr _).2 i hi⟩
  have hbb : Below B wr w' := ⟨hgr.os, hgr.tape, hgr.output, hgr.size, fun i hi => hgr.block i (by omega) (fun e => by have := (hown.own.lt i e.symm).1; omega)⟩
  exact h _ cap w' ⟨by rw [zs_append]; exact hown'⟩ hbb (Nat.le_trans hB hbb.size)
set_option maxRecDepth 100000 in
theorem cellAt_any {w : World} {x y cx cy : Int} (hx : x / 8 = cx) (hy : y / 8 = cy) : Calls Try.prog 35 #[.int .i64 x, .int .i64 y] w fun e w' => e = .returned (.agg #[.int .i64 cx, .int .i64 cy]) ∧ Below w.heap.size w w' := by
  have HB : Hid (Below w.heap.size w (w.alloc (.cells #[.int .i64 cx, .int .i64 cy] 74))) := from_alloc _ _
  go_enter Try.func35, Try.ntmps35
  go_wp2_with fail
  refine bodyPost_ret (v := .agg #[.int .i64 cx, .int .i64 cy]) (by simp [results, Try.results35, go_sem]) rfl ?_
  exact ⟨rfl, HB.out⟩
end Go.Proofs.Ytppofodijlofdaa
