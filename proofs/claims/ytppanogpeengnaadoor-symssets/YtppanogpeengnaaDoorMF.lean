/- DERIVED. Several texts in one: The document's rows, Shape, Flat and Steep of a kind. Rows of tables and sets that grow by append. The walk of the document's Default. The walk of the document's Copy. The walk of the document's Check, of a set that may be. -/
import Derived.Test.YtppanogpeengnaaDoorS5
import Derived.Test.YtppanogpeengnaaDoorMA
import Derived.Deep.DeepCutAuto
import Derived.Deep.RegionLaw
import Derived.Deep.RegionHeld3
namespace Go.Proofs.YtppanogpeengnaaDoor
open Go.RowKit L3

/-- the document's rows, one behind the other -/
def rT : List Nat := [8, 10, 0, 4, 8, 0, 3, 2, 0, 3, 2, 0, 4, 13, 0, 8, 7, 0, 1, 13, 0, 1, 14, 0, 1, 8, 0, 2, 16, 1, 1, 2, 0, 3, 3, 0, 3, 9, 0, 1, 2, 0, 3, 3, 0, 1, 2, 0, 3, 4, 0, 1, 4, 0, 2, 11, 1, 2, 8, 0, 1, 3, 0, 1, 2, 0, 4, 2, 0, 2, 5, 0, 2, 7, 0, 2, 9, 0, 2, 11, 0, 2, 3, 1, 10, 4, 1, 14, 4, 1, 6, 2, 0, 3, 2, 0]
def sF (k : Nat) : Nat := if sS k then 1 else 0
theorem rT_all : ∀ k, k < 32 → rT.getD (k * 3) 0 = sC k ∧ rT.getD (k * 3 + 1) 0 = sV k ∧ rT.getD (k * 3 + 2) 0 = sF k := by decide +kernel
theorem rT_cell (w : World) (j : Nat) (h : j < 96) : (w.alloc (.cells #[.int .i64 8, .int .i64 10, .int .i64 0, .int .i64 4, .int .i64 8, .int .i64 0, .int .i64 3, .int .i64 2, .int .i64 0, .int .i64 3, .int .i64 2, .int .i64 0, .int .i64 4, .int .i64 13, .int .i64 0, .int .i64 8, .int .i64 7, .int .i64 0, .int .i64 1, .int .i64 13, .int .i64 0, .int .i64 1, .int .i64 14, .int .i64 0, .int .i64 1, .int .i64 8, .int .i64 0, .int .i64 2, .int .i64 16, .int .i64 1, .int .i64 1, .int .i64 2, .int .i64 0, .int .i64 3, .int .i64 3, .int .i64 0, .int .i64 3, .int .i64 9, .int .i64 0, .int .i64 1, .int .i64 2, .int .i64 0, .int .i64 3, .int .i64 3, .int .i64 0, .int .i64 1, .int .i64 2, .int .i64 0, .int .i64 3, .int .i64 4, .int .i64 0, .int .i64 1, .int .i64 4, .int .i64 0, .int .i64 2, .int .i64 11, .int .i64 1, .int .i64 2, .int .i64 8, .int .i64 0, .int .i64 1, .int .i64 3, .int .i64 0, .int .i64 1, .int .i64 2, .int .i64 0, .int .i64 4, .int .i64 2, .int .i64 0, .int .i64 2, .int .i64 5, .int .i64 0, .int .i64 2, .int .i64 7, .int .i64 0, .int .i64 2, .int .i64 9, .int .i64 0, .int .i64 2, .int .i64 11, .int .i64 0, .int .i64 2, .int .i64 3, .int .i64 1, .int .i64 10, .int .i64 4, .int .i64 1, .int .i64 14, .int .i64 4, .int .i64 1, .int .i64 6, .int .i64 2, .int .i64 0, .int .i64 3, .int .i64 2, .int .i64 0] 90)).cell? ⟨w.heap.size, j, none⟩ = some (.int .i64 (rT.getD j 0 : Nat)) := by
  rw [cell_of (heap_new w _)]
  change ((rT.map fun z : Nat => Value.int .i64 (z : Int)).toArray)[j]? = _
  have hl : j < rT.length := h
  rw [List.getElem?_toArray, List.getElem?_map, List.getD_eq_getElem?_getD, List.getElem?_eq_getElem hl]
  rfl
/-- the rows lie in block g -/
structure Rw (w : World) (g : Nat) : Prop where
  low : g < w.heap.size
  c : ∀ k, k < 32 → w.cell? ⟨g, k * 3, none⟩ = some (.int .i64 (sC k : Nat))
  v : ∀ k, k < 32 → w.cell? ⟨g, k * 3 + 1, none⟩ = some (.int .i64 (sV k : Nat))
  f : ∀ k, k < 32 → w.cell? ⟨g, k * 3 + 2, none⟩ = some (.int .i64 (sF k : Nat))
theorem Rw.to {w w' : World} {g : Nat} (h : Rw w g) (hb : Below w.heap.size w w') : Rw w' g :=
  ⟨Nat.lt_of_lt_of_le h.low hb.size, fun k hk => by rw [newCell hb _ _ h.low]; exact h.c k hk, fun k hk => by rw [newCell hb _ _ h.low]; exact h.v k hk, fun k hk => by rw [newCell hb _ _ h.low]; exact h.f k hk⟩
theorem Rw.ke {P : Nat → Prop} {w w' : World} {g : Nat} (h : Rw w g) (hk : Ke P w w') (hP : ¬ P g) : Rw w' g :=
  ⟨Nat.lt_of_lt_of_le h.low hk.size, fun k hk' => by rw [hk.cell _ _ h.low hP]; exact h.c k hk', fun k hk' => by rw [hk.cell _ _ h.low hP]; exact h.v k hk', fun k hk' => by rw [hk.cell _ _ h.low hP]; exact h.f k hk'⟩

set_option maxRecDepth 100000 in
set_option maxHeartbeats 4000000 in
theorem rows_any {w : World} : Calls Tryd.prog 47 #[] w fun e w' => ∃ g, e = .returned (.slice (some ⟨g, 0, none⟩) 32 32) ∧ w.heap.size ≤ g ∧ Rw w' g ∧ Below w.heap.size w w' := by
  go_enter Tryd.func47, Tryd.ntmps47
  go_wp2_with fail
  refine bodyPost_ret (v := .slice (some ⟨w.heap.size, 0, none⟩) 32 32) (by simp [results, Tryd.results47, go_sem]) rfl ⟨w.heap.size, rfl, Nat.le_refl _, ⟨by simp, fun k hk => ?_, fun k hk => ?_, fun k hk => ?_⟩, from_alloc _ _⟩
  · exact (rT_cell w (k * 3) (by omega)).trans (by rw [(rT_all k hk).1])
  · exact (rT_cell w (k * 3 + 1) (by omega)).trans (by rw [(rT_all k hk).2.1])
  · exact (rT_cell w (k * 3 + 2) (by omega)).trans (by rw [(rT_all k hk).2.2])

set_option maxRecDepth 100000 in
set_option maxHeartbeats 1000000 in
theorem rshape_ok {w : World} {k : Nat} (hk : k < 32) :
    Calls Tryd.prog 65 #[.int .i64 k] w fun e w' => e = .returned (.tuple #[.int .i64 (sC k : Nat), .int .i64 (sV k : Nat), .int .i64 0]) ∧ Below w.heap.size w w' := by
  have b0 : 0 ≤ (k : Int) := by omega
  have b1 : (k : Int) < 32 := by omega
  have b2 : ¬ (k : Int) < 0 := by omega
  have b3 : ¬ (32 : Int) ≤ (k : Int) := by omega
  have HK : Hid (k < 32) := hk
  clear hk
  obtain ⟨C, hC⟩ : ∃ C, C = sC k := ⟨_, rfl⟩
  obtain ⟨V, hV⟩ : ∃ V, V = sV k := ⟨_, rfl⟩
  obtain ⟨F, hF⟩ : ∃ F, F = sF k := ⟨_, rfl⟩
  rw [← hC, ← hV]
  have HC : Hid (C = sC k) := hC
  have HV : Hid (V = sV k) := hV
  have HF : Hid (F = sF k) := hF
  clear hC hV hF
  go_enter Tryd.func65, Tryd.ntmps65
  go_wp2_with fail
  refine rows_any.mono ?_
  rintro e w1 ⟨g, rfl, -, hr, hb⟩
  have c0 := hr.c k HK.out
  have c1 := hr.v k HK.out
  have c2 := hr.f k HK.out
  have HB : Hid (Below w.heap.size w w1) := hb
  rw [← HC.out] at c0
  rw [← HV.out] at c1
  rw [← HF.out] at c2
  clear hr hb
  go_wp2_with fail
  go_quiet (fail)
  have HQ : Hid (Below w.heap.size w ((w1.alloc (.cells #[.int .i64 (C : Nat), .int .i64 (V : Nat), .int .i64 (F : Nat)] 90)).drewN nq)) := below_drewN (to_alloc HB.out _) nq
  go_wp2_with fail
  exact bodyPost_ret (v := .tuple #[.int .i64 (C : Nat), .int .i64 (V : Nat), .int .i64 0]) (by simp [results, Tryd.results65, go_sem]) rfl ⟨rfl, HQ.out⟩
set_option maxHeartbeats 1000000 in
theorem rshape_no {w : World} {k : Int} (hk : k < 0 ∨ 32 ≤ k) :
    Calls Tryd.prog 65 #[.int .i64 k] w fun e w' => e = .returned (.tuple #[.int .i64 0, .int .i64 0, .int .i64 41]) ∧ Below w.heap.size w w' := by
  have hB : Hid (Below w.heap.size w w) := Below.refl _ _
  rcases hk with hk | hk
  · go_enter Tryd.func65, Tryd.ntmps65
    go_wp2_with fail
    exact bodyPost_ret (v := .tuple #[.int .i64 0, .int .i64 0, .int .i64 41]) (by simp [results, Tryd.results65, go_sem]) rfl ⟨rfl, hB.out⟩
  · have hn : ¬ k < 0 := by omega
    go_enter Tryd.func65, Tryd.ntmps65
    go_wp2_with fail
    exact bodyPost_ret (v := .tuple #[.int .i64 0, .int .i64 0, .int .i64 41]) (by simp [results, Tryd.results65, go_sem]) rfl ⟨rfl, hB.out⟩

end Go.Proofs.YtppanogpeengnaaDoor

namespace Go.Proofs.YtppanogpeengnaaDoor
open Go.RowKit L3

/-- tables, as cells -/
def tcs : List Tb → List Value
  | [] => []
  | t :: L => .slice t.a t.C.length t.c :: .int .i64 t.n :: tcs L
theorem tcs_length : ∀ L : List Tb, (tcs L).length = L.length * 2
  | [] => rfl
  | t :: L => by simp [tcs, tcs_length L]; omega
theorem tcs_append : ∀ L M : List Tb, tcs (L ++ M) = tcs L ++ tcs M
  | [], _ => rfl
  | t :: L, M => by simp [tcs, tcs_append L M]
theorem tcs_one : ∀ (L : List Tb) (u : Value), u ∈ tcs L → u.oneCell' = true
  | t :: L, u, hu => by
    simp only [tcs, List.mem_cons] at hu
    rcases hu with rfl | rfl | hu
    · rfl
    · rfl
    · exact tcs_one L u hu
theorem tcs_get0 : ∀ (L : List Tb) (j : Nat) (t : Tb), L[j]? = some t → (tcs L)[j * 2]? = some (.slice t.a t.C.length t.c)
  | t' :: L, 0, t, h => by simp at h; subst h; rfl
  | t' :: L, j + 1, t, h => by
    have := tcs_get0 L j t (by simpa using h)
    rw [show (j + 1) * 2 = j * 2 + 1 + 1 from by omega]
    simpa [tcs] using this
theorem tcs_get1 : ∀ (L : List Tb) (j : Nat) (t : Tb), L[j]? = some t → (tcs L)[j * 2 + 1]? = some (.int .i64 t.n)
  | t' :: L, 0, t, h => by simp at h; subst h; rfl
  | t' :: L, j + 1, t, h => by
    have := tcs_get1 L j t (by simpa using h)
    rw [show (j + 1) * 2 + 1 = j * 2 + 1 + 1 + 1 from by omega]
    simpa [tcs] using this
/-- the block of a table's numbers -/
def Tbk (t : Tb) (b : Nat) : Prop := t.C ≠ [] ∧ ∃ o, t.a = some ⟨b, o, none⟩
theorem sl_ke {P : Nat → Prop} {w w' : World} (h : Ke P w w') {t : Tb} (hs : Sl w .u16 t.a t.C) (hP : ∀ b, Tbk t b → ¬ P b) : Sl w' .u16 t.a t.C := h.sl hs (fun b o e hC => hP b ⟨hC, o, e⟩)
theorem tbk_lt {w : World} {t : Tb} (hs : Sl w .u16 t.a t.C) {b : Nat} (h : Tbk t b) : b < w.heap.size := by
  obtain ⟨hC, o, e⟩ := h
  rcases hs with e2 | ⟨b', o', h1, h2, _⟩
  · exact absurd e2 hC
  · rw [e] at h1; simp only [Option.some.injEq, Addr.mk.injEq, and_true] at h1; omega

/-- a row that grows -/
structure Gr (w : World) (lo : Nat) (r : Value) (M : List Tb) (D : Nat → Prop) : Prop where
  own : w.ownsRow lo 63 2 r M.length (tcs M)
  sl : ∀ t ∈ M, Sl w .u16 t.a t.C
  dom : ∀ t ∈ M, ∀ b, Tbk t b → D b ∧ r.ownBlock ≠ some b
  od : ∀ g, r.ownBlock = some g → D g
  lt : ∀ y, D y → lo ≤ y ∧ y < w.heap.size
  tz : ∀ t ∈ M, ∀ b, Tbk t b → ∀ j, w.frozen? ⟨b, j, none⟩ = false
theorem Gr.nil (w : World) (lo : Nat) : Gr w lo (.slice none 0 0) [] (fun _ => False) := ⟨World.ownsRow_nil _ _ _ _, fun t h => by simp at h, fun t h => by simp at h, fun g h => by simp [Value.ownBlock] at h, fun _ h => h.elim, fun t h => by simp at h⟩
theorem Gr.ke {P : Nat → Prop} {w w' : World} {lo : Nat} {r : Value} {M : List Tb} {D : Nat → Prop} (h : Gr w lo r M D) (hk : Ke P w w') (hP : ∀ b, P b → ¬ D b) : Gr w' lo r M D :=
  ⟨own_ke h.own hk (fun g hg e => hP g e (h.od g hg)), fun t ht => sl_ke hk (h.sl t ht) (fun b hb e => hP b e (h.dom t ht b hb).1), h.dom, h.od, fun y hy => ⟨(h.lt y hy).1, Nat.lt_of_lt_of_le (h.lt y hy).2 hk.size⟩, fun t ht b hb j => by rw [hk.frozen b j (tbk_lt (h.sl t ht) hb) (fun e => hP b e (h.dom t ht b hb).1)]; exact h.tz t ht b hb j⟩
theorem Gr.to {w w' : World} {lo : Nat} {r : Value} {M : List Tb} {D : Nat → Prop} (h : Gr w lo r M D) (hb : Below w.heap.size w w') : Gr w' lo r M D := h.ke (P := fun _ => False) (Ke.of hb) (fun _ e => e.elim)
theorem Gr.form {w : World} {lo : Nat} {r : Value} {M : List Tb} {D : Nat → Prop} (h : Gr w lo r M D) : ∃ a c, r = .slice a M.length c := L2.own_slice h.own
theorem Gr.more {w : World} {lo : Nat} {r : Value} {M : List Tb} {D : Nat → Prop} (h : Gr w lo r M D) (h0 : 0 < M.length) : ∃ p c, r = .slice (some ⟨p, 0, none⟩) M.length c ∧ D p := by
  obtain ⟨g, cap, hv, _, _⟩ := h.own.form h0
  exact ⟨g, cap, hv, h.od g (by rw [hv]; rfl)⟩
theorem own_eq {r : Value} {g n c : Nat} (e : r = .slice (some ⟨g, 0, none⟩) n c) {b : Nat} (h : r.ownBlock = some b) : b = g := by
  subst e; have : g = b := by simpa [Value.ownBlock] using h
  exact this.symm

/-- 'append(row, t)' -/
theorem wpList_append_row (wr : World) {ops : Array Oper} {rest : List Oper} {o : Oper} {a : Act} {Q : Exit → Act → World → Prop} (hgd : o.guard = none) (s x : Operand)
    (ho : o.op = .call { callee := .builtin .append, args := #[s, x], argTypes := #[60, 60] })
    (lo : Nat) (M : List Tb) (r : Value) (D : Nat → Prop) (t : Tb) (hG : Gr wr lo r M D) (ht : Sl wr .u16 t.a t.C) (hb : ∀ b, Tbk t b → lo ≤ b ∧ ¬ D b) (htz : ∀ b, Tbk t b → ∀ j, wr.frozen? ⟨b, j, none⟩ = false) (hlo : lo ≤ wr.heap.size) (hn : M.length < 1000000)
    (hs : a.eval s = r) (hx : a.eval x = .slice (some ⟨wr.heap.size, 0, none⟩) 1 1)
    (h : ∀ g cap w' D', Gr w' lo (.slice (some ⟨g, 0, none⟩) (M.length + 1) cap) (M ++ [t]) D' → (∀ y, D' y → D y ∨ Tbk t y ∨ wr.heap.size ≤ y) → Ke D wr w' → wpList Tryd.prog ops Q rest (a.put o.dst (.slice (some ⟨g, 0, none⟩) (M.length + 1) cap)) w') :
    wpList Tryd.prog ops Q (o :: rest) a (wr.alloc (.cells #[.slice t.a t.C.length t.c, .int .i64 t.n] 63)) := by
  obtain ⟨i, hi, hz0, hz1, hz2⟩ := info_parts Tryd.inf63
  have hnews : ∀ j u, (tcs [t])[j]? = some u → (wr.alloc (.cells #[.slice t.a t.C.length t.c, .int .i64 t.n] 63)).cell? ((⟨wr.heap.size, 0, none⟩ : Addr).add j) = some u := World.news_of_block (cs := #[.slice t.a t.C.length t.c, .int .i64 t.n]) (heap_alloc_new wr _)
  refine wpList_append_lies _ hgd s x 60 ho lo 63 i (.agg #[.slice none 0 0, .int .i64 0]) 2 32 Tryd.underlying60 hi hz0 hz1 hz2 rfl (by omega) r M.length (tcs M) hs (hG.own.alloc _) ⟨wr.heap.size, 0, none⟩ 1 1 (tcs [t]) hx (by rfl) hnews (tcs_one _) (by omega) (by unfold maxLen; omega) (by omega) (by simp; omega) (wr.heap.size + 1) (by simp) ?_
  intro g cap w' hown' hgrow hat hlt
  have hk := grown_ke (from_alloc wr _) hgrow
  have hkD : Ke D wr w' := ⟨hk.os, hk.tape, hk.output, hk.size, fun k hk1 hk2 => hk.block k hk1 (fun e => hk2 (hG.od k e))⟩
  have hgo : ∀ b, (Value.slice (some ⟨g, 0, none⟩) (M.length + 1) cap).ownBlock = some b → b = g := fun b e => own_eq rfl e
  refine h g cap w' (fun y => D y ∨ Tbk t y ∨ y = g) ⟨by rw [List.length_append, tcs_append]; exact hown', fun u hu => ?_, fun u hu b hub => ?_, fun b e => Or.inr (Or.inr (hgo b e)), fun y hy => ?_, fun u hu b hub j => ?_⟩ (fun y hy => ?_) hkD
  · rcases List.mem_append.1 hu with e | e
    · exact sl_ke hk (hG.sl u e) (fun b hb' e2 => (hG.dom u e b hb').2 e2)
    · obtain rfl := List.mem_singleton.1 e
      exact sl_ke hk ht (fun b hb' e2 => (hb b hb').2 (hG.od b e2))
  · rcases List.mem_append.1 hu with e | e
    · refine ⟨Or.inl (hG.dom u e b hub).1, fun e2 => ?_⟩
      have e3 := hgo b e2
      rcases hat with e4 | e4
      · exact (hG.dom u e b hub).2 (by rw [e3]; exact e4)
      · have := tbk_lt (hG.sl u e) hub; omega
    · obtain rfl := List.mem_singleton.1 e
      refine ⟨Or.inr (Or.inl hub), fun e2 => ?_⟩
      have e3 := hgo b e2
      rcases hat with e4 | e4
      · exact (hb b hub).2 (hG.od b (by rw [e3]; exact e4))
      · have := tbk_lt ht hub; omega
  · rcases hy with hy | hy | hy
    · exact ⟨(hG.lt y hy).1, Nat.lt_of_lt_of_le (hG.lt y hy).2 hk.size⟩
    · exact ⟨(hb y hy).1, Nat.lt_of_lt_of_le (tbk_lt ht hy) hk.size⟩
    · subst hy; exact ⟨(hown'.lt y rfl).1, hlt⟩
  · rcases List.mem_append.1 hu with e | e
    · rw [hk.frozen b j (tbk_lt (hG.sl u e) hub) (fun e2 => (hG.dom u e b hub).2 e2)]
      exact hG.tz u e b hub j
    · obtain rfl := List.mem_singleton.1 e
      rw [hk.frozen b j (tbk_lt ht hub) (fun e2 => (hb b hub).2 (hG.od b e2))]
      exact htz b hub j
  · rcases hy with hy | hy | hy
    · exact Or.inl hy
    · exact Or.inr (Or.inl hy)
    · subst hy
      rcases hat with e | e
      · exact Or.inl (hG.od y e)
      · exact Or.inr (Or.inr (by omega))

/-- a row as a value -/
def hdv (x : Nat × Nat × List Tb) : Value := .slice (some ⟨x.1, 0, none⟩) x.2.2.length x.2.1
/-- a set that grows, row by row -/
structure Gs (w : World) (lo : Nat) (v : Value) (L : List (Nat × Nat × List Tb)) (D : Nat → Prop) : Prop where
  own : w.ownsRow lo 60 1 v L.length (L.map hdv)
  row : ∀ x ∈ L, w.ownsRow lo 63 2 (hdv x) x.2.2.length (tcs x.2.2)
  inj : ∀ (j k : Nat) (x y : Nat × Nat × List Tb), L[j]? = some x → L[k]? = some y → x.1 = y.1 → j = k
  sl : ∀ x ∈ L, ∀ t ∈ x.2.2, Sl w .u16 t.a t.C
  dom : ∀ x ∈ L, (D x.1 ∧ v.ownBlock ≠ some x.1) ∧ ∀ t ∈ x.2.2, ∀ b, Tbk t b → D b ∧ v.ownBlock ≠ some b
  ap : ∀ x ∈ L, ∀ t ∈ x.2.2, ∀ b, Tbk t b → ∀ y ∈ L, b ≠ y.1
  od : ∀ g, v.ownBlock = some g → D g
  lt : ∀ y, D y → lo ≤ y ∧ y < w.heap.size
  tz : ∀ x ∈ L, ∀ t ∈ x.2.2, ∀ b, Tbk t b → ∀ j, w.frozen? ⟨b, j, none⟩ = false
theorem Gs.nil (w : World) (lo : Nat) : Gs w lo (.slice none 0 0) [] (fun _ => False) := ⟨World.ownsRow_nil _ _ _ _, fun x h => by simp at h, fun j k x y h => by simp at h, fun x h => by simp at h, fun x h => by simp at h, fun x h => by simp at h, fun g h => by simp [Value.ownBlock] at h, fun _ h => h.elim, fun x h => by simp at h⟩
theorem Gs.ke {P : Nat → Prop} {w w' : World} {lo : Nat} {v : Value} {L : List (Nat × Nat × List Tb)} {D : Nat → Prop} (h : Gs w lo v L D) (hk : Ke P w w') (hP : ∀ b, P b → ¬ D b) : Gs w' lo v L D :=
  ⟨own_ke h.own hk (fun g hg e => hP g e (h.od g hg)), fun x hx => own_ke (h.row x hx) hk (fun g hg e => hP g e (by rw [own_eq rfl hg]; exact (h.dom x hx).1.1)), h.inj, fun x hx t ht => sl_ke hk (h.sl x hx t ht) (fun b hb e => hP b e ((h.dom x hx).2 t ht b hb).1), h.dom, h.ap, h.od, fun y hy => ⟨(h.lt y hy).1, Nat.lt_of_lt_of_le (h.lt y hy).2 hk.size⟩, fun x hx t ht b hb j => by rw [hk.frozen b j (tbk_lt (h.sl x hx t ht) hb) (fun e => hP b e ((h.dom x hx).2 t ht b hb).1)]; exact h.tz x hx t ht b hb j⟩
theorem Gs.to {w w' : World} {lo : Nat} {v : Value} {L : List (Nat × Nat × List Tb)} {D : Nat → Prop} (h : Gs w lo v L D) (hb : Below w.heap.size w w') : Gs w' lo v L D := h.ke (P := fun _ => False) (Ke.of hb) (fun _ e => e.elim)
theorem Gs.form {w : World} {lo : Nat} {v : Value} {L : List (Nat × Nat × List Tb)} {D : Nat → Prop} (h : Gs w lo v L D) : ∃ a c, v = .slice a L.length c := L2.own_slice h.own
theorem hdv_one (L : List (Nat × Nat × List Tb)) : ∀ u ∈ L.map hdv, u.oneCell' = true := by
  intro u hu
  obtain ⟨z, _, rfl⟩ := List.mem_map.1 hu
  rfl
/-- 'append(set, row)' -/
theorem wpList_append_set2 (wr : World) {ops : Array Oper} {rest : List Oper} {o : Oper} {a : Act} {Q : Exit → Act → World → Prop} (hgd : o.guard = none) (s x : Operand)
    (ho : o.op = .call { callee := .builtin .append, args := #[s, x], argTypes := #[23, 23] })
    (lo : Nat) (L : List (Nat × Nat × List Tb)) (v : Value) (D Dr : Nat → Prop) (p cr : Nat) (M : List Tb) (hG : Gs wr lo v L D) (hR : Gr wr lo (.slice (some ⟨p, 0, none⟩) M.length cr) M Dr) (hd : ∀ y, Dr y → ¬ D y) (hlo : lo ≤ wr.heap.size) (hn : L.length < 1000000)
    (hs : a.eval s = v) (hx : a.eval x = .slice (some ⟨wr.heap.size, 0, none⟩) 1 1)
    (h : ∀ g cap w' D', Gs w' lo (.slice (some ⟨g, 0, none⟩) (L.length + 1) cap) (L ++ [(p, cr, M)]) D' → (∀ y, D' y → D y ∨ Dr y ∨ wr.heap.size ≤ y) → Ke D wr w' → wpList Tryd.prog ops Q rest (a.put o.dst (.slice (some ⟨g, 0, none⟩) (L.length + 1) cap)) w') :
    wpList Tryd.prog ops Q (o :: rest) a (wr.alloc (.cells #[.slice (some ⟨p, 0, none⟩) M.length cr] 60)) := by
  obtain ⟨i, hi, hz0, hz1, hz2⟩ := info_parts Tryd.inf60
  have hnews : ∀ j u, ([(p, cr, M)].map hdv)[j]? = some u → (wr.alloc (.cells #[.slice (some ⟨p, 0, none⟩) M.length cr] 60)).cell? ((⟨wr.heap.size, 0, none⟩ : Addr).add j) = some u := World.news_of_block (cs := #[.slice (some ⟨p, 0, none⟩) M.length cr]) (heap_alloc_new wr _)
  refine wpList_append_lies _ hgd s x 23 ho lo 60 i (.slice none 0 0) 1 24 Tryd.underlying23 hi hz0 hz1 hz2 rfl (by omega) v L.length (L.map hdv) hs (hG.own.alloc _) ⟨wr.heap.size, 0, none⟩ 1 1 ([(p, cr, M)].map hdv) hx (by rfl) hnews (hdv_one _) (by omega) (by unfold maxLen; omega) (by omega) (by simp; omega) (wr.heap.size + 1) (by simp) ?_
  intro g cap w' hown' hgrow hat hlt
  have hk := grown_ke (from_alloc wr _) hgrow
  have hkD : Ke D wr w' := ⟨hk.os, hk.tape, hk.output, hk.size, fun k hk1 hk2 => hk.block k hk1 (fun e => hk2 (hG.od k e))⟩
  have hgo : ∀ b, (Value.slice (some ⟨g, 0, none⟩) (L.length + 1) cap).ownBlock = some b → b = g := fun b e => own_eq rfl e
  have hpD : Dr p := hR.od p rfl
  have hgn : ∀ b, (D b → v.ownBlock ≠ some b) → (D b ∨ Dr b) → (Value.slice (some ⟨g, 0, none⟩) (L.length + 1) cap).ownBlock ≠ some b := fun b h1 h2 e => by
    have e3 := hgo b e
    rcases hat with e4 | e4
    · rcases h2 with h2 | h2
      · exact h1 h2 (by rw [e3]; exact e4)
      · exact hd b h2 (hG.od b (by rw [e3]; exact e4))
    · rcases h2 with h2 | h2
      · have := (hG.lt b h2).2; omega
      · have := (hR.lt b h2).2; omega
  have hnew : ∀ b, Dr b → (Value.slice (some ⟨g, 0, none⟩) (L.length + 1) cap).ownBlock ≠ some b := fun b hb => hgn b (fun hD => absurd hD (hd b hb)) (Or.inr hb)
  have hkR : Gr w' lo (.slice (some ⟨p, 0, none⟩) M.length cr) M Dr := hR.ke hkD (fun b hb e => hd b e hb)
  refine h g cap w' (fun y => D y ∨ Dr y ∨ y = g) ⟨by rw [List.length_append, List.map_append]; exact hown', fun y hy => ?_, fun j k x y hj hk' e => ?_, fun y hy t ht => ?_, fun y hy => ?_, fun y hy t ht b hb z hz => ?_, fun b e => Or.inr (Or.inr (hgo b e)), fun y hy => ?_, fun y hy t ht b hb j => ?_⟩ (fun y hy => ?_) hkD
  · rcases List.mem_append.1 hy with e | e
    · exact own_ke (hG.row y e) hk (fun b hb e2 => (hG.dom y e).1.2 (by rw [← own_eq rfl hb]; exact e2))
    · obtain rfl := List.mem_singleton.1 e
      exact hkR.own
  · have hLp : ∀ z ∈ L, z.1 ≠ p := fun z hz e2 => hd p hpD (by rw [← e2]; exact (hG.dom z hz).1.1)
    rw [List.getElem?_append] at hj hk'
    by_cases h1 : j < L.length <;> by_cases h2 : k < L.length
    · rw [if_pos h1] at hj; rw [if_pos h2] at hk'; exact hG.inj j k x y hj hk' e
    · rw [if_pos h1] at hj; rw [if_neg h2] at hk'
      obtain rfl : y = (p, cr, M) := by have := List.mem_of_getElem? hk'; simpa using this
      exact absurd e (hLp x (List.mem_of_getElem? hj))
    · rw [if_neg h1] at hj; rw [if_pos h2] at hk'
      obtain rfl : x = (p, cr, M) := by have := List.mem_of_getElem? hj; simpa using this
      exact absurd e.symm (hLp y (List.mem_of_getElem? hk'))
    · rw [if_neg h1] at hj; rw [if_neg h2] at hk'
      have a1 := (List.getElem?_eq_some_iff.1 hj).1
      have a2 := (List.getElem?_eq_some_iff.1 hk').1
      simp at a1 a2; omega
  · rcases List.mem_append.1 hy with e | e
    · exact sl_ke hk (hG.sl y e t ht) (fun b hb e2 => ((hG.dom y e).2 t ht b hb).2 e2)
    · obtain rfl := List.mem_singleton.1 e
      exact hkR.sl t ht
  · rcases List.mem_append.1 hy with e | e
    · exact ⟨⟨Or.inl (hG.dom y e).1.1, hgn _ (fun _ => (hG.dom y e).1.2) (Or.inl (hG.dom y e).1.1)⟩, fun t ht b hb => ⟨Or.inl ((hG.dom y e).2 t ht b hb).1, hgn _ (fun _ => ((hG.dom y e).2 t ht b hb).2) (Or.inl ((hG.dom y e).2 t ht b hb).1)⟩⟩
    · obtain rfl := List.mem_singleton.1 e
      exact ⟨⟨Or.inr (Or.inl hpD), hnew p hpD⟩, fun t ht b hb => ⟨Or.inr (Or.inl (hR.dom t ht b hb).1), hnew b (hR.dom t ht b hb).1⟩⟩
  · rcases List.mem_append.1 hy with e | e <;> rcases List.mem_append.1 hz with e' | e'
    · exact hG.ap y e t ht b hb z e'
    · obtain rfl := List.mem_singleton.1 e'
      exact fun e2 => hd p hpD (by rw [← show b = p from e2]; exact ((hG.dom y e).2 t ht b hb).1)
    · obtain rfl := List.mem_singleton.1 e
      exact fun e2 => hd b (hR.dom t ht b hb).1 (by rw [e2]; exact (hG.dom z e').1.1)
    · obtain rfl := List.mem_singleton.1 e
      obtain rfl := List.mem_singleton.1 e'
      exact fun e2 => (hR.dom t ht b hb).2 (by rw [e2]; rfl)
  · rcases hy with hy | hy | hy
    · exact ⟨(hG.lt y hy).1, Nat.lt_of_lt_of_le (hG.lt y hy).2 hk.size⟩
    · exact ⟨(hR.lt y hy).1, Nat.lt_of_lt_of_le (hR.lt y hy).2 hk.size⟩
    · subst hy; exact ⟨(hown'.lt y rfl).1, hlt⟩
  · rcases List.mem_append.1 hy with e | e
    · rw [hk.frozen b j (tbk_lt (hG.sl y e t ht) hb) (fun e2 => ((hG.dom y e).2 t ht b hb).2 e2)]
      exact hG.tz y e t ht b hb j
    · obtain rfl := List.mem_singleton.1 e
      exact hkR.tz t ht b hb j
  · rcases hy with hy | hy | hy
    · exact Or.inl hy
    · exact Or.inr (Or.inl hy)
    · subst hy
      rcases hat with e | e
      · exact Or.inl (hG.od y e)
      · exact Or.inr (Or.inr (by omega))
theorem own_thaw {w : World} {B e size n g c : Nat} {xs : List Value} (h : w.ownsRow B e size (.slice (some ⟨g, 0, none⟩) n c) n xs) (j : Nat) : w.frozen? ⟨g, j, none⟩ = false := by
  rcases h.2 with ⟨h1, _⟩ | ⟨g', cap, cur, h1, _, h3, _⟩
  · cases h1
  · simp only [Value.slice.injEq, Option.some.injEq, Addr.mk.injEq] at h1
    obtain ⟨⟨rfl, _⟩, _⟩ := h1
    simp [World.frozen?, h3]
/-- numbers may be written -/
def Thz (w : World) (K : List (Nat × List Tb)) : Prop := ∀ p ∈ K, ∀ t ∈ p.2, ∀ b, Tbk t b → ∀ j, w.frozen? ⟨b, j, none⟩ = false
/-- a row of one's own has room for what it holds -/
theorem own_room {w : World} {B e size n g c : Nat} {xs : List Value} (h : w.ownsRow B e size (.slice (some ⟨g, 0, none⟩) n c) n xs) : n ≤ c := by
  obtain ⟨_, h2⟩ := h
  rcases h2 with ⟨h, _⟩ | ⟨g', cap, cur, hv, _, _, hn, _⟩
  · cases h
  · simp only [Value.slice.injEq] at hv
    omega
/-- a set that has grown -/
theorem Gs.hz {w : World} {lo : Nat} {v : Value} {L : List (Nat × Nat × List Tb)} {D : Nat → Prop} (h : Gs w lo v L D) {S : Sx} (hl : L.length = 32) (hok : Okk (L.map fun x => (x.1, x.2.2))) (hS : ab (L.map fun x => (x.1, x.2.2)) = S) : ∃ bt cT q, v = .slice (some ⟨bt, 0, none⟩) 32 cT ∧ (Su w lo bt q (L.map fun x => (x.1, x.2.2)) ∧ Okk (L.map fun x => (x.1, x.2.2)) ∧ Dk lo (L.map fun x => (x.1, x.2.2)) ∧ ab (L.map fun x => (x.1, x.2.2)) = S) ∧ (∀ y, Bs bt (L.map fun x => (x.1, x.2.2)) y → D y) ∧ Thz w (L.map fun x => (x.1, x.2.2)) ∧ 32 ≤ cT ∧ ∀ (k : Nat) (p : Nat × List Tb), (L.map fun x => (x.1, x.2.2))[k]? = some p → p.2.length ≤ q k := by
  obtain ⟨bt, cT, hv, hB, hlt⟩ := h.own.form (by omega)
  have hvo : v.ownBlock = some bt := by rw [hv]; rfl
  have hget : ∀ (k : Nat) (p : Nat × List Tb), (L.map fun x => (x.1, x.2.2))[k]? = some p → ∃ x, L[k]? = some x ∧ p = (x.1, x.2.2) := fun k p hp => by
    rw [List.getElem?_map] at hp
    rcases hL : L[k]? with _ | x
    · rw [hL] at hp; cases hp
    · rw [hL] at hp; simp only [Option.map_some, Option.some.injEq] at hp; exact ⟨x, rfl, hp.symm⟩
  have hmem : ∀ p ∈ (L.map fun x => (x.1, x.2.2)), ∃ x ∈ L, p = (x.1, x.2.2) := fun p hp => by
    obtain ⟨x, hx, e⟩ := List.mem_map.1 hp; exact ⟨x, hx, e.symm⟩
  refine ⟨bt, cT, fun k => (L.getD k (0, 0, [])).2.1, by rw [hv, hl], ⟨⟨hB, hlt, fun j => ?_, fun k p hp => ?_, fun p hp => ?_, fun j k p q hp hq e => ?_, fun p hp j => ?_, fun p hp c t ht => ?_, fun p hp c t ht => ?_, fun p hp t ht => ?_, fun p hp t ht b o e1 e2 => ?_⟩, hok, fun p hp => ?_, hS⟩, fun y hy => ?_, fun p hp t ht b hb j => ?_, ?_, fun k p hp => ?_⟩
  · have := h.own; rw [hv] at this; exact own_thaw this j
  · obtain ⟨x, hx, rfl⟩ := hget k p hp
    have hk : k < L.length := (List.getElem?_eq_some_iff.1 hx).1
    have ho := h.own
    rw [hv] at ho
    rw [ho.cellAt k (by omega), List.getElem?_map, hx, List.getD_eq_getElem?_getD, hx]
    rfl
  · obtain ⟨x, hx, rfl⟩ := hmem p hp
    have := h.lt _ (h.dom x hx).1.1
    exact ⟨this.1, this.2, fun e => (h.dom x hx).1.2 (by rw [hvo, ← show x.1 = bt from e])⟩
  · obtain ⟨x, hx, rfl⟩ := hget j p hp
    obtain ⟨y, hy, rfl⟩ := hget k q hq
    exact h.inj j k x y hx hy e
  · obtain ⟨x, hx, rfl⟩ := hmem p hp
    exact own_thaw (h.row x hx) j
  · obtain ⟨x, hx, rfl⟩ := hmem p hp
    have hc : c < x.2.2.length := (List.getElem?_eq_some_iff.1 ht).1
    rw [(h.row x hx).cellAt (c * 2) (by omega)]; exact tcs_get0 _ c t ht
  · obtain ⟨x, hx, rfl⟩ := hmem p hp
    have hc : c < x.2.2.length := (List.getElem?_eq_some_iff.1 ht).1
    rw [(h.row x hx).cellAt (c * 2 + 1) (by omega)]; exact tcs_get1 _ c t ht
  · obtain ⟨x, hx, rfl⟩ := hmem p hp
    exact h.sl x hx t ht
  · obtain ⟨x, hx, rfl⟩ := hmem p hp
    refine ⟨fun e => ((h.dom x hx).2 t ht b ⟨e2, o, e1⟩).2 (by rw [hvo, e]), fun q hq => ?_⟩
    obtain ⟨y, hy, rfl⟩ := hmem q hq
    exact h.ap x hx t ht b ⟨e2, o, e1⟩ y hy
  · obtain ⟨x, hx, rfl⟩ := hmem p hp
    exact ⟨(h.lt _ (h.dom x hx).1.1).1, fun t ht b o e1 e2 => (h.lt _ ((h.dom x hx).2 t ht b ⟨e2, o, e1⟩).1).1⟩
  · rcases hy with rfl | ⟨p, hp, e⟩
    · exact h.od y hvo
    · obtain ⟨x, hx, rfl⟩ := hmem p hp
      rcases e with e | ⟨t, ht, e1, o, e2⟩
      · rw [e]; exact (h.dom x hx).1.1
      · exact ((h.dom x hx).2 t ht y ⟨e1, o, e2⟩).1
  · obtain ⟨x, hx, rfl⟩ := hmem p hp
    exact h.tz x hx t ht b hb j
  · have ho := h.own
    rw [hv] at ho
    have := own_room ho
    omega
  · obtain ⟨x, hx, rfl⟩ := hget k p hp
    show x.2.2.length ≤ (L.getD k (0, 0, [])).2.1
    rw [List.getD_eq_getElem?_getD, hx]
    exact own_room (h.row x (List.mem_of_getElem? hx))
theorem Gs.hu {w : World} {lo : Nat} {v : Value} {L : List (Nat × Nat × List Tb)} {D : Nat → Prop} (h : Gs w lo v L D) {S : Sx} (hl : L.length = 32) (hok : Okk (L.map fun x => (x.1, x.2.2))) (hS : ab (L.map fun x => (x.1, x.2.2)) = S) : ∃ bt cT B, v = .slice (some ⟨bt, 0, none⟩) 32 cT ∧ Hu w lo bt B S ∧ ∀ y, B y → D y := by
  obtain ⟨bt, cT, q, h1, ⟨h2, h3, h4, h5⟩, h6, _⟩ := h.hz hl hok hS
  exact ⟨bt, cT, _, h1, ⟨q, _, h2, h3, h4, h5, rfl⟩, h6⟩

end Go.Proofs.YtppanogpeengnaaDoor

namespace Go.Proofs.YtppanogpeengnaaDoor
open Go.RowKit L3

/-- a set is answered, in new memory -/
def Hun (w w' : World) (e : Ending) (S : Sx) : Prop := ∃ bt cT B, e = .returned (.agg #[.slice (some ⟨bt, 0, none⟩) 32 cT]) ∧ Hu w' w.heap.size bt B S ∧ Below w.heap.size w w'
/-- rows have room for their tables -/
def Rm (q : Nat → Nat) (L : List (Nat × List Tb)) : Prop := ∀ (k : Nat) (p : Nat × List Tb), L[k]? = some p → p.2.length ≤ q k
/-- a set by its numbers, which may be written -/
structure Hz (w : World) (lo bt : Nat) (B : Nat → Prop) (S : Sx) : Prop where
  ex : ∃ q L, Su w lo bt q L ∧ Okk L ∧ Dk lo L ∧ ab L = S ∧ B = Bs bt L ∧ Thz w L ∧ Rm q L
theorem Hz.hu {w : World} {lo bt : Nat} {B : Nat → Prop} {S : Sx} (h : Hz w lo bt B S) : Hu w lo bt B S := by
  obtain ⟨q, L, h1, h2, h3, h4, h5, _⟩ := h; exact ⟨q, L, h1, h2, h3, h4, h5⟩
theorem Hz.ke {P : Nat → Prop} {w w' : World} {lo bt : Nat} {B : Nat → Prop} {S : Sx} (h : Hz w lo bt B S) (hk : Ke P w w') (hP : ∀ b, P b → ¬ B b) : Hz w' lo bt B S := by
  obtain ⟨q, L, h1, h2, h3, h4, rfl, h6, h7⟩ := h
  refine ⟨q, L, h1.ke hk hP, h2, h3, h4, rfl, fun p hp t ht b hb j => ?_, h7⟩
  have hB : Bs bt L b := Or.inr ⟨p, hp, Or.inr ⟨t, ht, hb⟩⟩
  rw [hk.frozen b j (h1.low hB) (fun e => hP b e hB)]
  exact h6 p hp t ht b hb j
theorem Hz.to {w w' : World} {lo bt : Nat} {B : Nat → Prop} {S : Sx} (h : Hz w lo bt B S) (hb : Below w.heap.size w w') : Hz w' lo bt B S := h.ke (P := fun _ => False) (Ke.of hb) (fun _ e => e.elim)
theorem Hz.weak {w : World} {lo lo' bt : Nat} {B : Nat → Prop} {S : Sx} (h : Hz w lo bt B S) (hl : lo' ≤ lo) : Hz w lo' bt B S := by
  obtain ⟨q, L, h1, h2, h3, h4, rfl, h6⟩ := h; exact ⟨q, L, h1.weak hl, h2, h3.weak hl, h4, rfl, h6⟩
def Hzn (w w' : World) (e : Ending) (S : Sx) : Prop := ∃ bt cT B, e = .returned (.agg #[.slice (some ⟨bt, 0, none⟩) 32 cT]) ∧ Hz w' w.heap.size bt B S ∧ Below w.heap.size w w' ∧ 32 ≤ cT
theorem Hzn.hu {w w' : World} {e : Ending} {S : Sx} (h : Hzn w w' e S) : Hun w w' e S := by
  obtain ⟨bt, cT, B, h1, h2, h3, _⟩ := h; exact ⟨bt, cT, B, h1, h2.hu, h3⟩
theorem Kr.ke {P : Nat → Prop} {r : Nat} {w a b : World} (h : Kr r w a) (k : Ke P a b) (hP : ∀ y, P y → w.heap.size ≤ y) : Kr r w b :=
  ⟨k.os.trans h.os, k.tape.trans h.tape, k.output.trans h.output, Nat.le_trans h.size k.size, fun i hi hr => (k.block i (Nat.lt_of_lt_of_le hi h.size) (fun e => by have := hP i e; omega)).trans (h.block i hi hr)⟩
/-- a variable of one cell -/
structure Vr (w : World) (x : Nat) (v : Value) : Prop where
  c : w.cell? ⟨x, 0, none⟩ = some v
  th : w.frozen? ⟨x, 0, none⟩ = false
  lt : x < w.heap.size
theorem Vr.ke {P : Nat → Prop} {w w' : World} {x : Nat} {v : Value} (h : Vr w x v) (hk : Ke P w w') (hP : ¬ P x) : Vr w' x v := ⟨by rw [hk.cell _ _ h.lt hP]; exact h.c, by rw [hk.frozen _ _ h.lt hP]; exact h.th, Nat.lt_of_lt_of_le h.lt hk.size⟩
theorem Vr.to {w w' : World} {x : Nat} {v : Value} (h : Vr w x v) (hb : Below w.heap.size w w') : Vr w' x v := h.ke (P := fun _ => False) (Ke.of hb) (fun e => e)
theorem Vr.set {w : World} {x : Nat} {v : Value} (h : Vr w x v) (v' : Value) : Vr (w.setCell ⟨x, 0, none⟩ v') x v' := ⟨World.cell?_setCell_same _ _ _ h.c, by simpa using h.th, by rw [setCell_size]; exact h.lt⟩
/-- the rows that are done -/
def Dn (L : List (Nat × Nat × List Tb)) : Prop := ∀ (j : Nat) x, L[j]? = some x → x.2.2.length = sC j ∧ ∀ t ∈ x.2.2, t.C = dfC j ∧ t.n = 0
structure DI (W : World) (ov : Nat) (iv : Value) (wr : World) : Prop where
  ex : ∃ (k : Nat) (Tv : Value) (L : List (Nat × Nat × List Tb)) (D : Nat → Prop), k ≤ 32 ∧ iv = .int .i64 k ∧ L.length = k ∧ Dn L ∧ Gs wr W.heap.size Tv L D ∧ Vr wr ov Tv ∧ Kr ov W wr
structure DJ (W : World) (ov k : Nat) (Tv : Value) (L : List (Nat × Nat × List Tb)) (D : Nat → Prop) (rv iv : Value) (wr : World) : Prop where
  ex : ∃ (c : Nat) (M : List Tb) (Dr : Nat → Prop), c ≤ sC k ∧ iv = .int .i64 c ∧ M.length = c ∧ (∀ t ∈ M, t.C = dfC k ∧ t.n = 0) ∧ Gr wr W.heap.size rv M Dr ∧ (∀ y, Dr y → ¬ D y) ∧ Gs wr W.heap.size Tv L D ∧ Vr wr ov Tv ∧ Kr ov W wr
theorem tbk_thaw {w : World} {gt ct : Nat} {n : Int} {C : List Nat} (hz : ∀ j, w.frozen? ⟨gt, j, none⟩ = false) : ∀ b, Tbk ⟨some ⟨gt, 0, none⟩, ct, C, n⟩ b → ∀ j, w.frozen? ⟨b, j, none⟩ = false := fun b hb j => by
  obtain ⟨_, o, e⟩ := hb
  simp only [Option.some.injEq, Addr.mk.injEq, and_true] at e
  rw [← e.1]; exact hz j
theorem DJ.next {W wr w5 w6 : World} {ov k : Nat} {Tv : Value} {L : List (Nat × Nat × List Tb)} {D : Nat → Prop} {c : Nat} {M : List Tb} {Dr D' : Nat → Prop} {t : Tb} {rv' : Value} (hc : c < sC k) (hM : M.length = c) (hMd : ∀ t ∈ M, t.C = dfC k ∧ t.n = 0) (ht : t.C = dfC k ∧ t.n = 0) (hd : ∀ y, Dr y → ¬ D y) (hS : Gs wr W.heap.size Tv L D) (ho : Vr wr ov Tv) (hov : ov < W.heap.size) (hk : Kr ov W wr)
    (h5 : Below wr.heap.size wr w5) (hb : ∀ b, Tbk t b → wr.heap.size ≤ b) (hG : Gr w6 W.heap.size rv' (M ++ [t]) D') (hD' : ∀ y, D' y → Dr y ∨ Tbk t y ∨ w5.heap.size ≤ y) (hDr : ∀ y, Dr y → W.heap.size ≤ y) (hk6 : Ke Dr w5 w6) : DJ W ov k Tv L D rv' (.int .i64 ((c + 1 : Nat) : Int)) w6 := by
  refine ⟨c + 1, M ++ [t], D', by omega, rfl, by simp [hM], fun u hu => ?_, hG, fun y hy hD => ?_, (hS.to h5).ke hk6 hd, ?_, (hk.to h5).ke hk6 hDr⟩
  · rcases List.mem_append.1 hu with e | e
    · exact hMd u e
    · obtain rfl := List.mem_singleton.1 e; exact ht
  · have hl := (hS.lt y hD).2
    have hz := h5.size
    rcases hD' y hy with e | e | e
    · exact hd y e hD
    · have := hb y e; omega
    · omega
  · exact (ho.to h5).ke hk6 (fun e => by have := hDr ov e; omega)

set_option maxRecDepth 100000 in
set_option maxHeartbeats 8000000 in
theorem rdefault_any {w : World} : Calls Tryd.prog 23 #[] w fun e w' => Hun w w' e dS := by
  have HB0 : Hid (Below w.heap.size w ((w.alloc (.cells #[.slice none 0 0] 25)).alloc (.cells #[.slice none 0 0] 25))) := to_alloc (from_alloc _ _) _
  have h1 : (w.alloc (.cells #[.slice none 0 0] 25)).heap.size = w.heap.size + 1 := by simp
  have HV : Hid (∀ v, Below ((w.alloc (.cells #[.slice none 0 0] 25)).alloc (.cells #[.slice none 0 0] 25)).heap.size ((w.alloc (.cells #[.slice none 0 0] 25)).alloc (.cells #[.slice none 0 0] 25)) v → v.cell? ⟨w.heap.size, 0, none⟩ = some (.slice none 0 0) ∧ v.cell? ⟨w.heap.size + 1, 0, none⟩ = some (.slice none 0 0) ∧ v.frozen? ⟨w.heap.size, 0, none⟩ = false ∧ v.frozen? ⟨w.heap.size + 1, 0, none⟩ = false) := fun v hv => by
    rw [newCell hv _ _ (by simp; omega), newCell hv _ _ (by simp), newFrozen hv _ _ (by simp; omega), newFrozen hv _ _ (by simp)]
    simp [go_sem]
  have HVs : Hid (((w.alloc (.cells #[.slice none 0 0] 25)).alloc (.cells #[.slice none 0 0] 25)).heap.size = w.heap.size + 2) := by show _ = _; simp
  clear h1
  go_enter Tryd.func23, Tryd.ntmps23
  go_wp2_with fail
  generalize (w.alloc (.cells #[.slice none 0 0] 25)).alloc (.cells #[.slice none 0 0] 25) = V at *
  refine rows_any.mono ?_
  rintro e W ⟨g, rfl, hg, hr, hbW⟩
  obtain ⟨z0, z1, z2, z3⟩ := HV.out W hbW
  have HR : Hid (Rw W g) := hr
  have HBW : Hid (Below w.heap.size w W) := below_to HB0.out hbW
  have HWs : Hid (w.heap.size + 2 ≤ W.heap.size ∧ w.heap.size + 2 ≤ g) := by have := hbW.size; have := HVs.out; exact ⟨by omega, by omega⟩
  have HZ : Hid (W.cell? ⟨w.heap.size, 0, none⟩ = some (.slice none 0 0) ∧ W.frozen? ⟨w.heap.size, 0, none⟩ = false ∧ W.frozen? ⟨w.heap.size + 1, 0, none⟩ = false) := ⟨z0, z2, z3⟩
  have HI0 : Hid (DI W (w.heap.size + 1) (.int .i64 0) W) := ⟨0, .slice none 0 0, [], fun _ => False, by omega, rfl, rfl, fun j x h => by simp at h, Gs.nil _ _, ⟨z1, z3, by have := HWs.out; omega⟩, Kr.refl _ _⟩
  clear hr hbW hg z0 z1 z2 z3 HV HVs HB0
  go_wp2_with fail
  go_loopw [3] (fun iv wr => DI W (w.heap.size + 1) iv wr) (fun iv _ => 32 - (intOf iv).toNat)
  case atStart => exact HI0.out
  case round =>
    clear HI0
    obtain ⟨k, Tv, L, D, hk, rfl, hL, hdn, hgs, hov, hkr⟩ := hrel
    obtain ⟨aT, cT, rfl⟩ := hgs.form
    have HL : Hid (L.length = k) := hL
    have HDn : Hid (Dn L) := hdn
    have HGs : Hid (Gs wr W.heap.size (.slice aT L.length cT) L D) := hgs
    have HOv : Hid (Vr wr (w.heap.size + 1) (.slice aT L.length cT)) := hov
    have HKr : Hid (Kr (w.heap.size + 1) W wr) := hkr
    clear hL hdn hgs hov hkr
    generalize hln : L.length = ln at *
    have HLn : Hid (L.length = ln) := hln
    clear hln
    have b0 : (0 : Int) ≤ (k : Int) := by omega
    by_cases hlt : k < 32
    · have b1 : (k : Int) < 32 := by omega
      have HK : Hid (k < 32) := hlt
      have HRw : Hid (∀ v, Kr (w.heap.size + 1) W v → v.cell? ⟨g, k * 3, none⟩ = some (.int .i64 (sC k : Nat)) ∧ v.cell? ⟨g, k * 3 + 1, none⟩ = some (.int .i64 (sV k : Nat)) ∧ v.cell? ⟨g, k * 3 + 2, none⟩ = some (.int .i64 (sF k : Nat))) := fun v hv => by
        have hgl := HR.out.low
        have hz := HWs.out
        rw [hv.cell g _ hgl (by omega), hv.cell g _ hgl (by omega), hv.cell g _ hgl (by omega)]
        exact ⟨HR.out.c k HK.out, HR.out.v k HK.out, HR.out.f k HK.out⟩
      have HJ0 : Hid (DJ W (w.heap.size + 1) k (.slice aT ln cT) L D (.slice none 0 0) (.int .i64 0) wr) := ⟨0, [], fun _ => False, by omega, rfl, rfl, fun t h => by simp at h, Gr.nil _ _, fun _ h => h.elim, HGs.out, HOv.out, HKr.out⟩
      have hC1 := (sC_le k hlt).1
      have hC2 := (sC_le k hlt).2
      have hV1 := (sV_le k hlt).1
      have hV2 := (sV_le k hlt).2
      clear HGs HOv HKr
      go_wp2_with fail
      go_loopw [4, 5] (fun rv iv wr => DJ W (w.heap.size + 1) k (.slice aT ln cT) L D rv iv wr) (fun _ iv _ => sC k - (intOf iv).toNat)
      case atStart => exact HJ0.out
      case round =>
        clear HJ0
        obtain ⟨c, M, Dr, hc, rfl, hM, hMd, hgr, hdd, hgs, hov, hkr⟩ := hrel
        obtain ⟨ar, cr, rfl⟩ := hgr.form
        obtain ⟨r0, r1, r2⟩ := HRw.out _ hkr
        have HM : Hid (M.length = c) := hM
        have HMd : Hid (∀ t ∈ M, t.C = dfC k ∧ t.n = 0) := hMd
        have HGr : Hid (Gr wr W.heap.size (.slice ar M.length cr) M Dr) := hgr
        have HDD : Hid (∀ y, Dr y → ¬ D y) := hdd
        have HGs : Hid (Gs wr W.heap.size (.slice aT ln cT) L D) := hgs
        have HOv : Hid (Vr wr (w.heap.size + 1) (.slice aT ln cT)) := hov
        have HKr : Hid (Kr (w.heap.size + 1) W wr) := hkr
        have HDl : Hid (∀ y, Dr y → W.heap.size ≤ y) := fun y hy => (hgr.lt y hy).1
        clear hM hMd hgr hdd hgs hov hkr
        have c0 : (0 : Int) ≤ (c : Int) := by omega
        by_cases hcl : c < sC k
        · have c1 : (c : Int) < (sC k : Int) := by omega
          have HCl : Hid (c < sC k) := hcl
          have HRx : Hid (∀ v, Below wr.heap.size wr v → v.cell? ⟨g, k * 3, none⟩ = some (.int .i64 (sC k : Nat)) ∧ v.cell? ⟨g, k * 3 + 1, none⟩ = some (.int .i64 (sV k : Nat)) ∧ v.cell? ⟨g, k * 3 + 2, none⟩ = some (.int .i64 (sF k : Nat))) := fun v hv => HRw.out v (HKr.out.to hv)
          have HRel : Hid (∀ w5 w6 tv g' cap' D' gt ct, Below wr.heap.size wr w5 → tv = (⟨some ⟨gt, 0, none⟩, ct, dfC k, 0⟩ : Tb) → wr.heap.size ≤ gt → Gr w6 W.heap.size (.slice (some ⟨g', 0, none⟩) (M.length + 1) cap') (M ++ [tv]) D' → (∀ y, D' y → Dr y ∨ Tbk tv y ∨ w5.heap.size ≤ y) → Ke Dr w5 w6 → DJ W (w.heap.size + 1) k (.slice aT ln cT) L D (.slice (some ⟨g', 0, none⟩) (M.length + 1) cap') (.int .i64 ((c : Int) + 1)) w6) := fun w5 w6 tv g' cap' D' gt ct i1 i2 i3 i4 i5 i6 => by
            subst i2
            exact DJ.next HCl.out HM.out HMd.out ⟨rfl, rfl⟩ HDD.out HGs.out HOv.out (by have := HWs.out; omega) HKr.out i1 (fun b hb => by
              obtain ⟨_, o, e⟩ := hb
              simp only [Option.some.injEq, Addr.mk.injEq, and_true] at e
              omega) i4 i5 HDl.out i6
          have HC5 : Hid (∀ (u w' : World) gt ct (C : List Nat), L3.Ow w' u.heap.size gt C.length ct C → Sl w' .u16 (some ⟨gt, 0, none⟩) C ∧ u.heap.size ≤ gt ∧ gt < w'.heap.size ∧ ∀ j, w'.frozen? ⟨gt, j, none⟩ = false) := fun u w' gt ct C h => ⟨h.sl, h.lies.1, h.lies.2, h.thaw⟩
          have HFl : Hid (∀ u, Calls Tryd.prog 48 #[.int .i64 (sV k : Nat)] u fun e w' => Tn u w' e (flC (sV k)) 0) := fun u => rflat_ok (by omega) (by omega)
          have HSt : Hid (∀ u, Calls Tryd.prog 49 #[.int .i64 (sV k : Nat)] u fun e w' => Tn u w' e (stC (sV k)) 0) := fun u => rsteep_ok (by omega) (by omega)
          have HWl : Hid (W.heap.size ≤ wr.heap.size) := HKr.out.size
          have HRl : Hid (M.length < 1000000) := by have := HM.out; have := HCl.out; show _ < _; omega
          have HTb : Hid (∀ gt ct, wr.heap.size ≤ gt → ∀ b, Tbk ⟨some ⟨gt, 0, none⟩, ct, dfC k, 0⟩ b → W.heap.size ≤ b ∧ ¬ Dr b) := fun gt ct hgt b hb => by
            obtain ⟨_, o, e⟩ := hb
            simp only [Option.some.injEq, Addr.mk.injEq, and_true] at e
            have h1 := HWl.out
            exact ⟨by omega, fun e2 => by have := (HGr.out.lt b e2).2; omega⟩
          cases hss : sS k
          · have hF : sF k = 0 := by unfold sF; rw [hss]; rfl
            have hD : flC (sV k) = dfC k := by unfold dfC; rw [hss]; rfl
            rw [hF] at HRx
            rw [hD] at HFl
            clear r2 hF hD hss HSt
            generalize dfC k = dC at *
            go_wp2_with fail
            refine (HFl.out _).mono ?_
            rintro e w3 ⟨gt, ct, rfl, ho3, hb3⟩
            obtain ⟨hs3, hg3, hg3l, hz3⟩ := HC5.out _ _ _ _ _ ho3
            have HB4 : Hid (Below wr.heap.size wr (w3.alloc (.cells #[.slice (some ⟨gt, 0, none⟩) dC.length ct, .int .i64 0] 63))) := to_alloc hb3 _
            have HS4 : Hid (Sl (w3.alloc (.cells #[.slice (some ⟨gt, 0, none⟩) dC.length ct, .int .i64 0] 63)) .u16 (some ⟨gt, 0, none⟩) dC) := hs3.to (from_alloc _ _)
            have HG4 : Hid (Gr (w3.alloc (.cells #[.slice (some ⟨gt, 0, none⟩) dC.length ct, .int .i64 0] 63)) W.heap.size (.slice ar M.length cr) M Dr) := HGr.out.to HB4.out
            have HL4 : Hid (W.heap.size ≤ (w3.alloc (.cells #[.slice (some ⟨gt, 0, none⟩) dC.length ct, .int .i64 0] 63)).heap.size) := Nat.le_trans HWl.out HB4.out.size
            have HGt : Hid (wr.heap.size ≤ gt) := hg3
            have HZ4 : Hid (∀ j, (w3.alloc (.cells #[.slice (some ⟨gt, 0, none⟩) dC.length ct, .int .i64 0] 63)).frozen? ⟨gt, j, none⟩ = false) := fun j => (newFrozen (from_alloc _ _) gt j hg3l).trans (hz3 j)
            obtain ⟨q0, q1, q2⟩ := HRx.out _ HB4.out
            have u0 : (w3.alloc (.cells #[.slice (some ⟨gt, 0, none⟩) dC.length ct, .int .i64 0] 63)).cell? ⟨w3.heap.size, 0, none⟩ = some (.slice (some ⟨gt, 0, none⟩) dC.length ct) := by simp [go_sem]
            have u1 : (w3.alloc (.cells #[.slice (some ⟨gt, 0, none⟩) dC.length ct, .int .i64 0] 63)).cell? ⟨w3.heap.size, 1, none⟩ = some (.int .i64 0) := by simp [go_sem]
            clear ho3 hb3 hs3 hg3 hg3l hz3 r0 r1
            go_upto_region 13 with fail
            generalize w3.alloc (.cells #[.slice (some ⟨gt, 0, none⟩) dC.length ct, .int .i64 0] 63) = w4 at *
            generalize w3.heap.size = tv at *
            go_wp2_with (at_builtin; refine wpList_append_row _ (by rfl) _ _ (by rfl) W.heap.size M _ Dr ⟨some ⟨gt, 0, none⟩, ct, dC, 0⟩ HG4.out HS4.out (HTb.out gt ct HGt.out) (tbk_thaw HZ4.out) HL4.out HRl.out (by rfl) (by rfl) ?_; intro g' cap' w6 D' j1 j2 j3)
            have hcl := HCl.out
            go_roundw
            case rel => exact HRel.out _ _ _ _ _ _ gt ct HB4.out rfl HGt.out j1 j2 j3
            case measure => simp [intOf]; omega
          · have hF : sF k = 1 := by unfold sF; rw [hss]; rfl
            have hD : stC (sV k) = dfC k := by unfold dfC; rw [hss]; rfl
            rw [hF] at HRx
            rw [hD] at HSt
            clear r2 hF hD hss
            generalize dfC k = dC at *
            generalize flC (sV k) = fC at *
            go_wp2_with fail
            refine (HFl.out _).mono ?_
            rintro e w3 ⟨gt, ct, rfl, ho3, hb3⟩
            have HB4 : Hid (Below wr.heap.size wr (w3.alloc (.cells #[.slice (some ⟨gt, 0, none⟩) fC.length ct, .int .i64 0] 63))) := to_alloc hb3 _
            have HT4 : Hid (∀ v, Below (w3.alloc (.cells #[.slice (some ⟨gt, 0, none⟩) fC.length ct, .int .i64 0] 63)).heap.size (w3.alloc (.cells #[.slice (some ⟨gt, 0, none⟩) fC.length ct, .int .i64 0] 63)) v → v.cell? ⟨w3.heap.size, 0, none⟩ = some (.slice (some ⟨gt, 0, none⟩) fC.length ct) ∧ v.cell? ⟨w3.heap.size, 1, none⟩ = some (.int .i64 0) ∧ v.frozen? ⟨w3.heap.size, 0, none⟩ = false ∧ v.frozen? ⟨w3.heap.size, 1, none⟩ = false) := fun v hv => by
              rw [newCell hv _ _ (by simp), newCell hv _ _ (by simp), newFrozen hv _ _ (by simp), newFrozen hv _ _ (by simp)]
              simp [go_sem]
            have HTl : Hid (wr.heap.size ≤ w3.heap.size ∧ w3.heap.size < (w3.alloc (.cells #[.slice (some ⟨gt, 0, none⟩) fC.length ct, .int .i64 0] 63)).heap.size) := ⟨hb3.size, by simp⟩
            obtain ⟨q0, q1, q2⟩ := HRx.out _ HB4.out
            clear ho3 hb3 r0 r1 HFl
            go_wp2_with fail
            generalize w3.alloc (.cells #[.slice (some ⟨gt, 0, none⟩) fC.length ct, .int .i64 0] 63) = w4 at *
            generalize w3.heap.size = tv at *
            refine (HSt.out _).mono ?_
            rintro e w5 ⟨gs, cs, rfl, ho5, hb5⟩
            obtain ⟨hs5, hg5, -, hz5⟩ := HC5.out _ _ _ _ _ ho5
            obtain ⟨t0, t1, t2, t3⟩ := HT4.out w5 hb5
            have HB5 : Hid (Below wr.heap.size wr ((w5.setCell ⟨tv, 0, none⟩ (.slice (some ⟨gs, 0, none⟩) dC.length cs)).setCell ⟨tv, 1, none⟩ (.int .i64 0))) := below_set (below_set (below_to HB4.out hb5) HTl.out.1 _) HTl.out.1 _
            have HS5 : Hid (Sl ((w5.setCell ⟨tv, 0, none⟩ (.slice (some ⟨gs, 0, none⟩) dC.length cs)).setCell ⟨tv, 1, none⟩ (.int .i64 0)) .u16 (some ⟨gs, 0, none⟩) dC) := by
              have hne : ∀ b o, (some ⟨gs, 0, none⟩ : Option Addr) = some ⟨b, o, none⟩ → dC ≠ [] → b ≠ tv := fun b o e _ => by
                simp only [Option.some.injEq, Addr.mk.injEq, and_true] at e
                have := HTl.out.2
                omega
              exact sl_far (sl_far hs5 hne) hne
            have HG5 : Hid (Gr ((w5.setCell ⟨tv, 0, none⟩ (.slice (some ⟨gs, 0, none⟩) dC.length cs)).setCell ⟨tv, 1, none⟩ (.int .i64 0)) W.heap.size (.slice ar M.length cr) M Dr) := HGr.out.to HB5.out
            have HL5 : Hid (W.heap.size ≤ ((w5.setCell ⟨tv, 0, none⟩ (.slice (some ⟨gs, 0, none⟩) dC.length cs)).setCell ⟨tv, 1, none⟩ (.int .i64 0)).heap.size) := Nat.le_trans HWl.out HB5.out.size
            have HGt : Hid (wr.heap.size ≤ gs) := Nat.le_trans HB4.out.size hg5
            have HZ5 : Hid (∀ j, ((w5.setCell ⟨tv, 0, none⟩ (.slice (some ⟨gs, 0, none⟩) dC.length cs)).setCell ⟨tv, 1, none⟩ (.int .i64 0)).frozen? ⟨gs, j, none⟩ = false) := fun j => by rw [World.frozen?_setCell, World.frozen?_setCell]; exact hz5 j
            have u0 : ((w5.setCell ⟨tv, 0, none⟩ (.slice (some ⟨gs, 0, none⟩) dC.length cs)).setCell ⟨tv, 1, none⟩ (.int .i64 0)).cell? ⟨tv, 0, none⟩ = some (.slice (some ⟨gs, 0, none⟩) dC.length cs) := by rw [World.cell?_setCell_other _ _ _ _ (by simp), World.cell?_setCell_same _ _ _ t0]
            have u1 : ((w5.setCell ⟨tv, 0, none⟩ (.slice (some ⟨gs, 0, none⟩) dC.length cs)).setCell ⟨tv, 1, none⟩ (.int .i64 0)).cell? ⟨tv, 1, none⟩ = some (.int .i64 0) := by rw [World.cell?_setCell_same _ _ _ (by rw [World.cell?_setCell_other _ _ _ _ (by simp)]; exact t1)]
            clear ho5 hb5 hs5 hg5 hz5 q0 q1 q2
            go_upto_region 13 with fail
            generalize (w5.setCell ⟨tv, 0, none⟩ (.slice (some ⟨gs, 0, none⟩) dC.length cs)).setCell ⟨tv, 1, none⟩ (.int .i64 0) = w7 at *
            clear t0 t1 t2 t3
            go_wp2_with (at_builtin; refine wpList_append_row _ (by rfl) _ _ (by rfl) W.heap.size M _ Dr ⟨some ⟨gs, 0, none⟩, cs, dC, 0⟩ HG5.out HS5.out (HTb.out gs cs HGt.out) (tbk_thaw HZ5.out) HL5.out HRl.out (by rfl) (by rfl) ?_; intro g' cap' w6 D' j1 j2 j3)
            have hcl := HCl.out
            go_roundw
            case rel => exact HRel.out _ _ _ _ _ _ gs cs HB5.out rfl HGt.out j1 j2 j3
            case measure => simp [intOf]; omega
        · obtain rfl : c = sC k := by omega
          have c1 : ¬ ((sC k : Nat) : Int) < (sC k : Int) := by omega
          obtain ⟨p, cr', hv, hDp⟩ := HGr.out.more (by rw [HM.out]; omega)
          simp only [Value.slice.injEq] at hv
          obtain ⟨rfl, -, rfl⟩ := hv
          have o0 := HOv.out.c
          have HWl : Hid (W.heap.size ≤ wr.heap.size) := HKr.out.size
          have HLl : Hid (L.length < 1000000) := by have := HL.out; have := HLn.out; show _ < _; omega
          have HGr2 : Hid (Gr wr W.heap.size (.slice (some ⟨p, 0, none⟩) M.length cr) M Dr) := HGr.out
          have HRel : Hid (∀ g' cap' w6 D', Gs w6 W.heap.size (.slice (some ⟨g', 0, none⟩) (L.length + 1) cap') (L ++ [(p, cr, M)]) D' → (∀ y, D' y → D y ∨ Dr y ∨ wr.heap.size ≤ y) → Ke D wr w6 → Vr w6 (w.heap.size + 1) (.slice aT ln cT) ∧ DI W (w.heap.size + 1) (.int .i64 ((k : Int) + 1)) (w6.setCell ⟨w.heap.size + 1, 0, none⟩ (.slice (some ⟨g', 0, none⟩) (L.length + 1) cap'))) := fun g' cap' w6 D' i1 i2 i3 => by
            have hnD : ∀ y, D y → W.heap.size ≤ y := fun y hy => (HGs.out.lt y hy).1
            have hoW := HWs.out
            have hv6 : Vr w6 (w.heap.size + 1) (.slice aT ln cT) := HOv.out.ke i3 (fun e => by have := hnD _ e; omega)
            refine ⟨hv6, ⟨k + 1, _, L ++ [(p, cr, M)], D', by have := HK.out; omega, rfl, by have := HL.out; have := HLn.out; simp; omega, fun j x hx => ?_, ?_, hv6.set _, (HKr.out.ke i3 hnD).set _ _ (Or.inl rfl)⟩⟩
            · rw [List.getElem?_append] at hx
              by_cases h1 : j < L.length
              · rw [if_pos h1] at hx; exact HDn.out j x hx
              · rw [if_neg h1] at hx
                have h2 := (List.getElem?_eq_some_iff.1 hx).1
                obtain rfl : x = (p, cr, M) := by have := List.mem_of_getElem? hx; simpa using this
                obtain rfl : j = k := by have := HL.out; have := HLn.out; simp at h2; omega
                exact ⟨HM.out, HMd.out⟩
            · refine i1.ke (P := fun y => y = w.heap.size + 1) (Ke.set _ _ _ _ rfl) ?_
              rintro b rfl hb
              have := (i1.lt _ hb).1
              omega
          clear HGr HOv r1 r2
          go_wp2_with (at_builtin; refine wpList_append_set2 _ (by rfl) _ _ (by rfl) W.heap.size L _ D Dr p cr M HGs.out HGr2.out HDD.out HWl.out HLl.out (by rfl) (by rfl) ?_; intro g' cap' w6 D' j1 j2 j3; obtain ⟨⟨x0, x1, -⟩, hDI⟩ := HRel.out g' cap' w6 D' j1 j2 j3)
          have hlt := HK.out
          go_roundw
          case rel => exact hDI
          case measure => simp [intOf]; omega
    · obtain rfl : k = 32 := by omega
      have b1 : ¬ ((32 : Nat) : Int) < 32 := by omega
      have hl32 : L.length = 32 := by have := HLn.out; have := HL.out; omega
      have hmk : (L.map fun x => (x.1, x.2.2)).length = 32 := by simp [hl32]
      have hmd : ∀ (j : Nat) p, (L.map fun x => (x.1, x.2.2))[j]? = some p → Dq j p := fun j p hp => by
        rw [List.getElem?_map] at hp
        rcases hL : L[j]? with _ | x
        · rw [hL] at hp; cases hp
        · rw [hL] at hp
          simp only [Option.map_some, Option.some.injEq] at hp
          subst hp
          exact HDn.out j x hL
      obtain ⟨bt, cT', B, hv, hhu, hBD⟩ := HGs.out.hu hl32 (okk_default hmk hmd) (ab_default hmk hmd)
      simp only [Value.slice.injEq] at hv
      obtain ⟨rfl, rfl, rfl⟩ := hv
      have o0 := HOv.out.c
      have hz := HWs.out
      have r0 : wr.cell? ⟨w.heap.size, 0, none⟩ = some (.slice none 0 0) := by rw [HKr.out.cell _ _ (by omega) (by omega)]; exact HZ.out.1
      have r1 : wr.frozen? ⟨w.heap.size, 0, none⟩ = false := by rw [HKr.out.frozen _ _ (by omega) (by omega)]; exact HZ.out.2.1
      have HFin : Hid (Hu (wr.setCell ⟨w.heap.size, 0, none⟩ (.slice (some ⟨bt, 0, none⟩) 32 cT)) w.heap.size bt B dS ∧ Below w.heap.size w (wr.setCell ⟨w.heap.size, 0, none⟩ (.slice (some ⟨bt, 0, none⟩) 32 cT))) := by
        refine ⟨(hhu.ke (P := fun y => y = w.heap.size) (Ke.set _ _ _ _ rfl) ?_).weak HBW.out.size, below_set (HBW.out.trans (HKr.out.below (B := w.heap.size) (by omega) (by omega))) (Nat.le_refl _) _⟩
        rintro b rfl hb
        have := hhu.ge hb
        omega
      clear hhu hBD hmk hmd hl32 hz HGs HOv HKr HDn
      go_wp2_with fail
      refine bodyPost_ret (v := .agg #[.slice (some ⟨bt, 0, none⟩) 32 cT]) (by simp [results, Tryd.results23, go_sem, r0]) rfl ?_
      exact ⟨bt, cT, B, rfl, HFin.out.1, HFin.out.2⟩
end Go.Proofs.YtppanogpeengnaaDoor

namespace Go.Proofs.YtppanogpeengnaaDoor
open Go.RowKit L3

/-- 'append(nil, c...)' in a region that draws -/
theorem step_append_all (wr : World) {ops : Array Oper} {o : Oper} {a : Act} {K : Act → World → Prop} {Q : Exit → Act → World → Prop} {E : Prop} (hgd : o.guard = none) (s x : Operand)
    (ho : o.op = .call { callee := .builtin .append, args := #[s, x], argTypes := #[61, 61] })
    (C : List Nat) (b off tc : Nat) (h0 : 0 < C.length) (h1 : C.length ≤ 16) (hc : ∀ j, j < C.length → wr.cell? ⟨b, off + j, none⟩ = some (.int .u16 (C.getD j 0 : Nat)))
    (hs : a.eval s = .slice none 0 0) (hx : a.eval x = .slice (some ⟨b, off, none⟩) C.length tc)
    (h : ∀ g cap w', L3.Ow w' wr.heap.size g C.length cap C → Below wr.heap.size wr w' → K (a.put o.dst (.slice (some ⟨g, 0, none⟩) C.length cap)) w') :
    if Region.wanted o (yielded ops a.tmps) = true then Oper.wp Tryd.prog o a wr K Q else E := by
  obtain ⟨i, hi, hz0, hz1, hz2⟩ := info_parts Tryd.info38
  have hnews : ∀ j u, (ns .u16 C)[j]? = some u → wr.cell? ((⟨b, off, none⟩ : Addr).add j) = some u := fun j u hu => by
    have hj : j < C.length := by have := (List.getElem?_eq_some_iff.1 hu).1; rw [ns_length] at this; exact this
    rw [ns_get _ _ _ hj] at hu
    rw [show (⟨b, off, none⟩ : Addr).add j = ⟨b, off + j, none⟩ from (by unfold Addr.add; split <;> simp_all), hc j hj]
    exact hu
  refine step_append_lies _ hgd s x 61 ho wr.heap.size 38 i (.int .u16 0) 1 2 Tryd.underlying61 hi hz0 hz1 hz2 rfl (by omega) (.slice none 0 0) 0 [] hs (World.ownsRow_nil _ _ _ _) ⟨b, off, none⟩ C.length tc (ns .u16 C) hx (by rw [ns_length]; omega) hnews (ns_one _ _) h0 (by unfold maxLen; omega) (by omega) (Nat.le_refl _) wr.heap.size rfl ?_
  intro g cap w' hown' hgrow hat hlt
  rw [Nat.zero_add, List.nil_append] at hown'
  rw [Nat.zero_add]
  exact h g cap w' ⟨hown'⟩ ⟨hgrow.os, hgrow.tape, hgrow.output, hgrow.size, fun k hk => hgrow.block k hk (fun e => by simp [Value.ownBlock] at e)⟩

/-- the rows that are done -/
def Cn (K : List (Nat × List Tb)) (L : List (Nat × Nat × List Tb)) : Prop := ∀ (j : Nat) x p, L[j]? = some x → K[j]? = some p → Alq p.2 x.2.2
/-- the tables of a row that are done -/
def Cm (pt M : List Tb) : Prop := ∀ (i : Nat) s t, M[i]? = some t → pt[i]? = some s → t.C = s.C ∧ t.n = s.n
structure PI (W : World) (ov : Nat) (K : List (Nat × List Tb)) (iv : Value) (wr : World) : Prop where
  ex : ∃ (k : Nat) (Tv : Value) (L : List (Nat × Nat × List Tb)) (D : Nat → Prop), k ≤ 32 ∧ iv = .int .i64 k ∧ L.length = k ∧ Cn K L ∧ Gs wr W.heap.size Tv L D ∧ Vr wr ov Tv ∧ Kr ov W wr
structure PJ (W : World) (ov k : Nat) (pt : List Tb) (Tv : Value) (L : List (Nat × Nat × List Tb)) (D : Nat → Prop) (rv iv : Value) (wr : World) : Prop where
  ex : ∃ (c : Nat) (M : List Tb) (Dr : Nat → Prop), c ≤ sC k ∧ iv = .int .i64 c ∧ M.length = c ∧ Cm pt M ∧ Gr wr W.heap.size rv M Dr ∧ (∀ y, Dr y → ¬ D y) ∧ Gs wr W.heap.size Tv L D ∧ Vr wr ov Tv ∧ Kr ov W wr
theorem PJ.next {W wr w5 w6 : World} {ov k : Nat} {pt : List Tb} {Tv : Value} {L : List (Nat × Nat × List Tb)} {D : Nat → Prop} {c : Nat} {M : List Tb} {Dr D' : Nat → Prop} {s t : Tb} {rv' : Value} (hc : c < sC k) (hM : M.length = c) (hMd : Cm pt M) (hsp : pt[c]? = some s) (ht : t.C = s.C ∧ t.n = s.n) (hd : ∀ y, Dr y → ¬ D y) (hS : Gs wr W.heap.size Tv L D) (ho : Vr wr ov Tv) (hov : ov < W.heap.size) (hk : Kr ov W wr)
    (h5 : Below wr.heap.size wr w5) (hb : ∀ b, Tbk t b → wr.heap.size ≤ b) (hG : Gr w6 W.heap.size rv' (M ++ [t]) D') (hD' : ∀ y, D' y → Dr y ∨ Tbk t y ∨ w5.heap.size ≤ y) (hDr : ∀ y, Dr y → W.heap.size ≤ y) (hk6 : Ke Dr w5 w6) : PJ W ov k pt Tv L D rv' (.int .i64 ((c + 1 : Nat) : Int)) w6 := by
  refine ⟨c + 1, M ++ [t], D', by omega, rfl, by simp [hM], fun i s' u hu hs' => ?_, hG, fun y hy hD => ?_, (hS.to h5).ke hk6 hd, (ho.to h5).ke hk6 (fun e => by have := hDr ov e; omega), (hk.to h5).ke hk6 hDr⟩
  · rw [List.getElem?_append] at hu
    by_cases h1 : i < M.length
    · rw [if_pos h1] at hu; exact hMd i s' u hu hs'
    · rw [if_neg h1] at hu
      have h2 := (List.getElem?_eq_some_iff.1 hu).1
      obtain rfl : u = t := by have := List.mem_of_getElem? hu; simpa using this
      obtain rfl : i = c := by simp at h2; omega
      rw [hsp] at hs'
      obtain rfl := Option.some.inj hs'
      exact ht
  · have hl := (hS.lt y hD).2
    have hz := h5.size
    rcases hD' y hy with e | e | e
    · exact hd y e hD
    · have := hb y e; omega
    · omega

set_option maxRecDepth 100000 in
set_option maxHeartbeats 8000000 in
theorem rcopy_z {w : World} {lo bt cT : Nat} {q : Nat → Nat} {K : List (Nat × List Tb)} (h : Su w lo bt q K) (hok : Okk K) : Calls Tryd.prog 10 #[.agg #[.slice (some ⟨bt, 0, none⟩) 32 cT]] w fun e w' => Hzn w w' e (ab K) := by
  have HSu : Hid (Su w lo bt q K) := h
  have HOK : Hid (Okk K) := hok
  have HBW : Hid (Below w.heap.size w (((w.alloc (.cells #[.slice (some ⟨bt, 0, none⟩) 32 cT] 25)).alloc (.cells #[.slice none 0 0] 25)).alloc (.cells #[.slice none 0 0] 25))) := to_alloc (to_alloc (from_alloc _ _) _) _
  have HVs : Hid ((((w.alloc (.cells #[.slice (some ⟨bt, 0, none⟩) 32 cT] 25)).alloc (.cells #[.slice none 0 0] 25)).alloc (.cells #[.slice none 0 0] 25)).heap.size = w.heap.size + 3) := by show _ = _; simp
  have HZ : Hid ((((w.alloc (.cells #[.slice (some ⟨bt, 0, none⟩) 32 cT] 25)).alloc (.cells #[.slice none 0 0] 25)).alloc (.cells #[.slice none 0 0] 25)).cell? ⟨w.heap.size, 0, none⟩ = some (.slice (some ⟨bt, 0, none⟩) 32 cT) ∧ (((w.alloc (.cells #[.slice (some ⟨bt, 0, none⟩) 32 cT] 25)).alloc (.cells #[.slice none 0 0] 25)).alloc (.cells #[.slice none 0 0] 25)).cell? ⟨w.heap.size + 1, 0, none⟩ = some (.slice none 0 0) ∧ (((w.alloc (.cells #[.slice (some ⟨bt, 0, none⟩) 32 cT] 25)).alloc (.cells #[.slice none 0 0] 25)).alloc (.cells #[.slice none 0 0] 25)).frozen? ⟨w.heap.size + 1, 0, none⟩ = false ∧ (((w.alloc (.cells #[.slice (some ⟨bt, 0, none⟩) 32 cT] 25)).alloc (.cells #[.slice none 0 0] 25)).alloc (.cells #[.slice none 0 0] 25)).cell? ⟨w.heap.size + 2, 0, none⟩ = some (.slice none 0 0) ∧ (((w.alloc (.cells #[.slice (some ⟨bt, 0, none⟩) 32 cT] 25)).alloc (.cells #[.slice none 0 0] 25)).alloc (.cells #[.slice none 0 0] 25)).frozen? ⟨w.heap.size + 2, 0, none⟩ = false) := by
    have a1 : Below (w.alloc (.cells #[.slice (some ⟨bt, 0, none⟩) 32 cT] 25)).heap.size (w.alloc (.cells #[.slice (some ⟨bt, 0, none⟩) 32 cT] 25)) (((w.alloc (.cells #[.slice (some ⟨bt, 0, none⟩) 32 cT] 25)).alloc (.cells #[.slice none 0 0] 25)).alloc (.cells #[.slice none 0 0] 25)) := to_alloc (from_alloc _ _) _
    have a2 : Below ((w.alloc (.cells #[.slice (some ⟨bt, 0, none⟩) 32 cT] 25)).alloc (.cells #[.slice none 0 0] 25)).heap.size ((w.alloc (.cells #[.slice (some ⟨bt, 0, none⟩) 32 cT] 25)).alloc (.cells #[.slice none 0 0] 25)) (((w.alloc (.cells #[.slice (some ⟨bt, 0, none⟩) 32 cT] 25)).alloc (.cells #[.slice none 0 0] 25)).alloc (.cells #[.slice none 0 0] 25)) := from_alloc _ _
    have e1 : (w.alloc (.cells #[.slice (some ⟨bt, 0, none⟩) 32 cT] 25)).heap.size = w.heap.size + 1 := by simp
    have e2 : ((w.alloc (.cells #[.slice (some ⟨bt, 0, none⟩) 32 cT] 25)).alloc (.cells #[.slice none 0 0] 25)).heap.size = w.heap.size + 2 := by simp
    refine ⟨by rw [newCell a1 _ _ (by omega)]; simp [go_sem], by rw [newCell a2 _ _ (by omega), ← e1]; simp [go_sem], by rw [newFrozen a2 _ _ (by omega), ← e1]; simp [go_sem], by rw [← e2]; simp [go_sem], by rw [← e2]; simp [go_sem]⟩
  clear h hok
  obtain ⟨z0, -, -, z3, z4⟩ := HZ.out
  have HI0 : Hid (PI (((w.alloc (.cells #[.slice (some ⟨bt, 0, none⟩) 32 cT] 25)).alloc (.cells #[.slice none 0 0] 25)).alloc (.cells #[.slice none 0 0] 25)) (w.heap.size + 2) K (.int .i64 0) (((w.alloc (.cells #[.slice (some ⟨bt, 0, none⟩) 32 cT] 25)).alloc (.cells #[.slice none 0 0] 25)).alloc (.cells #[.slice none 0 0] 25))) := ⟨0, .slice none 0 0, [], fun _ => False, by omega, rfl, rfl, fun j x p h => by simp at h, Gs.nil _ _, ⟨z3, z4, by have := HVs.out; omega⟩, Kr.refl _ _⟩
  clear z0 z3 z4
  go_enter Tryd.func10, Tryd.ntmps10
  go_wp2_with fail
  rw [show w.heap.size + 1 + 1 = w.heap.size + 2 from rfl]
  generalize (((w.alloc (.cells #[.slice (some ⟨bt, 0, none⟩) 32 cT] 25)).alloc (.cells #[.slice none 0 0] 25)).alloc (.cells #[.slice none 0 0] 25)) = W at *
  go_loopw [4] (fun iv wr => PI W (w.heap.size + 2) K iv wr) (fun iv _ => 32 - (intOf iv).toNat)
  case atStart => exact HI0.out
  case round =>
    clear HI0
    obtain ⟨k, Tv, L, D, hk, rfl, hL, hdn, hgs, hov, hkr⟩ := hrel
    obtain ⟨aT, cT2, rfl⟩ := hgs.form
    have HL : Hid (L.length = k) := hL
    have HDn : Hid (Cn K L) := hdn
    have HGs : Hid (Gs wr W.heap.size (.slice aT L.length cT2) L D) := hgs
    have HOv : Hid (Vr wr (w.heap.size + 2) (.slice aT L.length cT2)) := hov
    have HKr : Hid (Kr (w.heap.size + 2) W wr) := hkr
    have HRd : Hid (∀ v, Kr (w.heap.size + 2) W v → Below w.heap.size w v ∧ v.cell? ⟨w.heap.size, 0, none⟩ = some (.slice (some ⟨bt, 0, none⟩) 32 cT)) := fun v hv => ⟨HBW.out.trans (hv.below (B := w.heap.size) (by omega) (by have := HVs.out; omega)), by rw [hv.cell _ _ (by have := HVs.out; omega) (by omega)]; exact HZ.out.1⟩
    clear hL hdn hgs hov hkr
    generalize hln : L.length = ln at *
    have HLn : Hid (L.length = ln) := hln
    clear hln
    have b0 : (0 : Int) ≤ (k : Int) := by omega
    by_cases hlt : k < 32
    · have b1 : (k : Int) < 32 := by omega
      have HK : Hid (k < 32) := hlt
      have hkl : k < K.length := by rw [HOK.out.1]; exact hlt
      have hget := List.getElem?_eq_getElem hkl
      have hoq := HOK.out.2 k _ hget
      have hmem : K[k] ∈ K := List.getElem_mem _
      have HGK : Hid (K[k]? = some K[k]) := hget
      have hblt := HSu.out.blt
      have hlie := (HSu.out.lie _ hmem).2.1
      have HSr : Hid (∀ v, Kr (w.heap.size + 2) W v → v.cell? ⟨w.heap.size, 0, none⟩ = some (.slice (some ⟨bt, 0, none⟩) 32 cT) ∧ v.cell? ⟨bt, k, none⟩ = some (.slice (some ⟨K[k].1, 0, none⟩) K[k].2.length (q k)) ∧ ∀ c t, K[k].2[c]? = some t → v.cell? ⟨K[k].1, c * 2, none⟩ = some (.slice t.a t.C.length t.c) ∧ v.cell? ⟨K[k].1, c * 2 + 1, none⟩ = some (.int .i64 t.n) ∧ Sl v .u16 t.a t.C) := fun v hv => by
        obtain ⟨hb, hx⟩ := HRd.out v hv
        refine ⟨hx, by rw [newCell hb _ _ hblt]; exact HSu.out.hd k _ hget, fun c t ht => ⟨by rw [newCell hb _ _ hlie]; exact HSu.out.c0 _ hmem c t ht, by rw [newCell hb _ _ hlie]; exact HSu.out.c1 _ hmem c t ht, (HSu.out.sl _ hmem t (List.mem_of_getElem? ht)).to hb⟩⟩
      have HJ0 : Hid (PJ W (w.heap.size + 2) k K[k].2 (.slice aT ln cT2) L D (.slice none 0 0) (.int .i64 0) wr) := ⟨0, [], fun _ => False, by omega, rfl, rfl, fun i s t h => by simp at h, Gr.nil _ _, fun _ h => h.elim, HGs.out, HOv.out, HKr.out⟩
      have HPL : Hid (K[k].2.length = sC k) := hoq.1
      have HPT : Hid (∀ t ∈ K[k].2, t.C.length = sV k ∧ TOk t.C t.n) := hoq.2
      have hC1 := (sC_le k hlt).1
      have hC2 := (sC_le k hlt).2
      have hV1 := (sV_le k hlt).1
      have hV2 := (sV_le k hlt).2
      obtain ⟨x0, x1, -⟩ := HSr.out _ HKr.out
      generalize K[k] = p at *
      obtain ⟨pb, pt⟩ := p
      simp only at HSr HPL HPT HJ0 x0 x1
      rw [HPL.out] at HSr x1
      clear HGs HOv hget hoq hmem hkl hlie hblt
      go_wp2_with fail
      go_loopw [5, 6] (fun rv iv wr => PJ W (w.heap.size + 2) k pt (.slice aT ln cT2) L D rv iv wr) (fun _ iv _ => sC k - (intOf iv).toNat)
      case atStart => exact HJ0.out
      case round =>
        clear HJ0 HKr x0 x1
        obtain ⟨c, M, Dr, hc, rfl, hM, hMd, hgr, hdd, hgs, hov, hkr⟩ := hrel
        obtain ⟨ar, cr, rfl⟩ := hgr.form
        obtain ⟨x0, x1, hxt⟩ := HSr.out _ hkr
        have HM : Hid (M.length = c) := hM
        have HMd : Hid (Cm pt M) := hMd
        have HGr : Hid (Gr wr W.heap.size (.slice ar M.length cr) M Dr) := hgr
        have HDD : Hid (∀ y, Dr y → ¬ D y) := hdd
        have HGs : Hid (Gs wr W.heap.size (.slice aT ln cT2) L D) := hgs
        have HOv : Hid (Vr wr (w.heap.size + 2) (.slice aT ln cT2)) := hov
        have HKr : Hid (Kr (w.heap.size + 2) W wr) := hkr
        have HDl : Hid (∀ y, Dr y → W.heap.size ≤ y) := fun y hy => (hgr.lt y hy).1
        clear hM hMd hgr hdd hgs hov hkr
        have c0 : (0 : Int) ≤ (c : Int) := by omega
        by_cases hcl : c < sC k
        · have c1 : (c : Int) < (sC k : Int) := by omega
          have HCl : Hid (c < sC k) := hcl
          have hcp : c < pt.length := by rw [HPL.out]; exact hcl
          have hgt := List.getElem?_eq_getElem hcp
          have HGt : Hid (pt[c]? = some pt[c]) := hgt
          obtain ⟨y0, y1, ys⟩ := hxt c _ hgt
          obtain ⟨hvl, htk⟩ := HPT.out _ (List.getElem_mem hcp)
          have HXs : Hid (∀ v, Below wr.heap.size wr v → v.cell? ⟨w.heap.size, 0, none⟩ = some (.slice (some ⟨bt, 0, none⟩) 32 cT) ∧ v.cell? ⟨bt, k, none⟩ = some (.slice (some ⟨pb, 0, none⟩) (sC k) (q k)) ∧ v.cell? ⟨pb, c * 2, none⟩ = some (.slice pt[c].a pt[c].C.length pt[c].c) ∧ Sl v .u16 pt[c].a pt[c].C) := fun v hv => by
            obtain ⟨i1, i2, i3⟩ := HSr.out v (HKr.out.to hv)
            obtain ⟨i4, _, i5⟩ := i3 c _ hgt
            exact ⟨i1, i2, i4, i5⟩
          have HWl : Hid (W.heap.size ≤ wr.heap.size) := HKr.out.size
          have HRl : Hid (M.length < 1000000) := by have := HM.out; show _ < _; omega
          have HRel : Hid (∀ w5 w6 tv g' cap' D' gt ct, Below wr.heap.size wr w5 → tv = (⟨some ⟨gt, 0, none⟩, ct, pt[c].C, pt[c].n⟩ : Tb) → wr.heap.size ≤ gt → Gr w6 W.heap.size (.slice (some ⟨g', 0, none⟩) (M.length + 1) cap') (M ++ [tv]) D' → (∀ y, D' y → Dr y ∨ Tbk tv y ∨ w5.heap.size ≤ y) → Ke Dr w5 w6 → PJ W (w.heap.size + 2) k pt (.slice aT ln cT2) L D (.slice (some ⟨g', 0, none⟩) (M.length + 1) cap') (.int .i64 ((c : Int) + 1)) w6) := fun w5 w6 tv g' cap' D' gt ct i1 i2 i3 i4 i5 i6 => by
            subst i2
            exact PJ.next (t := ⟨some ⟨gt, 0, none⟩, ct, pt[c].C, pt[c].n⟩) HCl.out HM.out HMd.out HGt.out ⟨rfl, rfl⟩ HDD.out HGs.out HOv.out (by have := HVs.out; omega) HKr.out i1 (fun b hb => by
              obtain ⟨_, o, e⟩ := hb
              simp only [Option.some.injEq, Addr.mk.injEq, and_true] at e
              omega) i4 i5 HDl.out i6
          have HTb : Hid (∀ gt ct, wr.heap.size ≤ gt → ∀ b, Tbk ⟨some ⟨gt, 0, none⟩, ct, pt[c].C, pt[c].n⟩ b → W.heap.size ≤ b ∧ ¬ Dr b) := fun gt ct hgt b hb => by
            obtain ⟨_, o, e⟩ := hb
            simp only [Option.some.injEq, Addr.mk.injEq, and_true] at e
            have h1 := HWl.out
            exact ⟨by omega, fun e2 => by have := (HGr.out.lt b e2).2; omega⟩
          generalize pt[c] = st at *
          obtain ⟨sa, sc, sC', sn⟩ := st
          simp only at y0 y1 ys hvl htk HXs HRel HTb
          have hl0 : 0 < sC'.length := by omega
          have hl1 : sC'.length ≤ 16 := by omega
          obtain ⟨sbk, sof, rfl⟩ : ∃ b o, sa = some ⟨b, o, none⟩ := by
            rcases ys with e | ⟨b, o, e, _⟩
            · rw [e] at hl0; simp at hl0
            · exact ⟨b, o, e⟩
          have HXc : Hid (∀ v, Below wr.heap.size wr v → ∀ j, j < sC'.length → v.cell? ⟨sbk, sof + j, none⟩ = some (.int .u16 (sC'.getD j 0 : Nat))) := fun v hv => by
            obtain ⟨_, _, _, i4⟩ := HXs.out v hv
            rcases i4 with e | ⟨b, o, e, _, e3⟩
            · rw [e] at hl0; simp at hl0
            · simp only [Option.some.injEq, Addr.mk.injEq, and_true] at e
              obtain ⟨rfl, rfl⟩ := e
              exact e3
          have HB4 : Hid (Below wr.heap.size wr (wr.alloc (.cells #[.slice none 0 0, .int .i64 sn] 63))) := from_alloc _ _
          have HT4 : Hid (∀ v, Below (wr.alloc (.cells #[.slice none 0 0, .int .i64 sn] 63)).heap.size (wr.alloc (.cells #[.slice none 0 0, .int .i64 sn] 63)) v → v.cell? ⟨wr.heap.size, 0, none⟩ = some (.slice none 0 0) ∧ v.cell? ⟨wr.heap.size, 1, none⟩ = some (.int .i64 sn) ∧ v.frozen? ⟨wr.heap.size, 0, none⟩ = false) := fun v hv => by
            rw [newCell hv _ _ (by simp), newCell hv _ _ (by simp), newFrozen hv _ _ (by simp)]
            simp [go_sem]
          have HT5 : Hid ((wr.alloc (.cells #[.slice none 0 0, .int .i64 sn] 63)).heap.size = wr.heap.size + 1) := by show _ = _; simp
          clear hxt ys hgt hcp htk hvl
          go_wp2_with fail
          generalize wr.alloc (.cells #[.slice none 0 0, .int .i64 sn] 63) = w4 at *
          obtain ⟨p0, p1, p2, -⟩ := HXs.out w4.drew (below_drew HB4.out)
          obtain ⟨p3, p4, p5⟩ := HT4.out w4.drew (below_drew (Below.refl _ _))
          have HCc : Hid (∀ j, j < sC'.length → w4.drew.cell? ⟨sbk, sof + j, none⟩ = some (.int .u16 (sC'.getD j 0 : Nat))) := HXc.out _ (below_drew HB4.out)
          have HAf : Hid (∀ w', Below w4.drew.heap.size w4.drew w' → w'.cell? ⟨wr.heap.size, 0, none⟩ = some (.slice none 0 0) ∧ w'.frozen? ⟨wr.heap.size, 0, none⟩ = false) := fun w' hw => ⟨(HT4.out w' (below_to (below_drew (Below.refl _ _)) hw)).1, (HT4.out w' (below_to (below_drew (Below.refl _ _)) hw)).2.2⟩
          clear x0 x1 y0 y1
          go_region_law ((refine step_append_all _ (by rfl) _ _ (by rfl) sC' sbk sof sc hl0 hl1 HCc.out (by rfl) (by rfl) ?_; intro gt ct w5 how hbw; obtain ⟨a0, a1⟩ := HAf.out w5 hbw))
          all_goals
            have hsl := how.sl
            have hgl := how.lies.1
            have hzt := how.thaw
            have HGt2 : Hid (wr.heap.size ≤ gt) := by have := HT5.out; have h4 : w4.drew.heap.size = w4.heap.size := rfl; show _ ≤ _; omega
            have HB5 : Hid (Below wr.heap.size wr (w5.setCell ⟨wr.heap.size, 0, none⟩ (.slice (some ⟨gt, 0, none⟩) sC'.length ct))) := below_set (below_to (below_drew HB4.out) hbw) (Nat.le_refl _) _
            have HS5 : Hid (Sl (w5.setCell ⟨wr.heap.size, 0, none⟩ (.slice (some ⟨gt, 0, none⟩) sC'.length ct)) .u16 (some ⟨gt, 0, none⟩) sC') := sl_far hsl (fun b o e _ => by
              simp only [Option.some.injEq, Addr.mk.injEq, and_true] at e
              have h4 : w4.drew.heap.size = w4.heap.size := rfl
              have := HT5.out
              show b ≠ wr.heap.size
              omega)
            have HG5 : Hid (Gr (w5.setCell ⟨wr.heap.size, 0, none⟩ (.slice (some ⟨gt, 0, none⟩) sC'.length ct)) W.heap.size (.slice ar M.length cr) M Dr) := HGr.out.to HB5.out
            have HL5 : Hid (W.heap.size ≤ (w5.setCell ⟨wr.heap.size, 0, none⟩ (.slice (some ⟨gt, 0, none⟩) sC'.length ct)).heap.size) := Nat.le_trans HWl.out HB5.out.size
            have u0 : (w5.setCell ⟨wr.heap.size, 0, none⟩ (.slice (some ⟨gt, 0, none⟩) sC'.length ct)).cell? ⟨wr.heap.size, 0, none⟩ = some (.slice (some ⟨gt, 0, none⟩) sC'.length ct) := World.cell?_setCell_same _ _ _ a0
            have u1 : (w5.setCell ⟨wr.heap.size, 0, none⟩ (.slice (some ⟨gt, 0, none⟩) sC'.length ct)).cell? ⟨wr.heap.size, 1, none⟩ = some (.int .i64 sn) := by
              rw [World.cell?_setCell_other _ _ _ _ (by simp)]
              exact (HT4.out w5 (below_to (below_drew (Below.refl _ _)) hbw)).2.1
            have HZ5 : Hid (∀ j, (w5.setCell ⟨wr.heap.size, 0, none⟩ (.slice (some ⟨gt, 0, none⟩) sC'.length ct)).frozen? ⟨gt, j, none⟩ = false) := fun j => by rw [World.frozen?_setCell]; exact hzt j
            clear how hbw hsl hgl hzt p0 p1 p2 p3 p4 p5
            go_upto_region 11 with fail
            generalize w5.setCell ⟨wr.heap.size, 0, none⟩ (.slice (some ⟨gt, 0, none⟩) sC'.length ct) = w7 at *
            clear a0 a1
            go_wp2_with (at_builtin; refine wpList_append_row _ (by rfl) _ _ (by rfl) W.heap.size M _ Dr ⟨some ⟨gt, 0, none⟩, ct, sC', sn⟩ HG5.out HS5.out (HTb.out gt ct HGt2.out) (tbk_thaw HZ5.out) HL5.out HRl.out (by rfl) (by rfl) ?_; intro g' cap' w6 D' j1 j2 j3)
            have hcl := HCl.out
            go_roundw
            case rel => exact HRel.out _ _ _ _ _ _ gt ct HB5.out rfl HGt2.out j1 j2 j3
            case measure => simp [intOf]; omega
        · obtain rfl : c = sC k := by omega
          have c1 : ¬ ((sC k : Nat) : Int) < (sC k : Int) := by omega
          obtain ⟨p, cr', hv, hDp⟩ := HGr.out.more (by rw [HM.out]; omega)
          simp only [Value.slice.injEq] at hv
          obtain ⟨rfl, -, rfl⟩ := hv
          have o0 := HOv.out.c
          have HWl : Hid (W.heap.size ≤ wr.heap.size) := HKr.out.size
          have HLl : Hid (L.length < 1000000) := by have := HL.out; have := HLn.out; show _ < _; omega
          have HGr2 : Hid (Gr wr W.heap.size (.slice (some ⟨p, 0, none⟩) M.length cr) M Dr) := HGr.out
          have HRel : Hid (∀ g' cap' w6 D', Gs w6 W.heap.size (.slice (some ⟨g', 0, none⟩) (L.length + 1) cap') (L ++ [(p, cr, M)]) D' → (∀ y, D' y → D y ∨ Dr y ∨ wr.heap.size ≤ y) → Ke D wr w6 → Vr w6 (w.heap.size + 2) (.slice aT ln cT2) ∧ PI W (w.heap.size + 2) K (.int .i64 ((k : Int) + 1)) (w6.setCell ⟨w.heap.size + 2, 0, none⟩ (.slice (some ⟨g', 0, none⟩) (L.length + 1) cap'))) := fun g' cap' w6 D' i1 i2 i3 => by
            have hnD : ∀ y, D y → W.heap.size ≤ y := fun y hy => (HGs.out.lt y hy).1
            have hoW := HVs.out
            have hv6 : Vr w6 (w.heap.size + 2) (.slice aT ln cT2) := HOv.out.ke i3 (fun e => by have := hnD _ e; omega)
            refine ⟨hv6, ⟨k + 1, _, L ++ [(p, cr, M)], D', by have := HK.out; omega, rfl, by have := HL.out; have := HLn.out; simp; omega, fun j x pp hx hp => ?_, ?_, hv6.set _, (HKr.out.ke i3 hnD).set _ _ (Or.inl rfl)⟩⟩
            · rw [List.getElem?_append] at hx
              by_cases h1 : j < L.length
              · rw [if_pos h1] at hx; exact HDn.out j x pp hx hp
              · rw [if_neg h1] at hx
                have h2 := (List.getElem?_eq_some_iff.1 hx).1
                obtain rfl : x = (p, cr, M) := by have := List.mem_of_getElem? hx; simpa using this
                obtain rfl : j = k := by have := HL.out; have := HLn.out; simp at h2; omega
                rw [HGK.out] at hp
                obtain rfl := Option.some.inj hp
                exact ⟨by rw [HPL.out]; exact HM.out, fun i s t hs ht => HMd.out i s t ht hs⟩
            · refine i1.ke (P := fun y => y = w.heap.size + 2) (Ke.set _ _ _ _ rfl) ?_
              rintro b rfl hb
              have := (i1.lt _ hb).1
              omega
          clear HGr HOv hxt
          go_wp2_with (at_builtin; refine wpList_append_set2 _ (by rfl) _ _ (by rfl) W.heap.size L _ D Dr p cr M HGs.out HGr2.out HDD.out HWl.out HLl.out (by rfl) (by rfl) ?_; intro g' cap' w6 D' j1 j2 j3; obtain ⟨⟨v0, v1, -⟩, hPI⟩ := HRel.out g' cap' w6 D' j1 j2 j3)
          have hlt := HK.out
          go_roundw
          case rel => exact hPI
          case measure => simp [intOf]; omega
    · obtain rfl : k = 32 := by omega
      have b1 : ¬ ((32 : Nat) : Int) < 32 := by omega
      have hl32 : L.length = 32 := by have := HLn.out; have := HL.out; omega
      have hals : Als K (L.map fun x => (x.1, x.2.2)) := by
        refine ⟨by simp [hl32, HOK.out.1], fun j p qq hp hq => ?_⟩
        rw [List.getElem?_map] at hq
        rcases hL : L[j]? with _ | x
        · rw [hL] at hq; cases hq
        · rw [hL] at hq
          simp only [Option.map_some, Option.some.injEq] at hq
          subst hq
          exact HDn.out j x p hL hp
      obtain ⟨btn, cTn, qn, hv, ⟨s1, s2, s3, s4⟩, hBD, s6, s7, s8⟩ := HGs.out.hz hl32 (hals.okk HOK.out) (als_ab hals)
      obtain ⟨B, hhu⟩ : ∃ B, Hz wr W.heap.size btn B (ab K) := ⟨_, ⟨qn, _, s1, s2, s3, s4, rfl, s6, s8⟩⟩
      clear s1 s2 s3 s4 s6 s8
      simp only [Value.slice.injEq] at hv
      obtain ⟨rfl, rfl, rfl⟩ := hv
      have HR7 : Hid (32 ≤ cT2) := s7
      clear s7
      have o0 := HOv.out.c
      have hz := HVs.out
      obtain ⟨-, x0⟩ := HRd.out _ HKr.out
      have r0 : wr.cell? ⟨w.heap.size + 1, 0, none⟩ = some (.slice none 0 0) := by rw [HKr.out.cell _ _ (by omega) (by omega)]; exact HZ.out.2.1
      have r1 : wr.frozen? ⟨w.heap.size + 1, 0, none⟩ = false := by rw [HKr.out.frozen _ _ (by omega) (by omega)]; exact HZ.out.2.2.1
      have HFin : Hid (Hz (wr.setCell ⟨w.heap.size + 1, 0, none⟩ (.slice (some ⟨btn, 0, none⟩) 32 cT2)) w.heap.size btn B (ab K) ∧ Below w.heap.size w (wr.setCell ⟨w.heap.size + 1, 0, none⟩ (.slice (some ⟨btn, 0, none⟩) 32 cT2))) := by
        refine ⟨(hhu.ke (P := fun y => y = w.heap.size + 1) (Ke.set _ _ _ _ rfl) ?_).weak HBW.out.size, below_set (HRd.out _ HKr.out).1 (by simp) _⟩
        rintro b rfl hb
        have := hhu.hu.ge hb
        omega
      clear hhu hBD hals hl32 hz HGs HOv HKr HDn
      go_wp2_with fail
      refine bodyPost_ret (v := .agg #[.slice (some ⟨btn, 0, none⟩) 32 cT2]) (by simp [results, Tryd.results10, go_sem, r0]) rfl ?_
      exact ⟨btn, cT2, B, rfl, HFin.out.1, HFin.out.2, HR7.out⟩
theorem rcopy_u {w : World} {lo bt cT : Nat} {q : Nat → Nat} {K : List (Nat × List Tb)} (h : Su w lo bt q K) (hok : Okk K) : Calls Tryd.prog 10 #[.agg #[.slice (some ⟨bt, 0, none⟩) 32 cT]] w fun e w' => Hun w w' e (ab K) :=
  (rcopy_z h hok).mono fun _ _ h => h.hu
end Go.Proofs.YtppanogpeengnaaDoor

namespace Go.Proofs.YtppanogpeengnaaDoor
open Go.RowKit L3

set_option maxRecDepth 100000 in
set_option maxHeartbeats 4000000 in
theorem rscheck_u {w : World} {lo bt cT : Nat} {q : Nat → Nat} {K : List (Nat × List Tb)} (h : Su w lo bt q K) (ho : Okk K) :
    Calls Tryd.prog 28 #[.agg #[.slice (some ⟨bt, 0, none⟩) 32 cT]] w fun e w' => e = .returned (.int .i64 0) ∧ Below w.heap.size w w' := by
  have HST : Hid (Su w lo bt q K) := h
  have HOK : Hid (Okk K) := ho
  have HB0 : Hid (Below w.heap.size w (w.alloc (.cells #[.slice (some ⟨bt, 0, none⟩) 32 cT] 25))) := from_alloc _ _
  have HX0 : Hid (∀ v, Below (w.alloc (.cells #[.slice (some ⟨bt, 0, none⟩) 32 cT] 25)).heap.size (w.alloc (.cells #[.slice (some ⟨bt, 0, none⟩) 32 cT] 25)) v → v.cell? ⟨w.heap.size, 0, none⟩ = some (.slice (some ⟨bt, 0, none⟩) 32 cT)) := fun v hv => by rw [newCell hv _ _ (by simp)]; simp [go_sem]
  clear h ho
  go_enter Tryd.func28, Tryd.ntmps28
  go_wp2_with fail
  generalize w.alloc (.cells #[.slice (some ⟨bt, 0, none⟩) 32 cT] 25) = V at *
  refine rows_any.mono ?_
  rintro e W ⟨g, rfl, -, hr, hbW⟩
  have HR : Hid (Rw W g) := hr
  have HBW : Hid (Below w.heap.size w W) := below_to HB0.out hbW
  have HX : Hid (∀ v, Below W.heap.size W v → v.cell? ⟨w.heap.size, 0, none⟩ = some (.slice (some ⟨bt, 0, none⟩) 32 cT)) := fun v hv => HX0.out v (below_to hbW hv)
  clear hr hbW HX0 HB0
  go_wp2_with fail
  go_loopw [4] (fun iv wr => ∃ k : Nat, k ≤ 32 ∧ iv = .int .i64 k ∧ Below W.heap.size W wr) (fun iv _ => 32 - (intOf iv).toNat)
  case atStart => exact ⟨0, by omega, rfl, Below.refl _ _⟩
  case round =>
    obtain ⟨k, hk, rfl, hb⟩ := hrel
    have HB : Hid (Below W.heap.size W wr) := hb
    clear hb
    by_cases hlt : k < 32
    · have hkl : k < K.length := by rw [HOK.out.1]; exact hlt
      have hget := List.getElem?_eq_getElem hkl
      have hoq := HOK.out.2 k _ hget
      have hmem : K[k] ∈ K := List.getElem_mem _
      have hblt := HST.out.blt
      have hlie := (HST.out.lie _ hmem).2.1
      have HPL : Hid (K[k].2.length = sC k) := hoq.1
      have HPT : Hid (∀ t ∈ K[k].2, t.C.length = sV k ∧ TOk t.C t.n) := hoq.2
      have HC0 : Hid (∀ v, Below W.heap.size W v → (v.cell? ⟨w.heap.size, 0, none⟩ = some (.slice (some ⟨bt, 0, none⟩) 32 cT) ∧ v.cell? ⟨bt, k, none⟩ = some (.slice (some ⟨K[k].1, 0, none⟩) (sC k) (q k)) ∧ v.cell? ⟨g, k * 3, none⟩ = some (.int .i64 (sC k : Nat)) ∧ v.cell? ⟨g, k * 3 + 1, none⟩ = some (.int .i64 (sV k : Nat))) ∧ ∀ c t, K[k].2[c]? = some t → v.cell? ⟨K[k].1, c * 2, none⟩ = some (.slice t.a t.C.length t.c) ∧ v.cell? ⟨K[k].1, c * 2 + 1, none⟩ = some (.int .i64 t.n) ∧ Sl v .u16 t.a t.C) := fun v hv => by
        have hb := below_to HBW.out hv
        refine ⟨⟨HX.out v hv, by rw [newCell hb _ _ hblt, HST.out.hd k _ hget, HPL.out], (HR.out.to hv).c k hlt, (HR.out.to hv).v k hlt⟩, fun c t ht => ⟨by rw [newCell hb _ _ hlie]; exact HST.out.c0 _ hmem c t ht, by rw [newCell hb _ _ hlie]; exact HST.out.c1 _ hmem c t ht, (HST.out.sl _ hmem t (List.mem_of_getElem? ht)).to hb⟩⟩
      generalize K[k] = p at *
      obtain ⟨pb, pt⟩ := p
      simp only at HPL HPT HC0
      obtain ⟨⟨x0, x1, x2, x3⟩, -⟩ := HC0.out _ HB.out
      have b0 : 0 ≤ (k : Int) := by omega
      have b1 : (k : Int) < 32 := by omega
      have t1 : ((sC k : Int) != (sC k : Int)) = false := by simp
      have HK : Hid (k < 32) := hlt
      have hC2 := (sC_le k hlt).2
      clear hget hoq hmem hkl hblt hlie
      go_wp2_with fail
      go_quiet (fail)
      have HBq : Hid (Below W.heap.size W (wr.drewN nq)) := below_drewN HB.out nq
      go_wp2_with fail
      generalize wr.drewN nq = wo at *
      clear x0 x1 x2 x3
      go_loopw [5] (fun iv wr => ∃ c : Nat, c ≤ sC k ∧ iv = .int .i64 c ∧ Below W.heap.size W wr) (fun iv _ => sC k - (intOf iv).toNat)
      case atStart => exact ⟨0, by omega, rfl, HBq.out⟩
      case round =>
        obtain ⟨c, hc, rfl, hb⟩ := hrel
        clear HB HBq
        rename World => wq
        have HB : Hid (Below W.heap.size W wq) := hb
        clear hb
        obtain ⟨⟨x0, x1, x2, x3⟩, hxt⟩ := HC0.out _ HB.out
        have a0 : 0 ≤ (c : Int) := by omega
        by_cases hcl : c < sC k
        · have a1 : (c : Int) < (sC k : Int) := by omega
          have HCl : Hid (c < sC k) := hcl
          have hcp : c < pt.length := by rw [HPL.out]; exact hcl
          have hgt := List.getElem?_eq_getElem hcp
          obtain ⟨hvl, htk⟩ := HPT.out _ (List.getElem_mem hcp)
          have HXs : Hid (∀ v, Below wq.heap.size wq v → v.cell? ⟨w.heap.size, 0, none⟩ = some (.slice (some ⟨bt, 0, none⟩) 32 cT) ∧ v.cell? ⟨bt, k, none⟩ = some (.slice (some ⟨pb, 0, none⟩) (sC k) (q k)) ∧ v.cell? ⟨g, k * 3 + 1, none⟩ = some (.int .i64 (sV k : Nat)) ∧ v.cell? ⟨pb, c * 2, none⟩ = some (.slice pt[c].a (sV k) pt[c].c) ∧ v.cell? ⟨pb, c * 2 + 1, none⟩ = some (.int .i64 pt[c].n)) := fun v hv => by
            obtain ⟨⟨i0, i1, _, i3⟩, it⟩ := HC0.out v (below_to HB.out hv)
            obtain ⟨i4, i5, _⟩ := it c _ hgt
            rw [hvl] at i4
            exact ⟨i0, i1, i3, i4, i5⟩
          have HCk : Hid (∀ v, Below wq.heap.size wq v → Calls Tryd.prog 53 #[.agg #[.slice pt[c].a (sV k) pt[c].c, .int .i64 pt[c].n]] v fun e w' => e = .returned (.int .i64 0) ∧ Below v.heap.size v w') := fun v hv => by
            obtain ⟨_, it⟩ := HC0.out v (below_to HB.out hv)
            obtain ⟨_, _, i6⟩ := it c _ hgt
            have := rcheck_any (c := pt[c].c) i6 (n := pt[c].n) (by have := htk.hi; omega)
            rw [hvl, ck_ok htk] at this
            exact this
          generalize pt[c] = st at *
          obtain ⟨sa, sc, sC', sn⟩ := st
          simp only at HXs HCk
          have t2 : ((sV k : Int) != (sV k : Int)) = false := by simp
          clear hxt hgt hcp htk hvl
          have hbd : Below wq.heap.size wq wq.drew := below_drew (Below.refl _ _)
          go_wp2_with fail
          go_region_held3 (fun v => v.cell? ⟨w.heap.size, 0, none⟩ = some (.slice (some ⟨bt, 0, none⟩) 32 cT) ∧ v.cell? ⟨bt, k, none⟩ = some (.slice (some ⟨pb, 0, none⟩) (sC k) (q k)) ∧ v.cell? ⟨g, k * 3 + 1, none⟩ = some (.int .i64 (sV k : Nat)) ∧ v.cell? ⟨pb, c * 2, none⟩ = some (.slice sa (sV k) sc) ∧ v.cell? ⟨pb, c * 2 + 1, none⟩ = some (.int .i64 sn))
            ((exact HXs.out _ (by (repeat (first | with_reducible assumption | with_reducible refine below_drew ?_ | with_reducible exact Below.refl _ _)))))
            ((go_at_call 53; refine (HCk.out _ (by (repeat (first | with_reducible assumption | with_reducible refine below_drew ?_ | with_reducible exact Below.refl _ _)))).mono ?_; rintro e wB ⟨rfl, hbB⟩; have hzB := below_to (w := wq) (by (repeat (first | with_reducible assumption | with_reducible refine below_drew ?_ | with_reducible exact Below.refl _ _))) hbB))
          all_goals
            have HZB : Hid (Below W.heap.size W wB) := below_to HB.out hzB
            clear hbB hzB x0 x1 x2 x3
            go_wp2_with fail
            have hcl := HCl.out
            go_roundw
            case rel => exact ⟨c + 1, by omega, by go_num, HZB.out⟩
            case measure => simp [intOf]; omega
        · have a1 : ¬ (c : Int) < (sC k : Int) := by omega
          go_wp2_with fail
          have hlt := HK.out
          go_roundw
          case rel => exact ⟨k + 1, by omega, by go_num, HB.out⟩
          case measure => simp [intOf]; omega
    · have b1 : ¬ (k : Int) < 32 := by omega
      have HF : Hid (Below w.heap.size w wr) := below_to HBW.out HB.out
      go_wp2_with fail
      go_ret
      exact ⟨rfl, HF.out⟩
end Go.Proofs.YtppanogpeengnaaDoor
