/- DERIVED. Several texts in one: Sets of whatever shape that grow by append. The walk of the document's Copy on a set of whatever shape. -/
import Derived.Test.YtppanogpeengnaaDoorMF
import Derived.Test.YtppanogpeengnaaDoorWD
import Derived.Deep.RegionLaw
namespace Go.Proofs.YtppanogpeengnaaDoor
open Go.RowKit L3

/-- tables as plain numbers -/
def px (M : List Tb) : List Px := M.map fun t => (t.C, t.n)
theorem px_length (M : List Tb) : (px M).length = M.length := by simp [px]
/-- a set that grows, its rows of any length -/
structure Gy (w : World) (lo : Nat) (v : Value) (L : List (Value × List Tb)) (D : Nat → Prop) : Prop where
  own : w.ownsRow lo 60 1 v L.length (L.map fun x => x.1)
  row : ∀ x ∈ L, ∃ Dx : Nat → Prop, Gr w lo x.1 x.2 Dx ∧ ∀ y, Dx y → D y ∧ v.ownBlock ≠ some y
  od : ∀ g, v.ownBlock = some g → D g
  lt : ∀ y, D y → lo ≤ y ∧ y < w.heap.size
theorem Gy.nil (w : World) (lo : Nat) : Gy w lo (.slice none 0 0) [] (fun _ => False) := ⟨World.ownsRow_nil _ _ _ _, fun x h => by simp at h, fun g h => by simp [Value.ownBlock] at h, fun _ h => h.elim⟩
theorem Gy.ke {P : Nat → Prop} {w w' : World} {lo : Nat} {v : Value} {L : List (Value × List Tb)} {D : Nat → Prop} (h : Gy w lo v L D) (hk : Ke P w w') (hP : ∀ b, P b → ¬ D b) : Gy w' lo v L D :=
  ⟨own_ke h.own hk (fun g hg e => hP g e (h.od g hg)), fun x hx => by
    obtain ⟨Dx, h1, h2⟩ := h.row x hx
    exact ⟨Dx, h1.ke hk (fun b hb e => hP b hb (h2 b e).1), h2⟩, h.od, fun y hy => ⟨(h.lt y hy).1, Nat.lt_of_lt_of_le (h.lt y hy).2 hk.size⟩⟩
theorem Gy.to {w w' : World} {lo : Nat} {v : Value} {L : List (Value × List Tb)} {D : Nat → Prop} (h : Gy w lo v L D) (hb : Below w.heap.size w w') : Gy w' lo v L D := h.ke (P := fun _ => False) (Ke.of hb) (fun _ e => e.elim)
theorem Gy.form {w : World} {lo : Nat} {v : Value} {L : List (Value × List Tb)} {D : Nat → Prop} (h : Gy w lo v L D) : ∃ a c, v = .slice a L.length c := L2.own_slice h.own
/-- 'append(set, row)' -/
theorem wpList_append_set3 (wr : World) {ops : Array Oper} {rest : List Oper} {o : Oper} {a : Act} {Q : Exit → Act → World → Prop} (hgd : o.guard = none) (s x : Operand)
    (ho : o.op = .call { callee := .builtin .append, args := #[s, x], argTypes := #[23, 23] })
    (lo : Nat) (L : List (Value × List Tb)) (v : Value) (D Dr : Nat → Prop) (p : Option Addr) (cr : Nat) (M : List Tb) (hG : Gy wr lo v L D) (hR : Gr wr lo (.slice p M.length cr) M Dr) (hd : ∀ y, Dr y → ¬ D y) (hlo : lo ≤ wr.heap.size) (hn : L.length < 1000000)
    (hs : a.eval s = v) (hx : a.eval x = .slice (some ⟨wr.heap.size, 0, none⟩) 1 1)
    (h : ∀ g cap w' D', Gy w' lo (.slice (some ⟨g, 0, none⟩) (L.length + 1) cap) (L ++ [(.slice p M.length cr, M)]) D' → (∀ y, D' y → D y ∨ Dr y ∨ wr.heap.size ≤ y) → Ke D wr w' → wpList Tryd.prog ops Q rest (a.put o.dst (.slice (some ⟨g, 0, none⟩) (L.length + 1) cap)) w') :
    wpList Tryd.prog ops Q (o :: rest) a (wr.alloc (.cells #[.slice p M.length cr] 60)) := by
  obtain ⟨i, hi, hz0, hz1, hz2⟩ := info_parts Tryd.inf60
  have hnews : ∀ j u, ([Value.slice p M.length cr])[j]? = some u → (wr.alloc (.cells #[.slice p M.length cr] 60)).cell? ((⟨wr.heap.size, 0, none⟩ : Addr).add j) = some u := World.news_of_block (cs := #[.slice p M.length cr]) (heap_alloc_new wr _)
  refine wpList_append_lies _ hgd s x 23 ho lo 60 i (.slice none 0 0) 1 24 Tryd.underlying23 hi hz0 hz1 hz2 rfl (by omega) v L.length (L.map fun x => x.1) hs (hG.own.alloc _) ⟨wr.heap.size, 0, none⟩ 1 1 [.slice p M.length cr] hx (by rfl) hnews (fun u hu => by obtain rfl := List.mem_singleton.1 hu; rfl) (by omega) (by unfold maxLen; omega) (by omega) (by simp; omega) (wr.heap.size + 1) (by simp) ?_
  intro g cap w' hown' hgrow hat hlt
  have hk := grown_ke (from_alloc wr _) hgrow
  have hkD : Ke D wr w' := ⟨hk.os, hk.tape, hk.output, hk.size, fun k hk1 hk2 => hk.block k hk1 (fun e => hk2 (hG.od k e))⟩
  have hgo : ∀ b, (Value.slice (some ⟨g, 0, none⟩) (L.length + 1) cap).ownBlock = some b → b = g := fun b e => own_eq rfl e
  have hgn : ∀ b, (D b → v.ownBlock ≠ some b) → (D b ∨ Dr b) → (Value.slice (some ⟨g, 0, none⟩) (L.length + 1) cap).ownBlock ≠ some b := fun b h1 h2 e => by
    have e3 := hgo b e
    rcases hat with e4 | e4
    · rcases h2 with h2 | h2
      · exact h1 h2 (by rw [e3]; exact e4)
      · exact hd b h2 (hG.od b (by rw [e3]; exact e4))
    · rcases h2 with h2 | h2
      · have := (hG.lt b h2).2; omega
      · have := (hR.lt b h2).2; omega
  have hkR : Gr w' lo (.slice p M.length cr) M Dr := hR.ke hkD (fun b hb e => hd b e hb)
  refine h g cap w' (fun y => D y ∨ Dr y ∨ y = g) ⟨by rw [List.length_append, List.map_append]; exact hown', fun y hy => ?_, fun b e => Or.inr (Or.inr (hgo b e)), fun y hy => ?_⟩ (fun y hy => ?_) hkD
  · rcases List.mem_append.1 hy with e | e
    · obtain ⟨Dx, h1, h2⟩ := hG.row y e
      exact ⟨Dx, h1.ke hk (fun b hb e2 => (h2 b e2).2 hb), fun b hb => ⟨Or.inl (h2 b hb).1, hgn b (fun _ => (h2 b hb).2) (Or.inl (h2 b hb).1)⟩⟩
    · obtain rfl := List.mem_singleton.1 e
      exact ⟨Dr, hkR, fun b hb => ⟨Or.inr (Or.inl hb), hgn b (fun hD => absurd hD (hd b hb)) (Or.inr hb)⟩⟩
  · rcases hy with hy | hy | hy
    · exact ⟨(hG.lt y hy).1, Nat.lt_of_lt_of_le (hG.lt y hy).2 hk.size⟩
    · exact ⟨(hR.lt y hy).1, Nat.lt_of_lt_of_le (hR.lt y hy).2 hk.size⟩
    · subst hy; exact ⟨(hown'.lt y rfl).1, hlt⟩
  · rcases hy with hy | hy | hy
    · exact Or.inl hy
    · exact Or.inr (Or.inl hy)
    · subst hy
      rcases hat with e | e
      · exact Or.inl (hG.od y e)
      · exact Or.inr (Or.inr (by omega))
/-- a row that has grown, read -/
theorem Gr.rv {w : World} {lo : Nat} {v : Value} {M : List Tb} {D : Nat → Prop} (h : Gr w lo v M D) : Rv w v (px M) := by
  obtain ⟨a, c, hv⟩ := h.form
  refine ⟨a, c, by rw [px_length]; exact hv, ?_⟩
  by_cases h0 : 0 < M.length
  · obtain ⟨g, cap, hv2, _, hl⟩ := h.own.form h0
    rw [hv2] at hv
    simp only [Value.slice.injEq] at hv
    refine Or.inr ⟨g, hv.1.symm, hl, fun j t ht => ?_⟩
    have ho := h.own
    rw [hv2] at ho
    rw [px, List.getElem?_map] at ht
    rcases hM : M[j]? with _ | u
    · rw [hM] at ht; cases ht
    · rw [hM] at ht
      simp only [Option.map_some, Option.some.injEq] at ht
      subst ht
      have hj : j < M.length := (List.getElem?_eq_some_iff.1 hM).1
      exact ⟨_, _, by rw [ho.cellAt (j * 2) (by omega)]; exact tcs_get0 _ j u hM, by rw [ho.cellAt (j * 2 + 1) (by omega)]; exact tcs_get1 _ j u hM, u.a, u.c, rfl, rfl, h.sl u (List.mem_of_getElem? hM)⟩
  · left
    have : M = [] := List.eq_nil_of_length_eq_zero (by omega)
    rw [this]; rfl
/-- a set that has grown, read -/
theorem Gy.gv {w : World} {lo n c : Nat} {a : Option Addr} {L : List (Value × List Tb)} {D : Nat → Prop} (h : Gy w lo (.slice a n c) L D) : Gv w a (L.map fun x => px x.2) := by
  by_cases h0 : 0 < L.length
  · obtain ⟨g, cap, hv2, _, hl⟩ := h.own.form h0
    have ho := h.own
    rw [hv2] at ho
    simp only [Value.slice.injEq] at hv2
    refine Or.inr ⟨g, hv2.1, hl, fun k R hR => ?_⟩
    rw [List.getElem?_map] at hR
    rcases hL : L[k]? with _ | u
    · rw [hL] at hR; cases hR
    · rw [hL] at hR
      simp only [Option.map_some, Option.some.injEq] at hR
      subst hR
      have hk : k < L.length := (List.getElem?_eq_some_iff.1 hL).1
      obtain ⟨Dx, h1, _⟩ := h.row u (List.mem_of_getElem? hL)
      exact ⟨u.1, by rw [ho.cellAt k (by omega), List.getElem?_map, hL]; rfl, h1.rv⟩
  · left
    have : L = [] := List.eq_nil_of_length_eq_zero (by omega)
    rw [this]; rfl
/-- what a copy answers -/
def CqX (w w' : World) (e : Ending) (n : Nat) (X : List (List Px)) : Prop := ∃ a c, e = .returned (.agg #[.slice a n c]) ∧ Gv w' a X ∧ Below w.heap.size w w'
theorem take_next {α : Type} (X : List α) (k : Nat) {x : α} (h : X[k]? = some x) : X.take (k + 1) = X.take k ++ [x] := by
  rw [List.take_add_one, h]; rfl

structure PIg (W : World) (ov n : Nat) (X : List (List Px)) (iv : Value) (wr : World) : Prop where
  ex : ∃ (k : Nat) (Tv : Value) (L : List (Value × List Tb)) (D : Nat → Prop), k ≤ n ∧ iv = .int .i64 k ∧ L.length = k ∧ (L.map fun x => px x.2) = X.take k ∧ Gy wr W.heap.size Tv L D ∧ Vr wr ov Tv ∧ Kr ov W wr
structure PJg (W : World) (ov rl : Nat) (R : List Px) (Tv : Value) (L : List (Value × List Tb)) (D : Nat → Prop) (rv iv : Value) (wr : World) : Prop where
  ex : ∃ (c : Nat) (M : List Tb) (Dr : Nat → Prop), c ≤ rl ∧ iv = .int .i64 c ∧ M.length = c ∧ px M = R.take c ∧ Gr wr W.heap.size rv M Dr ∧ (∀ y, Dr y → ¬ D y) ∧ Gy wr W.heap.size Tv L D ∧ Vr wr ov Tv ∧ Kr ov W wr
theorem PJg.next {W wr w5 w6 : World} {ov rl : Nat} {R : List Px} {Tv : Value} {L : List (Value × List Tb)} {D : Nat → Prop} {c : Nat} {M : List Tb} {Dr D' : Nat → Prop} {s : Px} {t : Tb} {rv' : Value} (hc : c < rl) (hM : M.length = c) (hMd : px M = R.take c) (hsp : R[c]? = some s) (ht : (t.C, t.n) = s) (hd : ∀ y, Dr y → ¬ D y) (hS : Gy wr W.heap.size Tv L D) (ho : Vr wr ov Tv) (hov : ov < W.heap.size) (hk : Kr ov W wr)
    (h5 : Below wr.heap.size wr w5) (hb : ∀ b, Tbk t b → wr.heap.size ≤ b) (hG : Gr w6 W.heap.size rv' (M ++ [t]) D') (hD' : ∀ y, D' y → Dr y ∨ Tbk t y ∨ w5.heap.size ≤ y) (hDr : ∀ y, Dr y → W.heap.size ≤ y) (hk6 : Ke Dr w5 w6) : PJg W ov rl R Tv L D rv' (.int .i64 ((c + 1 : Nat) : Int)) w6 := by
  refine ⟨c + 1, M ++ [t], D', by omega, rfl, by simp [hM], ?_, hG, fun y hy hD => ?_, (hS.to h5).ke hk6 hd, (ho.to h5).ke hk6 (fun e => by have := hDr ov e; omega), (hk.to h5).ke hk6 hDr⟩
  · rw [take_next R c hsp, ← hMd, ← ht]; simp [px]
  · have hl := (hS.lt y hD).2
    have hz := h5.size
    rcases hD' y hy with e | e | e
    · exact hd y e hD
    · have := hb y e; omega
    · omega

end Go.Proofs.YtppanogpeengnaaDoor

namespace Go.Proofs.YtppanogpeengnaaDoor
open Go.RowKit L3

set_option maxRecDepth 100000 in
set_option maxHeartbeats 8000000 in
theorem rcopy_g {w : World} {a : Option Addr} {cT n : Nat} {X : List (List Px)} (h : Gv w a X) (hn : X.length = n) (hs : Sml X) (hp : ∀ R ∈ X, ∀ t ∈ R, 0 < t.1.length) : Calls Tryd.prog 10 #[.agg #[.slice a n cT]] w fun e w' => CqX w w' e n X := by
  have n32 : (n : Int) ≤ 32 := by have := hs.n; omega
  have HG : Hid (Gv w a X) := h
  have HN : Hid (X.length = n) := hn
  have HSm : Hid (Sml X) := hs
  have HP : Hid (∀ R ∈ X, ∀ t ∈ R, 0 < t.1.length) := hp
  have HBW : Hid (Below w.heap.size w (((w.alloc (.cells #[.slice a n cT] 25)).alloc (.cells #[.slice none 0 0] 25)).alloc (.cells #[.slice none 0 0] 25))) := to_alloc (to_alloc (from_alloc _ _) _) _
  have HVs : Hid ((((w.alloc (.cells #[.slice a n cT] 25)).alloc (.cells #[.slice none 0 0] 25)).alloc (.cells #[.slice none 0 0] 25)).heap.size = w.heap.size + 3) := by show _ = _; simp
  have HZ : Hid ((((w.alloc (.cells #[.slice a n cT] 25)).alloc (.cells #[.slice none 0 0] 25)).alloc (.cells #[.slice none 0 0] 25)).cell? ⟨w.heap.size, 0, none⟩ = some (.slice a n cT) ∧ (((w.alloc (.cells #[.slice a n cT] 25)).alloc (.cells #[.slice none 0 0] 25)).alloc (.cells #[.slice none 0 0] 25)).cell? ⟨w.heap.size + 1, 0, none⟩ = some (.slice none 0 0) ∧ (((w.alloc (.cells #[.slice a n cT] 25)).alloc (.cells #[.slice none 0 0] 25)).alloc (.cells #[.slice none 0 0] 25)).frozen? ⟨w.heap.size + 1, 0, none⟩ = false ∧ (((w.alloc (.cells #[.slice a n cT] 25)).alloc (.cells #[.slice none 0 0] 25)).alloc (.cells #[.slice none 0 0] 25)).cell? ⟨w.heap.size + 2, 0, none⟩ = some (.slice none 0 0) ∧ (((w.alloc (.cells #[.slice a n cT] 25)).alloc (.cells #[.slice none 0 0] 25)).alloc (.cells #[.slice none 0 0] 25)).frozen? ⟨w.heap.size + 2, 0, none⟩ = false) := by
    have a1 : Below (w.alloc (.cells #[.slice a n cT] 25)).heap.size (w.alloc (.cells #[.slice a n cT] 25)) (((w.alloc (.cells #[.slice a n cT] 25)).alloc (.cells #[.slice none 0 0] 25)).alloc (.cells #[.slice none 0 0] 25)) := to_alloc (from_alloc _ _) _
    have a2 : Below ((w.alloc (.cells #[.slice a n cT] 25)).alloc (.cells #[.slice none 0 0] 25)).heap.size ((w.alloc (.cells #[.slice a n cT] 25)).alloc (.cells #[.slice none 0 0] 25)) (((w.alloc (.cells #[.slice a n cT] 25)).alloc (.cells #[.slice none 0 0] 25)).alloc (.cells #[.slice none 0 0] 25)) := from_alloc _ _
    have e1 : (w.alloc (.cells #[.slice a n cT] 25)).heap.size = w.heap.size + 1 := by simp
    have e2 : ((w.alloc (.cells #[.slice a n cT] 25)).alloc (.cells #[.slice none 0 0] 25)).heap.size = w.heap.size + 2 := by simp
    refine ⟨by rw [newCell a1 _ _ (by omega)]; simp [go_sem], by rw [newCell a2 _ _ (by omega), ← e1]; simp [go_sem], by rw [newFrozen a2 _ _ (by omega), ← e1]; simp [go_sem], by rw [← e2]; simp [go_sem], by rw [← e2]; simp [go_sem]⟩
  clear h hn hs hp
  obtain ⟨z0, -, -, z3, z4⟩ := HZ.out
  have HI0 : Hid (PIg (((w.alloc (.cells #[.slice a n cT] 25)).alloc (.cells #[.slice none 0 0] 25)).alloc (.cells #[.slice none 0 0] 25)) (w.heap.size + 2) n X (.int .i64 0) (((w.alloc (.cells #[.slice a n cT] 25)).alloc (.cells #[.slice none 0 0] 25)).alloc (.cells #[.slice none 0 0] 25))) := ⟨0, .slice none 0 0, [], fun _ => False, by omega, rfl, rfl, by simp, Gy.nil _ _, ⟨z3, z4, by have := HVs.out; omega⟩, Kr.refl _ _⟩
  clear z0 z3 z4
  go_enter Tryd.func10, Tryd.ntmps10
  go_wp2_with fail
  rw [show w.heap.size + 1 + 1 = w.heap.size + 2 from rfl]
  generalize (((w.alloc (.cells #[.slice a n cT] 25)).alloc (.cells #[.slice none 0 0] 25)).alloc (.cells #[.slice none 0 0] 25)) = W at *
  go_loopw [4] (fun iv wr => PIg W (w.heap.size + 2) n X iv wr) (fun iv _ => n - (intOf iv).toNat)
  case atStart => exact HI0.out
  case round =>
    clear HI0
    obtain ⟨k, Tv, L, D, hk, rfl, hL, hdn, hgs, hov, hkr⟩ := hrel
    obtain ⟨aT, cT2, rfl⟩ := hgs.form
    have HL : Hid (L.length = k) := hL
    have HDn : Hid ((L.map fun x => px x.2) = X.take k) := hdn
    have HGs : Hid (Gy wr W.heap.size (.slice aT L.length cT2) L D) := hgs
    have HOv : Hid (Vr wr (w.heap.size + 2) (.slice aT L.length cT2)) := hov
    have HKr : Hid (Kr (w.heap.size + 2) W wr) := hkr
    have HRd : Hid (∀ v, Kr (w.heap.size + 2) W v → Below w.heap.size w v ∧ v.cell? ⟨w.heap.size, 0, none⟩ = some (.slice a n cT)) := fun v hv => ⟨HBW.out.trans (hv.below (B := w.heap.size) (by omega) (by have := HVs.out; omega)), by rw [hv.cell _ _ (by have := HVs.out; omega) (by omega)]; exact HZ.out.1⟩
    clear hL hdn hgs hov hkr
    generalize hln : L.length = ln at *
    have HLn : Hid (L.length = ln) := hln
    clear hln
    have b0 : (0 : Int) ≤ (k : Int) := by omega
    by_cases hlt : k < n
    · have b1 : (k : Int) < (n : Int) := by omega
      have HK : Hid (k < n) := hlt
      have hkl : k < X.length := by rw [HN.out]; exact hlt
      have hget : X[k]? = some (X[k]'hkl) := List.getElem?_eq_getElem _
      generalize X[k]'hkl = R at *
      have HGK : Hid (X[k]? = some R) := hget
      have hm := List.mem_of_getElem? hget
      obtain ⟨bt, ra, rc, rfl, hbl, ha1, ha2⟩ := HG.out.row hget
      have r16 := HSm.out.r R hm
      have HT16 : Hid (∀ t ∈ R, t.1.length ≤ 16 ∧ 0 < t.1.length) := fun t ht => ⟨HSm.out.t R hm t ht, HP.out R hm t ht⟩
      obtain ⟨rl, hrl⟩ : ∃ rl, R.length = rl := ⟨_, rfl⟩
      have HPL : Hid (R.length = rl) := hrl
      rw [hrl] at ha1 ha2 r16
      have HSr : Hid (∀ v, Kr (w.heap.size + 2) W v → v.cell? ⟨w.heap.size, 0, none⟩ = some (.slice (some ⟨bt, 0, none⟩) n cT) ∧ v.cell? ⟨bt, k, none⟩ = some (.slice ra rl rc) ∧ Rv v (.slice ra rl rc) R) := fun v hv => by
        obtain ⟨hb, hx⟩ := HRd.out v hv
        exact ⟨hx, by rw [newCell hb _ _ hbl]; exact ha1, ha2.to hb⟩
      have HJ0 : Hid (PJg W (w.heap.size + 2) rl R (.slice aT ln cT2) L D (.slice none 0 0) (.int .i64 0) wr) := ⟨0, [], fun _ => False, by omega, rfl, rfl, by simp [px], Gr.nil _ _, fun _ h => h.elim, HGs.out, HOv.out, HKr.out⟩
      obtain ⟨x0, x1, -⟩ := HSr.out _ HKr.out
      clear HGs HOv hget hm hkl hbl ha1 ha2 hrl
      go_wp2_with fail
      go_loopw [5, 6] (fun rv iv wr => PJg W (w.heap.size + 2) rl R (.slice aT ln cT2) L D rv iv wr) (fun _ iv _ => rl - (intOf iv).toNat)
      case atStart => exact HJ0.out
      case round =>
        clear HJ0 HKr x0 x1
        obtain ⟨c, M, Dr, hc, rfl, hM, hMd, hgr, hdd, hgs, hov, hkr⟩ := hrel
        obtain ⟨ar, cr, rfl⟩ := hgr.form
        obtain ⟨x0, x1, hxt⟩ := HSr.out _ hkr
        have HM : Hid (M.length = c) := hM
        have HMd : Hid (px M = R.take c) := hMd
        have HGr : Hid (Gr wr W.heap.size (.slice ar M.length cr) M Dr) := hgr
        have HDD : Hid (∀ y, Dr y → ¬ D y) := hdd
        have HGs : Hid (Gy wr W.heap.size (.slice aT ln cT2) L D) := hgs
        have HOv : Hid (Vr wr (w.heap.size + 2) (.slice aT ln cT2)) := hov
        have HKr : Hid (Kr (w.heap.size + 2) W wr) := hkr
        have HDl : Hid (∀ y, Dr y → W.heap.size ≤ y) := fun y hy => (hgr.lt y hy).1
        clear hM hMd hgr hdd hgs hov hkr
        have c0 : (0 : Int) ≤ (c : Int) := by omega
        by_cases hcl : c < rl
        · have c1 : (c : Int) < (rl : Int) := by omega
          have HCl : Hid (c < rl) := hcl
          have hgt : R[c]? = some (R[c]'(by rw [HPL.out]; exact hcl)) := List.getElem?_eq_getElem _
          generalize R[c]'(by rw [HPL.out]; exact hcl) = st at *
          have HGt : Hid (R[c]? = some st) := hgt
          have ht16 := HT16.out st (List.mem_of_getElem? hgt)
          obtain ⟨pb, sa, sc, rfl, hpl, y0, y1, ys⟩ := hxt.tab hgt
          have HXs : Hid (∀ v, Below wr.heap.size wr v → v.cell? ⟨w.heap.size, 0, none⟩ = some (.slice (some ⟨bt, 0, none⟩) n cT) ∧ v.cell? ⟨bt, k, none⟩ = some (.slice (some ⟨pb, 0, none⟩) rl rc) ∧ v.cell? ⟨pb, c * 2, none⟩ = some (.slice sa st.1.length sc) ∧ Sl v .u16 sa st.1) := fun v hv => by
            obtain ⟨i1, i2, _⟩ := HSr.out v (HKr.out.to hv)
            exact ⟨i1, i2, by rw [newCell hv _ _ hpl]; exact y0, ys.to hv⟩
          have HWl : Hid (W.heap.size ≤ wr.heap.size) := HKr.out.size
          have HRl : Hid (M.length < 1000000) := by have := HM.out; show _ < _; omega
          have HRel : Hid (∀ w5 w6 tv g' cap' D' gt ct, Below wr.heap.size wr w5 → tv = (⟨some ⟨gt, 0, none⟩, ct, st.1, st.2⟩ : Tb) → wr.heap.size ≤ gt → Gr w6 W.heap.size (.slice (some ⟨g', 0, none⟩) (M.length + 1) cap') (M ++ [tv]) D' → (∀ y, D' y → Dr y ∨ Tbk tv y ∨ w5.heap.size ≤ y) → Ke Dr w5 w6 → PJg W (w.heap.size + 2) rl R (.slice aT ln cT2) L D (.slice (some ⟨g', 0, none⟩) (M.length + 1) cap') (.int .i64 ((c : Int) + 1)) w6) := fun w5 w6 tv g' cap' D' gt ct i1 i2 i3 i4 i5 i6 => by
            subst i2
            exact PJg.next (t := ⟨some ⟨gt, 0, none⟩, ct, st.1, st.2⟩) HCl.out HM.out HMd.out HGt.out rfl HDD.out HGs.out HOv.out (by have := HVs.out; omega) HKr.out i1 (fun b hb => by
              obtain ⟨_, o, e⟩ := hb
              simp only [Option.some.injEq, Addr.mk.injEq, and_true] at e
              omega) i4 i5 HDl.out i6
          have HTb : Hid (∀ gt ct, wr.heap.size ≤ gt → ∀ b, Tbk ⟨some ⟨gt, 0, none⟩, ct, st.1, st.2⟩ b → W.heap.size ≤ b ∧ ¬ Dr b) := fun gt ct hgt b hb => by
            obtain ⟨_, o, e⟩ := hb
            simp only [Option.some.injEq, Addr.mk.injEq, and_true] at e
            have h1 := HWl.out
            exact ⟨by omega, fun e2 => by have := (HGr.out.lt b e2).2; omega⟩
          obtain ⟨sC', sn⟩ := st
          simp only at y0 y1 ys ht16 HXs HRel HTb
          have hl0 : 0 < sC'.length := ht16.2
          have hl1 : sC'.length ≤ 16 := ht16.1
          obtain ⟨sbk, sof, rfl⟩ : ∃ b o, sa = some ⟨b, o, none⟩ := by
            rcases ys with e | ⟨b, o, e, _⟩
            · rw [e] at hl0; simp at hl0
            · exact ⟨b, o, e⟩
          have HXc : Hid (∀ v, Below wr.heap.size wr v → ∀ j, j < sC'.length → v.cell? ⟨sbk, sof + j, none⟩ = some (.int .u16 (sC'.getD j 0 : Nat))) := fun v hv => by
            obtain ⟨_, _, _, i4⟩ := HXs.out v hv
            rcases i4 with e | ⟨b, o, e, _, e3⟩
            · rw [e] at hl0; simp at hl0
            · simp only [Option.some.injEq, Addr.mk.injEq, and_true] at e
              obtain ⟨rfl, rfl⟩ := e
              exact e3
          have HB4 : Hid (Below wr.heap.size wr (wr.alloc (.cells #[.slice none 0 0, .int .i64 sn] 63))) := from_alloc _ _
          have HT4 : Hid (∀ v, Below (wr.alloc (.cells #[.slice none 0 0, .int .i64 sn] 63)).heap.size (wr.alloc (.cells #[.slice none 0 0, .int .i64 sn] 63)) v → v.cell? ⟨wr.heap.size, 0, none⟩ = some (.slice none 0 0) ∧ v.cell? ⟨wr.heap.size, 1, none⟩ = some (.int .i64 sn) ∧ v.frozen? ⟨wr.heap.size, 0, none⟩ = false) := fun v hv => by
            rw [newCell hv _ _ (by simp), newCell hv _ _ (by simp), newFrozen hv _ _ (by simp)]
            simp [go_sem]
          have HT5 : Hid ((wr.alloc (.cells #[.slice none 0 0, .int .i64 sn] 63)).heap.size = wr.heap.size + 1) := by show _ = _; simp
          clear hxt ys hgt ht16 hpl
          go_wp2_with fail
          generalize wr.alloc (.cells #[.slice none 0 0, .int .i64 sn] 63) = w4 at *
          obtain ⟨p0, p1, p2, -⟩ := HXs.out w4.drew (below_drew HB4.out)
          obtain ⟨p3, p4, p5⟩ := HT4.out w4.drew (below_drew (Below.refl _ _))
          have HCc : Hid (∀ j, j < sC'.length → w4.drew.cell? ⟨sbk, sof + j, none⟩ = some (.int .u16 (sC'.getD j 0 : Nat))) := HXc.out _ (below_drew HB4.out)
          have HAf : Hid (∀ w', Below w4.drew.heap.size w4.drew w' → w'.cell? ⟨wr.heap.size, 0, none⟩ = some (.slice none 0 0) ∧ w'.frozen? ⟨wr.heap.size, 0, none⟩ = false) := fun w' hw => ⟨(HT4.out w' (below_to (below_drew (Below.refl _ _)) hw)).1, (HT4.out w' (below_to (below_drew (Below.refl _ _)) hw)).2.2⟩
          clear x0 x1 y0 y1
          go_region_law ((refine step_append_all _ (by rfl) _ _ (by rfl) sC' sbk sof sc hl0 hl1 HCc.out (by rfl) (by rfl) ?_; intro gt ct w5 how hbw; obtain ⟨a0, a1⟩ := HAf.out w5 hbw))
          all_goals
            have hsl := how.sl
            have hgl := how.lies.1
            have hzt := how.thaw
            have HGt2 : Hid (wr.heap.size ≤ gt) := by have := HT5.out; have h4 : w4.drew.heap.size = w4.heap.size := rfl; show _ ≤ _; omega
            have HB5 : Hid (Below wr.heap.size wr (w5.setCell ⟨wr.heap.size, 0, none⟩ (.slice (some ⟨gt, 0, none⟩) sC'.length ct))) := below_set (below_to (below_drew HB4.out) hbw) (Nat.le_refl _) _
            have HS5 : Hid (Sl (w5.setCell ⟨wr.heap.size, 0, none⟩ (.slice (some ⟨gt, 0, none⟩) sC'.length ct)) .u16 (some ⟨gt, 0, none⟩) sC') := sl_far hsl (fun b o e _ => by
              simp only [Option.some.injEq, Addr.mk.injEq, and_true] at e
              have h4 : w4.drew.heap.size = w4.heap.size := rfl
              have := HT5.out
              show b ≠ wr.heap.size
              omega)
            have HG5 : Hid (Gr (w5.setCell ⟨wr.heap.size, 0, none⟩ (.slice (some ⟨gt, 0, none⟩) sC'.length ct)) W.heap.size (.slice ar M.length cr) M Dr) := HGr.out.to HB5.out
            have HL5 : Hid (W.heap.size ≤ (w5.setCell ⟨wr.heap.size, 0, none⟩ (.slice (some ⟨gt, 0, none⟩) sC'.length ct)).heap.size) := Nat.le_trans HWl.out HB5.out.size
            have u0 : (w5.setCell ⟨wr.heap.size, 0, none⟩ (.slice (some ⟨gt, 0, none⟩) sC'.length ct)).cell? ⟨wr.heap.size, 0, none⟩ = some (.slice (some ⟨gt, 0, none⟩) sC'.length ct) := World.cell?_setCell_same _ _ _ a0
            have u1 : (w5.setCell ⟨wr.heap.size, 0, none⟩ (.slice (some ⟨gt, 0, none⟩) sC'.length ct)).cell? ⟨wr.heap.size, 1, none⟩ = some (.int .i64 sn) := by
              rw [World.cell?_setCell_other _ _ _ _ (by simp)]
              exact (HT4.out w5 (below_to (below_drew (Below.refl _ _)) hbw)).2.1
            have HZ5 : Hid (∀ j, (w5.setCell ⟨wr.heap.size, 0, none⟩ (.slice (some ⟨gt, 0, none⟩) sC'.length ct)).frozen? ⟨gt, j, none⟩ = false) := fun j => by rw [World.frozen?_setCell]; exact hzt j
            clear how hbw hsl hgl hzt p0 p1 p2 p3 p4 p5
            go_upto_region 11 with fail
            generalize w5.setCell ⟨wr.heap.size, 0, none⟩ (.slice (some ⟨gt, 0, none⟩) sC'.length ct) = w7 at *
            clear a0 a1
            go_wp2_with (at_builtin; refine wpList_append_row _ (by rfl) _ _ (by rfl) W.heap.size M _ Dr ⟨some ⟨gt, 0, none⟩, ct, sC', sn⟩ HG5.out HS5.out (HTb.out gt ct HGt2.out) (tbk_thaw HZ5.out) HL5.out HRl.out (by rfl) (by rfl) ?_; intro g' cap' w6 D' j1 j2 j3)
            have hcl := HCl.out
            go_roundw
            case rel => exact HRel.out _ _ _ _ _ _ gt ct HB5.out rfl HGt2.out j1 j2 j3
            case measure => simp [intOf]; omega
        · obtain rfl : c = rl := by omega
          have c1 : ¬ (c : Int) < (c : Int) := by omega
          have o0 := HOv.out.c
          have HWl : Hid (W.heap.size ≤ wr.heap.size) := HKr.out.size
          have HLl : Hid (L.length < 1000000) := by have := HL.out; have := HLn.out; show _ < _; omega
          have HPx : Hid (px M = R) := by show _ = _; rw [HMd.out, List.take_of_length_le (by rw [HPL.out]; exact Nat.le_refl _)]
          have HRel : Hid (∀ g' cap' w6 D', Gy w6 W.heap.size (.slice (some ⟨g', 0, none⟩) (L.length + 1) cap') (L ++ [(.slice ar M.length cr, M)]) D' → (∀ y, D' y → D y ∨ Dr y ∨ wr.heap.size ≤ y) → Ke D wr w6 → Vr w6 (w.heap.size + 2) (.slice aT ln cT2) ∧ PIg W (w.heap.size + 2) n X (.int .i64 ((k : Int) + 1)) (w6.setCell ⟨w.heap.size + 2, 0, none⟩ (.slice (some ⟨g', 0, none⟩) (L.length + 1) cap'))) := fun g' cap' w6 D' i1 i2 i3 => by
            have hnD : ∀ y, D y → W.heap.size ≤ y := fun y hy => (HGs.out.lt y hy).1
            have hoW := HVs.out
            have hv6 : Vr w6 (w.heap.size + 2) (.slice aT ln cT2) := HOv.out.ke i3 (fun e => by have := hnD _ e; omega)
            refine ⟨hv6, ⟨k + 1, _, L ++ [(.slice ar M.length cr, M)], D', by have := HK.out; omega, rfl, by have := HL.out; have := HLn.out; simp; omega, ?_, ?_, hv6.set _, (HKr.out.ke i3 hnD).set _ _ (Or.inl rfl)⟩⟩
            · rw [take_next X k HGK.out, ← HDn.out, List.map_append, List.map_cons, List.map_nil, HPx.out]
            · refine i1.ke (P := fun y => y = w.heap.size + 2) (Ke.set _ _ _ _ rfl) ?_
              rintro b rfl hb
              have := (i1.lt _ hb).1
              omega
          have HGr2 : Hid (Gr wr W.heap.size (.slice ar M.length cr) M Dr) := HGr.out
          clear HGr HOv hxt
          go_wp2_with (at_builtin; refine wpList_append_set3 _ (by rfl) _ _ (by rfl) W.heap.size L _ D Dr ar cr M HGs.out HGr2.out HDD.out HWl.out HLl.out (by rfl) (by rfl) ?_; intro g' cap' w6 D' j1 j2 j3; obtain ⟨⟨v0, v1, -⟩, hPI⟩ := HRel.out g' cap' w6 D' j1 j2 j3)
          have hlt := HK.out
          go_roundw
          case rel => exact hPI
          case measure => simp [intOf]; omega
    · obtain rfl : k = n := by omega
      have b1 : ¬ (k : Int) < (k : Int) := by omega
      have hln : ln = k := by have := HLn.out; have := HL.out; omega
      subst hln
      have hgv := HGs.out.gv
      rw [HDn.out, List.take_of_length_le (by rw [HN.out]; exact Nat.le_refl _)] at hgv
      have o0 := HOv.out.c
      have hz := HVs.out
      obtain ⟨-, x0⟩ := HRd.out _ HKr.out
      have r0 : wr.cell? ⟨w.heap.size + 1, 0, none⟩ = some (.slice none 0 0) := by rw [HKr.out.cell _ _ (by omega) (by omega)]; exact HZ.out.2.1
      have r1 : wr.frozen? ⟨w.heap.size + 1, 0, none⟩ = false := by rw [HKr.out.frozen _ _ (by omega) (by omega)]; exact HZ.out.2.2.1
      have HFin : Hid (Gv (wr.setCell ⟨w.heap.size + 1, 0, none⟩ (.slice aT ln cT2)) aT X ∧ Below w.heap.size w (wr.setCell ⟨w.heap.size + 1, 0, none⟩ (.slice aT ln cT2))) := by
        have h0 : Gy (wr.setCell ⟨w.heap.size + 1, 0, none⟩ (.slice aT ln cT2)) W.heap.size (.slice aT ln cT2) L D := HGs.out.ke (P := fun y => y = w.heap.size + 1) (Ke.set _ _ _ _ rfl) (by
          rintro b rfl hb
          have := (HGs.out.lt _ hb).1
          omega)
        have h1 := h0.gv
        rw [HDn.out, List.take_of_length_le (by rw [HN.out]; exact Nat.le_refl _)] at h1
        exact ⟨h1, below_set (HRd.out _ HKr.out).1 (by simp) _⟩
      clear hgv hz HGs HOv HKr HDn
      go_wp2_with fail
      refine bodyPost_ret (v := .agg #[.slice aT ln cT2]) (by simp [results, Tryd.results10, go_sem, r0]) rfl ?_
      exact ⟨aT, cT2, rfl, HFin.out.1, HFin.out.2⟩

end Go.Proofs.YtppanogpeengnaaDoor
