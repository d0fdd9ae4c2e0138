/- DERIVED. What a list of things to code makes of a coder, as plain numbers; append to a list of sets. -/
import Derived.Test.YtppanogpeengnabGreatDoorSy
import Derived.Test.YtppanogpeengnabGreatDoorUa
import Derived.Deep.AppendLies
namespace Go.Proofs.YtppanogpeengnabGreatDoor
open Go.RowKit L3

/-- a coder's numbers -/
structure Es where
  S : Sx
  T : Nat
  g : Nat
  k : Nat
  n : Nat
/-- what may makes of something to code -/
def mx (d : Dx) : Dx := if d.b then ⟨true, mN d.n, d.k, d.c, mV d.n d.v⟩ else ⟨false, d.n, mK d.k, mC d.k d.c, mW d.k d.v⟩
/-- the value that is coded -/
def val (d : Dx) : Nat := if d.b then mV d.n d.v else mW d.k d.v
def stp (ad : Bool) (e : Es) (d : Dx) : Es :=
  if d.b then ⟨e.S, (eBs e.T e.g e.k (mV d.n d.v) (mN d.n) (mN d.n)).1, (eBs e.T e.g e.k (mV d.n d.v) (mN d.n) (mN d.n)).2.1, (eBs e.T e.g e.k (mV d.n d.v) (mN d.n) (mN d.n)).2.2, e.n + mN d.n⟩
  else ⟨upd e.S ad (mK d.k) (mC d.k d.c) (mW d.k d.v), (L2.ePut e.T e.g e.k (eb (tb e.S (mK d.k) (mC d.k d.c)).1 (mW d.k d.v)) (ee (tb e.S (mK d.k) (mC d.k d.c)).1 (mW d.k d.v))).1, (L2.ePut e.T e.g e.k (eb (tb e.S (mK d.k) (mC d.k d.c)).1 (mW d.k d.v)) (ee (tb e.S (mK d.k) (mC d.k d.c)).1 (mW d.k d.v))).2.1, (L2.ePut e.T e.g e.k (eb (tb e.S (mK d.k) (mC d.k d.c)).1 (mW d.k d.v)) (ee (tb e.S (mK d.k) (mC d.k d.c)).1 (mW d.k d.v))).2.2, e.n + 1⟩
def evo (ad : Bool) (L : List Dx) : Nat → Es
  | 0 => ⟨dS, 0, 4294967295, 0, 0⟩
  | i + 1 => stp ad (evo ad L i) (L.getD i dz)
theorem evo_zero (ad : Bool) (L : List Dx) : evo ad L 0 = ⟨dS, 0, 4294967295, 0, 0⟩ := rfl
theorem evo_succ (ad : Bool) (L : List Dx) (i : Nat) : evo ad L (i + 1) = stp ad (evo ad L i) (L.getD i dz) := rfl

theorem okS_dS : OkS dS := by
  have h1 : ((List.range 32).map fun k => ((0 : Nat), List.replicate (sC k) (⟨none, 0, dfC k, 0⟩ : Tb))).length = 32 := by simp
  have h2 : ∀ (j : Nat) p, ((List.range 32).map fun k => ((0 : Nat), List.replicate (sC k) (⟨none, 0, dfC k, 0⟩ : Tb)))[j]? = some p → Dq j p := fun j p hp => by
    rw [List.getElem?_map] at hp
    by_cases hj : j < 32
    · rw [List.getElem?_range hj] at hp
      simp only [Option.map_some, Option.some.injEq] at hp
      subst hp
      refine ⟨by simp, fun t ht => ?_⟩
      obtain ⟨_, rfl⟩ := List.mem_replicate.1 ht
      exact ⟨rfl, rfl⟩
    · rw [List.getElem?_eq_none (by simp; omega)] at hp; cases hp
  have h := ab_okk (okk_default h1 h2)
  rw [ab_default h1 h2] at h
  exact h
structure EOk (e : Es) : Prop where
  ok : OkS e.S
  ev : L2.Ev e.T e.g e.k
theorem sym_ends {e : Es} (h : EOk e) (d : Dx) : eb (tb e.S (mK d.k) (mC d.k d.c)).1 (mW d.k d.v) < ee (tb e.S (mK d.k) (mC d.k d.c)).1 (mW d.k d.v) ∧ ee (tb e.S (mK d.k) (mC d.k d.c)).1 (mW d.k d.v) ≤ 32768 := by
  obtain ⟨h1, h2⟩ := h.ok.at (mK_lt d.k) (mC_lt d.k d.c)
  have hv : mW d.k d.v < (tb e.S (mK d.k) (mC d.k d.c)).1.length := by rw [h1]; exact mW_lt d.k d.v
  have := eb_ee h2 hv
  exact ⟨by omega, ee_le h2 hv⟩
theorem stp_ok (ad : Bool) {e : Es} (h : EOk e) (d : Dx) : EOk (stp ad e d) ∧ (stp ad e d).k ≤ e.k + 30 ∧ (stp ad e d).n ≤ e.n + 15 ∧ L2.Inc e.T e.g e.k (stp ad e d).T (stp ad e d).g (stp ad e d).k := by
  unfold stp
  by_cases hb : d.b = true
  · rw [if_pos hb]
    have hN := mN_lt d.n
    have hE := eBs_ok h.ev (mV d.n d.v) (mN d.n) (mN d.n)
    have hI := eBs_inc h.ev (mV d.n d.v) (mN d.n) 0 (mN d.n)
    rw [Nat.zero_add, eBs_zero] at hI
    exact ⟨⟨h.ok, hE.1⟩, by have := hE.2; simp only; omega, by simp only; omega, hI⟩
  · rw [if_neg hb]
    have he := sym_ends h d
    have hp := L2.ePut_ok h.ev he.1 he.2
    exact ⟨⟨h.ok.upd ad (mK_lt d.k) (mC_lt d.k d.c) _, hp.1⟩, by have := hp.2.2; simp only; omega, by simp only; omega, ePut_inc h.ev he.1 he.2⟩
theorem evo_ok (ad : Bool) (L : List Dx) : ∀ i, EOk (evo ad L i) ∧ (evo ad L i).k ≤ 30 * i ∧ (evo ad L i).n ≤ 15 * i := by
  intro i
  induction i with
  | zero => exact ⟨⟨okS_dS, L2.Ev.first⟩, Nat.le_refl _, Nat.le_refl _⟩
  | succ i ih =>
    obtain ⟨h1, h2, h3⟩ := ih
    obtain ⟨s1, s2, s3, _⟩ := stp_ok ad h1 (L.getD i dz)
    rw [evo_succ]
    exact ⟨s1, by omega, by omega⟩
theorem evo_inc (ad : Bool) (L : List Dx) (i : Nat) : ∀ m, L2.Inc (evo ad L i).T (evo ad L i).g (evo ad L i).k (evo ad L (i + m)).T (evo ad L (i + m)).g (evo ad L (i + m)).k := by
  intro m
  induction m with
  | zero => exact L2.Inc.refl _ _ _
  | succ m ih => rw [← Nat.add_assoc, evo_succ]; exact ih.trans (stp_ok ad (evo_ok ad L (i + m)).1 _).2.2.2
/-- the sets that are taken on the way to i -/
def rs (ad : Bool) (L : List Dx) (i : Nat) : List Sx := (List.range ((i + 15) / 16)).map fun j => (evo ad L (16 * j + 1)).S
theorem rs_len (ad : Bool) (L : List Dx) (i : Nat) : (rs ad L i).length = (i + 15) / 16 := by simp [rs]
theorem rs_get (ad : Bool) (L : List Dx) {i j : Nat} (h : j < (i + 15) / 16) : (rs ad L i).getD j [] = (evo ad L (16 * j + 1)).S := by
  rw [rs, List.getD_eq_getElem?_getD, List.getElem?_map, List.getElem?_range h]; rfl
theorem rs_more (ad : Bool) (L : List Dx) {i : Nat} (h : i % 16 = 0) : rs ad L (i + 1) = rs ad L i ++ [(evo ad L (i + 1)).S] := by
  unfold rs
  rw [show (i + 1 + 15) / 16 = (i + 15) / 16 + 1 from by omega, List.range_succ, List.map_append, List.map_singleton, show 16 * ((i + 15) / 16) = i from by omega]
theorem rs_same (ad : Bool) (L : List Dx) {i : Nat} (h : ¬ i % 16 = 0) : rs ad L (i + 1) = rs ad L i := by
  unfold rs
  rw [show (i + 1 + 15) / 16 = (i + 15) / 16 from by omega]

/-! ### what a reader finds -/
theorem fd_found {C : List Nat} {n : Int} (ht : TOk C n) {c g v v0 : Nat} (hv : v0 < C.length) (hm : L2.dMay c g (eb C v0) (ee C v0)) (hf : L3.Fd C (L2.dVal c g) v) : v = v0 := fd_one ht hf ⟨hv, hm.1, hm.2.1⟩

/-! ### append of a set -/
theorem grown_ke {a b c : World} {r : Option Nat} (h : Below a.heap.size a b) (k : b.grownBy c r) : Ke (fun y => r = some y) a c :=
  ⟨k.os.trans h.os, k.tape.trans h.tape, k.output.trans h.output, Nat.le_trans h.size k.size, fun i hi hne => by
    rw [k.block i (Nat.lt_of_lt_of_le hi h.size) (fun e => hne e.symm)]; exact h.block i hi⟩
theorem sv_one (M : List Nat) : ∀ u ∈ M.map sv, u.oneCell' = true := by
  intro u hu
  obtain ⟨z, _, rfl⟩ := List.mem_map.1 hu
  rfl
theorem wpList_append_set (wr : World) {ops : Array Oper} {rest : List Oper} {o : Oper} {a : Act} {Q : Exit → Act → World → Prop} (hgd : o.guard = none) (s x : Operand)
    (ho : o.op = .call { callee := .builtin .append, args := #[s, x], argTypes := #[68, 68] })
    (lo : Nat) (R : List Sx) (v : Value) (D : Nat → Prop) (S : Sx) (bt : Nat) (B : Nat → Prop) (hL : Ls wr lo v R D) (hS : Hs wr lo bt B S) (hBD : ∀ y, B y → ¬ D y) (hn : R.length < 1000000)
    (hs : a.eval s = v) (hx : a.eval x = .slice (some ⟨wr.heap.size, 0, none⟩) 1 1)
    (h : ∀ g cap w' D', Ls w' lo (.slice (some ⟨g, 0, none⟩) (R.length + 1) cap) (R ++ [S]) D' → (∀ y, D' y → D y ∨ B y ∨ wr.heap.size ≤ y) → Ke D wr w' → wpList Tryz.prog ops Q rest (a.put o.dst (.slice (some ⟨g, 0, none⟩) (R.length + 1) cap)) w') :
    wpList Tryz.prog ops Q (o :: rest) a (wr.alloc (.cells #[.slice (some ⟨bt, 0, none⟩) 32 32] 29)) := by
  obtain ⟨M, h1, h2, h3, h4, h5⟩ := hL
  obtain ⟨i, hi, hz0, hz1, hz2⟩ := info_parts Tryz.inf25
  have hlo : lo ≤ wr.heap.size := by obtain ⟨_, hst, _⟩ := hS; exact Nat.le_trans hst.blo (Nat.le_of_lt hst.blt)
  have hnews : ∀ j u, ([bt].map sv)[j]? = some u → (wr.alloc (.cells #[.slice (some ⟨bt, 0, none⟩) 32 32] 29)).cell? ((⟨wr.heap.size, 0, none⟩ : Addr).add j) = some u := World.news_of_block (cs := #[.slice (some ⟨bt, 0, none⟩) 32 32]) (heap_alloc_new wr _)
  refine wpList_append_lies _ hgd s x 68 ho lo 29 i (.agg #[.slice none 0 0]) 1 24 Tryz.underlying68 hi hz0 hz1 hz2 rfl (by omega) v R.length (M.map sv) hs (h2.alloc _) ⟨wr.heap.size, 0, none⟩ 1 1 ([bt].map sv) hx (by rfl) hnews (sv_one _) (by omega) (by unfold maxLen; omega) (by omega) (by simp; omega) (wr.heap.size + 1) (by simp) ?_
  intro g cap w' hown' hgrow hat hlt
  have hk := grown_ke (from_alloc wr _) hgrow
  have hkD : Ke D wr w' := ⟨hk.os, hk.tape, hk.output, hk.size, fun k hk1 hk2 => hk.block k hk1 (fun e => hk2 (h4 k e))⟩
  have hgB : ∀ B' : Nat → Prop, (∀ y, B' y → y < wr.heap.size) → (∀ e, v.ownBlock = some e → ¬ B' e) → ∀ g', (Value.slice (some ⟨g, 0, none⟩) (R.length + 1) cap).ownBlock = some g' → ¬ B' g' := fun B' b1 b2 g' e hb => by
    have e' : g = g' := by simpa [Value.ownBlock] using e
    subst e'
    rcases hat with e2 | e2
    · exact b2 g e2 hb
    · have := b1 g hb; omega
  refine h g cap w' (fun y => D y ∨ B y ∨ y = g) ⟨M ++ [bt], by simp [h1], by rw [List.length_append, List.map_append]; exact hown', fun j b S' hj hS' => ?_, fun g' e => Or.inr (Or.inr ?_), fun y hy => ?_⟩ (fun y hy => ?_) hkD
  · rw [List.getElem?_append] at hj hS'
    by_cases hjM : j < M.length
    · rw [if_pos hjM] at hj
      rw [if_pos (by omega)] at hS'
      obtain ⟨B', a1, a2, a3⟩ := h3 j b S' hj hS'
      exact ⟨B', a1.ke hk (fun y e hb => a3 y e hb), fun y hy => Or.inl (a2 y hy), hgB B' (fun y hy => a1.lt hy) a3⟩
    · rw [if_neg hjM] at hj
      rw [if_neg (by omega)] at hS'
      have e1 : j - M.length = 0 := by
        have := (List.getElem?_eq_some_iff.1 hj).1; simp at this; omega
      rw [e1] at hj
      rw [show j - R.length = 0 from by omega] at hS'
      simp only [List.getElem?_cons_zero, Option.some.injEq] at hj hS'
      subst hj hS'
      exact ⟨B, hS.ke hk (fun y e hb => hBD y hb (h4 y e)), fun y hy => Or.inr (Or.inl hy), hgB B (fun y hy => hS.lt hy) (fun e he hb => hBD e hb (h4 e he))⟩
  · have e' : g = g' := by simpa [Value.ownBlock] using e
    exact e'.symm
  · rcases hy with hy | hy | hy
    · exact ⟨(h5 y hy).1, Nat.lt_of_lt_of_le (h5 y hy).2 hk.size⟩
    · exact ⟨hS.ge hy, Nat.lt_of_lt_of_le (hS.lt hy) hk.size⟩
    · subst hy
      have := hown'.lt y rfl
      exact ⟨this.1, hlt⟩
  · rcases hy with hy | hy | hy
    · exact Or.inl hy
    · exact Or.inr (Or.inl hy)
    · subst hy
      rcases hat with e | e
      · exact Or.inl (h4 y e)
      · exact Or.inr (Or.inr (by omega))

end Go.Proofs.YtppanogpeengnabGreatDoor
