/- DERIVED. Several texts in one: What is watched beside a coder: a variable of the caller's own. A coder by its own blocks and plain numbers: what else there is stays. Things to code, in memory. -/
import Derived.Test.YtppanogpeengnaaDoorS3
namespace Go.Proofs.YtppanogpeengnaaDoor
open Go.RowKit L3
variable {Z Z' : Nat → Option Obj}

/-- one block is watched -/
def one (y : Nat) (o : Obj) : Nat → Option Obj := fun z => if z = y then some o else none
theorem one_at (y : Nat) (o : Obj) : one y o y = some o := by simp [one]
theorem one_of {y z : Nat} {o o' : Obj} (h : one y o z = some o') : z = y ∧ o' = o := by
  unfold one at h
  split at h
  · rename_i e; exact ⟨e, (Option.some.inj h).symm⟩
  · cases h
theorem cell_of {w : World} {y j : Nat} {cs : Array Value} {t : TypeId} (h : w.heap[y]? = some (.cells cs t)) : w.cell? ⟨y, j, none⟩ = cs[j]? := by
  unfold World.cell?; rw [h]; simp
theorem heap_new (w : World) (o : Obj) : (w.alloc o).heap[w.heap.size]? = some o := by rw [heap_alloc_new]

theorem Co.watch {w : World} {lo x bt : Nat} {po pi : Value} {K : List (Nat × List Tb)} {ad : Bool} {n : Int} {E : Nat → Prop} (h : Co Z w lo x po pi bt K ad n E) (hz : ∀ y o, Z' y = some o → w.heap[y]? = some o ∧ y ≠ x ∧ ¬ E y ∧ ¬ Bs bt K y) : Co Z' w lo x po pi bt K ad n E :=
  ⟨h.o, h.i, h.t, h.a, h.c, h.th, h.low, h.xlo, h.st, h.ok, h.bx, h.ex, h.eb, h.dk, hz⟩
theorem Co.local {w : World} {lo x bt : Nat} {po pi : Value} {K : List (Nat × List Tb)} {ad : Bool} {n : Int} {E : Nat → Prop} (h : Co Z w lo x po pi bt K ad n E) (hE : ¬ E w.heap.size) (o : Obj) : Co (one w.heap.size o) (w.alloc o) lo x po pi bt K ad n E :=
  (h.to (from_alloc _ _)).watch fun y o' hy => by
    obtain ⟨rfl, rfl⟩ := one_of hy
    have h1 := h.low
    exact ⟨heap_new _ _, by omega, hE, fun e => by have := h.st.low e; omega⟩
theorem CR.local {w : World} {lo x bt : Nat} {K : List (Nat × List Tb)} {ad : Bool} {n : Int} {xd b : Nat} {zs : List Nat} {q c g : Nat} (h : CR Z w lo x bt K ad n xd b zs q c g) (o : Obj) : CR (one w.heap.size o) (w.alloc o) lo x bt K ad n xd b zs q c g :=
  ⟨h.co.local (fun e => by rcases e with e | e; (have := h.dc.low; omega); (have := h.blt; omega)) o, h.dc.below (from_alloc _ _), h.dk, h.dlo, Nat.lt_of_lt_of_le h.blt (from_alloc w o).size⟩
theorem CW.local {w : World} {lo x bt : Nat} {K : List (Nat × List Tb)} {ad : Bool} {n : Int} {xe : Nat} {d : Value} {T g k : Nat} (h : CW Z w lo x bt K ad n xe d T g k) (o : Obj) : CW (one w.heap.size o) (w.alloc o) lo x bt K ad n xe d T g k :=
  ⟨h.co.local (fun e => by rcases e with e | e; (have := h.en.lies.2; omega); (have := (h.en.own_lt _ e).2.1; omega)) o, h.en.below (from_alloc _ _), h.ev⟩
theorem CW.watch {w : World} {lo x bt : Nat} {K : List (Nat × List Tb)} {ad : Bool} {n : Int} {xe : Nat} {d : Value} {T g k : Nat} (h : CW Z w lo x bt K ad n xe d T g k) (hz : ∀ y o, Z' y = some o → w.heap[y]? = some o ∧ y ≠ x ∧ ¬ (y = xe ∨ d.ownBlock = some y) ∧ ¬ Bs bt K y) : CW Z' w lo x bt K ad n xe d T g k := ⟨h.co.watch hz, h.en, h.ev⟩
theorem CR.watch {w : World} {lo x bt : Nat} {K : List (Nat × List Tb)} {ad : Bool} {n : Int} {xd b : Nat} {zs : List Nat} {q c g : Nat} (h : CR Z w lo x bt K ad n xd b zs q c g) (hz : ∀ y o, Z' y = some o → w.heap[y]? = some o ∧ y ≠ x ∧ ¬ (y = xd ∨ y = b) ∧ ¬ Bs bt K y) : CR Z' w lo x bt K ad n xd b zs q c g := ⟨h.co.watch hz, h.dc, h.dk, h.dlo, h.blt⟩
end Go.Proofs.YtppanogpeengnaaDoor

namespace Go.Proofs.YtppanogpeengnaaDoor
open Go.RowKit L3
variable {Z Z' : Nat → Option Obj}

/-! ### sets as plain numbers -/
/-- the numbers of a set -/
abbrev Sx := List (List (List Nat × Int))
def ab (K : List (Nat × List Tb)) : Sx := K.map fun p => p.2.map fun t => (t.C, t.n)
/-- a table of a set -/
def tb (S : Sx) (kk c : Nat) : List Nat × Int := (S.getD kk []).getD c ([], 0)
def upd (S : Sx) (ad : Bool) (kk c v : Nat) : Sx := if ad then S.set kk ((S.getD kk []).set c (L3.ad (tb S kk c).1 (tb S kk c).2 v, adN (tb S kk c).2)) else S
/-- a set that may be -/
def OkS (S : Sx) : Prop := S.length = 32 ∧ ∀ (j : Nat) r, S[j]? = some r → r.length = sC j ∧ ∀ t ∈ r, t.1.length = sV j ∧ TOk t.1 t.2
theorem ab_get {K : List (Nat × List Tb)} {kk : Nat} {p : Nat × List Tb} (h : K[kk]? = some p) : (ab K)[kk]? = some (p.2.map fun t => (t.C, t.n)) := by
  unfold ab; rw [List.getElem?_map, h]; rfl
theorem ab_tb {K : List (Nat × List Tb)} {kk c : Nat} {p : Nat × List Tb} {s : Tb} (h : K[kk]? = some p) (hs : p.2[c]? = some s) : tb (ab K) kk c = (s.C, s.n) := by
  simp only [tb, List.getD_eq_getElem?_getD, ab_get h, Option.getD_some, List.getElem?_map, hs, Option.map_some]
theorem ab_okk {K : List (Nat × List Tb)} (h : Okk K) : OkS (ab K) := by
  refine ⟨by unfold ab; rw [List.length_map]; exact h.1, fun j r hr => ?_⟩
  unfold ab at hr
  rw [List.getElem?_map] at hr
  rcases hK : K[j]? with _ | p
  · rw [hK] at hr; cases hr
  · rw [hK] at hr
    simp only [Option.map_some, Option.some.injEq] at hr
    subst hr
    obtain ⟨h1, h2⟩ := h.2 j p hK
    refine ⟨by rw [List.length_map]; exact h1, fun t ht => ?_⟩
    obtain ⟨s, hs, rfl⟩ := List.mem_map.1 ht
    exact h2 s hs
theorem ab_als {K L : List (Nat × List Tb)} (h : ab K = ab L) : Als K L := by
  have hl : L.length = K.length := by have := congrArg List.length h; simp only [ab, List.length_map] at this; exact this.symm
  refine ⟨hl, fun j p q hp hq => ?_⟩
  have e := congrArg (fun S : Sx => S[j]?) h
  simp only [ab_get hp, ab_get hq, Option.some.injEq] at e
  have hl2 : q.2.length = p.2.length := by have := congrArg List.length e; simp only [List.length_map] at this; exact this.symm
  refine ⟨hl2, fun c s t hs ht => ?_⟩
  have e2 := congrArg (fun r : List (List Nat × Int) => r[c]?) e
  simp only [List.getElem?_map, hs, ht, Option.map_some, Option.some.injEq, Prod.mk.injEq] at e2
  exact ⟨e2.1.symm, e2.2.symm⟩
theorem als_ab {K L : List (Nat × List Tb)} (h : Als K L) : ab L = ab K := by
  refine List.ext_getElem? fun j => ?_
  unfold ab
  rw [List.getElem?_map, List.getElem?_map]
  rcases hK : K[j]? with _ | p
  · have : L[j]? = none := by rw [List.getElem?_eq_none_iff]; rw [List.getElem?_eq_none_iff] at hK; have := h.1; omega
    rw [this]
  · have hj : j < L.length := by have := (List.getElem?_eq_some_iff.1 hK).1; have := h.1; omega
    have hL := List.getElem?_eq_getElem hj
    rw [hL]
    simp only [Option.map_some, Option.some.injEq]
    obtain ⟨a1, a2⟩ := h.2 j p _ hK hL
    refine List.ext_getElem? fun c => ?_
    rw [List.getElem?_map, List.getElem?_map]
    rcases hp : p.2[c]? with _ | s
    · have : (L[j]).2[c]? = none := by rw [List.getElem?_eq_none_iff]; rw [List.getElem?_eq_none_iff] at hp; omega
      rw [this]
    · have hc : c < (L[j]).2.length := by have := (List.getElem?_eq_some_iff.1 hp).1; omega
      have hq := List.getElem?_eq_getElem hc
      rw [hq]
      obtain ⟨e1, e2⟩ := a2 c s _ hp hq
      simp only [Option.map_some, Option.some.injEq, Prod.mk.injEq]
      exact ⟨e1, e2⟩
theorem ab_set {K : List (Nat × List Tb)} {kk c : Nat} {p : Nat × List Tb} (h : K[kk]? = some p) (t : Tb) : ab (K.set kk (p.1, p.2.set c t)) = (ab K).set kk (((ab K).getD kk []).set c (t.C, t.n)) := by
  unfold ab
  rw [List.map_set]
  congr 1
  rw [List.getD_eq_getElem?_getD, List.getElem?_map, h]
  simp only [Option.map_some, Option.getD_some, List.map_set]
theorem ab_adp {K K' : List (Nat × List Tb)} {ad : Bool} {kk c v : Nat} (h : Adp K ad kk c v K') : ab K' = upd (ab K) ad kk c v := by
  rcases h with ⟨rfl, rfl⟩ | ⟨rfl, p, s, a', c', hp, hs, rfl⟩
  · rfl
  · rw [ab_set hp]
    unfold upd
    rw [if_pos rfl, ab_tb hp hs]
theorem OkS.at {S : Sx} (h : OkS S) {kk c : Nat} (hk : kk < 32) (hc : c < sC kk) : (tb S kk c).1.length = sV kk ∧ TOk (tb S kk c).1 (tb S kk c).2 := by
  have hl : kk < S.length := by rw [h.1]; exact hk
  have hr := List.getElem?_eq_getElem hl
  obtain ⟨h1, h2⟩ := h.2 kk _ hr
  have hcl : c < S[kk].length := by rw [h1]; exact hc
  have e : tb S kk c = S[kk][c] := by simp only [tb, List.getD_eq_getElem?_getD, hr, Option.getD_some, List.getElem?_eq_getElem hcl]
  rw [e]; exact h2 _ (List.getElem_mem hcl)
theorem OkS.upd {S : Sx} (h : OkS S) (ad : Bool) {kk c : Nat} (hk : kk < 32) (hc : c < sC kk) (v : Nat) : OkS (upd S ad kk c v) := by
  have ht := h.at hk hc
  unfold Go.Proofs.YtppanogpeengnaaDoor.upd
  cases ad
  · exact h
  rw [if_pos rfl]
  have hl : kk < S.length := by rw [h.1]; exact hk
  have hr := List.getElem?_eq_getElem hl
  refine ⟨by rw [List.length_set]; exact h.1, fun j r hj => ?_⟩
  rw [List.getElem?_set] at hj
  by_cases e : kk = j
  · subst e
    rw [if_pos rfl, if_pos hl] at hj
    simp only [Option.some.injEq] at hj
    subst hj
    rw [List.getD_eq_getElem?_getD, hr, Option.getD_some]
    obtain ⟨h1, h2⟩ := h.2 kk _ hr
    refine ⟨by rw [List.length_set]; exact h1, fun t hm => ?_⟩
    rcases List.mem_or_eq_of_mem_set hm with e | e
    · exact h2 t e
    · subst e; exact ⟨by show (L3.ad _ _ _).length = _; rw [ad_len]; exact ht.1, ad_ok ht.2 v⟩
  · rw [if_neg e] at hj; exact h.2 j r hj

/-! ### what turns -/
/-- blocks of O turned, new ones came: those of O' -/
structure Trn (O O' : Nat → Prop) (w w' : World) : Prop where
  ke : Ke O w w'
  new : ∀ y, O' y → O y ∨ w.heap.size ≤ y
theorem Trn.of {O : Nat → Prop} {w w' : World} (h : Below w.heap.size w w') : Trn O O w w' := ⟨Ke.of h, fun _ e => Or.inl e⟩
theorem rest_ex (w : World) (O : Nat → Prop) : ∃ Z : Nat → Option Obj, (∀ y, O y → Z y = none) ∧ ∀ y, ¬ O y → Z y = w.heap[y]? := by
  refine ⟨fun y => @ite _ (O y) (Classical.propDecidable _) none (w.heap[y]?), fun y h => ?_, fun y h => ?_⟩ <;> simp [h]
/-- a coder's own blocks -/
def Oc (x bt : Nat) (K : List (Nat × List Tb)) (E : Nat → Prop) (y : Nat) : Prop := y = x ∨ E y ∨ Bs bt K y
theorem Co.rest {w : World} {lo x bt : Nat} {po pi : Value} {K : List (Nat × List Tb)} {ad : Bool} {n : Int} {E : Nat → Prop} (h : Co Z w lo x po pi bt K ad n E) : ∃ Z', (∀ y, ¬ Oc x bt K E y → Z' y = w.heap[y]?) ∧ Co Z' w lo x po pi bt K ad n E := by
  obtain ⟨Z', h1, h2⟩ := rest_ex w (Oc x bt K E)
  refine ⟨Z', h2, h.watch fun y o hy => ?_⟩
  by_cases e : Oc x bt K E y
  · rw [h1 y e] at hy; cases hy
  · rw [h2 y e] at hy
    exact ⟨hy, fun e2 => e (Or.inl e2), fun e2 => e (Or.inr (Or.inl e2)), fun e2 => e (Or.inr (Or.inr e2))⟩
theorem Co.turn {w w' : World} {lo x bt : Nat} {po pi : Value} {K : List (Nat × List Tb)} {ad : Bool} {n : Int} {E O : Nat → Prop} (h : Co Z w' lo x po pi bt K ad n E) (hb : Below lo w w') (hZ : ∀ y, ¬ O y → Z y = w.heap[y]?) : Trn O (Oc x bt K E) w w' := by
  refine ⟨⟨hb.os, hb.tape, hb.output, hb.size, fun k hk hO => ?_⟩, fun y hy => ?_⟩
  · have he := Array.getElem?_eq_getElem hk
    obtain ⟨f1, _⟩ := h.fr k _ ((hZ k hO).trans he)
    rw [f1, he]
  · by_cases hO : O y
    · exact Or.inl hO
    · by_cases hl : y < w.heap.size
      · obtain ⟨_, f2, f3, f4⟩ := h.fr y _ ((hZ y hO).trans (Array.getElem?_eq_getElem hl))
        rcases hy with e | e | e
        · exact absurd e f2
        · exact absurd e f3
        · exact absurd e f4
      · exact Or.inr (by omega)
theorem Co.own_lt {w : World} {lo x bt : Nat} {po pi : Value} {K : List (Nat × List Tb)} {ad : Bool} {n : Int} {E : Nat → Prop} (h : Co Z w lo x po pi bt K ad n E) (hE : ∀ b, E b → b < w.heap.size) {y : Nat} (hy : Oc x bt K E y) : y < w.heap.size := by
  rcases hy with rfl | e | e
  · exact h.low
  · exact hE y e
  · exact h.st.low e
/-- a coder stays where blocks of others turn -/
theorem Co.else {P : Nat → Prop} {w w' : World} {lo x bt : Nat} {po pi : Value} {K : List (Nat × List Tb)} {ad : Bool} {n : Int} {E : Nat → Prop} (h : Co Z w lo x po pi bt K ad n E) (hk : Ke P w w') (hP : ∀ b, P b → ¬ Oc x bt K E b) : Co zn w' lo x po pi bt K ad n E := by
  have nx : ¬ P x := fun e => hP x e (Or.inl rfl)
  exact ⟨by rw [hk.cell _ _ h.low nx]; exact h.o, by rw [hk.cell _ _ h.low nx]; exact h.i, by rw [hk.cell _ _ h.low nx]; exact h.t, by rw [hk.cell _ _ h.low nx]; exact h.a, by rw [hk.cell _ _ h.low nx]; exact h.c, by rw [hk.frozen _ _ h.low nx]; exact h.th, Nat.lt_of_lt_of_le h.low hk.size, h.xlo, h.st.ke hk (fun b hb e => hP b hb (Or.inr (Or.inr e))), h.ok, h.bx, h.ex, h.eb, h.dk, fun y o hy => by cases hy⟩

/-! ### a coder that writes -/
def Ew (xe : Nat) (d : Value) (b : Nat) : Prop := b = xe ∨ d.ownBlock = some b
structure Wc (w : World) (lo x : Nat) (O : Nat → Prop) (S : Sx) (ad : Bool) (n : Int) (T g k : Nat) : Prop where
  ex : ∃ bt K xe d, CW zn w lo x bt K ad n xe d T g k ∧ ab K = S ∧ O = Oc x bt K (fun b => b = xe ∨ d.ownBlock = some b)
theorem CW.own {w : World} {lo x bt : Nat} {K : List (Nat × List Tb)} {ad : Bool} {n : Int} {xe : Nat} {d : Value} {T g k : Nat} (h : CW Z w lo x bt K ad n xe d T g k) {y : Nat} (hy : Oc x bt K (fun b => b = xe ∨ d.ownBlock = some b) y) : y < w.heap.size :=
  h.co.own_lt (fun b e => by rcases e with e | e; (have := h.en.lies.2; omega); exact (h.en.own_lt _ e).2.1) hy
theorem CW.wc {w : World} {lo x bt : Nat} {K : List (Nat × List Tb)} {ad : Bool} {n : Int} {xe : Nat} {d : Value} {T g k : Nat} (h : CW Z w lo x bt K ad n xe d T g k) : Wc w lo x (Oc x bt K (fun b => b = xe ∨ d.ownBlock = some b)) (ab K) ad n T g k := ⟨bt, K, xe, d, h.watch (fun y o hy => by cases hy), rfl, rfl⟩
theorem Wc.lt {w : World} {lo x : Nat} {O : Nat → Prop} {S : Sx} {ad : Bool} {n : Int} {T g k : Nat} (h : Wc w lo x O S ad n T g k) {y : Nat} (hy : O y) : y < w.heap.size := by
  obtain ⟨bt, K, xe, d, h, _, rfl⟩ := h; exact h.own hy
theorem Wc.ge {w : World} {lo x : Nat} {O : Nat → Prop} {S : Sx} {ad : Bool} {n : Int} {T g k : Nat} (h : Wc w lo x O S ad n T g k) {y : Nat} (hy : O y) : lo ≤ y := by
  obtain ⟨bt, K, xe, d, h, _, rfl⟩ := h
  rcases hy with rfl | e | e | ⟨p, hp, e | ⟨t, ht, h1, o, h2⟩⟩
  · exact h.co.xlo
  · rcases e with e | e
    · have := h.en.lies.1; omega
    · exact (h.en.own_lt _ e).1
  · rw [e]; exact h.co.st.blo
  · rw [e]; exact (h.co.st.lie p hp).1
  · exact (h.co.dk p hp).2 t ht _ o h2 h1
theorem Wc.ev {w : World} {lo x : Nat} {O : Nat → Prop} {S : Sx} {ad : Bool} {n : Int} {T g k : Nat} (h : Wc w lo x O S ad n T g k) : L2.Ev T g k := by obtain ⟨_, _, _, _, h, _⟩ := h; exact h.ev
theorem Wc.ok {w : World} {lo x : Nat} {O : Nat → Prop} {S : Sx} {ad : Bool} {n : Int} {T g k : Nat} (h : Wc w lo x O S ad n T g k) : OkS S := by obtain ⟨_, _, _, _, h, rfl, _⟩ := h; exact ab_okk h.co.ok
theorem Wc.to {w w' : World} {lo x : Nat} {O : Nat → Prop} {S : Sx} {ad : Bool} {n : Int} {T g k : Nat} (h : Wc w lo x O S ad n T g k) (hb : Below w.heap.size w w') : Wc w' lo x O S ad n T g k := by
  obtain ⟨bt, K, xe, d, h, h1, h2⟩ := h; exact ⟨bt, K, xe, d, h.to hb, h1, h2⟩
theorem Wc.ke {P : Nat → Prop} {w w' : World} {lo x : Nat} {O : Nat → Prop} {S : Sx} {ad : Bool} {n : Int} {T g k : Nat} (h : Wc w lo x O S ad n T g k) (hk : Ke P w w') (hP : ∀ b, P b → ¬ O b) : Wc w' lo x O S ad n T g k := by
  obtain ⟨bt, K, xe, d, h, h1, rfl⟩ := h
  refine ⟨bt, K, xe, d, ⟨h.co.else hk hP, h.en.carry (hk.block xe h.en.lies.2 (fun e => hP xe e (Or.inr (Or.inl (Or.inl rfl))))) (fun b hb => hk.block b (h.en.own_lt b hb).2.1 (fun e => hP b e (Or.inr (Or.inl (Or.inr hb))))) hk.size, h.ev⟩, h1, rfl⟩

theorem symbol_wc {w : World} {lo x : Nat} {O : Nat → Prop} {S : Sx} {ad : Bool} {n : Int} {T g k : Nat} (h : Wc w lo x O S ad n T g k) (hsh : Sh w) (hkb : k ≤ 1099511626000) (hn0 : 0 ≤ n) (hn1 : n ≤ 1152921504606846976) {kk c v : Nat} (hk : kk < 32) (hc : c < sC kk) (hv : v < sV kk) :
    Calls Tryd.prog 35 #[.pointer (some ⟨x, 0, none⟩), .int .i64 kk, .int .i64 c, .int .i64 v] w fun e w' => e = .returned (.tuple #[.int .i64 v, .int .i64 0]) ∧ ∃ O', Wc w' lo x O' (upd S ad kk c v) ad (n + 1) (L2.ePut T g k (eb (tb S kk c).1 v) (ee (tb S kk c).1 v)).1 (L2.ePut T g k (eb (tb S kk c).1 v) (ee (tb S kk c).1 v)).2.1 (L2.ePut T g k (eb (tb S kk c).1 v) (ee (tb S kk c).1 v)).2.2 ∧ Trn O O' w w' ∧ Below lo w w' := by
  obtain ⟨bt, K, xe, d, h, rfl, rfl⟩ := h
  obtain ⟨Z, hZ, hco⟩ := h.co.rest
  obtain ⟨p, s, hp, hs, _⟩ := h.co.at hk hc
  have h' : CW Z w lo x bt K ad n xe d T g k := ⟨hco, h.en, h.ev⟩
  rw [ab_tb hp hs]
  refine (symbol_w h' hsh hkb hn0 hn1 hk hc hv hp hs).mono ?_
  rintro e w' ⟨rfl, d', K', h1, h2, h3⟩
  exact ⟨rfl, _, by rw [← ab_adp h2]; exact h1.wc, h1.co.turn h3 hZ, h3⟩
theorem bits_wc {w : World} {lo x : Nat} {O : Nat → Prop} {S : Sx} {ad : Bool} {cn : Int} {T g k : Nat} (h : Wc w lo x O S ad cn T g k) (hkb : k ≤ 1099511625000) (hn0 : 0 ≤ cn) (hn1 : cn ≤ 1152921504606846976) {v n P : Nat} (hn : n ≤ 30) (hP : P = 2 ^ n) (hv : v < P) :
    Calls Tryd.prog 34 #[.pointer (some ⟨x, 0, none⟩), .int .i64 n, .int .i64 v] w fun e w' => e = .returned (.tuple #[.int .i64 v, .int .i64 0]) ∧ ∃ O', Wc w' lo x O' S ad (cn + n) (eBs T g k v n n).1 (eBs T g k v n n).2.1 (eBs T g k v n n).2.2 ∧ Trn O O' w w' ∧ Below lo w w' := by
  obtain ⟨bt, K, xe, d, h, rfl, rfl⟩ := h
  obtain ⟨Z, hZ, hco⟩ := h.co.rest
  have h' : CW Z w lo x bt K ad cn xe d T g k := ⟨hco, h.en, h.ev⟩
  refine (bits_w h' hkb hn0 hn1 hn hP hv).mono ?_
  rintro e w' ⟨rfl, d', h1, h3⟩
  exact ⟨rfl, _, h1.wc, h1.co.turn h3 hZ, h3⟩
theorem count_wc {w : World} {lo x : Nat} {O : Nat → Prop} {S : Sx} {ad : Bool} {cn : Int} {T g k : Nat} (h : Wc w lo x O S ad cn T g k) :
    Calls Tryd.prog 37 #[.pointer (some ⟨x, 0, none⟩)] w fun e w' => e = .returned (.int .i64 cn) ∧ w' = w := by
  obtain ⟨bt, K, xe, d, h, _⟩ := h; exact count_w h

/-! ### a set in memory -/
structure Hs (w : World) (lo bt : Nat) (B : Nat → Prop) (S : Sx) : Prop where
  ex : ∃ L, St w lo bt L ∧ Okk L ∧ Dk lo L ∧ ab L = S ∧ B = Bs bt L
theorem Hs.ok {w : World} {lo bt : Nat} {B : Nat → Prop} {S : Sx} (h : Hs w lo bt B S) : OkS S := by obtain ⟨L, _, h, _, rfl, _⟩ := h; exact ab_okk h
theorem Hs.lt {w : World} {lo bt : Nat} {B : Nat → Prop} {S : Sx} (h : Hs w lo bt B S) {y : Nat} (hy : B y) : y < w.heap.size := by obtain ⟨L, h, _, _, _, rfl⟩ := h; exact h.low hy
theorem Hs.ge {w : World} {lo bt : Nat} {B : Nat → Prop} {S : Sx} (h : Hs w lo bt B S) {y : Nat} (hy : B y) : lo ≤ y := by
  obtain ⟨L, h, _, hd, _, rfl⟩ := h
  rcases hy with rfl | ⟨p, hp, e | ⟨t, ht, h1, o, h2⟩⟩
  · exact h.blo
  · rw [e]; exact (h.lie p hp).1
  · exact (hd p hp).2 t ht _ o h2 h1
theorem Hs.ke {P : Nat → Prop} {w w' : World} {lo bt : Nat} {B : Nat → Prop} {S : Sx} (h : Hs w lo bt B S) (hk : Ke P w w') (hP : ∀ b, P b → ¬ B b) : Hs w' lo bt B S := by
  obtain ⟨L, h1, h2, h3, h4, rfl⟩ := h; exact ⟨L, h1.ke hk hP, h2, h3, h4, rfl⟩
theorem Hs.to {w w' : World} {lo bt : Nat} {B : Nat → Prop} {S : Sx} (h : Hs w lo bt B S) (hb : Below w.heap.size w w') : Hs w' lo bt B S := h.ke (P := fun _ => False) (Ke.of hb) (fun _ e => e.elim)
theorem Hs.weak {w : World} {lo lo' bt : Nat} {B : Nat → Prop} {S : Sx} (h : Hs w lo bt B S) (hl : lo' ≤ lo) : Hs w lo' bt B S := by
  obtain ⟨L, h1, h2, h3, h4, rfl⟩ := h; exact ⟨L, h1.weak hl, h2, h3.weak hl, h4, rfl⟩
/-- the set that all begin with -/
def dS : Sx := (List.range 32).map fun k => List.replicate (sC k) (dfC k, 0)
theorem ab_default {K : List (Nat × List Tb)} (h : K.length = 32) (hd : ∀ (j : Nat) p, K[j]? = some p → Dq j p) : ab K = dS := by
  refine List.ext_getElem? fun j => ?_
  unfold ab dS
  rw [List.getElem?_map, List.getElem?_map]
  by_cases hj : j < 32
  · have hK := List.getElem?_eq_getElem (l := K) (i := j) (by omega)
    rw [hK, List.getElem?_range hj]
    simp only [Option.map_some, Option.some.injEq]
    obtain ⟨h1, h2⟩ := hd j _ hK
    rw [List.eq_replicate_iff]
    refine ⟨by rw [List.length_map]; exact h1, fun t ht => ?_⟩
    obtain ⟨s, hs, rfl⟩ := List.mem_map.1 ht
    obtain ⟨e1, e2⟩ := h2 s hs
    rw [e1, e2]
  · rw [List.getElem?_eq_none (by omega), List.getElem?_eq_none (by simp; omega)]; rfl
theorem default_hs {w : World} (h : Sh w) : Calls Tryd.prog 32 #[] w fun e w' => ∃ bt B, e = .returned (.agg #[.slice (some ⟨bt, 0, none⟩) 32 32]) ∧ Hs w' w.heap.size bt B dS ∧ Below w.heap.size w w' := by
  refine (default_any h).mono ?_
  rintro e w' ⟨bt, K, rfl, h1, h2, h3, h4, h5⟩
  exact ⟨bt, _, rfl, ⟨K, h1, okk_default h2 h3, h4, ab_default h2 h3, rfl⟩, h5⟩
theorem set_wc {w : World} {lo x : Nat} {O : Nat → Prop} {S : Sx} {ad : Bool} {cn : Int} {T g k : Nat} (h : Wc w lo x O S ad cn T g k) (hsh : Sh w) :
    Calls Tryd.prog 16 #[.pointer (some ⟨x, 0, none⟩)] w fun e w' => ∃ bt B, e = .returned (.tuple #[.agg #[.slice (some ⟨bt, 0, none⟩) 32 32], .int .i64 0]) ∧ Hs w' w.heap.size bt B S ∧ Below w.heap.size w w' := by
  obtain ⟨bt, K, xe, d, h, rfl, _⟩ := h
  refine (set_w h hsh).mono ?_
  rintro e w' ⟨bt2, L, rfl, h1, h2, h3, h4⟩
  exact ⟨bt2, _, rfl, ⟨L, h1, h2.okk h.co.ok, h3, als_ab h2, rfl⟩, h4⟩
theorem writer_wc {w : World} {lo bt : Nat} {B : Nat → Prop} {S : Sx} {ad : Bool} (hsh : Sh w) (hs : Hs w lo bt B S) :
    Calls Tryd.prog 11 #[.agg #[.slice (some ⟨bt, 0, none⟩) 32 32], .bool ad] w fun e w' => ∃ x O, e = .returned (.tuple #[.pointer (some ⟨x, 0, none⟩), .int .i64 0]) ∧ Wc w' w.heap.size x O S ad 0 0 4294967295 0 ∧ Below w.heap.size w w' := by
  obtain ⟨K, h1, h2, h3, rfl, _⟩ := hs
  refine (writer_ok hsh h1 h2).mono ?_
  rintro e w' ⟨x, bt2, L, xe, rfl, k1, k2, k3⟩
  exact ⟨x, _, rfl, by rw [← als_ab k2]; exact k1.wc, k3⟩
end Go.Proofs.YtppanogpeengnaaDoor

namespace Go.Proofs.YtppanogpeengnaaDoor
open Go.RowKit L3

/-- something to code -/
structure Dx where
  b : Bool
  n : Int
  k : Int
  c : Int
  v : Int
def dz : Dx := ⟨false, 0, 0, 0, 0⟩
/-- a list of things to code that lies in memory -/
def DoAt (w : World) (a : Option Addr) (L : List Dx) : Prop :=
  L = [] ∨ ∃ b off, a = some ⟨b, off, none⟩ ∧ b < w.heap.size ∧
    ∀ j, j < L.length → w.cell? ⟨b, off + j * 5, none⟩ = some (.bool (L.getD j dz).b) ∧ w.cell? ⟨b, off + j * 5 + 1, none⟩ = some (.int .i64 (L.getD j dz).n) ∧ w.cell? ⟨b, off + j * 5 + 2, none⟩ = some (.int .i64 (L.getD j dz).k) ∧ w.cell? ⟨b, off + j * 5 + 3, none⟩ = some (.int .i64 (L.getD j dz).c) ∧ w.cell? ⟨b, off + j * 5 + 4, none⟩ = some (.int .i64 (L.getD j dz).v)
theorem DoAt.cells {w : World} {a : Option Addr} {L : List Dx} (h : DoAt w a L) {j : Nat} (hj : j < L.length) : ∃ b off, a = some ⟨b, off, none⟩ ∧
    ∀ v, Below w.heap.size w v → v.cell? ⟨b, off + j * 5, none⟩ = some (.bool (L.getD j dz).b) ∧ v.cell? ⟨b, off + j * 5 + 1, none⟩ = some (.int .i64 (L.getD j dz).n) ∧ v.cell? ⟨b, off + j * 5 + 2, none⟩ = some (.int .i64 (L.getD j dz).k) ∧ v.cell? ⟨b, off + j * 5 + 3, none⟩ = some (.int .i64 (L.getD j dz).c) ∧ v.cell? ⟨b, off + j * 5 + 4, none⟩ = some (.int .i64 (L.getD j dz).v) := by
  rcases h with rfl | ⟨b, off, h1, h2, h3⟩
  · simp at hj
  · exact ⟨b, off, h1, fun v hv => by rw [newCell hv _ _ h2, newCell hv _ _ h2, newCell hv _ _ h2, newCell hv _ _ h2, newCell hv _ _ h2]; exact h3 j hj⟩

end Go.Proofs.YtppanogpeengnaaDoor
