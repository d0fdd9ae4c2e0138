/- DERIVED. Several texts in one: The deferred closure of code: it recovers a stop that was thrown. What code keeps: a block, its results' cells, what else there is. -/
import Derived.Test.YtkmnpechhdendaaGreatDoorY2
import Derived.Defers
import Derived.Recover
import Derived.Laws.Pointers
import Derived.BigRegion
namespace Go.Proofs.YtkmnpechhdendaaGreatDoor
open Go.RowKit L3

/-- both results are laid anew -/
structure Ld (A B : Nat) (v : Value) (e : Int) (w w' : World) : Prop where
  a : w'.cell? ⟨A, 0, none⟩ = some v
  b : w'.cell? ⟨B, 0, none⟩ = some (.int .i64 e)
  ke : Ke (fun y => y = A ∨ y = B) w w'

theorem ld_of {A B : Nat} {w : World} {va ve : Value} (hAB : A ≠ B) (ha : w.cell? ⟨A, 0, none⟩ = some va) (hb : w.cell? ⟨B, 0, none⟩ = some ve) (v : Value) (e : Int) : Ld A B v e w ((w.setCell ⟨A, 0, none⟩ v).setCell ⟨B, 0, none⟩ (.int .i64 e)).drew := by
  have n1 : (⟨B, 0, none⟩ : Addr) ≠ ⟨A, 0, none⟩ := fun e => by simp only [Addr.mk.injEq, and_true] at e; exact hAB e.symm
  have hb' : (w.setCell ⟨A, 0, none⟩ v).cell? ⟨B, 0, none⟩ = some ve := by rw [World.cell?_setCell_other _ _ _ _ (Ne.symm n1)]; exact hb
  refine ⟨?_, ?_, ?_⟩
  · show ((w.setCell ⟨A, 0, none⟩ v).setCell ⟨B, 0, none⟩ (.int .i64 e)).cell? ⟨A, 0, none⟩ = _
    rw [World.cell?_setCell_other _ _ _ _ n1]; exact World.cell?_setCell_same _ _ _ ha
  · exact World.cell?_setCell_same (w := w.setCell ⟨A, 0, none⟩ v) _ _ hb'
  · have k1 := Ke.set (fun y => y = A ∨ y = B) w ⟨A, 0, none⟩ v (Or.inl rfl)
    have k2 := Ke.set (fun y => y = A ∨ y = B) (w.setCell ⟨A, 0, none⟩ v) ⟨B, 0, none⟩ (.int .i64 e) (Or.inr rfl)
    have k3 := k1.trans k2 (R := fun y => y = A ∨ y = B) (fun _ e => e) (fun _ _ e => e)
    exact ⟨k3.os, k3.tape, k3.output, k3.size, k3.block⟩

set_option maxRecDepth 100000 in
set_option maxHeartbeats 1000000 in
theorem catch_idle (A B : Nat) (w : World) :
    CallsD Tryz.prog 68 #[.pointer (some ⟨A, 0, none⟩), .pointer (some ⟨B, 0, none⟩)] .returning w fun e u' w' => e = .returned (.tuple #[]) ∧ u' = .returning ∧ w' = w := by
  refine callsD_of_wpS Tryz.func68 rfl fun c₀ cs hu => ?_
  apply wpS_seq
  apply wpS_region
  simp [wpOpsS, go_sem, recoverD, hu, Tryz.ntmps68, Exit.thenS]
  change Code.wpS _ _ _ { tmps := #[.pointer (some ⟨A, 0, none⟩), .pointer (some ⟨B, 0, none⟩), .nilIface, .nilIface, undef, undef, undef, undef, undef], defers := [] } _ _
  refine wpS_of_wp ?_
  go_wp2_with fail
  cases c₀
  simp_all [bodyPostS, results, Tryz.results68]

set_option maxRecDepth 100000 in
set_option maxHeartbeats 1000000 in
theorem catch_stop (A B : Nat) (hAB : A ≠ B) (w : World) (va ve : Value) (ha : w.cell? ⟨A, 0, none⟩ = some va) (hb : w.cell? ⟨B, 0, none⟩ = some ve) (fa : w.frozen? ⟨A, 0, none⟩ = false) (fb : w.frozen? ⟨B, 0, none⟩ = false) :
    CallsD Tryz.prog 68 #[.pointer (some ⟨A, 0, none⟩), .pointer (some ⟨B, 0, none⟩)] (.panicking [{ v := .iface 114 (.agg #[.int .i64 4]), recovered := false }]) w fun e u' w' =>
      e = .returned (.tuple #[]) ∧ u' = .panicking [{ v := .iface 114 (.agg #[.int .i64 4]), recovered := true }] ∧ Ld A B (.slice none 0 0) 4 w w' := by
  refine callsD_of_wpS Tryz.func68 rfl fun c₀ cs hu => ?_
  apply wpS_seq
  apply wpS_region
  simp [wpOpsS, go_sem, recoverD, hu, Tryz.ntmps68, Exit.thenS]
  change Code.wpS _ _ _ { tmps := #[.pointer (some ⟨A, 0, none⟩), .pointer (some ⟨B, 0, none⟩), .iface 114 (.agg #[.int .i64 4]), .iface 114 (.agg #[.int .i64 4]), undef, undef, undef, undef, undef], defers := [] } _ _
  refine wpS_of_wp ?_
  go_wp2_with fail
  have hta : ∀ u : World, (Instr.typeAssert (.iface 114 (.agg #[.int .i64 4])) 20 114 false).run Tryz.prog u = .ok (.agg #[.int .i64 4]) u := fun u => by kernel_rfl
  have hfl : ∀ u : World, (Instr.field 114 (.agg #[.int .i64 4]) 0).run Tryz.prog u = .ok (.int .i64 4) u := fun u => by kernel_rfl
  have HL : Hid (Ld A B (.slice none 0 0) 4 w ((w.setCell ⟨A, 0, none⟩ (.slice none 0 0)).setCell ⟨B, 0, none⟩ (.int .i64 4)).drew) := ld_of hAB ha hb _ _
  go_region
  show bodyPostS _ _ _ _ _ _ _ _ _
  simp [bodyPostS, results, Tryz.results68]
  exact HL.out

end Go.Proofs.YtkmnpechhdendaaGreatDoor

namespace Go.Proofs.YtkmnpechhdendaaGreatDoor
open Go.RowKit L3

theorem res28 {d : Nat} (h4 : d ≠ 4) (h5 : d ≠ 5) (a : Act) (v : Value) : results Tryz.f42 (a.put (some d) v).tmps = results Tryz.f42 a.tmps := by
  unfold results
  rw [Tryz.results42]
  simp [Act.put, Array.getD_eq_getD_getElem?, Array.getElem?_setIfInBounds, h4, h5]
theorem leaves_res {P : Program} {fn : Func} {t t' : Array Value} {R : Ending → World → Prop} (h : results fn t = results fn t') : ∀ (ds : List Deferred) (u : FrameMode) (w : World), Leaves P fn t R ds u w → Leaves P fn t' R ds u w
  | [], .returning, w, hl => by
    obtain ⟨v, h1, h2⟩ := hl
    exact ⟨v, by rw [← h]; exact h1, h2⟩
  | [], .panicking _, _, hl => hl
  | [], .run, _, hl => hl
  | d :: ds, u, w, hl => by
    obtain ⟨h0, fv, cap, f, args, h1, h2, h3⟩ := hl
    refine ⟨h0, fv, cap, f, args, h1, h2, fun c cs hc => ?_⟩
    obtain ⟨e, u', w', fr, hR, hs⟩ := h3 c cs hc
    refine ⟨e, u', w', fr, ?_, hs⟩
    cases e with
    | returned v => exact leaves_res h ds _ _ hR
    | panicked c => exact leaves_res h ds _ _ hR
    | outgrown => exact hR
theorem hq28 {R : Ending → World → Prop} {d : Nat} (h4 : d ≠ 4) (h5 : d ≠ 5) {v : Value} {c : List PanicEntry} {a : Act} {w : World} (h : bodyPostD Tryz.prog Tryz.f42 R (.panic c) (a.put (some d) v) w) : bodyPostD Tryz.prog Tryz.f42 R (.panic c) a w :=
  leaves_res (res28 h4 h5 a v) _ _ _ h

theorem Prg.bind_assoc {α β γ : Type} (p : Prg α) (f : α → Prg β) (g : β → Prg γ) : (p.bind f).bind g = p.bind fun a => (f a).bind g := by
  induction p with
  | ret a => rfl
  | stop => rfl
  | sym kk cx z k ih => show Prg.sym kk cx z _ = Prg.sym kk cx z _; congr 1; funext v; exact ih v
  | bits n z k ih => show Prg.bits n z _ = Prg.bits n z _; congr 1; funext v; exact ih v
/-- the blocks that code writes -/
def OK (m : Pm) (O : Nat → Prop) (y : Nat) : Prop := O y ∨ y = m.kb
theorem Trn.ok {m : Pm} {O O' : Nat → Prop} {w w' : World} (h : Trn O O' w w') : Trn (OK m O) (OK m O') w w' :=
  ⟨⟨h.ke.os, h.ke.tape, h.ke.output, h.ke.size, fun k hk hn => h.ke.block k hk (fun e => hn (Or.inl e))⟩, fun y hy => by
    rcases hy with e | e
    · rcases h.new y e with e2 | e2
      · exact Or.inl (Or.inl e2)
      · exact Or.inr e2
    · exact Or.inl (Or.inr e)⟩
structure Cg (m : Pm) (A B : Nat) (w : World) (O0 O : Nat → Prop) (K : List Int) (s : Cs) (u : World) : Prop where
  gd : Gd m K O s u
  trn : Trn (OK m O0) (OK m O) w u
  bel : Below m.lo w u
  klo : m.lo ≤ m.kb
  kw : m.kb < w.heap.size
  lw : m.b < w.heap.size ∧ m.ob < w.heap.size ∧ m.lb < w.heap.size
  na : ¬ O A
  nb : ¬ O B
  ca : ∃ v, u.cell? ⟨A, 0, none⟩ = some v
  cb : ∃ v, u.cell? ⟨B, 0, none⟩ = some v
  fa : u.frozen? ⟨A, 0, none⟩ = false
  fb : u.frozen? ⟨B, 0, none⟩ = false
  la : w.heap.size ≤ A ∧ A < u.heap.size
  lb : w.heap.size ≤ B ∧ B < u.heap.size
  ab : A ≠ B
theorem Cg.mv {m : Pm} {A B : Nat} {w : World} {O0 O : Nat → Prop} {K : List Int} {s s' : Cs} {u u' : World} (h : Cg m A B w O0 O K s u) (hm : Mv m K O u u' s') : ∃ O', Cg m A B w O0 O' K s' u' := by
  obtain ⟨O', g, t, b⟩ := hm
  have n : ∀ y, y < u.heap.size → ¬ O y → ¬ O' y := fun y hy hn e => by
    rcases t.new y e with e2 | e2
    · exact hn e2
    · omega
  exact ⟨O', g, h.trn.trans t.ok, h.bel.trans b, h.klo, h.kw, h.lw, n _ h.la.2 h.na, n _ h.lb.2 h.nb, by rw [t.ke.cell _ _ h.la.2 h.na]; exact h.ca, by rw [t.ke.cell _ _ h.lb.2 h.nb]; exact h.cb, by rw [t.ke.frozen _ _ h.la.2 h.na]; exact h.fa, by rw [t.ke.frozen _ _ h.lb.2 h.nb]; exact h.fb, ⟨h.la.1, Nat.lt_of_lt_of_le h.la.2 t.ke.size⟩, ⟨h.lb.1, Nat.lt_of_lt_of_le h.lb.2 t.ke.size⟩, h.ab⟩
theorem Cg.to {m : Pm} {A B : Nat} {w : World} {O0 O : Nat → Prop} {K : List Int} {s : Cs} {u u' : World} (h : Cg m A B w O0 O K s u) (hb : Below u.heap.size u u') : Cg m A B w O0 O K s u' :=
  ⟨h.gd.to hb, h.trn.trans (Trn.of hb), h.bel.trans (hb.mono (lo_le h.gd)), h.klo, h.kw, h.lw, h.na, h.nb, by rw [L10.newCell hb _ _ h.la.2]; exact h.ca, by rw [L10.newCell hb _ _ h.lb.2]; exact h.cb, by rw [L10.newFrozen hb _ _ h.la.2]; exact h.fa, by rw [L10.newFrozen hb _ _ h.lb.2]; exact h.fb, ⟨h.la.1, Nat.lt_of_lt_of_le h.la.2 hb.size⟩, ⟨h.lb.1, Nat.lt_of_lt_of_le h.lb.2 hb.size⟩, h.ab⟩
theorem Cg.drew {m : Pm} {A B : Nat} {w : World} {O0 O : Nat → Prop} {K : List Int} {s : Cs} {u : World} (h : Cg m A B w O0 O K s u) : Cg m A B w O0 O K s u.drew := h.to (L10.below_drew (Below.refl _ _))
theorem Gd.put {m : Pm} {K : List Int} {O : Nat → Prop} {s : Cs} {u : World} (h : Gd m K O s u) (hk : m.lo ≤ m.kb) (k : Nat) (v : Int) : Gd m (K.set k v) O s (u.setCell ⟨m.kb, k, none⟩ (.int .i64 v)) := by
  have hb : Below m.lo u (u.setCell ⟨m.kb, k, none⟩ (.int .i64 v)) := L10.below_set (Below.refl _ _) hk _
  exact ⟨h.cd.ke (P := fun y => y = m.kb) (Ke.set _ _ _ _ rfl) (fun y e => by rw [e]; exact h.bb.nk), h.bb.put k v, h.sh.below hb (by have := h.hl; omega), h.nt.below hb h.hl, h.hl, h.sz, h.hq, h.hc, h.hs⟩
theorem Cg.put {m : Pm} {A B : Nat} {w : World} {O0 O : Nat → Prop} {K : List Int} {s : Cs} {u : World} (h : Cg m A B w O0 O K s u) (k : Nat) (v : Int) : Cg m A B w O0 O (K.set k v) s (u.setCell ⟨m.kb, k, none⟩ (.int .i64 v)) := by
  have n : ∀ y, w.heap.size ≤ y → (⟨m.kb, k, none⟩ : Addr) ≠ ⟨y, 0, none⟩ := fun y hy e => by
    simp only [Addr.mk.injEq] at e
    have := h.kw
    omega
  have kk : Ke (OK m O) u (u.setCell ⟨m.kb, k, none⟩ (.int .i64 v)) := Ke.set _ _ _ _ (Or.inr rfl)
  refine ⟨h.gd.put h.klo k v, h.trn.trans ⟨kk, fun y hy => Or.inl hy⟩, L10.below_set h.bel h.klo _, h.klo, h.kw, h.lw, h.na, h.nb, by rw [World.cell?_setCell_other _ _ _ _ (n A h.la.1)]; exact h.ca, by rw [World.cell?_setCell_other _ _ _ _ (n B h.lb.1)]; exact h.cb, by simpa using h.fa, by simpa using h.fb, ⟨h.la.1, by rw [setCell_size]; exact h.la.2⟩, ⟨h.lb.1, by rw [setCell_size]; exact h.lb.2⟩, h.ab⟩
/-- both results are laid: what code comes to -/
theorem Cg.lay {m : Pm} {A B : Nat} {w : World} {O0 O : Nat → Prop} {K : List Int} {s : Cs} {u u' : World} {v : Value} {e : Int} (h : Cg m A B w O0 O K s u) (hl : Ld A B v e u u') : Gd m K O s u' ∧ Trn (OK m O0) (OK m O) w u' ∧ Below m.lo w u' := by
  have hkl := lo_le h.gd
  have hlw : m.lo ≤ w.heap.size := Nat.le_trans h.klo (Nat.le_of_lt h.kw)
  have hb : Below m.lo u u' := hl.ke.below (fun k hk => by rcases hk with e | e <;> (rw [e]; have := h.la.1; have := h.lb.1; omega)) hkl
  have nA : ∀ y, y < w.heap.size → ¬ (y = A ∨ y = B) := fun y hy e => by rcases e with e | e; (have := h.la.1; omega); (have := h.lb.1; omega)
  have hw : Trn (OK m O0) (OK m O) w u' := ⟨⟨hl.ke.os.trans h.trn.ke.os, hl.ke.tape.trans h.trn.ke.tape, hl.ke.output.trans h.trn.ke.output, Nat.le_trans h.trn.ke.size hl.ke.size, fun k hk hn => (hl.ke.block k (Nat.lt_of_lt_of_le hk h.trn.ke.size) (nA k hk)).trans (h.trn.ke.block k hk hn)⟩, h.trn.new⟩
  refine ⟨⟨h.gd.cd.ke hl.ke (fun y e => by rcases e with e | e <;> rw [e]; exact h.na; exact h.nb), ?_, h.gd.sh.below hb (by have := h.gd.hl; omega), h.gd.nt.below hb h.gd.hl, h.gd.hl, h.gd.sz, h.gd.hq, h.gd.hc, h.gd.hs⟩, hw, h.bel.trans hb⟩
  exact h.gd.bb.else hl.ke (nA _ h.lw.1) (nA _ h.lw.2.1) (nA _ h.kw) (nA _ h.lw.2.2)

/-- the amounts that are still to be coded -/
structure Lp1 (m : Pm) (A B : Nat) (w : World) (O0 : Nat → Prop) (e : Nat) (r : Option (List Int) × Cs) (iv : Value) (wr : World) : Prop where
  ex : ∃ (i : Nat) (O : Nat → Prop) (K : List Int) (s : Cs), i ≤ e ∧ iv = .int .i64 ((i : Int) - 1) ∧ Cg m A B w O0 O K s wr ∧ Kn m.n K ∧ ((ampL m.n m.col m.L e i K).bind fun K => sgnL m.n m.col m.sg m.L e 0 K).Ok s ∧ ((ampL m.n m.col m.L e i K).bind fun K => sgnL m.n m.col m.sg m.L e 0 K).run s = r
/-- the signs -/
structure Lp2 (m : Pm) (A B : Nat) (w : World) (O0 : Nat → Prop) (e : Nat) (r : Option (List Int) × Cs) (iv : Value) (wr : World) : Prop where
  ex : ∃ (j : Nat) (O : Nat → Prop) (K : List Int) (s : Cs), j ≤ e ∧ iv = .int .i64 (j : Int) ∧ Cg m A B w O0 O K s wr ∧ Kn m.n K ∧ (sgnL m.n m.col m.sg m.L (e - j) j K).Ok s ∧ (sgnL m.n m.col m.sg m.L (e - j) j K).run s = r
/-- what code comes to -/
structure Cod (m : Pm) (O0 : Nat → Prop) (w : World) (r : Option (List Int) × Cs) (en : Ending) (w' : World) : Prop where
  yes : ∀ K, r.1 = some K → en = .returned (.tuple #[.slice (some ⟨m.kb, 0, none⟩) m.q m.q, .int .i64 0])
  no : r.1 = none → en = .returned (.tuple #[.slice none 0 0, .int .i64 4])
  ex : ∃ O K', Gd m K' O r.2 w' ∧ Trn (OK m O0) (OK m O) w w' ∧ Below m.lo w w' ∧ ∀ K, r.1 = some K → K' = K
theorem end_some (z : Int) (col e : Nat) (s : Cs) : ∃ v s', (endP z col e).run s = (some v, s') := by
  unfold endP
  generalize (2 * col + if 8 < z then 1 else 0) = c
  show ∃ v s', (if syA s 22 _ _ = 1 then Prg.ret 0 else _).run _ = (some v, s')
  split
  · exact ⟨0, _, rfl⟩
  · exact ⟨_, _, rfl⟩

/-- the law of code -/
def CodeLaw : Prop := ∀ {m : Pm} {O : Nat → Prop} {s : Cs} {w : World}, Gd m (List.replicate m.q 0) O s w → m.lo ≤ m.kb → (∀ p, -1048576 ≤ m.L.getD p 0 ∧ m.L.getD p 0 ≤ 1048576) → (codP m.z m.n m.col m.sg m.L (endN m.n m.L m.q)).Ok s →
    Calls Tryz.prog 42 #[.pointer (some ⟨m.b, 0, none⟩), .slice (some ⟨m.lb, m.lf, none⟩) m.q m.lc] w fun en w' => Cod m O w ((codP m.z m.n m.col m.sg m.L (endN m.n m.L m.q)).run s) en w'

end Go.Proofs.YtkmnpechhdendaaGreatDoor
