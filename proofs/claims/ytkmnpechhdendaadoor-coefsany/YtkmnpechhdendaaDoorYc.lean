/- DERIVED. A coder in memory, on either side; a block that is being coded; the walks of told, bit, endKind. -/
import Derived.Test.YtkmnpechhdendaaDoorYb
import Derived.Deep.RegionHeld3
import Derived.Deep.DeepCutAuto
import Derived.WalkLawsBesides
namespace Go.Proofs.YtkmnpechhdendaaDoor
open Go.RowKit L3

/-- a coder by its numbers -/
structure Cd (w : World) (lo x : Nat) (O : Nat → Prop) (s : Cs) : Prop where
  wc : s.W = true → Wc w lo x O s.S s.ad (s.n : Int) s.a s.b s.c
  rc : s.W = false → Rc w lo x O s.S s.ad (s.n : Int) s.zs s.a s.b s.c
  kb : s.W = true → s.c ≤ 2 * s.n
theorem Rc.byt {w : World} {lo x : Nat} {O : Nat → Prop} {S : Sx} {ad : Bool} {n : Int} {zs : List Nat} {q c g : Nat} (h : Rc w lo x O S ad n zs q c g) : ∀ i, zs.getD i 0 < 256 := by obtain ⟨_, _, _, _, h, _⟩ := h; exact h.dc.byt
theorem Cd.so {w : World} {lo x : Nat} {O : Nat → Prop} {s : Cs} (h : Cd w lo x O s) : SOk s := by
  cases hW : s.W
  · exact ⟨(h.rc hW).ok, fun e => (by rw [hW] at e; cases e), fun _ => ⟨(h.rc hW).dk, (h.rc hW).byt⟩⟩
  · exact ⟨(h.wc hW).ok, fun _ => ⟨(h.wc hW).ev, h.kb hW⟩, fun e => (by rw [hW] at e; cases e)⟩
theorem Cd.lt {w : World} {lo x : Nat} {O : Nat → Prop} {s : Cs} (h : Cd w lo x O s) {y : Nat} (hy : O y) : y < w.heap.size := by
  cases hW : s.W
  · exact (h.rc hW).lt hy
  · exact (h.wc hW).lt hy
theorem Cd.to {w w' : World} {lo x : Nat} {O : Nat → Prop} {s : Cs} (h : Cd w lo x O s) (hb : Below w.heap.size w w') : Cd w' lo x O s := ⟨fun e => (h.wc e).to hb, fun e => (h.rc e).to hb, h.kb⟩
theorem Cd.ke {P : Nat → Prop} {w w' : World} {lo x : Nat} {O : Nat → Prop} {s : Cs} (h : Cd w lo x O s) (hk : Ke P w w') (hP : ∀ b, P b → ¬ O b) : Cd w' lo x O s := ⟨fun e => (h.wc e).ke hk hP, fun e => (h.rc e).ke hk hP, h.kb⟩
/-- a coder that has gone on -/
def Go (w w' : World) (lo x : Nat) (O : Nat → Prop) (s : Cs) : Prop := ∃ O', Cd w' lo x O' s ∧ Trn O O' w w' ∧ Below lo w w'
theorem symbol_cd {w : World} {lo x : Nat} {O : Nat → Prop} {s : Cs} (h : Cd w lo x O s) (hsh : Sh w) {kk cx : Nat} {z : Int} (hv : kk < 32 ∧ cx < sC kk ∧ s.n ≤ 1000000000 ∧ (s.W = true → 0 ≤ z ∧ z < (sV kk : Int))) :
    Calls Tryd.prog 54 #[.pointer (some ⟨x, 0, none⟩), .int .i64 kk, .int .i64 cx, .int .i64 z] w fun e w' => e = .returned (.tuple #[.int .i64 (syA s kk cx z : Nat), .int .i64 0]) ∧ Go w w' lo x O (syN s kk cx (syA s kk cx z)) := by
  obtain ⟨h1, h2, h3, h4⟩ := hv
  have hso := h.so
  have hso2 := sy_ok hso h1 h2 h4
  cases hW : s.W
  · refine (symbol_rc (h.rc hW) hsh (by omega) (by omega) (z := z) h1 h2).mono ?_
    rintro e w' ⟨v, rfl, hf, O', r1, r2, r3⟩
    have hv : syA s kk cx z = v := by unfold syA; rw [if_neg (by rw [hW]; decide)]; exact fv_eq (hso.ok.at h1 h2).2 hf
    rw [hv]
    refine ⟨rfl, O', ?_, r2, r3⟩
    have hn : syN s kk cx v = ⟨s.W, s.ad, upd s.S s.ad kk cx v, s.n + 1, s.zs, (L2.dTake s.zs s.b s.c s.a (eb (tb s.S kk cx).1 v) (ee (tb s.S kk cx).1 v)).2.2, (L2.dTake s.zs s.b s.c s.a (eb (tb s.S kk cx).1 v) (ee (tb s.S kk cx).1 v)).1, (L2.dTake s.zs s.b s.c s.a (eb (tb s.S kk cx).1 v) (ee (tb s.S kk cx).1 v)).2.1⟩ := by unfold syN; rw [if_neg (by rw [hW]; decide)]
    rw [hn]
    exact ⟨fun e => (by simp only at e; rw [hW] at e; cases e), fun _ => (by simpa using r1), fun e => (by simp only at e; rw [hW] at e; cases e)⟩
  · obtain ⟨v, rfl⟩ : ∃ v : Nat, z = (v : Int) := ⟨z.toNat, by have := (h4 hW).1; omega⟩
    have hv : v < sV kk := by have := (h4 hW).2; omega
    refine (symbol_wc (h.wc hW) hsh (by have := h.kb hW; omega) (by omega) (by omega) h1 h2 hv).mono ?_
    rintro e w' ⟨rfl, O', r1, r2, r3⟩
    have ha : syA s kk cx (v : Int) = v := by unfold syA; rw [if_pos hW]; rfl
    rw [ha] at hso2 ⊢
    refine ⟨rfl, O', ?_, r2, r3⟩
    have hk := hso2.ev (by rw [(syN_W s kk cx v).1]; exact hW)
    have hn : syN s kk cx v = ⟨s.W, s.ad, upd s.S s.ad kk cx v, s.n + 1, s.zs, (L2.ePut s.a s.b s.c (eb (tb s.S kk cx).1 v) (ee (tb s.S kk cx).1 v)).1, (L2.ePut s.a s.b s.c (eb (tb s.S kk cx).1 v) (ee (tb s.S kk cx).1 v)).2.1, (L2.ePut s.a s.b s.c (eb (tb s.S kk cx).1 v) (ee (tb s.S kk cx).1 v)).2.2⟩ := by unfold syN; rw [if_pos hW]
    refine ⟨fun _ => ?_, fun e => ?_, fun _ => hk.2⟩
    · rw [hn]; simpa using r1
    · rw [hn] at e; simp only at e; rw [hW] at e; cases e
theorem bits_cd {w : World} {lo x : Nat} {O : Nat → Prop} {s : Cs} (h : Cd w lo x O s) {n : Nat} {z : Int} (hv : n ≤ 30 ∧ s.n ≤ 1000000000 ∧ (s.W = true → 0 ≤ z ∧ z < 2 ^ n)) :
    Calls Tryd.prog 24 #[.pointer (some ⟨x, 0, none⟩), .int .i64 n, .int .i64 z] w fun e w' => e = .returned (.tuple #[.int .i64 (biA s n z : Nat), .int .i64 0]) ∧ Go w w' lo x O (biN s n (biA s n z)) := by
  obtain ⟨h1, h3, h4⟩ := hv
  have hso := h.so
  have hso2 := bi_ok hso n z
  cases hW : s.W
  · refine (bits_rc (h.rc hW) (by omega) (by omega) (z := z) h1).mono ?_
    rintro e w' ⟨rfl, O', r1, r2, r3⟩
    have hv : biA s n z = (dBs s.zs s.a s.b s.c n).1 := by unfold biA; rw [if_neg (by rw [hW]; decide)]
    rw [hv]
    refine ⟨rfl, O', ?_, r2, r3⟩
    have hn : biN s n (dBs s.zs s.a s.b s.c n).1 = ⟨s.W, s.ad, s.S, s.n + n, s.zs, (dBs s.zs s.a s.b s.c n).2.1, (dBs s.zs s.a s.b s.c n).2.2.1, (dBs s.zs s.a s.b s.c n).2.2.2⟩ := by unfold biN; rw [if_neg (by rw [hW]; decide)]
    rw [hn]
    exact ⟨fun e => (by simp only at e; rw [hW] at e; cases e), fun _ => (by simpa using r1), fun e => (by simp only at e; rw [hW] at e; cases e)⟩
  · obtain ⟨v, rfl⟩ : ∃ v : Nat, z = (v : Int) := ⟨z.toNat, by have := (h4 hW).1; omega⟩
    have e2 : ((2 ^ n : Nat) : Int) = 2 ^ n := by simp
    have hv : v < 2 ^ n := by have := (h4 hW).2; omega
    refine (bits_wc (h.wc hW) (by have := h.kb hW; omega) (by omega) (by omega) h1 rfl hv).mono ?_
    rintro e w' ⟨rfl, O', r1, r2, r3⟩
    have ha : biA s n (v : Int) = v := by unfold biA; rw [if_pos hW]; rfl
    rw [ha] at hso2 ⊢
    refine ⟨rfl, O', ?_, r2, r3⟩
    have hk := hso2.ev (by rw [(biN_W s n v).1]; exact hW)
    have hn : biN s n v = ⟨s.W, s.ad, s.S, s.n + n, s.zs, (eBs s.a s.b s.c v n n).1, (eBs s.a s.b s.c v n n).2.1, (eBs s.a s.b s.c v n n).2.2⟩ := by unfold biN; rw [if_pos hW]
    refine ⟨fun _ => ?_, fun e => ?_, fun _ => hk.2⟩
    · rw [hn]; simpa using r1
    · rw [hn] at e; simp only at e; rw [hW] at e; cases e
theorem count_cd {w : World} {lo x : Nat} {O : Nat → Prop} {s : Cs} (h : Cd w lo x O s) : Calls Tryd.prog 14 #[.pointer (some ⟨x, 0, none⟩)] w fun e w' => e = .returned (.int .i64 (s.n : Int)) ∧ w' = w := by
  cases hW : s.W
  · exact count_rc (h.rc hW)
  · exact count_wc (h.wc hW)
theorem writes_cd {w : World} {lo x : Nat} {O : Nat → Prop} {s : Cs} (h : Cd w lo x O s) : Calls Tryd.prog 26 #[.pointer (some ⟨x, 0, none⟩)] w fun e w' => e = .returned (.bool s.W) ∧ w' = w := by
  cases hW : s.W
  · obtain ⟨_, _, _, _, hc, _⟩ := h.rc hW
    exact writes_r hc.co.o hc.co.i
  · obtain ⟨_, _, _, _, hc, _⟩ := h.wc hW
    exact writes_w hc.co.o
theorem Trn.trans {O O' O'' : Nat → Prop} {a b c : World} (h : Trn O O' a b) (k : Trn O' O'' b c) : Trn O O'' a c :=
  ⟨h.ke.trans k.ke (fun _ e => e) (fun i hi e => by rcases h.new i e with e2 | e2; exact e2; omega), fun y hy => by
    rcases k.new y hy with e | e
    · exact h.new y e
    · exact Or.inr (Nat.le_trans h.ke.size e)⟩

/-! ### a block that is being coded -/
/-- what stays: the coder's least block, its own; the block's; size, side, colour, the sign's context; where order, what is known, levels lie; the levels -/
structure Pm where
  lo : Nat
  x : Nat
  b : Nat
  z : Int
  n : Nat
  q : Nat
  col : Nat
  sg : Nat
  ob : Nat
  oc : Nat
  kb : Nat
  lb : Nat
  lf : Nat
  lc : Nat
  L : List Int
structure Bb (m : Pm) (K : List Int) (O : Nat → Prop) (w : World) : Prop where
  c0 : w.cell? ⟨m.b, 0, none⟩ = some (.pointer (some ⟨m.x, 0, none⟩))
  c1 : w.cell? ⟨m.b, 1, none⟩ = some (.int .i64 m.z)
  c2 : w.cell? ⟨m.b, 2, none⟩ = some (.int .i64 (m.col : Int))
  c3 : w.cell? ⟨m.b, 3, none⟩ = some (.int .i64 (m.sg : Int))
  c4 : w.cell? ⟨m.b, 4, none⟩ = some (.slice (some ⟨m.ob, 0, none⟩) m.q m.oc)
  c5 : w.cell? ⟨m.b, 5, none⟩ = some (.slice (some ⟨m.kb, 0, none⟩) m.q m.q)
  blt : m.b < w.heap.size
  olt : m.ob < w.heap.size
  llt : m.lb < w.heap.size
  od : ∀ i, i < m.q → w.cell? ⟨m.ob, i, none⟩ = some (.int .i64 ((plc m.n i : Nat) : Int))
  kn : L10.Ri 3 w m.kb K
  kl : K.length = m.q
  lv : ∀ p, p < m.q → w.cell? ⟨m.lb, m.lf + p, none⟩ = some (.int .i64 (m.L.getD p 0))
  nb : ¬ O m.b
  no : ¬ O m.ob
  nk : ¬ O m.kb
  nl : ¬ O m.lb
  kne : m.kb ≠ m.b ∧ m.kb ≠ m.ob ∧ m.kb ≠ m.lb
  oq : m.q ≤ m.oc
theorem Bb.ke {P : Nat → Prop} {m : Pm} {K : List Int} {O O' : Nat → Prop} {w w' : World} (h : Bb m K O w) (hk : Ke P w w') (hP : ∀ y, P y → O y) (hO : ∀ y, O' y → O y ∨ w.heap.size ≤ y) : Bb m K O' w' := by
  have nb : ¬ P m.b := fun e => h.nb (hP _ e)
  have no : ¬ P m.ob := fun e => h.no (hP _ e)
  have nk : ¬ P m.kb := fun e => h.nk (hP _ e)
  have nl : ¬ P m.lb := fun e => h.nl (hP _ e)
  have g : ∀ y, y < w.heap.size → ¬ O y → ¬ O' y := fun y hy hn e => by
    rcases hO y e with e2 | e2
    · exact hn e2
    · omega
  refine ⟨by rw [hk.cell _ _ h.blt nb]; exact h.c0, by rw [hk.cell _ _ h.blt nb]; exact h.c1, by rw [hk.cell _ _ h.blt nb]; exact h.c2, by rw [hk.cell _ _ h.blt nb]; exact h.c3, by rw [hk.cell _ _ h.blt nb]; exact h.c4, by rw [hk.cell _ _ h.blt nb]; exact h.c5, Nat.lt_of_lt_of_le h.blt hk.size, Nat.lt_of_lt_of_le h.olt hk.size, Nat.lt_of_lt_of_le h.llt hk.size, fun i hi => by rw [hk.cell _ _ h.olt no]; exact h.od i hi, h.kn.carry (hk.block _ h.kn.lt nk), h.kl, fun p hp => by rw [hk.cell _ _ h.llt nl]; exact h.lv p hp, g _ h.blt h.nb, g _ h.olt h.no, g _ h.kn.lt h.nk, g _ h.llt h.nl, h.kne, h.oq⟩
/-- it stays where blocks of others turn -/
theorem Bb.else {P : Nat → Prop} {m : Pm} {K : List Int} {O : Nat → Prop} {w w' : World} (h : Bb m K O w) (hk : Ke P w w') (nb : ¬ P m.b) (no : ¬ P m.ob) (nk : ¬ P m.kb) (nl : ¬ P m.lb) : Bb m K O w' :=
  ⟨by rw [hk.cell _ _ h.blt nb]; exact h.c0, by rw [hk.cell _ _ h.blt nb]; exact h.c1, by rw [hk.cell _ _ h.blt nb]; exact h.c2, by rw [hk.cell _ _ h.blt nb]; exact h.c3, by rw [hk.cell _ _ h.blt nb]; exact h.c4, by rw [hk.cell _ _ h.blt nb]; exact h.c5, Nat.lt_of_lt_of_le h.blt hk.size, Nat.lt_of_lt_of_le h.olt hk.size, Nat.lt_of_lt_of_le h.llt hk.size, fun i hi => by rw [hk.cell _ _ h.olt no]; exact h.od i hi, h.kn.carry (hk.block _ h.kn.lt nk), h.kl, fun p hp => by rw [hk.cell _ _ h.llt nl]; exact h.lv p hp, h.nb, h.no, h.nk, h.nl, h.kne, h.oq⟩
theorem Bb.put {m : Pm} {K : List Int} {O : Nat → Prop} {w : World} (h : Bb m K O w) (k : Nat) (v : Int) : Bb m (K.set k v) O (w.setCell ⟨m.kb, k, none⟩ (.int .i64 v)) := by
  have oth : ∀ y j, m.kb ≠ y → (w.setCell ⟨m.kb, k, none⟩ (.int .i64 v)).cell? ⟨y, j, none⟩ = w.cell? ⟨y, j, none⟩ := fun y j hy => World.cell?_setCell_other _ _ _ _ (fun e => hy (by simp only [Addr.mk.injEq, and_true] at e; exact e.1))
  refine ⟨by rw [oth _ _ h.kne.1]; exact h.c0, by rw [oth _ _ h.kne.1]; exact h.c1, by rw [oth _ _ h.kne.1]; exact h.c2, by rw [oth _ _ h.kne.1]; exact h.c3, by rw [oth _ _ h.kne.1]; exact h.c4, by rw [oth _ _ h.kne.1]; exact h.c5, by rw [setCell_size]; exact h.blt, by rw [setCell_size]; exact h.olt, by rw [setCell_size]; exact h.llt, fun i hi => by rw [oth _ _ h.kne.2.1]; exact h.od i hi, h.kn.set k v, by rw [List.length_set]; exact h.kl, fun p hp => by rw [oth _ _ h.kne.2.2]; exact h.lv p hp, h.nb, h.no, h.nk, h.nl, h.kne, h.oq⟩
structure Gd (m : Pm) (K : List Int) (O : Nat → Prop) (s : Cs) (u : World) : Prop where
  cd : Cd u m.lo m.x O s
  bb : Bb m K O u
  sh : Sh u
  nt : L10.Nt u
  hl : 1 < m.lo
  sz : L10.Sz m.z m.n
  hq : m.q = m.n * m.n
  hc : m.col ≤ 1
  hs : m.sg ≤ 2
theorem Gd.go {m : Pm} {K : List Int} {O : Nat → Prop} {s s' : Cs} {w w' : World} (h : Gd m K O s w) {O' : Nat → Prop} (h1 : Cd w' m.lo m.x O' s') (h2 : Trn O O' w w') (h3 : Below m.lo w w') : Gd m K O' s' w' :=
  ⟨h1, h.bb.ke h2.ke (fun _ e => e) h2.new, h.sh.below h3 (by have := h.hl; omega), h.nt.below h3 h.hl, h.hl, h.sz, h.hq, h.hc, h.hs⟩
theorem Gd.to {m : Pm} {K : List Int} {O : Nat → Prop} {s : Cs} {w w' : World} (h : Gd m K O s w) (hb : Below w.heap.size w w') : Gd m K O s w' :=
  ⟨h.cd.to hb, h.bb.ke (P := fun _ => False) (Ke.of hb) (fun _ e => e.elim) (fun _ e => Or.inl e), h.sh.to hb, h.nt.to hb, h.hl, h.sz, h.hq, h.hc, h.hs⟩
/-- it has gone on -/
def Mv (m : Pm) (K : List Int) (O : Nat → Prop) (w w' : World) (s : Cs) : Prop := ∃ O', Gd m K O' s w' ∧ Trn O O' w w' ∧ Below m.lo w w'
theorem Mv.refl {m : Pm} {K : List Int} {O : Nat → Prop} {w : World} {s : Cs} (h : Gd m K O s w) : Mv m K O w w s := ⟨O, h, Trn.of (Below.refl _ _), Below.refl _ _⟩
theorem Mv.of {m : Pm} {K : List Int} {O : Nat → Prop} {w w' : World} {s s' : Cs} (h : Gd m K O s w) (hg : Go w w' m.lo m.x O s') : Mv m K O w w' s' := by
  obtain ⟨O', h1, h2, h3⟩ := hg
  exact ⟨O', h.go h1 h2 h3, h2, h3⟩
theorem Mv.trans {m : Pm} {K : List Int} {O O' : Nat → Prop} {w w' w'' : World} {s : Cs} (h2 : Trn O O' w w') (h3 : Below m.lo w w') (h : Mv m K O' w' w'' s) : Mv m K O w w'' s := by
  obtain ⟨O'', g, t, b⟩ := h
  exact ⟨O'', g, h2.trans t, h3.trans b⟩
theorem lo_le {m : Pm} {K : List Int} {O : Nat → Prop} {s : Cs} {w : World} (h : Gd m K O s w) : m.lo ≤ w.heap.size := by
  cases hW : s.W
  · obtain ⟨_, _, _, _, hc, _⟩ := h.cd.rc hW
    exact Nat.le_trans hc.co.xlo (Nat.le_of_lt hc.co.low)
  · obtain ⟨_, _, _, _, hc, _⟩ := h.cd.wc hW
    exact Nat.le_trans hc.co.xlo (Nat.le_of_lt hc.co.low)
theorem Mv.to {m : Pm} {K : List Int} {O : Nat → Prop} {w w' w'' : World} {s : Cs} (h : Mv m K O w w' s) (hb : Below w'.heap.size w' w'') : Mv m K O w w'' s := by
  obtain ⟨O', g, t, b⟩ := h
  exact ⟨O', g.to hb, t.trans (Trn.of hb), b.trans (hb.mono (lo_le g))⟩
/-- what a call tells: an answer, or a stop that is thrown -/
def stp4 : Ending := .panicked [{ v := .iface 89 (.agg #[.int .i64 4]), recovered := false }]
def Tel {α : Type} (cv : α → Value) (r : Option α) (e : Ending) : Prop := (∀ a, r = some a → e = .returned (cv a)) ∧ (r = none → e = stp4)
theorem Tel.some {α : Type} {cv : α → Value} {a : α} : Tel cv (some a) (.returned (cv a)) := ⟨fun b e => (by cases e; rfl), fun e => (by cases e)⟩
theorem Tel.none {α : Type} {cv : α → Value} : Tel cv Option.none stp4 := ⟨fun b e => (by cases e), fun _ => rfl⟩
def Ans {α : Type} (m : Pm) (K : List Int) (O : Nat → Prop) (w : World) (cv : α → Value) (r : Option α × Cs) (e : Ending) (w' : World) : Prop := Tel cv r.1 e ∧ Mv m K O w w' r.2
def vi (a : Int) : Value := .int .i64 a

theorem told_ok {w : World} {v : Int} : Calls Tryd.prog 53 #[.int .i64 v, .int .i64 0] w fun e w' => e = .returned (.int .i64 v) ∧ w' = w := by
  go_enter Tryd.func53, Tryd.ntmps53
  go_wp2
  go_ret
  exact ⟨rfl, rfl⟩
theorem bit_any {w : World} {b : Bool} : Calls Tryd.prog 55 #[.bool b] w fun e w' => e = .returned (.int .i64 (bt (b = true))) ∧ w' = w := by
  cases b
  · go_enter Tryd.func55, Tryd.ntmps55
    go_wp2
    go_ret
    exact ⟨rfl, rfl⟩
  · go_enter Tryd.func55, Tryd.ntmps55
    go_wp2
    go_ret
    exact ⟨rfl, rfl⟩
theorem endKind_any {w : World} {z : Int} {n : Nat} (h : L10.Sz z n) : Calls Tryd.prog 57 #[.int .i64 z] w fun e w' => e = .returned (.int .i64 (endK z : Nat)) ∧ w' = w := by
  rcases h with ⟨rfl, _⟩ | ⟨rfl, _⟩ | ⟨rfl, _⟩ | ⟨rfl, _⟩ | ⟨rfl, _⟩
  all_goals
    go_enter Tryd.func57, Tryd.ntmps57
    go_wp2
    go_ret
    exact ⟨rfl, rfl⟩

end Go.Proofs.YtkmnpechhdendaaDoor
