/- DERIVED. Several texts in one: A coder in memory, on either side; a block that is being coded; the walks of told, bit, endKind. The walks of more, first, below. The walks of length and endOf. The walks of amount and end. -/
import Derived.Test.YtkmnpechhdendaaGreatDoorYb
import Derived.Test.YtkmnpechhdendaaGreatDoorS4
import Derived.Deep.RegionHeld3
import Derived.Deep.DeepCutAuto
import Derived.WalkLawsBesides
namespace Go.Proofs.YtkmnpechhdendaaGreatDoor
open Go.RowKit L3

/-- a coder by its numbers -/
structure Cd (w : World) (lo x : Nat) (O : Nat → Prop) (s : Cs) : Prop where
  wc : s.W = true → Wc w lo x O s.S s.ad (s.n : Int) s.a s.b s.c
  rc : s.W = false → Rc w lo x O s.S s.ad (s.n : Int) s.zs s.a s.b s.c
  kb : s.W = true → s.c ≤ 2 * s.n
theorem Rc.byt {w : World} {lo x : Nat} {O : Nat → Prop} {S : Sx} {ad : Bool} {n : Int} {zs : List Nat} {q c g : Nat} (h : Rc w lo x O S ad n zs q c g) : ∀ i, zs.getD i 0 < 256 := by obtain ⟨_, _, _, _, h, _⟩ := h; exact h.dc.byt
theorem Cd.so {w : World} {lo x : Nat} {O : Nat → Prop} {s : Cs} (h : Cd w lo x O s) : SOk s := by
  cases hW : s.W
  · exact ⟨(h.rc hW).ok, fun e => (by rw [hW] at e; cases e), fun _ => ⟨(h.rc hW).dk, (h.rc hW).byt⟩⟩
  · exact ⟨(h.wc hW).ok, fun _ => ⟨(h.wc hW).ev, h.kb hW⟩, fun e => (by rw [hW] at e; cases e)⟩
theorem Cd.lt {w : World} {lo x : Nat} {O : Nat → Prop} {s : Cs} (h : Cd w lo x O s) {y : Nat} (hy : O y) : y < w.heap.size := by
  cases hW : s.W
  · exact (h.rc hW).lt hy
  · exact (h.wc hW).lt hy
theorem Cd.to {w w' : World} {lo x : Nat} {O : Nat → Prop} {s : Cs} (h : Cd w lo x O s) (hb : Below w.heap.size w w') : Cd w' lo x O s := ⟨fun e => (h.wc e).to hb, fun e => (h.rc e).to hb, h.kb⟩
theorem Cd.ke {P : Nat → Prop} {w w' : World} {lo x : Nat} {O : Nat → Prop} {s : Cs} (h : Cd w lo x O s) (hk : Ke P w w') (hP : ∀ b, P b → ¬ O b) : Cd w' lo x O s := ⟨fun e => (h.wc e).ke hk hP, fun e => (h.rc e).ke hk hP, h.kb⟩
/-- a coder that has gone on -/
def Go (w w' : World) (lo x : Nat) (O : Nat → Prop) (s : Cs) : Prop := ∃ O', Cd w' lo x O' s ∧ Trn O O' w w' ∧ Below lo w w'
theorem symbol_cd {w : World} {lo x : Nat} {O : Nat → Prop} {s : Cs} (h : Cd w lo x O s) (hsh : Sh w) {kk cx : Nat} {z : Int} (hv : kk < 32 ∧ cx < sC kk ∧ s.n ≤ 1000000000 ∧ (s.W = true → 0 ≤ z ∧ z < (sV kk : Int))) :
    Calls Tryz.prog 60 #[.pointer (some ⟨x, 0, none⟩), .int .i64 kk, .int .i64 cx, .int .i64 z] w fun e w' => e = .returned (.tuple #[.int .i64 (syA s kk cx z : Nat), .int .i64 0]) ∧ Go w w' lo x O (syN s kk cx (syA s kk cx z)) := by
  obtain ⟨h1, h2, h3, h4⟩ := hv
  have hso := h.so
  have hso2 := sy_ok hso h1 h2 h4
  cases hW : s.W
  · refine (symbol_rc (h.rc hW) hsh (by omega) (by omega) (z := z) h1 h2).mono ?_
    rintro e w' ⟨v, rfl, hf, O', r1, r2, r3⟩
    have hv : syA s kk cx z = v := by unfold syA; rw [if_neg (by rw [hW]; decide)]; exact fv_eq (hso.ok.at h1 h2).2 hf
    rw [hv]
    refine ⟨rfl, O', ?_, r2, r3⟩
    have hn : syN s kk cx v = ⟨s.W, s.ad, upd s.S s.ad kk cx v, s.n + 1, s.zs, (L2.dTake s.zs s.b s.c s.a (eb (tb s.S kk cx).1 v) (ee (tb s.S kk cx).1 v)).2.2, (L2.dTake s.zs s.b s.c s.a (eb (tb s.S kk cx).1 v) (ee (tb s.S kk cx).1 v)).1, (L2.dTake s.zs s.b s.c s.a (eb (tb s.S kk cx).1 v) (ee (tb s.S kk cx).1 v)).2.1⟩ := by unfold syN; rw [if_neg (by rw [hW]; decide)]
    rw [hn]
    exact ⟨fun e => (by simp only at e; rw [hW] at e; cases e), fun _ => (by simpa using r1), fun e => (by simp only at e; rw [hW] at e; cases e)⟩
  · obtain ⟨v, rfl⟩ : ∃ v : Nat, z = (v : Int) := ⟨z.toNat, by have := (h4 hW).1; omega⟩
    have hv : v < sV kk := by have := (h4 hW).2; omega
    refine (symbol_wc (h.wc hW) hsh (by have := h.kb hW; omega) (by omega) (by omega) h1 h2 hv).mono ?_
    rintro e w' ⟨rfl, O', r1, r2, r3⟩
    have ha : syA s kk cx (v : Int) = v := by unfold syA; rw [if_pos hW]; rfl
    rw [ha] at hso2 ⊢
    refine ⟨rfl, O', ?_, r2, r3⟩
    have hk := hso2.ev (by rw [(syN_W s kk cx v).1]; exact hW)
    have hn : syN s kk cx v = ⟨s.W, s.ad, upd s.S s.ad kk cx v, s.n + 1, s.zs, (L2.ePut s.a s.b s.c (eb (tb s.S kk cx).1 v) (ee (tb s.S kk cx).1 v)).1, (L2.ePut s.a s.b s.c (eb (tb s.S kk cx).1 v) (ee (tb s.S kk cx).1 v)).2.1, (L2.ePut s.a s.b s.c (eb (tb s.S kk cx).1 v) (ee (tb s.S kk cx).1 v)).2.2⟩ := by unfold syN; rw [if_pos hW]
    refine ⟨fun _ => ?_, fun e => ?_, fun _ => hk.2⟩
    · rw [hn]; simpa using r1
    · rw [hn] at e; simp only at e; rw [hW] at e; cases e
theorem bits_cd {w : World} {lo x : Nat} {O : Nat → Prop} {s : Cs} (h : Cd w lo x O s) {n : Nat} {z : Int} (hv : n ≤ 30 ∧ s.n ≤ 1000000000 ∧ (s.W = true → 0 ≤ z ∧ z < 2 ^ n)) :
    Calls Tryz.prog 38 #[.pointer (some ⟨x, 0, none⟩), .int .i64 n, .int .i64 z] w fun e w' => e = .returned (.tuple #[.int .i64 (biA s n z : Nat), .int .i64 0]) ∧ Go w w' lo x O (biN s n (biA s n z)) := by
  obtain ⟨h1, h3, h4⟩ := hv
  have hso := h.so
  have hso2 := bi_ok hso n z
  cases hW : s.W
  · refine (bits_rc (h.rc hW) (by omega) (by omega) (z := z) h1).mono ?_
    rintro e w' ⟨rfl, O', r1, r2, r3⟩
    have hv : biA s n z = (dBs s.zs s.a s.b s.c n).1 := by unfold biA; rw [if_neg (by rw [hW]; decide)]
    rw [hv]
    refine ⟨rfl, O', ?_, r2, r3⟩
    have hn : biN s n (dBs s.zs s.a s.b s.c n).1 = ⟨s.W, s.ad, s.S, s.n + n, s.zs, (dBs s.zs s.a s.b s.c n).2.1, (dBs s.zs s.a s.b s.c n).2.2.1, (dBs s.zs s.a s.b s.c n).2.2.2⟩ := by unfold biN; rw [if_neg (by rw [hW]; decide)]
    rw [hn]
    exact ⟨fun e => (by simp only at e; rw [hW] at e; cases e), fun _ => (by simpa using r1), fun e => (by simp only at e; rw [hW] at e; cases e)⟩
  · obtain ⟨v, rfl⟩ : ∃ v : Nat, z = (v : Int) := ⟨z.toNat, by have := (h4 hW).1; omega⟩
    have e2 : ((2 ^ n : Nat) : Int) = 2 ^ n := by simp
    have hv : v < 2 ^ n := by have := (h4 hW).2; omega
    refine (bits_wc (h.wc hW) (by have := h.kb hW; omega) (by omega) (by omega) h1 rfl hv).mono ?_
    rintro e w' ⟨rfl, O', r1, r2, r3⟩
    have ha : biA s n (v : Int) = v := by unfold biA; rw [if_pos hW]; rfl
    rw [ha] at hso2 ⊢
    refine ⟨rfl, O', ?_, r2, r3⟩
    have hk := hso2.ev (by rw [(biN_W s n v).1]; exact hW)
    have hn : biN s n v = ⟨s.W, s.ad, s.S, s.n + n, s.zs, (eBs s.a s.b s.c v n n).1, (eBs s.a s.b s.c v n n).2.1, (eBs s.a s.b s.c v n n).2.2⟩ := by unfold biN; rw [if_pos hW]
    refine ⟨fun _ => ?_, fun e => ?_, fun _ => hk.2⟩
    · rw [hn]; simpa using r1
    · rw [hn] at e; simp only at e; rw [hW] at e; cases e
theorem count_cd {w : World} {lo x : Nat} {O : Nat → Prop} {s : Cs} (h : Cd w lo x O s) : Calls Tryz.prog 14 #[.pointer (some ⟨x, 0, none⟩)] w fun e w' => e = .returned (.int .i64 (s.n : Int)) ∧ w' = w := by
  cases hW : s.W
  · exact count_rc (h.rc hW)
  · exact count_wc (h.wc hW)
theorem writes_cd {w : World} {lo x : Nat} {O : Nat → Prop} {s : Cs} (h : Cd w lo x O s) : Calls Tryz.prog 40 #[.pointer (some ⟨x, 0, none⟩)] w fun e w' => e = .returned (.bool s.W) ∧ w' = w := by
  cases hW : s.W
  · obtain ⟨_, _, _, _, hc, _⟩ := h.rc hW
    exact writes_r hc.co.o hc.co.i
  · obtain ⟨_, _, _, _, hc, _⟩ := h.wc hW
    exact writes_w hc.co.o
/-! ### a block that is being coded -/
/-- what stays: the coder's least block, its own; the block's; size, side, colour, the sign's context; where order, what is known, levels lie; the levels -/
structure Pm where
  lo : Nat
  x : Nat
  b : Nat
  z : Int
  n : Nat
  q : Nat
  col : Nat
  sg : Nat
  ob : Nat
  oc : Nat
  kb : Nat
  lb : Nat
  lf : Nat
  lc : Nat
  L : List Int
structure Bb (m : Pm) (K : List Int) (O : Nat → Prop) (w : World) : Prop where
  c0 : w.cell? ⟨m.b, 0, none⟩ = some (.pointer (some ⟨m.x, 0, none⟩))
  c1 : w.cell? ⟨m.b, 1, none⟩ = some (.int .i64 m.z)
  c2 : w.cell? ⟨m.b, 2, none⟩ = some (.int .i64 (m.col : Int))
  c3 : w.cell? ⟨m.b, 3, none⟩ = some (.int .i64 (m.sg : Int))
  c4 : w.cell? ⟨m.b, 4, none⟩ = some (.slice (some ⟨m.ob, 0, none⟩) m.q m.oc)
  c5 : w.cell? ⟨m.b, 5, none⟩ = some (.slice (some ⟨m.kb, 0, none⟩) m.q m.q)
  blt : m.b < w.heap.size
  olt : m.ob < w.heap.size
  llt : m.lb < w.heap.size
  od : ∀ i, i < m.q → w.cell? ⟨m.ob, i, none⟩ = some (.int .i64 ((plc m.n i : Nat) : Int))
  kn : L10.Ri 3 w m.kb K
  kl : K.length = m.q
  lv : ∀ p, p < m.q → w.cell? ⟨m.lb, m.lf + p, none⟩ = some (.int .i64 (m.L.getD p 0))
  nb : ¬ O m.b
  no : ¬ O m.ob
  nk : ¬ O m.kb
  nl : ¬ O m.lb
  kne : m.kb ≠ m.b ∧ m.kb ≠ m.ob ∧ m.kb ≠ m.lb
  oq : m.q ≤ m.oc
theorem Bb.ke {P : Nat → Prop} {m : Pm} {K : List Int} {O O' : Nat → Prop} {w w' : World} (h : Bb m K O w) (hk : Ke P w w') (hP : ∀ y, P y → O y) (hO : ∀ y, O' y → O y ∨ w.heap.size ≤ y) : Bb m K O' w' := by
  have nb : ¬ P m.b := fun e => h.nb (hP _ e)
  have no : ¬ P m.ob := fun e => h.no (hP _ e)
  have nk : ¬ P m.kb := fun e => h.nk (hP _ e)
  have nl : ¬ P m.lb := fun e => h.nl (hP _ e)
  have g : ∀ y, y < w.heap.size → ¬ O y → ¬ O' y := fun y hy hn e => by
    rcases hO y e with e2 | e2
    · exact hn e2
    · omega
  refine ⟨by rw [hk.cell _ _ h.blt nb]; exact h.c0, by rw [hk.cell _ _ h.blt nb]; exact h.c1, by rw [hk.cell _ _ h.blt nb]; exact h.c2, by rw [hk.cell _ _ h.blt nb]; exact h.c3, by rw [hk.cell _ _ h.blt nb]; exact h.c4, by rw [hk.cell _ _ h.blt nb]; exact h.c5, Nat.lt_of_lt_of_le h.blt hk.size, Nat.lt_of_lt_of_le h.olt hk.size, Nat.lt_of_lt_of_le h.llt hk.size, fun i hi => by rw [hk.cell _ _ h.olt no]; exact h.od i hi, h.kn.carry (hk.block _ h.kn.lt nk), h.kl, fun p hp => by rw [hk.cell _ _ h.llt nl]; exact h.lv p hp, g _ h.blt h.nb, g _ h.olt h.no, g _ h.kn.lt h.nk, g _ h.llt h.nl, h.kne, h.oq⟩
/-- it stays where blocks of others turn -/
theorem Bb.else {P : Nat → Prop} {m : Pm} {K : List Int} {O : Nat → Prop} {w w' : World} (h : Bb m K O w) (hk : Ke P w w') (nb : ¬ P m.b) (no : ¬ P m.ob) (nk : ¬ P m.kb) (nl : ¬ P m.lb) : Bb m K O w' :=
  ⟨by rw [hk.cell _ _ h.blt nb]; exact h.c0, by rw [hk.cell _ _ h.blt nb]; exact h.c1, by rw [hk.cell _ _ h.blt nb]; exact h.c2, by rw [hk.cell _ _ h.blt nb]; exact h.c3, by rw [hk.cell _ _ h.blt nb]; exact h.c4, by rw [hk.cell _ _ h.blt nb]; exact h.c5, Nat.lt_of_lt_of_le h.blt hk.size, Nat.lt_of_lt_of_le h.olt hk.size, Nat.lt_of_lt_of_le h.llt hk.size, fun i hi => by rw [hk.cell _ _ h.olt no]; exact h.od i hi, h.kn.carry (hk.block _ h.kn.lt nk), h.kl, fun p hp => by rw [hk.cell _ _ h.llt nl]; exact h.lv p hp, h.nb, h.no, h.nk, h.nl, h.kne, h.oq⟩
theorem Bb.put {m : Pm} {K : List Int} {O : Nat → Prop} {w : World} (h : Bb m K O w) (k : Nat) (v : Int) : Bb m (K.set k v) O (w.setCell ⟨m.kb, k, none⟩ (.int .i64 v)) := by
  have oth : ∀ y j, m.kb ≠ y → (w.setCell ⟨m.kb, k, none⟩ (.int .i64 v)).cell? ⟨y, j, none⟩ = w.cell? ⟨y, j, none⟩ := fun y j hy => World.cell?_setCell_other _ _ _ _ (fun e => hy (by simp only [Addr.mk.injEq, and_true] at e; exact e.1))
  refine ⟨by rw [oth _ _ h.kne.1]; exact h.c0, by rw [oth _ _ h.kne.1]; exact h.c1, by rw [oth _ _ h.kne.1]; exact h.c2, by rw [oth _ _ h.kne.1]; exact h.c3, by rw [oth _ _ h.kne.1]; exact h.c4, by rw [oth _ _ h.kne.1]; exact h.c5, by rw [setCell_size]; exact h.blt, by rw [setCell_size]; exact h.olt, by rw [setCell_size]; exact h.llt, fun i hi => by rw [oth _ _ h.kne.2.1]; exact h.od i hi, h.kn.set k v, by rw [List.length_set]; exact h.kl, fun p hp => by rw [oth _ _ h.kne.2.2]; exact h.lv p hp, h.nb, h.no, h.nk, h.nl, h.kne, h.oq⟩
structure Gd (m : Pm) (K : List Int) (O : Nat → Prop) (s : Cs) (u : World) : Prop where
  cd : Cd u m.lo m.x O s
  bb : Bb m K O u
  sh : Sh u
  nt : L10.Nt u
  hl : 1 < m.lo
  sz : L10.Sz m.z m.n
  hq : m.q = m.n * m.n
  hc : m.col ≤ 1
  hs : m.sg ≤ 2
theorem Gd.go {m : Pm} {K : List Int} {O : Nat → Prop} {s s' : Cs} {w w' : World} (h : Gd m K O s w) {O' : Nat → Prop} (h1 : Cd w' m.lo m.x O' s') (h2 : Trn O O' w w') (h3 : Below m.lo w w') : Gd m K O' s' w' :=
  ⟨h1, h.bb.ke h2.ke (fun _ e => e) h2.new, h.sh.below h3 (by have := h.hl; omega), h.nt.below h3 h.hl, h.hl, h.sz, h.hq, h.hc, h.hs⟩
theorem Gd.to {m : Pm} {K : List Int} {O : Nat → Prop} {s : Cs} {w w' : World} (h : Gd m K O s w) (hb : Below w.heap.size w w') : Gd m K O s w' :=
  ⟨h.cd.to hb, h.bb.ke (P := fun _ => False) (Ke.of hb) (fun _ e => e.elim) (fun _ e => Or.inl e), h.sh.to hb, h.nt.to hb, h.hl, h.sz, h.hq, h.hc, h.hs⟩
/-- it has gone on -/
def Mv (m : Pm) (K : List Int) (O : Nat → Prop) (w w' : World) (s : Cs) : Prop := ∃ O', Gd m K O' s w' ∧ Trn O O' w w' ∧ Below m.lo w w'
theorem Mv.refl {m : Pm} {K : List Int} {O : Nat → Prop} {w : World} {s : Cs} (h : Gd m K O s w) : Mv m K O w w s := ⟨O, h, Trn.of (Below.refl _ _), Below.refl _ _⟩
theorem Mv.of {m : Pm} {K : List Int} {O : Nat → Prop} {w w' : World} {s s' : Cs} (h : Gd m K O s w) (hg : Go w w' m.lo m.x O s') : Mv m K O w w' s' := by
  obtain ⟨O', h1, h2, h3⟩ := hg
  exact ⟨O', h.go h1 h2 h3, h2, h3⟩
theorem Mv.trans {m : Pm} {K : List Int} {O O' : Nat → Prop} {w w' w'' : World} {s : Cs} (h2 : Trn O O' w w') (h3 : Below m.lo w w') (h : Mv m K O' w' w'' s) : Mv m K O w w'' s := by
  obtain ⟨O'', g, t, b⟩ := h
  exact ⟨O'', g, h2.trans t, h3.trans b⟩
theorem lo_le {m : Pm} {K : List Int} {O : Nat → Prop} {s : Cs} {w : World} (h : Gd m K O s w) : m.lo ≤ w.heap.size := by
  cases hW : s.W
  · obtain ⟨_, _, _, _, hc, _⟩ := h.cd.rc hW
    exact Nat.le_trans hc.co.xlo (Nat.le_of_lt hc.co.low)
  · obtain ⟨_, _, _, _, hc, _⟩ := h.cd.wc hW
    exact Nat.le_trans hc.co.xlo (Nat.le_of_lt hc.co.low)
theorem Mv.to {m : Pm} {K : List Int} {O : Nat → Prop} {w w' w'' : World} {s : Cs} (h : Mv m K O w w' s) (hb : Below w'.heap.size w' w'') : Mv m K O w w'' s := by
  obtain ⟨O', g, t, b⟩ := h
  exact ⟨O', g.to hb, t.trans (Trn.of hb), b.trans (hb.mono (lo_le g))⟩
/-- what a call tells: an answer, or a stop that is thrown -/
def stp4 : Ending := .panicked [{ v := .iface 114 (.agg #[.int .i64 4]), recovered := false }]
def Tel {α : Type} (cv : α → Value) (r : Option α) (e : Ending) : Prop := (∀ a, r = some a → e = .returned (cv a)) ∧ (r = none → e = stp4)
theorem Tel.some {α : Type} {cv : α → Value} {a : α} : Tel cv (some a) (.returned (cv a)) := ⟨fun b e => (by cases e; rfl), fun e => (by cases e)⟩
theorem Tel.none {α : Type} {cv : α → Value} : Tel cv Option.none stp4 := ⟨fun b e => (by cases e), fun _ => rfl⟩
def Ans {α : Type} (m : Pm) (K : List Int) (O : Nat → Prop) (w : World) (cv : α → Value) (r : Option α × Cs) (e : Ending) (w' : World) : Prop := Tel cv r.1 e ∧ Mv m K O w w' r.2
def vi (a : Int) : Value := .int .i64 a

theorem told_ok {w : World} {v : Int} : Calls Tryz.prog 98 #[.int .i64 v, .int .i64 0] w fun e w' => e = .returned (.int .i64 v) ∧ w' = w := by
  go_enter Tryz.func98, Tryz.ntmps98
  go_wp2
  go_ret
  exact ⟨rfl, rfl⟩
theorem bit_any {w : World} {b : Bool} : Calls Tryz.prog 99 #[.bool b] w fun e w' => e = .returned (.int .i64 (bt (b = true))) ∧ w' = w := by
  cases b
  · go_enter Tryz.func99, Tryz.ntmps99
    go_wp2
    go_ret
    exact ⟨rfl, rfl⟩
  · go_enter Tryz.func99, Tryz.ntmps99
    go_wp2
    go_ret
    exact ⟨rfl, rfl⟩
theorem endKind_any {w : World} {z : Int} {n : Nat} (h : L10.Sz z n) : Calls Tryz.prog 101 #[.int .i64 z] w fun e w' => e = .returned (.int .i64 (endK z : Nat)) ∧ w' = w := by
  rcases h with ⟨rfl, _⟩ | ⟨rfl, _⟩ | ⟨rfl, _⟩ | ⟨rfl, _⟩ | ⟨rfl, _⟩
  all_goals
    go_enter Tryz.func101, Tryz.ntmps101
    go_wp2
    go_ret
    exact ⟨rfl, rfl⟩

end Go.Proofs.YtkmnpechhdendaaGreatDoor

namespace Go.Proofs.YtkmnpechhdendaaGreatDoor
open Go.RowKit L3

theorem Gd.si {m : Pm} {K : List Int} {O : Nat → Prop} {s : Cs} {u : World} (h : Gd m K O s u) : L10.Si u (some ⟨m.kb, 0, none⟩) K := Or.inr ⟨m.kb, 0, rfl, h.bb.kn.lt, fun j hj => by rw [Nat.zero_add]; exact h.bb.kn.cell j hj⟩
theorem more_gd {m : Pm} {K : List Int} {O : Nat → Prop} {s : Cs} {u : World} (h : Gd m K O s u) {p : Nat} (hp : p < m.q) :
    Calls Tryz.prog 121 #[.slice (some ⟨m.kb, 0, none⟩) m.q m.q, .int .i64 m.z, .int .i64 (p : Int)] u fun e w' => e = .returned (.tuple #[.int .i64 (L10.mor K m.n p), .int .i64 0]) ∧ Gd m K O s w' ∧ Below u.heap.size u w' := by
  refine (L10.more_yes h.nt h.sz h.si h.bb.kl h.hq hp).mono ?_
  rintro e w' ⟨rfl, k, rfl⟩
  exact ⟨rfl, h.to (L10.below_drewN (Below.refl _ _) k), L10.below_drewN (Below.refl _ _) k⟩
theorem base_gd {m : Pm} {K : List Int} {O : Nat → Prop} {s : Cs} {u : World} (h : Gd m K O s u) {p : Nat} (hp : p < m.q) :
    Calls Tryz.prog 120 #[.slice (some ⟨m.kb, 0, none⟩) m.q m.q, .int .i64 m.z, .int .i64 (p : Int)] u fun e w' => e = .returned (.tuple #[.int .i64 (L10.bas K m.n p), .int .i64 0]) ∧ Gd m K O s w' ∧ Below u.heap.size u w' := by
  refine (L10.base_yes h.nt h.sz h.si h.bb.kl h.hq hp).mono ?_
  rintro e w' ⟨rfl, k, rfl⟩
  exact ⟨rfl, h.to (L10.below_drewN (Below.refl _ _) k), L10.below_drewN (Below.refl _ _) k⟩
theorem Gd.drew {m : Pm} {K : List Int} {O : Nat → Prop} {s : Cs} {u : World} (h : Gd m K O s u) : Gd m K O s u.drew := h.to (L10.below_drew (Below.refl _ _))
theorem symbol_gd {m : Pm} {K : List Int} {O : Nat → Prop} {s : Cs} {w : World} (h : Gd m K O s w) {kk cx : Nat} {z : Int} (hv : kk < 32 ∧ cx < sC kk ∧ s.n ≤ 1000000000 ∧ (s.W = true → 0 ≤ z ∧ z < (sV kk : Int))) :
    Calls Tryz.prog 60 #[.pointer (some ⟨m.x, 0, none⟩), .int .i64 kk, .int .i64 cx, .int .i64 z] w fun e w' => e = .returned (.tuple #[.int .i64 (syA s kk cx z : Nat), .int .i64 0]) ∧ Mv m K O w w' (syN s kk cx (syA s kk cx z)) := by
  refine (symbol_cd h.cd h.sh hv).mono ?_
  rintro e w' ⟨rfl, hg⟩
  exact ⟨rfl, Mv.of h hg⟩
theorem bits_gd {m : Pm} {K : List Int} {O : Nat → Prop} {s : Cs} {w : World} (h : Gd m K O s w) {n : Nat} {z : Int} (hv : n ≤ 30 ∧ s.n ≤ 1000000000 ∧ (s.W = true → 0 ≤ z ∧ z < 2 ^ n)) :
    Calls Tryz.prog 38 #[.pointer (some ⟨m.x, 0, none⟩), .int .i64 n, .int .i64 z] w fun e w' => e = .returned (.tuple #[.int .i64 (biA s n z : Nat), .int .i64 0]) ∧ Mv m K O w w' (biN s n (biA s n z)) := by
  refine (bits_cd h.cd hv).mono ?_
  rintro e w' ⟨rfl, hg⟩
  exact ⟨rfl, Mv.of h hg⟩
theorem ctx_name {k col M : Nat} {x : Int} (hk : k ≤ 10) (hc : col ≤ 1) (hx : 0 ≤ x) (hM : x ≤ M) (h10 : M ≤ 10) : ∃ c d : Nat, k * col = c ∧ c + x.toNat = d ∧ (k : Int) * (col : Int) = (c : Int) ∧ (c : Int) + x = (d : Int) ∧ (c : Int) ≤ 10 ∧ (d : Int) ≤ 20 := by
  have h1 : k * col ≤ k * 1 := Nat.mul_le_mul_left k hc
  exact ⟨k * col, k * col + x.toNat, rfl, rfl, by simp, by omega, by omega, by omega⟩
theorem wrap_small {x : Int} (h0 : -4611686018427387904 ≤ x) (h1 : x ≤ 4611686018427387904) : IntKind.i64.wrap x = x := by rw [IntKind.wrap_i64]; omega

theorem Mv.behind {m : Pm} {K : List Int} {O : Nat → Prop} {w u w' : World} {s : Cs} (hl : m.lo ≤ w.heap.size) (hb : Below w.heap.size w u) (h : Mv m K O u w' s) : Mv m K O w w' s := Mv.trans (Trn.of hb) (hb.mono hl) h
/-- the cells of a block -/
def Cb (m : Pm) (u : World) : Prop := u.cell? ⟨m.b, 0, none⟩ = some (.pointer (some ⟨m.x, 0, none⟩)) ∧ u.cell? ⟨m.b, 1, none⟩ = some (.int .i64 m.z) ∧ u.cell? ⟨m.b, 2, none⟩ = some (.int .i64 (m.col : Int)) ∧ u.cell? ⟨m.b, 3, none⟩ = some (.int .i64 (m.sg : Int)) ∧ u.cell? ⟨m.b, 5, none⟩ = some (.slice (some ⟨m.kb, 0, none⟩) m.q m.q)
theorem Gd.cb {m : Pm} {K : List Int} {O : Nat → Prop} {s : Cs} {u : World} (h : Gd m K O s u) : Cb m u := ⟨h.bb.c0, h.bb.c1, h.bb.c2, h.bb.c3, h.bb.c5⟩

set_option maxRecDepth 100000 in
set_option maxHeartbeats 2000000 in
theorem more_any {m : Pm} {K : List Int} {O : Nat → Prop} {s : Cs} {w : World} (h : Gd m K O s w) {p : Nat} (hp : p < m.q) {a : Int} (hok : (morP m.col (L10.mor K m.n p).toNat a).Ok s) :
    Calls Tryz.prog 104 #[.pointer (some ⟨m.b, 0, none⟩), .int .i64 (p : Int), .int .i64 a] w fun e w' => Ans m K O w vi ((morP m.col (L10.mor K m.n p).toNat a).run s) e w' := by
  have hM := mor_le K m.n p
  obtain ⟨c, d, e1, e2, e3', e4, e5, e6⟩ := ctx_name (k := 7) (M := 6) (by omega) h.hc hM.1 hM.2 (by omega)
  have e3 : (7 : Int) * (m.col : Int) = (c : Int) := e3'
  clear e3'
  have HMo : Hid (∀ u, Gd m K O s u → Calls Tryz.prog 121 #[.slice (some ⟨m.kb, 0, none⟩) m.q m.q, .int .i64 m.z, .int .i64 (p : Int)] u fun e w' => e = .returned (.tuple #[.int .i64 (L10.mor K m.n p), .int .i64 0]) ∧ Gd m K O s w' ∧ Below u.heap.size u w') := fun u hu => more_gd hu hp
  have hv := hok.1
  rw [e1, e2] at hv
  have HSy : Hid (∀ u, Gd m K O s u → Calls Tryz.prog 60 #[.pointer (some ⟨m.x, 0, none⟩), .int .i64 (29 : Nat), .int .i64 (d : Nat), .int .i64 (min 3 a)] u fun e w' => e = .returned (.tuple #[.int .i64 (syA s 29 d (min 3 a) : Nat), .int .i64 0]) ∧ Mv m K O u w' (syN s 29 d (syA s 29 d (min 3 a)))) := fun u hu => symbol_gd hu hv
  have HR : Hid ((morP m.col (L10.mor K m.n p).toNat a).run s = (some ((syA s 29 d (min 3 a) : Nat) : Int), syN s 29 d (syA s 29 d (min 3 a)))) := by
    show (morP m.col (L10.mor K m.n p).toNat a).run s = _
    unfold morP
    rw [e1, e2]
    rfl
  clear hv hok e1 e2
  generalize L10.mor K m.n p = M at *
  have HKp : Hid (∀ u, Gd m K O s u → (u.cell? ⟨m.b, 0, none⟩ = some (.pointer (some ⟨m.x, 0, none⟩)) ∧ u.cell? ⟨m.b, 1, none⟩ = some (.int .i64 m.z) ∧ u.cell? ⟨m.b, 2, none⟩ = some (.int .i64 (m.col : Int)) ∧ u.cell? ⟨m.b, 5, none⟩ = some (.slice (some ⟨m.kb, 0, none⟩) m.q m.q) ∧ Gd m K O s u)) := fun u hu => ⟨hu.bb.c0, hu.bb.c1, hu.bb.c2, hu.bb.c5, hu⟩
  have hw1 := wrap_small (x := (c : Int)) (by omega) (by omega)
  have hw2 := wrap_small (x := (d : Int)) (by omega) (by omega)
  have HG : Hid (Gd m K O s w.drew) := h.drew
  have HLo : Hid (m.lo ≤ w.heap.size) := lo_le h
  have HB : Hid (Below w.heap.size w w.drew) := L10.below_drew (Below.refl _ _)
  clear h hp
  go_enter Tryz.func104, Tryz.ntmps104
  go_wp2_with fail
  obtain ⟨f0, f1, f2, f5, fG⟩ := HKp.out _ HG.out
  go_region_held3 (fun u => (u.cell? ⟨m.b, 0, none⟩ = some (.pointer (some ⟨m.x, 0, none⟩)) ∧ u.cell? ⟨m.b, 1, none⟩ = some (.int .i64 m.z) ∧ u.cell? ⟨m.b, 2, none⟩ = some (.int .i64 (m.col : Int)) ∧ u.cell? ⟨m.b, 5, none⟩ = some (.slice (some ⟨m.kb, 0, none⟩) m.q m.q) ∧ Gd m K O s u) ∧ Below w.heap.size w u)
    ((exact ⟨HKp.out _ (by assumption), (by assumption)⟩))
    (first
      | (go_at_call 121; refine (HMo.out _ (by assumption)).mono ?_; rintro e wA ⟨rfl, hgA, hbA⟩; have hzA : Below w.heap.size w wA := L10.below_to (by assumption) hbA)
      | (go_at_call 98; refine told_ok.mono ?_; rintro e wB ⟨rfl, rfl⟩))
  have HG2 : Hid (Gd m K O s wB) := by assumption
  have HB2 : Hid (Below w.heap.size w wB) := by assumption
  go_wp2_with fail
  refine (HSy.out _ HG2.out).mono ?_
  rintro e w3 ⟨rfl, hm⟩
  have HM : Hid (Mv m K O w w3 (syN s 29 d (syA s 29 d (min 3 a)))) := Mv.behind HLo.out HB2.out hm
  clear hm
  generalize syA s 29 d (min 3 a) = v at *
  go_wp2_with fail
  refine told_ok.mono ?_
  rintro e w4 ⟨rfl, rfl⟩
  go_wp2_with fail
  go_ret
  show Ans m K O w vi _ _ _
  rw [HR.out]
  exact ⟨Tel.some, HM.out⟩

set_option maxRecDepth 100000 in
set_option maxHeartbeats 2000000 in
theorem first_base {m : Pm} {K : List Int} {O : Nat → Prop} {s : Cs} {w : World} (h : Gd m K O s w) {p : Nat} (hp : p < m.q) {a : Int} (hok : (fstP m.col (L10.bas K m.n p).toNat false a).Ok s) :
    Calls Tryz.prog 102 #[.pointer (some ⟨m.b, 0, none⟩), .int .i64 (p : Int), .int .i64 a, .bool false] w fun e w' => Ans m K O w vi ((fstP m.col (L10.bas K m.n p).toNat false a).run s) e w' := by
  have hM := bas_le K m.n p
  obtain ⟨c, d, e1, e2, e3', e4, e5, e6⟩ := ctx_name (k := 5) (M := 4) (by omega) h.hc hM.1 hM.2 (by omega)
  have e3 : (5 : Int) * (m.col : Int) = (c : Int) := e3'
  clear e3'
  have HMo : Hid (∀ u, Gd m K O s u → Calls Tryz.prog 120 #[.slice (some ⟨m.kb, 0, none⟩) m.q m.q, .int .i64 m.z, .int .i64 (p : Int)] u fun e w' => e = .returned (.tuple #[.int .i64 (L10.bas K m.n p), .int .i64 0]) ∧ Gd m K O s w' ∧ Below u.heap.size u w') := fun u hu => base_gd hu hp
  have hv := hok.1
  rw [e1, e2] at hv
  have HSy : Hid (∀ u, Gd m K O s u → Calls Tryz.prog 60 #[.pointer (some ⟨m.x, 0, none⟩), .int .i64 (28 : Nat), .int .i64 (d : Nat), .int .i64 (min 3 a)] u fun e w' => e = .returned (.tuple #[.int .i64 (syA s 28 d (min 3 a) : Nat), .int .i64 0]) ∧ Mv m K O u w' (syN s 28 d (syA s 28 d (min 3 a)))) := fun u hu => symbol_gd hu hv
  have HR : Hid ((fstP m.col (L10.bas K m.n p).toNat false a).run s = (some ((syA s 28 d (min 3 a) : Nat) : Int), syN s 28 d (syA s 28 d (min 3 a)))) := by
    show (fstP m.col (L10.bas K m.n p).toNat false a).run s = _
    unfold fstP
    rw [if_neg (by decide), e1, e2]
    rfl
  clear hv hok e1 e2
  generalize L10.bas K m.n p = M at *
  have HKp : Hid (∀ u, Gd m K O s u → (u.cell? ⟨m.b, 0, none⟩ = some (.pointer (some ⟨m.x, 0, none⟩)) ∧ u.cell? ⟨m.b, 1, none⟩ = some (.int .i64 m.z) ∧ u.cell? ⟨m.b, 2, none⟩ = some (.int .i64 (m.col : Int)) ∧ u.cell? ⟨m.b, 5, none⟩ = some (.slice (some ⟨m.kb, 0, none⟩) m.q m.q) ∧ Gd m K O s u)) := fun u hu => ⟨hu.bb.c0, hu.bb.c1, hu.bb.c2, hu.bb.c5, hu⟩
  have hw1 := wrap_small (x := (c : Int)) (by omega) (by omega)
  have hw2 := wrap_small (x := (d : Int)) (by omega) (by omega)
  have HG : Hid (Gd m K O s w.drew) := h.drew
  have HLo : Hid (m.lo ≤ w.heap.size) := lo_le h
  have HB : Hid (Below w.heap.size w w.drew) := L10.below_drew (Below.refl _ _)
  clear h hp
  go_enter Tryz.func102, Tryz.ntmps102
  go_wp2_with fail
  obtain ⟨f0, f1, f2, f5, fG⟩ := HKp.out _ HG.out
  go_region_held3 (fun u => (u.cell? ⟨m.b, 0, none⟩ = some (.pointer (some ⟨m.x, 0, none⟩)) ∧ u.cell? ⟨m.b, 1, none⟩ = some (.int .i64 m.z) ∧ u.cell? ⟨m.b, 2, none⟩ = some (.int .i64 (m.col : Int)) ∧ u.cell? ⟨m.b, 5, none⟩ = some (.slice (some ⟨m.kb, 0, none⟩) m.q m.q) ∧ Gd m K O s u) ∧ Below w.heap.size w u)
    ((exact ⟨HKp.out _ (by assumption), (by assumption)⟩))
    (first
      | (go_at_call 120; refine (HMo.out _ (by assumption)).mono ?_; rintro e wA ⟨rfl, hgA, hbA⟩; have hzA : Below w.heap.size w wA := L10.below_to (by assumption) hbA)
      | (go_at_call 98; refine told_ok.mono ?_; rintro e wB ⟨rfl, rfl⟩))
  have HG2 : Hid (Gd m K O s wB) := by assumption
  have HB2 : Hid (Below w.heap.size w wB) := by assumption
  go_wp2_with fail
  refine (HSy.out _ HG2.out).mono ?_
  rintro e w3 ⟨rfl, hm⟩
  have HM : Hid (Mv m K O w w3 (syN s 28 d (syA s 28 d (min 3 a)))) := Mv.behind HLo.out HB2.out hm
  clear hm
  generalize syA s 28 d (min 3 a) = v at *
  go_wp2_with fail
  refine told_ok.mono ?_
  rintro e w4 ⟨rfl, rfl⟩
  go_wp2_with fail
  go_ret
  show Ans m K O w vi _ _ _
  rw [HR.out]
  exact ⟨Tel.some, HM.out⟩

set_option maxRecDepth 100000 in
set_option maxHeartbeats 2000000 in
theorem first_last {m : Pm} {K : List Int} {O : Nat → Prop} {s : Cs} {w : World} (h : Gd m K O s w) {p base : Nat} {a : Int} (ha0 : -2000000 ≤ a) (hok : (fstP m.col base true a).Ok s) :
    Calls Tryz.prog 102 #[.pointer (some ⟨m.b, 0, none⟩), .int .i64 (p : Int), .int .i64 a, .bool true] w fun e w' => Ans m K O w vi ((fstP m.col base true a).run s) e w' := by
  have hv := hok.1
  have HV : Hid (syA s 27 m.col (min 3 a - 1) < 3) := sy_lt h.cd.so hv.1 hv.2.1 hv.2.2.2
  have HSy : Hid (∀ u, Gd m K O s u → Calls Tryz.prog 60 #[.pointer (some ⟨m.x, 0, none⟩), .int .i64 (27 : Nat), .int .i64 (m.col : Nat), .int .i64 (min 3 a - 1)] u fun e w' => e = .returned (.tuple #[.int .i64 (syA s 27 m.col (min 3 a - 1) : Nat), .int .i64 0]) ∧ Mv m K O u w' (syN s 27 m.col (syA s 27 m.col (min 3 a - 1)))) := fun u hu => symbol_gd hu hv
  have HR : Hid ((fstP m.col base true a).run s = (some ((syA s 27 m.col (min 3 a - 1) : Nat) + 1 : Int), syN s 27 m.col (syA s 27 m.col (min 3 a - 1)))) := by
    show (fstP m.col base true a).run s = _
    unfold fstP
    rw [if_pos rfl]
    rfl
  clear hv hok
  have hw1 := wrap_small (x := min 3 a - 1) (by omega) (by omega)
  have hw2 := wrap_small (x := ((syA s 27 m.col (min 3 a - 1) : Nat) : Int) + 1) (by omega) (by have := HV.out; omega)
  have HG : Hid (Gd m K O s w.drew) := h.drew
  have HLo : Hid (m.lo ≤ w.heap.size) := lo_le h
  have HB : Hid (Below w.heap.size w w.drew) := L10.below_drew (Below.refl _ _)
  have HC : Hid (∀ O' s' u, Gd m K O' s' u → (u.cell? ⟨m.b, 0, none⟩ = some (.pointer (some ⟨m.x, 0, none⟩)) ∧ u.cell? ⟨m.b, 2, none⟩ = some (.int .i64 (m.col : Int)))) := fun O' s' u hu => ⟨hu.bb.c0, hu.bb.c2⟩
  clear h
  generalize syA s 27 m.col (min 3 a - 1) = v at *
  go_enter Tryz.func102, Tryz.ntmps102
  go_wp2_with fail
  have fG := HG.out
  obtain ⟨f0, f2⟩ := HC.out _ _ _ fG
  go_region_held3 (fun u => u.cell? ⟨m.b, 0, none⟩ = some (.pointer (some ⟨m.x, 0, none⟩)) ∧ u.cell? ⟨m.b, 2, none⟩ = some (.int .i64 (m.col : Int)))
    ((exact HC.out _ _ _ (by assumption)))
    (first
      | (go_at_call 60; refine (HSy.out _ (by assumption)).mono ?_; rintro e wA ⟨rfl, hmA⟩; have HM : Hid (Mv m K O w wA (syN s 27 m.col v)) := Mv.behind HLo.out HB.out hmA; obtain ⟨OA, gA, tA, bA⟩ := hmA)
      | (go_at_call 98; refine told_ok.mono ?_; rintro e wB ⟨rfl, rfl⟩))
  go_wp2_with fail
  go_ret
  show Ans m K O w vi _ _ _
  rw [HR.out]
  exact ⟨Tel.some, HM.out⟩

theorem fst_any {m : Pm} {K : List Int} {O : Nat → Prop} {s : Cs} {w : World} (h : Gd m K O s w) {p : Nat} (hp : p < m.q) {last : Bool} {a : Int} (ha0 : -2000000 ≤ a) (hok : (fstP m.col (L10.bas K m.n p).toNat last a).Ok s) :
    Calls Tryz.prog 102 #[.pointer (some ⟨m.b, 0, none⟩), .int .i64 (p : Int), .int .i64 a, .bool last] w fun e w' => Ans m K O w vi ((fstP m.col (L10.bas K m.n p).toNat last a).run s) e w' := by
  cases last
  · exact first_base h hp hok
  · exact first_last h ha0 hok
def vb (b : Bool) : Value := .bool b

set_option maxRecDepth 100000 in
set_option maxHeartbeats 2000000 in
theorem below_dc {m : Pm} {K : List Int} {O : Nat → Prop} {s : Cs} {w : World} (h : Gd m K O s w) {a : Int} (hok : (blwP m.col m.sg 0 a).Ok s) :
    Calls Tryz.prog 72 #[.pointer (some ⟨m.b, 0, none⟩), .int .i64 0, .int .i64 a] w fun e w' => Ans m K O w vb ((blwP m.col m.sg 0 a).run s) e w' := by
  have hv := hok.1
  obtain ⟨c, d, e1, e2, e3', e4, e5, e6⟩ := ctx_name (k := 3) (M := 2) (x := (m.sg : Int)) (by omega) h.hc (by omega) (by have := h.hs; omega) (by omega)
  have e3 : (3 : Int) * (m.col : Int) = (c : Int) := e3'
  clear e3'
  rw [Int.toNat_natCast] at e2
  rw [e1, e2] at hv
  have HSy : Hid (∀ u, Gd m K O s u → Calls Tryz.prog 60 #[.pointer (some ⟨m.x, 0, none⟩), .int .i64 (30 : Nat), .int .i64 (d : Nat), .int .i64 (bt (a < 0))] u fun e w' => e = .returned (.tuple #[.int .i64 (syA s 30 d (bt (a < 0)) : Nat), .int .i64 0]) ∧ Mv m K O u w' (syN s 30 d (syA s 30 d (bt (a < 0))))) := fun u hu => symbol_gd hu hv
  have HR : Hid ((blwP m.col m.sg 0 a).run s = (some (syA s 30 d (bt (a < 0)) == 1), syN s 30 d (syA s 30 d (bt (a < 0))))) := by
    show (blwP m.col m.sg 0 a).run s = _
    unfold blwP
    rw [if_pos rfl, e1, e2]
    rfl
  clear hv hok
  have HBt : Hid (bt (decide (a < 0) = true) = bt (a < 0)) := by show bt _ = bt _; unfold bt; simp
  have hw1 := wrap_small (x := (c : Int)) (by omega) (by omega)
  have hw2 := wrap_small (x := (d : Int)) (by omega) (by omega)
  have HG : Hid (Gd m K O s w.drew) := h.drew
  have HLo : Hid (m.lo ≤ w.heap.size) := lo_le h
  have HB : Hid (Below w.heap.size w w.drew) := L10.below_drew (Below.refl _ _)
  have HC : Hid (∀ O' s' u, Gd m K O' s' u → (u.cell? ⟨m.b, 0, none⟩ = some (.pointer (some ⟨m.x, 0, none⟩)) ∧ u.cell? ⟨m.b, 2, none⟩ = some (.int .i64 (m.col : Int)) ∧ u.cell? ⟨m.b, 3, none⟩ = some (.int .i64 (m.sg : Int)))) := fun O' s' u hu => ⟨hu.bb.c0, hu.bb.c2, hu.bb.c3⟩
  clear h e1 e2
  generalize syA s 30 d (bt (a < 0)) = v at *
  generalize bt (a < 0) = z at *
  go_enter Tryz.func72, Tryz.ntmps72
  go_wp2_with fail
  have fG := HG.out
  obtain ⟨f0, f2, f3⟩ := HC.out _ _ _ fG
  go_region_held3 (fun u => u.cell? ⟨m.b, 0, none⟩ = some (.pointer (some ⟨m.x, 0, none⟩)) ∧ u.cell? ⟨m.b, 2, none⟩ = some (.int .i64 (m.col : Int)) ∧ u.cell? ⟨m.b, 3, none⟩ = some (.int .i64 (m.sg : Int)))
    ((exact HC.out _ _ _ (by assumption)))
    (first
      | (go_at_call 99; refine bit_any.mono ?_; rintro e wC ⟨rfl, rfl⟩; rw [HBt.out])
      | (go_at_call 60; refine (HSy.out _ (by assumption)).mono ?_; rintro e wA ⟨rfl, hmA⟩; have HM : Hid (Mv m K O w wA (syN s 30 d v)) := Mv.behind HLo.out HB.out hmA; obtain ⟨OA, gA, tA, bA⟩ := hmA)
      | (go_at_call 98; refine told_ok.mono ?_; rintro e wB ⟨rfl, rfl⟩))
  go_wp2_with fail
  go_ret
  show Ans m K O w vb _ _ _
  rw [HR.out]
  have hbb : ((v : Int) == 1) = (v == 1) := by
    by_cases e : v = 1
    · subst e; rfl
    · rw [beq_eq_false_iff_ne.2 e, beq_eq_false_iff_ne.2 (by omega)]
  rw [hbb]
  exact ⟨Tel.some, HM.out⟩

set_option maxRecDepth 100000 in
set_option maxHeartbeats 2000000 in
theorem below_ac {m : Pm} {K : List Int} {O : Nat → Prop} {s : Cs} {w : World} (h : Gd m K O s w) {p : Nat} (hp : p ≠ 0) {a : Int} (hok : (blwP m.col m.sg p a).Ok s) :
    Calls Tryz.prog 72 #[.pointer (some ⟨m.b, 0, none⟩), .int .i64 (p : Int), .int .i64 a] w fun e w' => Ans m K O w vb ((blwP m.col m.sg p a).run s) e w' := by
  unfold blwP at hok ⊢
  rw [if_neg hp] at hok ⊢
  have hv := hok.1
  have HSy : Hid (∀ u, Gd m K O s u → Calls Tryz.prog 38 #[.pointer (some ⟨m.x, 0, none⟩), .int .i64 (1 : Nat), .int .i64 (bt (a < 0))] u fun e w' => e = .returned (.tuple #[.int .i64 (biA s 1 (bt (a < 0)) : Nat), .int .i64 0]) ∧ Mv m K O u w' (biN s 1 (biA s 1 (bt (a < 0))))) := fun u hu => bits_gd hu hv
  have HR : Hid ((Prg.bits 1 (bt (a < 0)) fun u => .ret (u == 1)).run s = (some (biA s 1 (bt (a < 0)) == 1), biN s 1 (biA s 1 (bt (a < 0))))) := rfl
  clear hv hok
  have HBt : Hid (bt (decide (a < 0) = true) = bt (a < 0)) := by show bt _ = bt _; unfold bt; simp
  have hp1 : ((p : Int) == 0) = false := by rw [beq_eq_false_iff_ne]; omega
  have HG : Hid (Gd m K O s w.drew) := h.drew
  have HLo : Hid (m.lo ≤ w.heap.size) := lo_le h
  have HB : Hid (Below w.heap.size w w.drew) := L10.below_drew (Below.refl _ _)
  have HC : Hid (∀ O' s' u, Gd m K O' s' u → (u.cell? ⟨m.b, 0, none⟩ = some (.pointer (some ⟨m.x, 0, none⟩)))) := fun O' s' u hu => hu.bb.c0
  clear h hp
  generalize biA s 1 (bt (a < 0)) = v at *
  generalize bt (a < 0) = z at *
  go_enter Tryz.func72, Tryz.ntmps72
  go_wp2_with fail
  have fG := HG.out
  have f0 := HC.out _ _ _ fG
  go_region_held3 (fun u => u.cell? ⟨m.b, 0, none⟩ = some (.pointer (some ⟨m.x, 0, none⟩)))
    ((exact HC.out _ _ _ (by assumption)))
    (first
      | (go_at_call 99; refine bit_any.mono ?_; rintro e wC ⟨rfl, rfl⟩; rw [HBt.out])
      | (go_at_call 38; refine (HSy.out _ (by assumption)).mono ?_; rintro e wA ⟨rfl, hmA⟩; have HM : Hid (Mv m K O w wA (biN s 1 v)) := Mv.behind HLo.out HB.out hmA; obtain ⟨OA, gA, tA, bA⟩ := hmA)
      | (go_at_call 98; refine told_ok.mono ?_; rintro e wB ⟨rfl, rfl⟩))
  go_wp2_with fail
  go_ret
  show Ans m K O w vb _ _ _
  rw [HR.out]
  have hbb : ((v : Int) == 1) = (v == 1) := by
    by_cases e : v = 1
    · subst e; rfl
    · rw [beq_eq_false_iff_ne.2 e, beq_eq_false_iff_ne.2 (by omega)]
  rw [hbb]
  exact ⟨Tel.some, HM.out⟩

theorem below_any {m : Pm} {K : List Int} {O : Nat → Prop} {s : Cs} {w : World} (h : Gd m K O s w) {p : Nat} {a : Int} (hok : (blwP m.col m.sg p a).Ok s) :
    Calls Tryz.prog 72 #[.pointer (some ⟨m.b, 0, none⟩), .int .i64 (p : Int), .int .i64 a] w fun e w' => Ans m K O w vb ((blwP m.col m.sg p a).run s) e w' := by
  by_cases e : p = 0
  · subst e; exact below_dc h hok
  · exact below_ac h e hok

end Go.Proofs.YtkmnpechhdendaaGreatDoor

namespace Go.Proofs.YtkmnpechhdendaaGreatDoor
open Go.RowKit L3

/-- what the loop of length keeps -/
structure LnI (m : Pm) (K : List Int) (O : Nat → Prop) (w : World) (x : Int) (r : Option Int × Cs) (i : Value) (wr : World) : Prop where
  ex : ∃ (j : Nat) (O' : Nat → Prop) (s' : Cs), j ≤ 20 ∧ i = .int .i64 j ∧ Gd m K O' s' wr ∧ Trn O O' w wr ∧ Below m.lo w wr ∧ (lenL x (21 - j) j).Ok s' ∧ (lenL x (21 - j) j).run s' = r

set_option maxRecDepth 100000 in
set_option maxHeartbeats 2000000 in
theorem length_any {m : Pm} {K : List Int} {O : Nat → Prop} {s : Cs} {w : World} (h : Gd m K O s w) {x : Int} (hx0 : -2000000 ≤ x) (hx1 : x ≤ 2000000) (hok : (lenP x).Ok s) :
    Calls Tryz.prog 103 #[.pointer (some ⟨m.b, 0, none⟩), .int .i64 x] w fun e w' => Ans m K O w vi ((lenP x).run s) e w' := by
  have HS : Hid (LnI m K O w x ((lenP x).run s) (.int .i64 0) w) := ⟨0, O, s, by omega, rfl, h, Trn.of (Below.refl _ _), Below.refl _ _, hok, rfl⟩
  generalize hr : (lenP x).run s = r at *
  have HC : Hid (∀ O' s' u, Gd m K O' s' u → (u.cell? ⟨m.b, 0, none⟩ = some (.pointer (some ⟨m.x, 0, none⟩)))) := fun O' s' u hu => hu.bb.c0
  clear h hok hr
  go_enter Tryz.func103, Tryz.ntmps103
  go_wp2_with fail
  go_loopw [5] (fun i wr => LnI m K O w x r i wr) (fun i _ => 21 - (intOf i).toNat)
  case atStart => exact HS.out
  case round =>
    obtain ⟨j, O', s', hj, rfl, hg, ht, hb, hok, hrun⟩ := hrel
    have HT : Hid (Trn O O' w wr) := ht
    have HBl : Hid (Below m.lo w wr) := hb
    rw [show 21 - j = (20 - j) + 1 by omega, lenL] at hok hrun
    have hv := hok.1
    have hok2 := hok.2
    have hrun2 : (if biA s' 1 (bt (x / 2 ^ j = 1)) = 0 then lenL x (20 - j) (j + 1) else Prg.bits j (x - 2 ^ j) fun u => .ret (2 ^ j + (u : Int))).run (biN s' 1 (biA s' 1 (bt (x / 2 ^ j = 1)))) = r := hrun
    have hok3 : (if biA s' 1 (bt (x / 2 ^ j = 1)) = 0 then lenL x (20 - j) (j + 1) else Prg.bits j (x - 2 ^ j) fun u => .ret (2 ^ j + (u : Int))).Ok (biN s' 1 (biA s' 1 (bt (x / 2 ^ j = 1)))) := hok2
    have hlt : biA s' 1 (bt (x / 2 ^ j = 1)) < 2 := bi_lt (n := 1) hv.2.2
    have HSy : Hid (∀ u, Gd m K O' s' u → Calls Tryz.prog 38 #[.pointer (some ⟨m.x, 0, none⟩), .int .i64 (1 : Nat), .int .i64 (bt (x / 2 ^ j = 1))] u fun e w' => e = .returned (.tuple #[.int .i64 (biA s' 1 (bt (x / 2 ^ j = 1)) : Nat), .int .i64 0]) ∧ Mv m K O' u w' (biN s' 1 (biA s' 1 (bt (x / 2 ^ j = 1))))) := fun u hu => bits_gd hu hv
    obtain ⟨P, hP⟩ : ∃ P : Nat, 2 ^ j = P := ⟨_, rfl⟩
    have hP2 : (2 : Int) ^ j = (P : Int) := by rw [← hP]; simp
    have hPm : P ≤ 2 ^ 20 := by rw [← hP]; exact Nat.pow_le_pow_right (by omega) hj
    have hP0 : 1 ≤ P := by rw [← hP]; exact Nat.pow_pos (by omega)
    have HP : Hid ((2 : Int) ^ j = (P : Int)) := hP2
    have hP1 : (1 : Int) * 2 ^ j = (P : Int) := by rw [hP2]; omega
    obtain ⟨y, hy⟩ : ∃ y, x / 2 ^ j = y := ⟨_, rfl⟩
    rw [hy] at hrun2 hok3 hlt HSy
    have HBt : Hid (bt ((y == 1) = true) = bt (y = 1)) := by show bt _ = bt _; unfold bt; simp
    generalize biA s' 1 (bt (y = 1)) = v at *
    generalize bt (y = 1) = zz at *
    have HG : Hid (Gd m K O' s' wr.drew) := hg.drew
    have HLo : Hid (m.lo ≤ wr.heap.size) := lo_le hg
    have HBd : Hid (Below wr.heap.size wr wr.drew) := L10.below_drew (Below.refl _ _)
    have HJ : Hid (j ≤ 20) := hj
    have j0 : (0 : Int) ≤ (j : Int) := by omega
    have j1 : (j : Int) < 64 := by omega
    have hwP := wrap_small (x := (P : Int)) (by omega) (by omega)
    have hwx := wrap_small (x := x - (P : Int)) (by omega) (by omega)
    clear hg ht hb hok hok2 hrun hv hP hP2 hj
    have HR2 : Hid _ := hrun2
    have HO2 : Hid _ := hok3
    clear hrun2 hok3
    go_wp2_with fail
    have fG := HG.out
    have f0 := HC.out _ _ _ fG
    go_region_held3 (fun u => u.cell? ⟨m.b, 0, none⟩ = some (.pointer (some ⟨m.x, 0, none⟩)))
      ((exact HC.out _ _ _ (by assumption)))
      (first
        | (go_at_call 99; refine bit_any.mono ?_; rintro e wC ⟨rfl, rfl⟩; rw [HBt.out])
        | (go_at_call 38; refine (HSy.out _ (by assumption)).mono ?_; rintro e wA ⟨rfl, hmA⟩; have HM : Hid (Mv m K O' wr wA (biN s' 1 v)) := Mv.behind HLo.out HBd.out hmA; obtain ⟨OA, gA, tA, bA⟩ := hmA)
        | (go_at_call 98; refine told_ok.mono ?_; rintro e wB ⟨rfl, rfl⟩))
    have HL2 : Hid (v = 0 ∨ v = 1) := by show _ ∨ _; omega
    obtain ⟨O2, g2, t2, b2⟩ := HM.out
    have HG2 : Hid (Gd m K O2 (biN s' 1 v) wB) := g2
    have HT2 : Hid (Trn O O2 w wB) := HT.out.trans t2
    have HB2 : Hid (Below m.lo w wB) := HBl.out.trans b2
    clear g2 t2 b2 HM HSy
    rcases HL2.out with e0 | e0
    · have HR3 : Hid ((lenL x (20 - j) (j + 1)).run (biN s' 1 v) = r) := by have := HR2.out; rw [if_pos e0] at this; exact this
      have HO3 : Hid ((lenL x (20 - j) (j + 1)).Ok (biN s' 1 v)) := by have := HO2.out; rw [if_pos e0] at this; exact this
      have hv0 : ((v : Int) == 0) = true := by rw [e0]; rfl
      clear HR2 HO2 e0 HL2 hlt
      by_cases h20 : j = 20
      · have hgt : (20 : Int) < (j : Int) + 1 := by omega
        have HRn : Hid (r = (none, biN s' 1 v)) := by have := HR3.out; rw [h20] at this; exact this.symm
        clear HR3 HO3 h20
        go_wp2_with fail
        refine ⟨rfl, ?_⟩
        show Ans m K O w vi r stp4 _
        rw [HRn.out]
        exact ⟨Tel.none, _, HG2.out, HT2.out, HB2.out⟩
      · have hgt : ¬ (20 : Int) < (j : Int) + 1 := by have := HJ.out; omega
        have HRn : Hid ((lenL x (21 - (j + 1)) (j + 1)).run (biN s' 1 v) = r) := by have := HR3.out; rw [show 20 - j = 21 - (j + 1) by omega] at this; exact this
        have HOn : Hid ((lenL x (21 - (j + 1)) (j + 1)).Ok (biN s' 1 v)) := by have := HO3.out; rw [show 20 - j = 21 - (j + 1) by omega] at this; exact this
        have HJ2 : Hid (j ≠ 20) := h20
        clear HR3 HO3 h20
        go_wp2_with fail
        have hj := HJ.out
        have hj2 := HJ2.out
        go_roundw
        case rel => exact ⟨⟨j + 1, O2, biN s' 1 v, by omega, by go_num, HG2.out, HT2.out, HB2.out, HOn.out, HRn.out⟩⟩
        case measure => simp [intOf]; omega
    · have HR3 : Hid ((Prg.bits j (x - 2 ^ j) fun u => .ret (2 ^ j + (u : Int))).run (biN s' 1 v) = r) := by have := HR2.out; rw [if_neg (by omega)] at this; exact this
      have HO3 : Hid ((Prg.bits j (x - 2 ^ j) fun u => Prg.ret (2 ^ j + (u : Int))).Ok (biN s' 1 v)) := by have := HO2.out; rw [if_neg (by omega)] at this; exact this
      have hv0 : ((v : Int) == 0) = false := by rw [e0]; rfl
      clear HR2 HO2 e0 HL2 hlt
      generalize biN s' 1 v = s2 at *
      have hv := HO3.out.1
      rw [HP.out] at hv
      have HSy : Hid (∀ u, Gd m K O2 s2 u → Calls Tryz.prog 38 #[.pointer (some ⟨m.x, 0, none⟩), .int .i64 (j : Nat), .int .i64 (x - (P : Int))] u fun e w' => e = .returned (.tuple #[.int .i64 (biA s2 j (x - (P : Int)) : Nat), .int .i64 0]) ∧ Mv m K O2 u w' (biN s2 j (biA s2 j (x - (P : Int))))) := fun u hu => bits_gd hu (by rw [HP.out]; exact hv)
      have HRn : Hid (r = (some ((P : Int) + (biA s2 j (x - (P : Int)) : Nat)), biN s2 j (biA s2 j (x - (P : Int))))) := by
        have h1 : (some ((2 : Int) ^ j + ((biA s2 j (x - 2 ^ j) : Nat) : Int)), biN s2 j (biA s2 j (x - 2 ^ j))) = r := HR3.out
        rw [HP.out] at h1
        exact h1.symm
      have hul : biA s2 j (x - (P : Int)) < 2 ^ 20 := by
        have h1 := bi_lt (s := s2) (n := j) (z := x - (P : Int)) (by rw [HP.out]; exact hv.2.2)
        have h2 : 2 ^ j ≤ 2 ^ 20 := Nat.pow_le_pow_right (by omega) HJ.out
        omega
      have hwu := wrap_small (x := (P : Int) + (biA s2 j (x - (P : Int)) : Nat)) (by omega) (by omega)
      generalize biA s2 j (x - (P : Int)) = u at *
      clear hv HR3 HO3 hul
      have HG3 : Hid (Gd m K O2 s2 wB.drew) := HG2.out.drew
      have HLo3 : Hid (m.lo ≤ wB.heap.size) := lo_le HG2.out
      have HBd3 : Hid (Below wB.heap.size wB wB.drew) := L10.below_drew (Below.refl _ _)
      go_wp2_with fail
      have fG3 := HG3.out
      have f3 := HC.out _ _ _ fG3
      go_region_held3 (fun u => u.cell? ⟨m.b, 0, none⟩ = some (.pointer (some ⟨m.x, 0, none⟩)))
        ((exact HC.out _ _ _ (by assumption)))
        (first
          | (go_at_call 38; refine (HSy.out _ (by assumption)).mono ?_; rintro e wD ⟨rfl, hmD⟩; have HM : Hid (Mv m K O2 wB wD (biN s2 j u)) := Mv.behind HLo3.out HBd3.out hmD; obtain ⟨OD, gD, tD, bD⟩ := hmD)
          | (go_at_call 98; refine told_ok.mono ?_; rintro e wE ⟨rfl, rfl⟩))
      go_wp2_with fail
      go_ret
      show Ans m K O w vi r _ _
      rw [HRn.out]
      exact ⟨Tel.some, Mv.trans HT2.out HB2.out HM.out⟩

set_option maxRecDepth 100000 in
set_option maxHeartbeats 2000000 in
theorem endOf_any {m : Pm} {K : List Int} {O : Nat → Prop} {s : Cs} {w : World} (h : Gd m K O s w) :
    Calls Tryz.prog 70 #[.slice (some ⟨m.ob, 0, none⟩) m.q m.oc, .slice (some ⟨m.lb, m.lf, none⟩) m.q m.lc] w fun e w' => e = .returned (.int .i64 (endN m.n m.L m.q : Nat)) ∧ w' = w := by
  have hq : m.q ≤ 1024 := by rw [h.hq]; exact h.sz.sd.sq
  have HO : Hid (∀ i, i < m.q → w.cell? ⟨m.ob, i, none⟩ = some (.int .i64 ((plc m.n i : Nat) : Int)) ∧ plc m.n i < m.q) := fun i hi => ⟨h.bb.od i hi, by have := (plc_at h.sz.sd (i := i) (by rw [← h.hq]; exact hi)).1; rw [h.hq]; exact this⟩
  have HL : Hid (∀ p, p < m.q → w.cell? ⟨m.lb, m.lf + p, none⟩ = some (.int .i64 (m.L.getD p 0))) := h.bb.lv
  generalize m.q = q at *
  clear h
  go_enter Tryz.func70, Tryz.ntmps70
  go_wp2_with fail
  go_loopw [5] (fun i wr => ∃ e : Nat, e ≤ q ∧ i = .int .i64 e ∧ wr = w ∧ Hid (endN m.n m.L e = endN m.n m.L q)) (fun i _ => (intOf i).toNat)
  case atStart => exact ⟨q, by omega, rfl, rfl, rfl⟩
  case round =>
    obtain ⟨e, he, rfl, rfl, HE⟩ := hrel
    by_cases h0 : e = 0
    · subst h0
      go_wp2_with fail
      go_ret
      refine ⟨?_, rfl⟩
      rw [← HE.out]; rfl
    · obtain ⟨k, rfl⟩ : ∃ k, e = k + 1 := ⟨e - 1, by omega⟩
      have hk : k < q := by omega
      obtain ⟨o1, o2⟩ := HO.out k hk
      have l1 := HL.out _ o2
      have k0 : (0 : Int) < ((k + 1 : Nat) : Int) := by omega
      have k1 : ((k + 1 : Nat) : Int) - 1 = (k : Int) := by omega
      have k2 : (k : Int) < (q : Int) := by omega
      have k3 : (0 : Int) ≤ (k : Int) := by omega
      have HE2 : Hid ((if m.L.getD (plc m.n k) 0 = 0 then endN m.n m.L k else k + 1) = endN m.n m.L q) := HE.out
      generalize hpl : plc m.n k = p at *
      have p0 : (0 : Int) ≤ (p : Int) := by omega
      have p1 : (p : Int) < (q : Int) := by omega
      generalize m.L.getD p 0 = v at *
      clear HE hpl h0
      have HK : Hid (k + 1 ≤ q) := he
      clear he hk
      by_cases hv : v = 0
      · have hv2 : (v == 0) = true := by rw [hv]; rfl
        have HE3 : Hid (endN m.n m.L k = endN m.n m.L q) := by have := HE2.out; rw [if_pos hv] at this; exact this
        clear hv HE2
        go_wp2_with fail
        have := HK.out
        go_roundw
        case rel => exact ⟨k, by omega, by go_num, (by first | trivial | rfl), HE3.out⟩
        case measure => simp [intOf]
      · have hv2 : (v == 0) = false := by rw [beq_eq_false_iff_ne]; exact hv
        have HE3 : Hid (k + 1 = endN m.n m.L q) := by have := HE2.out; rw [if_neg hv] at this; exact this
        clear hv HE2
        go_wp2_with fail
        go_ret
        exact ⟨by rw [← HE3.out]; rfl, rfl⟩

end Go.Proofs.YtkmnpechhdendaaGreatDoor

namespace Go.Proofs.YtkmnpechhdendaaGreatDoor
open Go.RowKit L3

theorem good_res {α : Type} {R : α → Prop} (p : Prg α) : ∀ m s, p.Good R m → SOk s → p.Ok s → ∀ a, (p.run s).1 = some a → R a := by
  induction p with
  | ret a => intro m s hg hs ho b e; simp only [Prg.run, Option.some.injEq] at e; subst e; exact hg
  | stop => intro m s hg hs ho b e; simp [Prg.run] at e
  | sym kk cx z k ih => intro m s hg hs ho b e; exact ih _ _ _ (hg.2.2.2 _ (sy_lt hs ho.1.1 ho.1.2.1 ho.1.2.2.2)) (sy_ok hs ho.1.1 ho.1.2.1 ho.1.2.2.2) ho.2 b e
  | bits n z k ih => intro m s hg hs ho b e; exact ih _ _ _ (hg.2.2 _ (bi_lt ho.1.2.2)) (bi_ok hs n z) ho.2 b e
/-- what the loop of amount keeps -/
structure AmG (m : Pm) (K : List Int) (O : Nat → Prop) (w : World) (more : Nat) (a : Int) (r : Option Int × Cs) (g : Nat) (sv pv : Value) (wr : World) : Prop where
  ex : ∃ (k : Nat) (sd pt : Int) (O' : Nat → Prop) (s' : Cs), k + 1 = g ∧ k ≤ 4 ∧ sd = 3 * (4 - (k : Int)) ∧ 0 ≤ pt ∧ pt ≤ 3 ∧ sv = .int .i64 sd ∧ pv = .int .i64 pt ∧ Gd m K O' s' wr ∧ Trn O O' w wr ∧ Below m.lo w wr ∧ (amtL m.col more a k sd pt).Ok s' ∧ (amtL m.col more a k sd pt).run s' = r

set_option maxRecDepth 100000 in
set_option maxHeartbeats 2000000 in
theorem amount_gd {m : Pm} {K : List Int} {O : Nat → Prop} {s : Cs} {w : World} (h : Gd m K O s w) {p : Nat} (hp : p < m.q) {last : Bool} {a : Int} (ha0 : 0 ≤ a) (ha1 : a ≤ 1048576) (hok : (amtP m.col (L10.bas K m.n p).toNat (L10.mor K m.n p).toNat last a).Ok s) :
    Calls Tryz.prog 71 #[.pointer (some ⟨m.b, 0, none⟩), .int .i64 (p : Int), .int .i64 a, .bool last] w fun e w' => Ans m K O w vi ((amtP m.col (L10.bas K m.n p).toNat (L10.mor K m.n p).toNat last a).run s) e w' := by
  unfold amtP at hok ⊢
  obtain ⟨ok1, ok2⟩ := Prg.ok_bind _ _ _ hok
  have HF : Hid (Calls Tryz.prog 102 #[.pointer (some ⟨m.b, 0, none⟩), .int .i64 (p : Int), .int .i64 a, .bool last] w fun e w' => Ans m K O w vi ((fstP m.col (L10.bas K m.n p).toNat last a).run s) e w') := fst_any h hp (by omega) ok1
  have HP : Hid (p < m.q) := hp
  obtain ⟨v, s1, hf⟩ : ∃ v s1, (fstP m.col (L10.bas K m.n p).toNat last a).run s = (some v, s1) := by
    unfold fstP
    cases last
    · exact ⟨_, _, rfl⟩
    · exact ⟨_, _, rfl⟩
  have hv : 0 ≤ v ∧ v ≤ 3 := by
    have hb := bas_le K m.n p
    unfold fstP at hf ok1
    cases last
    · rw [if_neg (by decide)] at hf ok1
      simp only [Prg.run, Prod.mk.injEq, Option.some.injEq] at hf
      have : syA s 28 (5 * m.col + (L10.bas K m.n p).toNat) (min 3 a) < 4 := sy_lt h.cd.so ok1.1.1 ok1.1.2.1 ok1.1.2.2.2
      omega
    · rw [if_pos rfl] at hf ok1
      simp only [Prg.run, Prod.mk.injEq, Option.some.injEq] at hf
      have : syA s 27 m.col (min 3 a - 1) < 3 := sy_lt h.cd.so ok1.1.1 ok1.1.2.1 ok1.1.2.2.2
      omega
  rw [Prg.run_some hf]
  have HO4 : Hid ((amtL m.col (L10.mor K m.n p).toNat a 4 0 v).Ok s1) := ok2 _ _ hf
  rw [hf] at HF
  have HMr : Hid (∀ O' s' u b, Gd m K O' s' u → (morP m.col (L10.mor K m.n p).toNat b).Ok s' → Calls Tryz.prog 104 #[.pointer (some ⟨m.b, 0, none⟩), .int .i64 (p : Int), .int .i64 b] u fun e w' => Ans m K O' u vi ((morP m.col (L10.mor K m.n p).toNat b).run s') e w') := fun O' s' u b hu hb => more_any hu HP.out hb
  generalize (L10.mor K m.n p).toNat = mm at *
  generalize hr : (amtL m.col mm a 4 0 v).run s1 = r at *
  have HR : Hid ((amtL m.col mm a 4 0 v).run s1 = r) := hr
  clear h hp hok ok1 ok2 hf hr
  go_enter Tryz.func71, Tryz.ntmps71
  go_wp2
  go_step3
  go_wp2_with fail
  refine HF.out.mono ?_
  rintro e w1 ⟨ht, hm⟩
  obtain rfl := ht.1 _ rfl
  simp only [vi]
  obtain ⟨O1, g1, t1, b1⟩ := hm
  have HS : Hid (AmG m K O w mm a r 5 (.int .i64 0) (.int .i64 v) w1) := ⟨4, 0, v, O1, s1, rfl, by omega, by omega, hv.1, hv.2, rfl, rfl, g1, t1, b1, HO4.out, HR.out⟩
  clear ht g1 t1 b1 HF HO4 HR hv
  go_wp2_with fail
  go_step3
  go_wp2_with fail
  go_loopg [9, 10] 5 (fun g sv pv wr => AmG m K O w mm a r g sv pv wr)
  case atStart => exact HS.out
  case round =>
    obtain ⟨k, sd, pt, O', s', hg, hk4, hsd, p0, p3, rfl, rfl, gd, ht, hb, hok, hrun⟩ := hrel
    have HG : Hid (Gd m K O' s' wr) := gd
    have HT : Hid (Trn O O' w wr) := ht
    have HB : Hid (Below m.lo w wr) := hb
    clear gd ht hb HS
    by_cases hlt : pt < 3
    · have HRn : Hid (r = (some (sd + pt), s')) := by
        show r = _
        cases k
        · rw [amtL, if_pos hlt] at hrun; exact hrun.symm
        · rw [amtL, if_pos hlt] at hrun; exact hrun.symm
      clear hok hrun
      have b0 : 0 ≤ sd + pt := by omega
      have b1 : sd + pt ≤ 15 := by omega
      clear hsd hk4 hg
      go_wp2_with fail
      go_ret
      show Ans m K O w vi r _ _
      rw [HRn.out]
      exact ⟨Tel.some, _, HG.out, HT.out, HB.out⟩
    · obtain rfl : pt = 3 := by omega
      cases k with
      | zero =>
        obtain rfl : sd = 12 := by omega
        rw [amtL, if_neg hlt] at hok hrun
        obtain ⟨ok1, -⟩ := Prg.ok_bind _ _ _ hok
        obtain ⟨X, hX⟩ : ∃ X, a - 15 + 1 = X := ⟨_, rfl⟩
        rw [show a - (12 + 3) + 1 = X by omega] at ok1 hrun
        have HL : Hid (Calls Tryz.prog 103 #[.pointer (some ⟨m.b, 0, none⟩), .int .i64 X] wr fun e w' => Ans m K O' wr vi ((lenP X).run s') e w') := length_any HG.out (by omega) (by omega) ok1
        have hres : ∀ l s2, (lenP X).run s' = (some l, s2) → 1 ≤ l ∧ l < 2097152 := fun l s2 e => good_res _ 41 _ (len_good X 21 0 rfl) HG.out.cd.so ok1 l (by rw [show lenL X 21 0 = lenP X from rfl, e])
        rcases hlr : (lenP X).run s' with ⟨l | l, s2⟩
        · rw [hlr] at HL
          have HRn : Hid (r = (none, s2)) := by show r = _; rw [← hrun]; exact Prg.run_none hlr
          clear hok hrun ok1 hlr hres hg hsd hlt p0 p3 hk4
          go_wp2_with fail
          refine HL.out.mono ?_
          rintro e w2 ⟨ht2, hm2⟩
          obtain rfl := ht2.2 rfl
          have HM : Hid (Mv m K O w w2 s2) := Mv.trans HT.out HB.out hm2
          clear ht2 hm2
          unfold stp4
          dsimp only
          go_wp2_with fail
          refine ⟨rfl, ?_⟩
          show Ans m K O w vi r stp4 _
          rw [HRn.out]
          exact ⟨Tel.none, HM.out⟩
        · rw [hlr] at HL
          obtain ⟨l0, l1⟩ := hres l s2 hlr
          have HRn : Hid (r = (some (12 + 3 + (l - 1)), s2)) := by show r = _; rw [← hrun]; exact Prg.run_some hlr
          clear hok hrun ok1 hlr hres hg hsd hlt p0 p3 hk4
          go_wp2_with fail
          refine HL.out.mono ?_
          rintro e w2 ⟨ht2, hm2⟩
          obtain rfl := ht2.1 _ rfl
          simp only [vi]
          have HM : Hid (Mv m K O w w2 s2) := Mv.trans HT.out HB.out hm2
          clear ht2 hm2
          go_wp2_with fail
          go_ret
          show Ans m K O w vi r _ _
          rw [HRn.out]
          exact ⟨Tel.some, HM.out⟩
      | succ k =>
        rw [amtL, if_neg hlt] at hok hrun
        obtain ⟨ok1, ok2⟩ := Prg.ok_bind _ _ _ hok
        obtain ⟨X, hX⟩ : ∃ X, a - (sd + 3) = X := ⟨_, rfl⟩
        rw [hX] at ok1 ok2 hrun
        have HL : Hid (Calls Tryz.prog 104 #[.pointer (some ⟨m.b, 0, none⟩), .int .i64 (p : Int), .int .i64 X] wr fun e w' => Ans m K O' wr vi ((morP m.col mm X).run s') e w') := HMr.out _ _ _ _ HG.out ok1
        have hpq : 0 ≤ ((syA s' 29 (7 * m.col + mm) (min 3 X) : Nat) : Int) ∧ ((syA s' 29 (7 * m.col + mm) (min 3 X) : Nat) : Int) ≤ 3 := by
          have : syA s' 29 (7 * m.col + mm) (min 3 X) < 4 := sy_lt HG.out.cd.so ok1.1.1 ok1.1.2.1 ok1.1.2.2.2
          omega
        obtain ⟨q, hq⟩ : ∃ q : Int, ((syA s' 29 (7 * m.col + mm) (min 3 X) : Nat) : Int) = q := ⟨_, rfl⟩
        obtain ⟨s2, hs2⟩ : ∃ s2, syN s' 29 (7 * m.col + mm) (syA s' 29 (7 * m.col + mm) (min 3 X)) = s2 := ⟨_, rfl⟩
        have hlr : (morP m.col mm X).run s' = (some q, s2) := by rw [← hq, ← hs2]; rfl
        rw [hq] at hpq
        rw [hlr] at HL
        have HRn : Hid ((amtL m.col mm a k (sd + 3) q).run s2 = r) := by show _ = r; rw [← hrun]; exact (Prg.run_some hlr).symm
        have HOn : Hid ((amtL m.col mm a k (sd + 3) q).Ok s2) := ok2 _ _ hlr
        have HK : Hid (k + 1 ≤ 4 ∧ sd = 3 * (4 - ((k + 1 : Nat) : Int)) ∧ k + 1 + 1 = gk) := ⟨hk4, hsd, hg⟩
        have b0 : 0 ≤ sd + 3 := by omega
        have b1 : sd + 3 ≤ 12 := by omega
        have b2 : ((sd + 3) == 15) = false := by rw [beq_eq_false_iff_ne]; omega
        clear hok hrun ok1 ok2 hlr hq hs2 hk4 hsd hlt p0 p3 hg
        go_wp2_with fail
        refine HL.out.mono ?_
        rintro e w2 ⟨ht2, hm2⟩
        obtain rfl := ht2.1 _ rfl
        simp only [vi]
        have HM : Hid (Mv m K O w w2 s2) := Mv.trans HT.out HB.out hm2
        clear ht2 hm2
        go_wp2_with fail
        obtain ⟨k1, k2, k3⟩ := HK.out
        obtain ⟨O2, g2, t2, bb2⟩ := HM.out
        go_roundg (k + 1)
        case rel => exact ⟨k, sd + 3, q, O2, s2, by omega, by omega, by omega, hpq.1, hpq.2, by go_num, rfl, g2, t2, bb2, HOn.out, HRn.out⟩
        case measure => omega

/-- what a class says of the ends that have it -/
theorem cls_two {c : Nat} (h : c ≤ 10) : cls ((2 ^ c : Nat) : Int) = c ∧ L10.Cl ((2 ^ c : Nat) : Int) c ∧ ((2 ^ c : Nat) : Int) ≤ 1024 ∧ 1 ≤ ((2 ^ c : Nat) : Int) ∧ L10.clB c = ((c - 1 : Nat) : Int) ∧ ((2 ^ c : Nat) : Int) - L10.clE ((2 ^ c : Nat) : Int) c = (clLo c : Int) ∧ 0 ≤ L10.clE ((2 ^ c : Nat) : Int) c ∧ L10.clE ((2 ^ c : Nat) : Int) c ≤ 1024 := by
  have e : ((2 ^ c : Nat) : Int) = 2 ^ c := by simp
  have hp := L10.pow_at h
  have hcl : L10.Cl ((2 ^ c : Nat) : Int) c := ⟨h, by rw [e]; exact Int.le_refl _, fun k hk => by
    rw [e]
    have h1 : 2 ^ k < 2 ^ c := Nat.pow_lt_pow_right (by omega) hk
    have e2 : (2 : Int) ^ k = ((2 ^ k : Nat) : Int) := by simp
    rw [e2, ← e]; omega⟩
  refine ⟨(cls_cl (by rw [e]; exact hp.2)).uniq hcl, hcl, by rw [e]; exact hp.2, by rw [e]; exact hp.1, ?_, ?_, ?_, ?_⟩
  · unfold L10.clB
    split
    · next e0 => subst e0; rfl
    · omega
  · unfold L10.clE clLo
    split
    · next e0 => subst e0; rfl
    · have e3 : ((2 ^ (c - 1) + 1 : Nat) : Int) = 2 ^ (c - 1) + 1 := by simp
      rw [e, e3]; omega
  · unfold L10.clE
    split
    · omega
    · next e0 =>
      obtain ⟨d, rfl⟩ : ∃ d, c = d + 1 := ⟨c - 1, by omega⟩
      rw [e, Int.pow_succ, Nat.add_sub_cancel]
      have : (0 : Int) < 2 ^ d := Int.pow_pos (by omega)
      omega
  · unfold L10.clE
    split
    · omega
    · have : (0 : Int) < 2 ^ (c - 1) := Int.pow_pos (by omega)
      rw [e]; omega
def vn (a : Nat) : Value := .int .i64 (a : Int)

set_option maxRecDepth 100000 in
set_option maxHeartbeats 2000000 in
theorem end_any {m : Pm} {K : List Int} {O : Nat → Prop} {s : Cs} {w : World} (h : Gd m K O s w) {e : Nat} (he : e ≤ m.q) (hok : (endP m.z m.col e).Ok s) :
    Calls Tryz.prog 69 #[.pointer (some ⟨m.b, 0, none⟩), .int .i64 (e : Int)] w fun en w' => Ans m K O w vn ((endP m.z m.col e).run s) en w' := by
  have hq : m.q ≤ 1024 := by rw [h.hq]; exact h.sz.sd.sq
  obtain ⟨c, hcx⟩ : ∃ c : Nat, 2 * m.col + (if 8 < m.z then 1 else 0) = c := ⟨_, rfl⟩
  have hcc : (c : Int) ≤ 3 := by have := h.hc; split at hcx <;> omega
  unfold endP at hok ⊢
  rw [hcx] at hok ⊢
  have hv := hok.1
  have hok2 := hok.2
  have HSy : Hid (∀ u, Gd m K O s u → Calls Tryz.prog 60 #[.pointer (some ⟨m.x, 0, none⟩), .int .i64 (22 : Nat), .int .i64 (c : Nat), .int .i64 (bt (e = 0))] u fun e' w' => e' = .returned (.tuple #[.int .i64 (syA s 22 c (bt (e = 0)) : Nat), .int .i64 0]) ∧ Mv m K O u w' (syN s 22 c (syA s 22 c (bt (e = 0))))) := fun u hu => symbol_gd hu hv
  have HBt : Hid (bt (((e : Int) == 0) = true) = bt (e = 0)) := by
    show bt _ = bt _
    unfold bt
    by_cases e0 : e = 0
    · subst e0; rfl
    · rw [if_neg e0, if_neg (by rw [beq_iff_eq]; omega)]
  obtain ⟨r, hr⟩ : ∃ r, ((Prg.sym 22 c (bt (e = 0)) fun v => if v = 1 then Prg.ret 0 else .sym (endK m.z) m.col (cls ((max e 1 : Nat) : Int)) fun cc => .bits (cc - 1) (L10.clE ((max e 1 : Nat) : Int) (cls ((max e 1 : Nat) : Int))) fun u => .ret (clLo cc + u)).run s) = r := ⟨_, rfl⟩
  rw [hr]
  have hrun : (if syA s 22 c (bt (e = 0)) = 1 then Prg.ret 0 else .sym (endK m.z) m.col (cls ((max e 1 : Nat) : Int)) fun cc => .bits (cc - 1) (L10.clE ((max e 1 : Nat) : Int) (cls ((max e 1 : Nat) : Int))) fun u => .ret (clLo cc + u)).run (syN s 22 c (syA s 22 c (bt (e = 0)))) = r := hr
  have hok3 : (if syA s 22 c (bt (e = 0)) = 1 then Prg.ret 0 else .sym (endK m.z) m.col (cls ((max e 1 : Nat) : Int)) fun cc => .bits (cc - 1) (L10.clE ((max e 1 : Nat) : Int) (cls ((max e 1 : Nat) : Int))) fun u => .ret (clLo cc + u)).Ok (syN s 22 c (syA s 22 c (bt (e = 0)))) := hok2
  obtain ⟨E, hE⟩ : ∃ E : Nat, max e 1 = E := ⟨_, rfl⟩
  rw [hE] at hrun hok3
  have hE2 : max (e : Int) 1 = (E : Int) := by omega
  have HCl : Hid (∀ u : World, Calls Tryz.prog 100 #[.int .i64 (E : Int)] u fun e w' => e = .returned (.tuple #[.int .i64 (cls (E : Int) : Int), .int .i64 (L10.clB (cls (E : Int))), .int .i64 (L10.clE (E : Int) (cls (E : Int))), .int .i64 0]) ∧ Below u.heap.size u w') := fun u => L10.class_yes (by omega) (by omega) (cls_cl (by omega))
  have HEk : Hid (∀ u : World, Calls Tryz.prog 101 #[.int .i64 m.z] u fun e w' => e = .returned (.int .i64 (endK m.z : Nat)) ∧ w' = u) := fun u => endKind_any h.sz
  obtain ⟨k1, k2, k3, k4, k5⟩ := endK_in h.sz
  have HC : Hid (∀ O' s' u, Gd m K O' s' u → (u.cell? ⟨m.b, 0, none⟩ = some (.pointer (some ⟨m.x, 0, none⟩)) ∧ u.cell? ⟨m.b, 1, none⟩ = some (.int .i64 m.z) ∧ u.cell? ⟨m.b, 2, none⟩ = some (.int .i64 (m.col : Int)))) := fun O' s' u hu => ⟨hu.bb.c0, hu.bb.c1, hu.bb.c2⟩
  have HLo : Hid (m.lo ≤ w.heap.size) := lo_le h
  have HG : Hid (Gd m K O s w.drew) := h.drew
  have HB : Hid (Below w.heap.size w w.drew) := L10.below_drew (Below.refl _ _)
  have HSo : Hid (SOk s) := h.cd.so
  obtain ⟨f0, f1, f2⟩ := HC.out _ _ _ h
  obtain ⟨g0, g1, g2⟩ := HC.out _ _ _ HG.out
  obtain ⟨c2, hc2⟩ : ∃ c2 : Nat, 2 * m.col = c2 := ⟨_, rfl⟩
  have hc3 : (2 : Int) * (m.col : Int) = (c2 : Int) := by omega
  have hc4 : (c2 : Int) ≤ 3 := by have := h.hc; omega
  have HK5 : Hid (endK m.z < 32 ∧ sC (endK m.z) = 2 ∧ sV (endK m.z) ≤ 11) := ⟨k1, k2, k5⟩
  have HR2 : Hid _ := hrun
  have HO2 : Hid _ := hok3
  clear hok hok2 hv hr hrun hok3 hE k1 k2 k3 k4 k5
  generalize syA s 22 c (bt (e = 0)) = v at *
  generalize bt (e = 0) = zz at *
  by_cases h8 : 8 < m.z
  · have hcc2 : (c2 : Int) + 1 = (c : Int) := by rw [if_pos h8] at hcx; omega
    clear hcx h hc2
    go_enter Tryz.func69, Tryz.ntmps69
    go_wp2_with fail
    go_region_held3 (fun u => u.cell? ⟨m.b, 0, none⟩ = some (.pointer (some ⟨m.x, 0, none⟩)))
      ((exact (HC.out _ _ _ (by assumption)).1))
      (first
        | (go_at_call 99; refine bit_any.mono ?_; rintro e wC ⟨rfl, rfl⟩; rw [HBt.out])
        | (go_at_call 60; refine (HSy.out _ HG.out).mono ?_; rintro e wA ⟨rfl, hmA⟩; have HM : Hid (Mv m K O w wA (syN s 22 c v)) := Mv.behind HLo.out HB.out hmA; obtain ⟨OA, gA, tA, bA⟩ := hmA)
        | (go_at_call 98; refine told_ok.mono ?_; rintro e wB ⟨rfl, rfl⟩))
    obtain ⟨O1, gd1, t1, b1⟩ := HM.out
    have HG1 : Hid (Gd m K O1 (syN s 22 c v) wB) := gd1
    have HT1 : Hid (Trn O O1 w wB) := t1
    have HB1 : Hid (Below m.lo w wB) := b1
    clear gd1 t1 b1 HSy
    by_cases hv1 : v = 1
    · have hvt : ((v : Int) == 1) = true := by rw [hv1]; rfl
      have HRn : Hid (r = (some 0, syN s 22 c v)) := by show r = _; rw [← HR2.out, if_pos hv1]; rfl
      clear HR2 HO2 hv1
      go_wp2_with fail
      go_ret
      show Ans m K O w vn r _ _
      rw [HRn.out]
      exact ⟨Tel.some, HM.out⟩
    · have hvf : ((v : Int) == 1) = false := by rw [beq_eq_false_iff_ne]; omega
      have hO3 := HO2.out
      have hR3 := HR2.out
      rw [if_neg hv1] at hO3 hR3
      have hv3 := hO3.1
      generalize syN s 22 c v = s1 at *
      generalize hcE : cls (E : Int) = cE at *
      have hlt : syA s1 (endK m.z) m.col (cE : Int) < sV (endK m.z) := sy_lt HG1.out.cd.so hv3.1 hv3.2.1 hv3.2.2.2
      have HS2 : Hid (∀ u, Gd m K O1 s1 u → Calls Tryz.prog 60 #[.pointer (some ⟨m.x, 0, none⟩), .int .i64 (endK m.z : Nat), .int .i64 (m.col : Nat), .int .i64 (cE : Int)] u fun e' w' => e' = .returned (.tuple #[.int .i64 (syA s1 (endK m.z) m.col (cE : Int) : Nat), .int .i64 0]) ∧ Mv m K O1 u w' (syN s1 (endK m.z) m.col (syA s1 (endK m.z) m.col (cE : Int)))) := fun u hu => symbol_gd hu hv3
      have hO4 := hO3.2
      have hR4 : (Prg.bits (syA s1 (endK m.z) m.col (cE : Int) - 1) (L10.clE (E : Int) cE) fun u => Prg.ret (clLo (syA s1 (endK m.z) m.col (cE : Int)) + u)).run (syN s1 (endK m.z) m.col (syA s1 (endK m.z) m.col (cE : Int))) = r := hR3
      have hO5 : (Prg.bits (syA s1 (endK m.z) m.col (cE : Int) - 1) (L10.clE (E : Int) cE) fun u => Prg.ret (clLo (syA s1 (endK m.z) m.col (cE : Int)) + u)).Ok (syN s1 (endK m.z) m.col (syA s1 (endK m.z) m.col (cE : Int))) := hO4
      have hc10 : syA s1 (endK m.z) m.col (cE : Int) ≤ 10 := by have := HK5.out.2.2; omega
      generalize syA s1 (endK m.z) m.col (cE : Int) = cc at *
      generalize L10.clE (E : Int) cE = xe at *
      generalize L10.clB cE = xb at *
      obtain ⟨-, q2, q3, q4, q5, q6, q7, q8⟩ := cls_two hc10
      have HC2 : Hid (∀ u : World, Calls Tryz.prog 100 #[.int .i64 ((2 ^ cc : Nat) : Int)] u fun e w' => e = .returned (.tuple #[.int .i64 (cc : Int), .int .i64 (L10.clB cc), .int .i64 (L10.clE ((2 ^ cc : Nat) : Int) cc), .int .i64 0]) ∧ Below u.heap.size u w') := fun u => L10.class_yes q4 q3 q2
      have hG1 : (1 : Int) * 2 ^ cc = ((2 ^ cc : Nat) : Int) := by simp
      have hcl5 : clLo cc ≤ 513 := by
        unfold clLo
        split
        · omega
        · have : 2 ^ (cc - 1) ≤ 2 ^ 9 := Nat.pow_le_pow_right (by omega) (by omega)
          omega
      generalize 2 ^ cc = G at *
      rw [q5] at HC2
      generalize L10.clE (G : Int) cc = oth at *
      have hv5 := hO5.1
      generalize hn : cc - 1 = nb at *
      have hn9 : nb ≤ 9 := by omega
      generalize clLo cc = cl at *
      generalize syN s1 (endK m.z) m.col cc = s2 at *
      have HS5 : Hid (∀ O' u, Gd m K O' s2 u → Calls Tryz.prog 38 #[.pointer (some ⟨m.x, 0, none⟩), .int .i64 (nb : Nat), .int .i64 xe] u fun e w' => e = .returned (.tuple #[.int .i64 (biA s2 nb xe : Nat), .int .i64 0]) ∧ Mv m K O' u w' (biN s2 nb (biA s2 nb xe))) := fun O' u hu => bits_gd hu hv5
      have hul : biA s2 nb xe < 2 ^ 9 := by
        have h1 := bi_lt (s := s2) (n := nb) (z := xe) hv5.2.2
        have h2 : 2 ^ nb ≤ 2 ^ 9 := Nat.pow_le_pow_right (by omega) hn9
        omega
      have HRn : Hid (r = (some (cl + biA s2 nb xe), biN s2 nb (biA s2 nb xe))) := hR4.symm
      generalize biA s2 nb xe = ub at *
      have hu1 : (ub : Int) ≤ 512 := by omega
      have hu0 : (0 : Int) ≤ (ub : Int) := by omega
      have hcc0 : (0 : Int) ≤ (cc : Int) := by omega
      have hcc1 : (cc : Int) < 64 := by omega
      have hcl6 : (cl : Int) ≤ 513 := by omega
      have hcl7 : (0 : Int) ≤ (cl : Int) := by omega
      clear HR2 HO2 hv1 hO3 hR3 hv3 hlt hO4 hR4 hO5 hv5 hc10 q2 q5 hcl5 hul hn hcE hn9
      go_wp2_with fail
      refine (HCl.out _).mono ?_
      rintro e w3 ⟨rfl, hb3⟩
      have HG3 : Hid (Gd m K O1 s1 w3.drew) := (HG1.out.to hb3).drew
      have HLo3 : Hid (m.lo ≤ wB.heap.size) := lo_le HG1.out
      have HB3 : Hid (Below wB.heap.size wB w3.drew) := L10.below_drew hb3
      clear hb3
      go_wp2_with fail
      obtain ⟨y0, y1, y2⟩ := HC.out _ _ _ HG3.out
      go_region_held3 (fun u => u.cell? ⟨m.b, 0, none⟩ = some (.pointer (some ⟨m.x, 0, none⟩)) ∧ u.cell? ⟨m.b, 1, none⟩ = some (.int .i64 m.z) ∧ u.cell? ⟨m.b, 2, none⟩ = some (.int .i64 (m.col : Int)))
        ((first | assumption | exact ⟨y0, y1, y2⟩ | exact HC.out _ _ _ (by assumption)))
        (first
          | (go_at_call 101; refine (HEk.out _).mono ?_; rintro e wC2 ⟨rfl, rfl⟩)
          | (go_at_call 60; refine (HS2.out _ HG3.out).mono ?_; rintro e wD ⟨rfl, hmD⟩; have HM2 : Hid (Mv m K O1 wB wD s2) := Mv.behind HLo3.out HB3.out hmD; obtain ⟨OD, gD, tD, bD⟩ := hmD)
          | (go_at_call 98; refine told_ok.mono ?_; rintro e wE ⟨rfl, rfl⟩))
      obtain ⟨O2, gd2, t2, b2⟩ := HM2.out
      have HG2 : Hid (Gd m K O2 s2 wE) := gd2
      have HT2 : Hid (Trn O O2 w wE) := HT1.out.trans t2
      have HB2 : Hid (Below m.lo w wE) := HB1.out.trans b2
      clear gd2 t2 b2 HM2 gD tD bD
      go_wp2_with fail
      refine (HC2.out _).mono ?_
      rintro e w5 ⟨rfl, hb5⟩
      have HG5 : Hid (Gd m K O2 s2 w5) := HG2.out.to hb5
      have HB5 : Hid (Below wE.heap.size wE w5) := hb5
      have HLo5 : Hid (m.lo ≤ wE.heap.size) := lo_le HG2.out
      obtain ⟨x0, -, -⟩ := HC.out _ _ _ HG5.out
      clear hb5
      go_wp2_with fail
      refine (HS5.out _ _ HG5.out).mono ?_
      rintro e w6 ⟨rfl, hm6⟩
      have HM6 : Hid (Mv m K O w w6 (biN s2 nb ub)) := Mv.trans HT2.out HB2.out (Mv.behind HLo5.out HB5.out hm6)
      clear hm6
      go_wp2_with fail
      refine told_ok.mono ?_
      rintro e w7 ⟨rfl, rfl⟩
      go_wp2_with fail
      go_ret
      show Ans m K O w vn r _ _
      rw [HRn.out]
      refine ⟨⟨fun a ea => ?_, fun ea => by cases ea⟩, HM6.out⟩
      simp only [Option.some.injEq] at ea
      subst ea
      show Ending.returned (.int .i64 _) = Ending.returned (.int .i64 _)
      congr 2
  · have hcc2 : (c2 : Int) = (c : Int) := by rw [if_neg h8] at hcx; omega
    clear hcx h hc2
    go_enter Tryz.func69, Tryz.ntmps69
    go_wp2_with fail
    go_region_held3 (fun u => u.cell? ⟨m.b, 0, none⟩ = some (.pointer (some ⟨m.x, 0, none⟩)))
      ((exact (HC.out _ _ _ (by assumption)).1))
      (first
        | (go_at_call 99; refine bit_any.mono ?_; rintro e wC ⟨rfl, rfl⟩; rw [HBt.out])
        | (go_at_call 60; refine (HSy.out _ HG.out).mono ?_; rintro e wA ⟨rfl, hmA⟩; have HM : Hid (Mv m K O w wA (syN s 22 c v)) := Mv.behind HLo.out HB.out hmA; obtain ⟨OA, gA, tA, bA⟩ := hmA)
        | (go_at_call 98; refine told_ok.mono ?_; rintro e wB ⟨rfl, rfl⟩))
    obtain ⟨O1, gd1, t1, b1⟩ := HM.out
    have HG1 : Hid (Gd m K O1 (syN s 22 c v) wB) := gd1
    have HT1 : Hid (Trn O O1 w wB) := t1
    have HB1 : Hid (Below m.lo w wB) := b1
    clear gd1 t1 b1 HSy
    by_cases hv1 : v = 1
    · have hvt : ((v : Int) == 1) = true := by rw [hv1]; rfl
      have HRn : Hid (r = (some 0, syN s 22 c v)) := by show r = _; rw [← HR2.out, if_pos hv1]; rfl
      clear HR2 HO2 hv1
      go_wp2_with fail
      go_ret
      show Ans m K O w vn r _ _
      rw [HRn.out]
      exact ⟨Tel.some, HM.out⟩
    · have hvf : ((v : Int) == 1) = false := by rw [beq_eq_false_iff_ne]; omega
      have hO3 := HO2.out
      have hR3 := HR2.out
      rw [if_neg hv1] at hO3 hR3
      have hv3 := hO3.1
      generalize syN s 22 c v = s1 at *
      generalize hcE : cls (E : Int) = cE at *
      have hlt : syA s1 (endK m.z) m.col (cE : Int) < sV (endK m.z) := sy_lt HG1.out.cd.so hv3.1 hv3.2.1 hv3.2.2.2
      have HS2 : Hid (∀ u, Gd m K O1 s1 u → Calls Tryz.prog 60 #[.pointer (some ⟨m.x, 0, none⟩), .int .i64 (endK m.z : Nat), .int .i64 (m.col : Nat), .int .i64 (cE : Int)] u fun e' w' => e' = .returned (.tuple #[.int .i64 (syA s1 (endK m.z) m.col (cE : Int) : Nat), .int .i64 0]) ∧ Mv m K O1 u w' (syN s1 (endK m.z) m.col (syA s1 (endK m.z) m.col (cE : Int)))) := fun u hu => symbol_gd hu hv3
      have hO4 := hO3.2
      have hR4 : (Prg.bits (syA s1 (endK m.z) m.col (cE : Int) - 1) (L10.clE (E : Int) cE) fun u => Prg.ret (clLo (syA s1 (endK m.z) m.col (cE : Int)) + u)).run (syN s1 (endK m.z) m.col (syA s1 (endK m.z) m.col (cE : Int))) = r := hR3
      have hO5 : (Prg.bits (syA s1 (endK m.z) m.col (cE : Int) - 1) (L10.clE (E : Int) cE) fun u => Prg.ret (clLo (syA s1 (endK m.z) m.col (cE : Int)) + u)).Ok (syN s1 (endK m.z) m.col (syA s1 (endK m.z) m.col (cE : Int))) := hO4
      have hc10 : syA s1 (endK m.z) m.col (cE : Int) ≤ 10 := by have := HK5.out.2.2; omega
      generalize syA s1 (endK m.z) m.col (cE : Int) = cc at *
      generalize L10.clE (E : Int) cE = xe at *
      generalize L10.clB cE = xb at *
      obtain ⟨-, q2, q3, q4, q5, q6, q7, q8⟩ := cls_two hc10
      have HC2 : Hid (∀ u : World, Calls Tryz.prog 100 #[.int .i64 ((2 ^ cc : Nat) : Int)] u fun e w' => e = .returned (.tuple #[.int .i64 (cc : Int), .int .i64 (L10.clB cc), .int .i64 (L10.clE ((2 ^ cc : Nat) : Int) cc), .int .i64 0]) ∧ Below u.heap.size u w') := fun u => L10.class_yes q4 q3 q2
      have hG1 : (1 : Int) * 2 ^ cc = ((2 ^ cc : Nat) : Int) := by simp
      have hcl5 : clLo cc ≤ 513 := by
        unfold clLo
        split
        · omega
        · have : 2 ^ (cc - 1) ≤ 2 ^ 9 := Nat.pow_le_pow_right (by omega) (by omega)
          omega
      generalize 2 ^ cc = G at *
      rw [q5] at HC2
      generalize L10.clE (G : Int) cc = oth at *
      have hv5 := hO5.1
      generalize hn : cc - 1 = nb at *
      have hn9 : nb ≤ 9 := by omega
      generalize clLo cc = cl at *
      generalize syN s1 (endK m.z) m.col cc = s2 at *
      have HS5 : Hid (∀ O' u, Gd m K O' s2 u → Calls Tryz.prog 38 #[.pointer (some ⟨m.x, 0, none⟩), .int .i64 (nb : Nat), .int .i64 xe] u fun e w' => e = .returned (.tuple #[.int .i64 (biA s2 nb xe : Nat), .int .i64 0]) ∧ Mv m K O' u w' (biN s2 nb (biA s2 nb xe))) := fun O' u hu => bits_gd hu hv5
      have hul : biA s2 nb xe < 2 ^ 9 := by
        have h1 := bi_lt (s := s2) (n := nb) (z := xe) hv5.2.2
        have h2 : 2 ^ nb ≤ 2 ^ 9 := Nat.pow_le_pow_right (by omega) hn9
        omega
      have HRn : Hid (r = (some (cl + biA s2 nb xe), biN s2 nb (biA s2 nb xe))) := hR4.symm
      generalize biA s2 nb xe = ub at *
      have hu1 : (ub : Int) ≤ 512 := by omega
      have hu0 : (0 : Int) ≤ (ub : Int) := by omega
      have hcc0 : (0 : Int) ≤ (cc : Int) := by omega
      have hcc1 : (cc : Int) < 64 := by omega
      have hcl6 : (cl : Int) ≤ 513 := by omega
      have hcl7 : (0 : Int) ≤ (cl : Int) := by omega
      clear HR2 HO2 hv1 hO3 hR3 hv3 hlt hO4 hR4 hO5 hv5 hc10 q2 q5 hcl5 hul hn hcE hn9
      go_wp2_with fail
      refine (HCl.out _).mono ?_
      rintro e w3 ⟨rfl, hb3⟩
      have HG3 : Hid (Gd m K O1 s1 w3.drew) := (HG1.out.to hb3).drew
      have HLo3 : Hid (m.lo ≤ wB.heap.size) := lo_le HG1.out
      have HB3 : Hid (Below wB.heap.size wB w3.drew) := L10.below_drew hb3
      clear hb3
      go_wp2_with fail
      obtain ⟨y0, y1, y2⟩ := HC.out _ _ _ HG3.out
      go_region_held3 (fun u => u.cell? ⟨m.b, 0, none⟩ = some (.pointer (some ⟨m.x, 0, none⟩)) ∧ u.cell? ⟨m.b, 1, none⟩ = some (.int .i64 m.z) ∧ u.cell? ⟨m.b, 2, none⟩ = some (.int .i64 (m.col : Int)))
        ((first | assumption | exact ⟨y0, y1, y2⟩ | exact HC.out _ _ _ (by assumption)))
        (first
          | (go_at_call 101; refine (HEk.out _).mono ?_; rintro e wC2 ⟨rfl, rfl⟩)
          | (go_at_call 60; refine (HS2.out _ HG3.out).mono ?_; rintro e wD ⟨rfl, hmD⟩; have HM2 : Hid (Mv m K O1 wB wD s2) := Mv.behind HLo3.out HB3.out hmD; obtain ⟨OD, gD, tD, bD⟩ := hmD)
          | (go_at_call 98; refine told_ok.mono ?_; rintro e wE ⟨rfl, rfl⟩))
      obtain ⟨O2, gd2, t2, b2⟩ := HM2.out
      have HG2 : Hid (Gd m K O2 s2 wE) := gd2
      have HT2 : Hid (Trn O O2 w wE) := HT1.out.trans t2
      have HB2 : Hid (Below m.lo w wE) := HB1.out.trans b2
      clear gd2 t2 b2 HM2 gD tD bD
      go_wp2_with fail
      refine (HC2.out _).mono ?_
      rintro e w5 ⟨rfl, hb5⟩
      have HG5 : Hid (Gd m K O2 s2 w5) := HG2.out.to hb5
      have HB5 : Hid (Below wE.heap.size wE w5) := hb5
      have HLo5 : Hid (m.lo ≤ wE.heap.size) := lo_le HG2.out
      obtain ⟨x0, -, -⟩ := HC.out _ _ _ HG5.out
      clear hb5
      go_wp2_with fail
      refine (HS5.out _ _ HG5.out).mono ?_
      rintro e w6 ⟨rfl, hm6⟩
      have HM6 : Hid (Mv m K O w w6 (biN s2 nb ub)) := Mv.trans HT2.out HB2.out (Mv.behind HLo5.out HB5.out hm6)
      clear hm6
      go_wp2_with fail
      refine told_ok.mono ?_
      rintro e w7 ⟨rfl, rfl⟩
      go_wp2_with fail
      go_ret
      show Ans m K O w vn r _ _
      rw [HRn.out]
      refine ⟨⟨fun a ea => ?_, fun ea => by cases ea⟩, HM6.out⟩
      simp only [Option.some.injEq] at ea
      subst ea
      show Ending.returned (.int .i64 _) = Ending.returned (.int .i64 _)
      congr 2

end Go.Proofs.YtkmnpechhdendaaGreatDoor
