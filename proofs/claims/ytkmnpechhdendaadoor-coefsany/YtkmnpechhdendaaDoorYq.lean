/- DERIVED. Blocks that are written, one behind the other, and read. -/
import Derived.Test.YtkmnpechhdendaaDoorYl
import Derived.Test.YtkmnpechhdendaaDoorOp
namespace Go.Proofs.YtkmnpechhdendaaDoor
open Go.RowKit L3

def kf (d : Dd) : Nat := (d.a % 5).toNat
def zf (d : Dd) : Int := (4 : Int) * 2 ^ kf d
def nf (d : Dd) : Nat := (min (zf d) 32).toNat
def plf (d : Dd) : Nat := (d.b % 3).toNat
def sgf (d : Dd) : Nat := (d.c % 3).toNat
def qf (d : Dd) : Nat := nf d * nf d
def Lf (d : Dd) : List Int := myL d.L (qf d) (qf d)
theorem dd_of (d : Dd) : d.a % 5 = (kf d : Int) ∧ kf d < 5 ∧ L10.Sz (zf d) (nf d) ∧ min (zf d) 32 = (nf d : Int) ∧ d.b % 3 = (plf d : Int) ∧ plf d ≤ 2 ∧ d.c % 3 = (sgf d : Int) ∧ sgf d ≤ 2 := by
  obtain ⟨k, n, z, h1, hk, h2, hz, h3⟩ := size_of d.a
  obtain ⟨pl, h4, hpl⟩ := three_of d.b
  obtain ⟨sg, h5, hsg⟩ := three_of d.c
  have e1 : kf d = k := by unfold kf; omega
  have e2 : zf d = z := by unfold zf; rw [e1]; exact h2
  have e3 : nf d = n := by unfold nf; rw [e2]; omega
  have e4 : plf d = pl := by unfold plf; omega
  have e5 : sgf d = sg := by unfold sgf; omega
  rw [e1, e2, e3, e4, e5]
  exact ⟨h1, hk, hz, h3, h4, hpl, h5, hsg⟩
def bw (d : Dd) : Prg (List Int) := cw (zf d) (nf d) (min (plf d) 1) (sgf d) (Lf d)
def br (d : Dd) : Prg (List Int) := cr (zf d) (nf d) (min (plf d) 1) (sgf d)
noncomputable def wev (ad : Bool) (L : List Dd) : Nat → Cs
  | 0 => wS ad
  | i + 1 => ((bw (L.getD i dd0)).run (wev ad L i)).2
noncomputable def rev (ad : Bool) (zs : List Nat) (L : List Dd) : Nat → Cs
  | 0 => rS ad zs
  | i + 1 => ((br (L.getD i dd0)).run (rev ad zs L i)).2
theorem Lf_lv (d : Dd) : Lv (nf d) (Lf d) := myL_lv d.L
theorem bw_tw (d : Dd) : (bw d).Tw (br d) := by
  obtain ⟨_, _, hz, _, _, _, _, hs⟩ := dd_of d
  exact cw_tw hz (by omega) hs (Lf_lv d)
theorem bw_ran (d : Dd) {s : Cs} (h : SOk s) (hn : s.n ≤ 900000000) : Ran (Kn (nf d)) (fun K => K = Lf d) (12 + 47 * (nf d * nf d)) s (bw d) := by
  obtain ⟨_, _, hz, _, _, _, _, hs⟩ := dd_of d
  exact cw_ran h hn hz (by omega) hs (fun _ => Lf_lv d)
theorem wev_ok (ad : Bool) (L : List Dd) : ∀ i, i ≤ 100 → SOk (wev ad L i) ∧ (wev ad L i).W = true ∧ (wev ad L i).n ≤ 50000 * i
  | 0, _ => ⟨wS_ok ad, rfl, Nat.zero_le _⟩
  | i + 1, hi => by
    obtain ⟨h1, h2, h3⟩ := wev_ok ad L i (by omega)
    have r := bw_ran (L.getD i dd0) h1 (by omega)
    have hq := (dd_of (L.getD i dd0)).2.2.1.sd.sq
    exact ⟨r.so, r.w.trans h2, by have := r.hi; show ((bw (L.getD i dd0)).run (wev ad L i)).2.n ≤ _; omega⟩
theorem wev_res (ad : Bool) (L : List Dd) {i : Nat} (hi : i ≤ 100) : ((bw (L.getD i dd0)).run (wev ad L i)).1 = some (Lf (L.getD i dd0)) := by
  obtain ⟨h1, h2, h3⟩ := wev_ok ad L i hi
  obtain ⟨a, e1, e2⟩ := (bw_ran (L.getD i dd0) h1 (by omega)).wri h2
  rw [e1, e2]
theorem wev_inc (ad : Bool) (L : List Dd) (i : Nat) : ∀ m, i + m ≤ 100 → L2.Inc (wev ad L i).a (wev ad L i).b (wev ad L i).c (wev ad L (i + m)).a (wev ad L (i + m)).b (wev ad L (i + m)).c
  | 0, _ => L2.Inc.refl _ _ _
  | m + 1, hm => by
    obtain ⟨h1, h2, _⟩ := wev_ok ad L (i + m) (by omega)
    exact (wev_inc ad L i m (by omega)).trans (run_inc _ _ _ (bw_tw (L.getD (i + m) dd0)) h1 h2)
/-- what was written is read -/
theorem rev_syn {ad : Bool} {zs : List Nat} {L : List Dd} {N : Nat} (hN : N ≤ 100) (hz : ∀ i, zs.getD i 0 < 256) (hp : L2.pre zs ((wev ad L N).c + 4) = (wev ad L N).a) : ∀ i, i ≤ N → SOk (rev ad zs L i) ∧ (rev ad zs L i).zs = zs ∧ Syn (wev ad L i) (rev ad zs L i) ∧ (i < N → ((br (L.getD i dd0)).run (rev ad zs L i)).1 = some (Lf (L.getD i dd0)) ∧ (SOk (rev ad zs L (i + 1)) ∧ (rev ad zs L (i + 1)).zs = zs ∧ Syn (wev ad L (i + 1)) (rev ad zs L (i + 1)))) := by
  obtain ⟨f1, f2, _⟩ := wev_ok ad L N hN
  have hg0 : 0 < (wev ad L N).b := by have := ((f1.ev f2).1).least; omega
  have key : ∀ i, i < N → SOk (rev ad zs L i) ∧ (rev ad zs L i).zs = zs ∧ Syn (wev ad L i) (rev ad zs L i) → ((br (L.getD i dd0)).run (rev ad zs L i)).1 = some (Lf (L.getD i dd0)) ∧ (SOk (rev ad zs L (i + 1)) ∧ (rev ad zs L (i + 1)).zs = zs ∧ Syn (wev ad L (i + 1)) (rev ad zs L (i + 1))) := fun i hi ⟨a1, a2, a3⟩ => by
    obtain ⟨h1, h2, h3⟩ := wev_ok ad L i (by omega)
    have hI := wev_inc ad L (i + 1) (N - (i + 1)) (by omega)
    rw [show i + 1 + (N - (i + 1)) = N by omega] at hI
    have hy := run_syn hz hg0 hp _ _ _ _ (bw_tw (L.getD i dd0)) h1 a1 a2 a3 hI
    obtain ⟨_, _, hzz, _, _, _, _, hs⟩ := dd_of (L.getD i dd0)
    have r : Ran (Kn (nf (L.getD i dd0))) (fun K => K = List.replicate (nf (L.getD i dd0) * nf (L.getD i dd0)) 0) (12 + 47 * (nf (L.getD i dd0) * nf (L.getD i dd0))) (rev ad zs L i) (br (L.getD i dd0)) := cod_ran a1 (by rw [a3.n]; omega) hzz (by omega) hs (fun e => by rw [a3.rw] at e; cases e)
    exact ⟨by rw [hy.1]; exact wev_res ad L (by omega), r.so, r.zs.trans a2, hy.2⟩
  have base : ∀ i, i ≤ N → SOk (rev ad zs L i) ∧ (rev ad zs L i).zs = zs ∧ Syn (wev ad L i) (rev ad zs L i) := by
    intro i
    induction i with
    | zero =>
      intro _
      have hI := wev_inc ad L 0 N (by omega)
      rw [Nat.zero_add] at hI
      exact ⟨rS_ok ad hz, rfl, syn_first hz hI hg0 hp⟩
    | succ i ih => intro hi; exact (key i (by omega) (ih (by omega))).2
  exact fun i hi => ⟨(base i hi).1, (base i hi).2.1, (base i hi).2.2, fun h => key i h (base i hi)⟩
/-- a variable that has a block -/
structure Xd (w u : World) (X : Nat) (z : Int) (pl sg : Nat) (g q : Nat) (L : List Int) : Prop where
  c0 : u.cell? ⟨X, 0, none⟩ = some (.int .i64 z)
  c1 : u.cell? ⟨X, 1, none⟩ = some (.int .i64 (pl : Int))
  c2 : u.cell? ⟨X, 2, none⟩ = some (.int .i64 (sg : Int))
  c3 : u.cell? ⟨X, 3, none⟩ = some (.slice (some ⟨g, 0, none⟩) q q)
  lt : X < u.heap.size
  ri : L10.Ri 3 u g L
  ge : w.heap.size ≤ g
  xe : w.heap.size ≤ X
  bel : Below w.heap.size w u
theorem Xd.to {w u u' : World} {X : Nat} {z : Int} {pl sg g q : Nat} {L : List Int} (h : Xd w u X z pl sg g q L) (hb : Below u.heap.size u u') : Xd w u' X z pl sg g q L :=
  ⟨by rw [L10.newCell hb _ _ h.lt]; exact h.c0, by rw [L10.newCell hb _ _ h.lt]; exact h.c1, by rw [L10.newCell hb _ _ h.lt]; exact h.c2, by rw [L10.newCell hb _ _ h.lt]; exact h.c3, Nat.lt_of_lt_of_le h.lt hb.size, h.ri.to hb, h.ge, h.xe, L10.below_to h.bel hb⟩
theorem Xd.new {w u : World} {z : Int} {pl sg g q : Nat} {L : List Int} (hr : L10.Ri 3 u g L) (hg : w.heap.size ≤ g) (hb : Below w.heap.size w u) : Xd w (u.alloc (.cells #[.int .i64 z, .int .i64 (pl : Int), .int .i64 (sg : Int), .slice (some ⟨g, 0, none⟩) q q] 34)) u.heap.size z pl sg g q L :=
  ⟨by simp [go_sem], by simp [go_sem], by simp [go_sem], by simp [go_sem], by simp, hr.to (L10.from_alloc _ _), hg, hb.size, L10.to_alloc hb _⟩
/-- what is watched beside a coder that goes on -/
theorem Xd.ke {P : Nat → Prop} {w u u' : World} {X : Nat} {z : Int} {pl sg g q : Nat} {L : List Int} (h : Xd w u X z pl sg g q L) (hk : Ke P u u') (hP : ∀ y, P y → y < w.heap.size) : u'.cell? ⟨X, 3, none⟩ = some (.slice (some ⟨g, 0, none⟩) q q) ∧ L10.Ri 3 u' g L := by
  have n1 : ¬ P X := fun e => by have := hP X e; have := h.xe; omega
  have n2 : ¬ P g := fun e => by have := hP g e; have := h.ge; omega
  exact ⟨by rw [hk.cell _ _ h.lt n1]; exact h.c3, h.ri.carry (hk.block g h.ri.lt n2)⟩

/-- the writing loop -/
structure BkW (W : World) (lo x N : Nat) (ad : Bool) (L : List Dd) (iv : Value) (wr : World) : Prop where
  ex : ∃ (i : Nat) (O : Nat → Prop), i ≤ N ∧ iv = .int .i64 i ∧ Cd wr lo x O (wev ad L i) ∧ (∀ y, O y → lo ≤ y) ∧ Below W.heap.size W wr
/-- the reading loop -/
structure BkR (W : World) (lo x lo2 r N : Nat) (ad : Bool) (zs : List Nat) (L : List Dd) (iv : Value) (wr : World) : Prop where
  ex : ∃ (i : Nat) (O Ow : Nat → Prop), i ≤ N ∧ iv = .int .i64 i ∧ Cd wr lo2 r O (rev ad zs L i) ∧ (∀ y, O y → y = 0 ∨ lo2 ≤ y) ∧ Cd wr lo x Ow (wev ad L N) ∧ (∀ y, Ow y → lo ≤ y ∧ y < lo2) ∧ Below W.heap.size W wr

end Go.Proofs.YtkmnpechhdendaaDoor
