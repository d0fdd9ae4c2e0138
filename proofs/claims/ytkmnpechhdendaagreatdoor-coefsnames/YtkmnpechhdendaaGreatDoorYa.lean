/- DERIVED. A coder by plain numbers, on either side; pieces of code over one, and what they come to. -/
import Derived.Test.YtkmnpechhdendaaGreatDoorS5
namespace Go.Proofs.YtkmnpechhdendaaGreatDoor
open Go.RowKit L3

/-- a coder's numbers: of one that writes T, g, k; of one that reads q, c, g -/
structure Cs where
  W : Bool
  ad : Bool
  S : Sx
  n : Nat
  zs : List Nat
  a : Nat
  b : Nat
  c : Nat
/-- the value that is found -/
noncomputable def fv (C : List Nat) (p : Nat) : Nat := Classical.epsilon fun v => L3.Fd C p v
theorem fv_eq {C : List Nat} {n : Int} (ht : TOk C n) {p v : Nat} (h : L3.Fd C p v) : fv C p = v := fd_one ht (Classical.epsilon_spec (p := fun v => L3.Fd C p v) ⟨v, h⟩) h
noncomputable def syA (s : Cs) (kk cx : Nat) (z : Int) : Nat := if s.W then z.toNat else fv (tb s.S kk cx).1 (L2.dVal s.b s.c)
def syW (s : Cs) (lo hi : Nat) : Nat × Nat × Nat := L2.ePut s.a s.b s.c lo hi
def syN (s : Cs) (kk cx v : Nat) : Cs :=
  if s.W then ⟨s.W, s.ad, upd s.S s.ad kk cx v, s.n + 1, s.zs, (L2.ePut s.a s.b s.c (eb (tb s.S kk cx).1 v) (ee (tb s.S kk cx).1 v)).1, (L2.ePut s.a s.b s.c (eb (tb s.S kk cx).1 v) (ee (tb s.S kk cx).1 v)).2.1, (L2.ePut s.a s.b s.c (eb (tb s.S kk cx).1 v) (ee (tb s.S kk cx).1 v)).2.2⟩
  else ⟨s.W, s.ad, upd s.S s.ad kk cx v, s.n + 1, s.zs, (L2.dTake s.zs s.b s.c s.a (eb (tb s.S kk cx).1 v) (ee (tb s.S kk cx).1 v)).2.2, (L2.dTake s.zs s.b s.c s.a (eb (tb s.S kk cx).1 v) (ee (tb s.S kk cx).1 v)).1, (L2.dTake s.zs s.b s.c s.a (eb (tb s.S kk cx).1 v) (ee (tb s.S kk cx).1 v)).2.1⟩
def biA (s : Cs) (n : Nat) (z : Int) : Nat := if s.W then z.toNat else (dBs s.zs s.a s.b s.c n).1
def biN (s : Cs) (n v : Nat) : Cs :=
  if s.W then ⟨s.W, s.ad, s.S, s.n + n, s.zs, (eBs s.a s.b s.c v n n).1, (eBs s.a s.b s.c v n n).2.1, (eBs s.a s.b s.c v n n).2.2⟩
  else ⟨s.W, s.ad, s.S, s.n + n, s.zs, (dBs s.zs s.a s.b s.c n).2.1, (dBs s.zs s.a s.b s.c n).2.2.1, (dBs s.zs s.a s.b s.c n).2.2.2⟩
theorem syN_W (s : Cs) (kk cx v : Nat) : (syN s kk cx v).W = s.W ∧ (syN s kk cx v).ad = s.ad ∧ (syN s kk cx v).zs = s.zs ∧ (syN s kk cx v).n = s.n + 1 ∧ (syN s kk cx v).S = upd s.S s.ad kk cx v := by
  unfold syN; split <;> simp
theorem biN_W (s : Cs) (n v : Nat) : (biN s n v).W = s.W ∧ (biN s n v).ad = s.ad ∧ (biN s n v).zs = s.zs ∧ (biN s n v).n = s.n + n ∧ (biN s n v).S = s.S := by
  unfold biN; split <;> simp

/-- code over a coder -/
inductive Prg (α : Type) where
  | ret (a : α) : Prg α
  | stop : Prg α
  | sym (kk cx : Nat) (z : Int) (k : Nat → Prg α) : Prg α
  | bits (n : Nat) (z : Int) (k : Nat → Prg α) : Prg α
namespace Prg
variable {α β : Type}
def bind : Prg α → (α → Prg β) → Prg β
  | .ret a, f => f a
  | .stop, _ => .stop
  | .sym kk cx z k, f => .sym kk cx z fun v => (k v).bind f
  | .bits n z k, f => .bits n z fun v => (k v).bind f
noncomputable def run : Prg α → Cs → Option α × Cs
  | .ret a, s => (some a, s)
  | .stop, s => (none, s)
  | .sym kk cx z k, s => (k (syA s kk cx z)).run (syN s kk cx (syA s kk cx z))
  | .bits n z k, s => (k (biA s n z)).run (biN s n (biA s n z))
theorem run_bind (p : Prg α) (f : α → Prg β) : ∀ s, (p.bind f).run s = match p.run s with | (some a, s') => (f a).run s' | (none, s') => (none, s') := by
  induction p with
  | ret a => intro s; rfl
  | stop => intro s; rfl
  | sym kk cx z k ih => intro s; exact ih _ _
  | bits n z k ih => intro s; exact ih _ _
theorem run_some {p : Prg α} {f : α → Prg β} {s s' : Cs} {a : α} (h : p.run s = (some a, s')) : (p.bind f).run s = (f a).run s' := by rw [run_bind, h]
theorem run_none {p : Prg α} {f : α → Prg β} {s s' : Cs} (h : p.run s = (none, s')) : (p.bind f).run s = (none, s') := by rw [run_bind, h]
/-- every step of a run may be made -/
def Ok : Prg α → Cs → Prop
  | .ret _, _ => True
  | .stop, _ => True
  | .sym kk cx z k, s => (kk < 32 ∧ cx < sC kk ∧ s.n ≤ 1000000000 ∧ (s.W = true → 0 ≤ z ∧ z < (sV kk : Int))) ∧ (k (syA s kk cx z)).Ok (syN s kk cx (syA s kk cx z))
  | .bits n z k, s => (n ≤ 30 ∧ s.n ≤ 1000000000 ∧ (s.W = true → 0 ≤ z ∧ z < 2 ^ n)) ∧ (k (biA s n z)).Ok (biN s n (biA s n z))
theorem ok_bind (p : Prg α) (f : α → Prg β) : ∀ s, (p.bind f).Ok s → p.Ok s ∧ ∀ a s', p.run s = (some a, s') → (f a).Ok s' := by
  induction p with
  | ret a => intro s h; exact ⟨trivial, fun b s' e => by simp only [run, Prod.mk.injEq, Option.some.injEq] at e; obtain ⟨rfl, rfl⟩ := e; exact h⟩
  | stop => intro s h; exact ⟨trivial, fun b s' e => by simp [run] at e⟩
  | sym kk cx z k ih => intro s h; exact ⟨⟨h.1, (ih _ _ h.2).1⟩, (ih _ _ h.2).2⟩
  | bits n z k ih => intro s h; exact ⟨⟨h.1, (ih _ _ h.2).1⟩, (ih _ _ h.2).2⟩
/-- at most m symbols and bits, whatever the values are; what is answered is R -/
def Good (R : α → Prop) : Nat → Prg α → Prop
  | _, .ret a => R a
  | _, .stop => True
  | m, .sym kk cx _ k => 1 ≤ m ∧ kk < 32 ∧ cx < sC kk ∧ ∀ v, v < sV kk → Good R (m - 1) (k v)
  | m, .bits n _ k => n ≤ m ∧ n ≤ 30 ∧ ∀ v, v < 2 ^ n → Good R (m - n) (k v)
theorem Good.mono {R R' : α → Prop} (hR : ∀ a, R a → R' a) (p : Prg α) : ∀ m m', m ≤ m' → Good R m p → Good R' m' p := by
  induction p with
  | ret a => intro m m' _ h; exact hR a h
  | stop => intro m m' _ h; trivial
  | sym kk cx z k ih => intro m m' hm h; exact ⟨Nat.le_trans h.1 hm, h.2.1, h.2.2.1, fun v hv => ih v _ _ (by omega) (h.2.2.2 v hv)⟩
  | bits n z k ih => intro m m' hm h; exact ⟨Nat.le_trans h.1 hm, h.2.1, fun v hv => ih v _ _ (by omega) (h.2.2 v hv)⟩
theorem Good.bind {R : α → Prop} {R' : β → Prop} (f : α → Prg β) (m' : Nat) (p : Prg α) : ∀ m, Good R m p → (∀ a, R a → Good R' m' (f a)) → Good R' (m + m') (p.bind f) := by
  induction p with
  | ret a => intro m h hf; exact (hf a h).mono (fun _ h => h) _ _ _ (by omega)
  | stop => intro m h hf; trivial
  | sym kk cx z k ih => intro m h hf; exact ⟨Nat.le_trans h.1 (by omega), h.2.1, h.2.2.1, fun v hv => by have := ih v _ (h.2.2.2 v hv) hf; rw [show m + m' - 1 = m - 1 + m' from by have := h.1; omega]; exact this⟩
  | bits n z k ih => intro m h hf; exact ⟨Nat.le_trans h.1 (by omega), h.2.1, fun v hv => by have := ih v _ (h.2.2 v hv) hf; rw [show m + m' - n = m - n + m' from by have := h.1; omega]; exact this⟩
/-- of one that writes: the values may be, and what is answered is R -/
def Wr (R : α → Prop) : Prg α → Prop
  | .ret a => R a
  | .stop => False
  | .sym kk _ z k => 0 ≤ z ∧ z < (sV kk : Int) ∧ Wr R (k z.toNat)
  | .bits n z k => 0 ≤ z ∧ z < 2 ^ n ∧ Wr R (k z.toNat)
theorem Wr.bind {R : α → Prop} {R' : β → Prop} (f : α → Prg β) (p : Prg α) : Wr R p → (∀ a, R a → Wr R' (f a)) → Wr R' (p.bind f) := by
  induction p with
  | ret a => intro h hf; exact hf a h
  | stop => intro h hf; exact h
  | sym kk cx z k ih => intro h hf; exact ⟨h.1, h.2.1, ih _ h.2.2 hf⟩
  | bits n z k ih => intro h hf; exact ⟨h.1, h.2.1, ih _ h.2.2 hf⟩
theorem Wr.mono {R R' : α → Prop} (hR : ∀ a, R a → R' a) (p : Prg α) : Wr R p → Wr R' p := by
  induction p with
  | ret a => exact hR a
  | stop => exact fun h => h
  | sym kk cx z k ih => exact fun h => ⟨h.1, h.2.1, ih _ h.2.2⟩
  | bits n z k ih => exact fun h => ⟨h.1, h.2.1, ih _ h.2.2⟩
/-- two pieces of code that go the same way, the first one's values being said -/
def Tw : Prg α → Prg α → Prop
  | .ret a, q => q = .ret a
  | .stop, _ => False
  | .sym kk cx z k, q => ∃ z' k', q = .sym kk cx z' k' ∧ kk < 32 ∧ cx < sC kk ∧ 0 ≤ z ∧ z < (sV kk : Int) ∧ Tw (k z.toNat) (k' z.toNat)
  | .bits n z k, q => ∃ z' k', q = .bits n z' k' ∧ n ≤ 30 ∧ 0 ≤ z ∧ z < 2 ^ n ∧ Tw (k z.toNat) (k' z.toNat)
theorem Tw.bind {f g : α → Prg β} (p : Prg α) : ∀ q, Tw p q → (∀ a, Wr (fun b => b = a) p → Tw (f a) (g a)) → Tw (p.bind f) (q.bind g) := by
  induction p with
  | ret a => intro q h hf; cases h; exact hf a rfl
  | stop => intro q h hf; exact h.elim
  | sym kk cx z k ih =>
    intro q h hf
    obtain ⟨z', k', rfl, h1, h2, h3, h4, h5⟩ := h
    exact ⟨z', _, rfl, h1, h2, h3, h4, ih _ _ h5 fun a ha => hf a ⟨h3, h4, ha⟩⟩
  | bits n z k ih =>
    intro q h hf
    obtain ⟨z', k', rfl, h1, h3, h4, h5⟩ := h
    exact ⟨z', _, rfl, h1, h3, h4, ih _ _ h5 fun a ha => hf a ⟨h3, h4, ha⟩⟩
end Prg

/-- a coder's numbers that may be -/
structure SOk (s : Cs) : Prop where
  ok : OkS s.S
  ev : s.W = true → L2.Ev s.a s.b s.c ∧ s.c ≤ 2 * s.n
  dk : s.W = false → L2.Dk s.b s.c ∧ ∀ i, s.zs.getD i 0 < 256
theorem tb_ends {S : Sx} (h : OkS S) {kk cx v : Nat} (hk : kk < 32) (hc : cx < sC kk) (hv : v < sV kk) : eb (tb S kk cx).1 v < ee (tb S kk cx).1 v ∧ ee (tb S kk cx).1 v ≤ 32768 := by
  obtain ⟨h1, h2⟩ := h.at hk hc
  have hv : v < (tb S kk cx).1.length := by rw [h1]; exact hv
  have := eb_ee h2 hv
  exact ⟨by omega, ee_le h2 hv⟩
theorem fd_ex {C : List Nat} {n : Int} (h : TOk C n) {p : Nat} (hp : p < 32768) : ∃ s, L3.Fd C p s := by
  have key : ∀ d, d ≤ C.length → (∀ i, i < d → ee C i ≤ p) → ∃ s, L3.Fd C p s := by
    intro d
    induction hd : C.length - d generalizing d with
    | zero =>
      intro h1 h2
      have := h.lo
      have := h2 (C.length - 1) (by omega)
      rw [ee_last h] at this
      omega
    | succ m ih =>
      intro h1 h2
      by_cases e : ee C d ≤ p
      · exact ih (d + 1) (by omega) (by omega) (fun i hi => by
          by_cases e2 : i = d
          · rw [e2]; exact e
          · exact h2 i (by omega))
      · refine ⟨d, by omega, ?_, by omega⟩
        unfold eb
        split
        · exact Nat.zero_le _
        · exact h2 (d - 1) (by omega)
  exact key 0 (Nat.zero_le _) (fun i hi => by omega)
theorem sy_fd {s : Cs} (h : SOk s) {kk cx : Nat} (hk : kk < 32) (hc : cx < sC kk) (hW : s.W = false) (z : Int) : L3.Fd (tb s.S kk cx).1 (L2.dVal s.b s.c) (syA s kk cx z) := by
  obtain ⟨h1, h2⟩ := h.ok.at hk hc
  obtain ⟨v, hv⟩ := fd_ex h2 (L2.dVal_lt s.b s.c)
  unfold syA
  rw [if_neg (by rw [hW]; decide), fv_eq h2 hv]
  exact hv
theorem sy_lt {s : Cs} (h : SOk s) {kk cx : Nat} (hk : kk < 32) (hc : cx < sC kk) {z : Int} (hz : s.W = true → 0 ≤ z ∧ z < (sV kk : Int)) : syA s kk cx z < sV kk := by
  cases hW : s.W
  · have := (sy_fd h hk hc hW z).1
    rw [(h.ok.at hk hc).1] at this
    exact this
  · have := hz hW
    unfold syA
    rw [if_pos hW]
    omega
theorem sy_ok {s : Cs} (h : SOk s) {kk cx : Nat} (hk : kk < 32) (hc : cx < sC kk) {z : Int} (hz : s.W = true → 0 ≤ z ∧ z < (sV kk : Int)) : SOk (syN s kk cx (syA s kk cx z)) := by
  have hlt := sy_lt h hk hc hz
  obtain ⟨e1, e2⟩ := tb_ends h.ok hk hc hlt
  obtain ⟨n1, n2, n3, n4, n5⟩ := syN_W s kk cx (syA s kk cx z)
  refine ⟨by rw [n5]; exact h.ok.upd s.ad hk hc _, fun e => ?_, fun e => ?_⟩
  · rw [n1] at e
    rw [n4]
    obtain ⟨hv, hb⟩ := h.ev e
    have hp := L2.ePut_ok hv e1 e2
    unfold syN
    rw [if_pos e]
    exact ⟨hp.1, by have := hp.2.2; simp only; omega⟩
  · rw [n1] at e
    rw [n3]
    obtain ⟨hd, hb⟩ := h.dk e
    have hf := sy_fd h hk hc e z
    have hm : L2.dMay s.b s.c (eb (tb s.S kk cx).1 (syA s kk cx z)) (ee (tb s.S kk cx).1 (syA s kk cx z)) := ⟨hf.2.1, hf.2.2, e2⟩
    have ht := L2.dTake_ok hb (q := s.a) hm hd.below hd.least hd.most
    unfold syN
    rw [if_neg (by rw [e]; decide)]
    exact ⟨⟨ht.1, ht.2.1, ht.2.2.1⟩, hb⟩
theorem dBs_dk {zs : List Nat} (hz : ∀ i, zs.getD i 0 < 256) {q c g : Nat} (h : L2.Dk c g) : ∀ i, L2.Dk (dBs zs q c g i).2.2.1 (dBs zs q c g i).2.2.2 := by
  intro i
  induction i with
  | zero => rw [dBs_zero]; exact h
  | succ i ih =>
    obtain ⟨bb, hb⟩ : ∃ bb, bb = L2.dVal (dBs zs q c g i).2.2.1 (dBs zs q c g i).2.2.2 / 16384 := ⟨_, rfl⟩
    obtain ⟨pa, ha⟩ : ∃ pa, pa = 16384 * bb := ⟨_, rfl⟩
    obtain ⟨pe, he⟩ : ∃ pe, pe = pa + 16384 := ⟨_, rfl⟩
    rw [dBs_succ zs q c g i bb pa pe hb ha he]
    have hv := L2.dVal_lt (dBs zs q c g i).2.2.1 (dBs zs q c g i).2.2.2
    have ht := L2.dTake_ok hz (q := (dBs zs q c g i).2.1) (lo := pa) (hi := pe) ⟨by omega, by omega, by omega⟩ ih.below ih.least ih.most
    exact ⟨ht.1, ht.2.1, ht.2.2.1⟩
theorem bi_lt {s : Cs} {n : Nat} {z : Int} (hz : s.W = true → 0 ≤ z ∧ z < 2 ^ n) : biA s n z < 2 ^ n := by
  unfold biA
  cases hW : s.W
  · exact dBs_lt _ _ _ _ _
  · have := hz hW
    have e : ((2 ^ n : Nat) : Int) = 2 ^ n := by simp
    rw [if_pos rfl]
    omega
theorem bi_ok {s : Cs} (h : SOk s) (n : Nat) (z : Int) : SOk (biN s n (biA s n z)) := by
  obtain ⟨n1, n2, n3, n4, n5⟩ := biN_W s n (biA s n z)
  refine ⟨by rw [n5]; exact h.ok, fun e => ?_, fun e => ?_⟩
  · rw [n1] at e
    rw [n4]
    obtain ⟨hv, hb⟩ := h.ev e
    have hp := eBs_ok hv (biA s n z) n n
    unfold biN
    rw [if_pos e]
    exact ⟨hp.1, by have := hp.2; simp only; omega⟩
  · rw [n1] at e
    rw [n3]
    obtain ⟨hd, hb⟩ := h.dk e
    unfold biN
    rw [if_neg (by rw [e]; decide)]
    exact ⟨dBs_dk hb hd n, hb⟩
/-- what a run comes to -/
structure Ran {α : Type} (R R0 : α → Prop) (m : Nat) (s : Cs) (p : Prg α) : Prop where
  ok : p.Ok s
  so : SOk (p.run s).2
  w : (p.run s).2.W = s.W
  ad : (p.run s).2.ad = s.ad
  zs : (p.run s).2.zs = s.zs
  lo : s.n ≤ (p.run s).2.n
  hi : (p.run s).2.n ≤ s.n + m
  res : ∀ a, (p.run s).1 = some a → R a
  wri : s.W = true → ∃ a, (p.run s).1 = some a ∧ R0 a
theorem ran {α : Type} {R R0 : α → Prop} (p : Prg α) : ∀ m s, p.Good R m → SOk s → s.n + m ≤ 1000000000 → (s.W = true → p.Wr R0) → Ran R R0 m s p := by
  induction p with
  | ret a => intro m s hg hs hn hw; exact ⟨trivial, hs, rfl, rfl, rfl, Nat.le_refl _, by simp [Prg.run], fun b e => by simp only [Prg.run, Option.some.injEq] at e; subst e; exact hg, fun e => ⟨a, rfl, hw e⟩⟩
  | stop => intro m s hg hs hn hw; exact ⟨trivial, hs, rfl, rfl, rfl, Nat.le_refl _, by simp [Prg.run], fun b e => by simp [Prg.run] at e, fun e => (hw e).elim⟩
  | sym kk cx z k ih =>
    intro m s hg hs hn hw
    obtain ⟨g1, g2, g3, g4⟩ := hg
    have hz : s.W = true → 0 ≤ z ∧ z < (sV kk : Int) := fun e => ⟨(hw e).1, (hw e).2.1⟩
    have hlt := sy_lt hs g2 g3 hz
    obtain ⟨n1, n2, n3, n4, n5⟩ := syN_W s kk cx (syA s kk cx z)
    have r := ih (syA s kk cx z) (m - 1) (syN s kk cx (syA s kk cx z)) (g4 _ hlt) (sy_ok hs g2 g3 hz) (by rw [n4]; omega) (fun e => by
      rw [n1] at e
      have := (hw e).2.2
      have e2 : syA s kk cx z = z.toNat := by unfold syA; rw [if_pos e]
      rw [e2]; exact this)
    exact ⟨⟨⟨g2, g3, by omega, hz⟩, r.ok⟩, r.so, r.w.trans n1, r.ad.trans n2, r.zs.trans n3, by have := r.lo; rw [n4] at this; exact Nat.le_trans (by omega) this, by have := r.hi; rw [n4] at this; exact Nat.le_trans this (by omega), r.res, fun e => r.wri (by rw [n1]; exact e)⟩
  | bits n z k ih =>
    intro m s hg hs hn hw
    obtain ⟨g1, g2, g4⟩ := hg
    have hz : s.W = true → 0 ≤ z ∧ z < 2 ^ n := fun e => ⟨(hw e).1, (hw e).2.1⟩
    have hlt := bi_lt hz
    obtain ⟨n1, n2, n3, n4, n5⟩ := biN_W s n (biA s n z)
    have r := ih (biA s n z) (m - n) (biN s n (biA s n z)) (g4 _ hlt) (bi_ok hs n z) (by rw [n4]; omega) (fun e => by
      rw [n1] at e
      have := (hw e).2.2
      have e2 : biA s n z = z.toNat := by unfold biA; rw [if_pos e]
      rw [e2]; exact this)
    exact ⟨⟨⟨g2, by omega, hz⟩, r.ok⟩, r.so, r.w.trans n1, r.ad.trans n2, r.zs.trans n3, by have := r.lo; rw [n4] at this; exact Nat.le_trans (by omega) this, by have := r.hi; rw [n4] at this; exact Nat.le_trans this (by omega), r.res, fun e => r.wri (by rw [n1]; exact e)⟩

/-! ### a reader beside a writer -/
theorem sy_inc {s : Cs} (h : SOk s) (hW : s.W = true) {kk cx v : Nat} (hk : kk < 32) (hc : cx < sC kk) (hv : v < sV kk) : L2.Inc s.a s.b s.c (syN s kk cx v).a (syN s kk cx v).b (syN s kk cx v).c := by
  obtain ⟨e1, e2⟩ := tb_ends h.ok hk hc hv
  unfold syN
  rw [if_pos hW]
  exact ePut_inc (h.ev hW).1 e1 e2
theorem bi_inc {s : Cs} (h : SOk s) (hW : s.W = true) (n v : Nat) : L2.Inc s.a s.b s.c (biN s n v).a (biN s n v).b (biN s n v).c := by
  have hI := eBs_inc (h.ev hW).1 v n 0 n
  rw [Nat.zero_add, eBs_zero] at hI
  unfold biN
  rw [if_pos hW]
  exact hI
theorem run_inc {α : Type} (p : Prg α) : ∀ q s, p.Tw q → SOk s → s.W = true → L2.Inc s.a s.b s.c (p.run s).2.a (p.run s).2.b (p.run s).2.c := by
  induction p with
  | ret a => intro q s _ _ _; exact L2.Inc.refl _ _ _
  | stop => intro q s h _ _; exact h.elim
  | sym kk cx z k ih =>
    intro q s h hs hW
    obtain ⟨z', k', rfl, h1, h2, h3, h4, h5⟩ := h
    have e2 : syA s kk cx z = z.toNat := by unfold syA; rw [if_pos hW]
    have r := ih z.toNat (k' z.toNat) (syN s kk cx z.toNat) h5 (by rw [← e2]; exact sy_ok hs h1 h2 (fun _ => ⟨h3, h4⟩)) (by rw [(syN_W s kk cx _).1]; exact hW)
    have := (sy_inc hs hW h1 h2 (v := z.toNat) (by omega)).trans r
    rw [← e2] at this
    exact this
  | bits n z k ih =>
    intro q s h hs hW
    obtain ⟨z', k', rfl, h1, h3, h4, h5⟩ := h
    have e2 : biA s n z = z.toNat := by unfold biA; rw [if_pos hW]
    have r := ih z.toNat (k' z.toNat) (biN s n z.toNat) h5 (by rw [← e2]; exact bi_ok hs n z) (by rw [(biN_W s n _).1]; exact hW)
    have := (bi_inc hs hW n z.toNat).trans r
    rw [← e2] at this
    exact this
/-- a reader beside a writer -/
structure Syn (s r : Cs) : Prop where
  w : s.W = true
  rw : r.W = false
  ad : r.ad = s.ad
  S : r.S = s.S
  n : r.n = s.n
  dw : Dw r.zs s.a s.b s.c r.a r.b r.c
theorem run_syn {α : Type} {T' G' k' : Nat} {zs : List Nat} (hz : ∀ i, zs.getD i 0 < 256) (hg : 0 < G') (hp : L2.pre zs (k' + 4) = T') (p : Prg α) : ∀ q s r, p.Tw q → SOk s → SOk r → r.zs = zs → Syn s r → L2.Inc (p.run s).2.a (p.run s).2.b (p.run s).2.c T' G' k' → (q.run r).1 = (p.run s).1 ∧ Syn (p.run s).2 (q.run r).2 := by
  induction p with
  | ret a => intro q s r h hs hr e hy hI; cases h; exact ⟨rfl, hy⟩
  | stop => intro q s r h hs hr e hy hI; exact h.elim
  | sym kk cx z k ih =>
    intro q s r h hs hr e hy hI
    obtain ⟨z', k', rfl, h1, h2, h3, h4, h5⟩ := h
    have hW := hy.w
    have e2 : syA s kk cx z = z.toNat := by unfold syA; rw [if_pos hW]
    have hv : z.toNat < sV kk := by omega
    have hso : SOk (syN s kk cx z.toNat) := by rw [← e2]; exact sy_ok hs h1 h2 (fun _ => ⟨h3, h4⟩)
    have hWn : (syN s kk cx z.toNat).W = true := by rw [(syN_W s kk cx _).1]; exact hW
    have hrun : (Prg.sym kk cx z k).run s = (k z.toNat).run (syN s kk cx z.toNat) := by show (k (syA s kk cx z)).run (syN s kk cx (syA s kk cx z)) = _; rw [e2]
    rw [hrun] at hI ⊢
    have hI2 := (run_inc (k z.toNat) _ _ h5 hso hWn).trans hI
    obtain ⟨p1, p2⟩ := tb_ends hs.ok h1 h2 hv
    have hsyn : syN s kk cx z.toNat = ⟨s.W, s.ad, upd s.S s.ad kk cx z.toNat, s.n + 1, s.zs, (L2.ePut s.a s.b s.c (eb (tb s.S kk cx).1 z.toNat) (ee (tb s.S kk cx).1 z.toNat)).1, (L2.ePut s.a s.b s.c (eb (tb s.S kk cx).1 z.toNat) (ee (tb s.S kk cx).1 z.toNat)).2.1, (L2.ePut s.a s.b s.c (eb (tb s.S kk cx).1 z.toNat) (ee (tb s.S kk cx).1 z.toNat)).2.2⟩ := by unfold syN; rw [if_pos hW]
    have hI3 := hI2
    rw [hsyn] at hI3
    have hd := hy.dw
    rw [e] at hd
    obtain ⟨f1, f2⟩ := hd.found hz (hs.ev hW).1 p1 p2 hI3 hg hp
    obtain ⟨t1, t2⟩ := hs.ok.at h1 h2
    have ha : syA r kk cx z' = z.toNat := by
      have hf := sy_fd hr h1 h2 hy.rw z'
      rw [hy.S] at hf
      exact fd_one t2 hf ⟨by rw [t1]; exact hv, f1.1, f1.2.1⟩
    have hrr : (Prg.sym kk cx z' k').run r = (k' z.toNat).run (syN r kk cx z.toNat) := by show (k' (syA r kk cx z')).run (syN r kk cx (syA r kk cx z')) = _; rw [ha]
    rw [hrr]
    have hrn : syN r kk cx z.toNat = ⟨r.W, r.ad, upd r.S r.ad kk cx z.toNat, r.n + 1, r.zs, (L2.dTake r.zs r.b r.c r.a (eb (tb r.S kk cx).1 z.toNat) (ee (tb r.S kk cx).1 z.toNat)).2.2, (L2.dTake r.zs r.b r.c r.a (eb (tb r.S kk cx).1 z.toNat) (ee (tb r.S kk cx).1 z.toNat)).1, (L2.dTake r.zs r.b r.c r.a (eb (tb r.S kk cx).1 z.toNat) (ee (tb r.S kk cx).1 z.toNat)).2.1⟩ := by unfold syN; rw [if_neg (by rw [hy.rw]; decide)]
    refine ih z.toNat (k' z.toNat) _ _ h5 hso (by rw [← ha]; exact sy_ok hr h1 h2 (fun e => by rw [hy.rw] at e; cases e)) (by rw [(syN_W r kk cx _).2.2.1]; exact e) ⟨hWn, by rw [(syN_W r kk cx _).1]; exact hy.rw, by rw [(syN_W r kk cx _).2.1, (syN_W s kk cx _).2.1]; exact hy.ad, by rw [(syN_W r kk cx _).2.2.2.2, (syN_W s kk cx _).2.2.2.2, hy.S, hy.ad], by rw [(syN_W r kk cx _).2.2.2.1, (syN_W s kk cx _).2.2.2.1, hy.n], ?_⟩ hI
    rw [hsyn, hrn]
    simp only
    rw [hy.S, e]
    exact f2
  | bits n z k ih =>
    intro q s r h hs hr e hy hI
    obtain ⟨z', k', rfl, h1, h3, h4, h5⟩ := h
    have hW := hy.w
    have e2 : biA s n z = z.toNat := by unfold biA; rw [if_pos hW]
    have hv : z.toNat < 2 ^ n := by have := bi_lt (s := s) (n := n) (z := z) (fun _ => ⟨h3, h4⟩); rw [e2] at this; exact this
    have hso : SOk (biN s n z.toNat) := by rw [← e2]; exact bi_ok hs n z
    have hWn : (biN s n z.toNat).W = true := by rw [(biN_W s n _).1]; exact hW
    have hrun : (Prg.bits n z k).run s = (k z.toNat).run (biN s n z.toNat) := by show (k (biA s n z)).run (biN s n (biA s n z)) = _; rw [e2]
    rw [hrun] at hI ⊢
    have hI2 := (run_inc (k z.toNat) _ _ h5 hso hWn).trans hI
    have hsyn : biN s n z.toNat = ⟨s.W, s.ad, s.S, s.n + n, s.zs, (eBs s.a s.b s.c z.toNat n n).1, (eBs s.a s.b s.c z.toNat n n).2.1, (eBs s.a s.b s.c z.toNat n n).2.2⟩ := by unfold biN; rw [if_pos hW]
    have hI3 := hI2
    rw [hsyn] at hI3
    have hd := hy.dw
    rw [e] at hd
    obtain ⟨f1, f2⟩ := hd.bits hz (hs.ev hW).1 hv hI3 hg hp n (Nat.le_refl _)
    rw [Nat.sub_self, Nat.pow_zero, Nat.div_one] at f1
    have ha : biA r n z' = z.toNat := by unfold biA; rw [if_neg (by rw [hy.rw]; decide), e]; exact f1
    have hrr : (Prg.bits n z' k').run r = (k' z.toNat).run (biN r n z.toNat) := by show (k' (biA r n z')).run (biN r n (biA r n z')) = _; rw [ha]
    rw [hrr]
    have hrn : biN r n z.toNat = ⟨r.W, r.ad, r.S, r.n + n, r.zs, (dBs r.zs r.a r.b r.c n).2.1, (dBs r.zs r.a r.b r.c n).2.2.1, (dBs r.zs r.a r.b r.c n).2.2.2⟩ := by unfold biN; rw [if_neg (by rw [hy.rw]; decide)]
    refine ih z.toNat (k' z.toNat) _ _ h5 hso (by rw [← ha]; exact bi_ok hr n z') (by rw [(biN_W r n _).2.2.1]; exact e) ⟨hWn, by rw [(biN_W r n _).1]; exact hy.rw, by rw [(biN_W r n _).2.1, (biN_W s n _).2.1]; exact hy.ad, by rw [(biN_W r n _).2.2.2.2, (biN_W s n _).2.2.2.2, hy.S], by rw [(biN_W r n _).2.2.2.1, (biN_W s n _).2.2.2.1, hy.n], ?_⟩ hI
    rw [hsyn, hrn]
    simp only
    rw [e]
    exact f2

end Go.Proofs.YtkmnpechhdendaaGreatDoor
