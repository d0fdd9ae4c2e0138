/- DERIVED. What a writer was told, one thing behind the other, and what code that reads makes of it. -/
import Derived.Test.YtkmnpechhdendaaGreatDoorY5
namespace Go.Proofs.YtkmnpechhdendaaGreatDoor
open Go.RowKit L3

/-- a symbol, or bits -/
inductive Et where
  | sy (kk cx v : Nat)
  | bi (n v : Nat)
/-- may it be said? -/
def Et.ok : Et → Bool
  | .sy kk cx v => decide (kk < 32) && decide (cx < sC kk) && decide (v < sV kk)
  | .bi n v => decide (n ≤ 30) && decide (v < 2 ^ n)
/-- a writer behind it all -/
def evl : List Et → Cs → Cs
  | [], s => s
  | .sy kk cx v :: l, s => evl l (syN s kk cx v)
  | .bi n v :: l, s => evl l (biN s n v)
/-- how much is counted -/
def evn : List Et → Nat
  | [] => 0
  | .sy _ _ _ :: l => 1 + evn l
  | .bi n _ :: l => n + evn l
def epr {α : Type} (r : α) : List Et → Prg α
  | [] => .ret r
  | .sy kk cx v :: l => .sym kk cx v fun _ => epr r l
  | .bi n v :: l => .bits n v fun _ => epr r l
/-- what code answers that finds just this -/
def ans {α : Type} : List Et → Prg α → Option (Option α)
  | [], .ret a => some (some a)
  | [], .stop => some none
  | .sy kk cx v :: l, .sym kk' cx' _ k => if kk = kk' ∧ cx = cx' ∧ (Et.sy kk cx v).ok = true then ans l (k v) else none
  | .bi n v :: l, .bits n' _ k => if n = n' ∧ (Et.bi n v).ok = true then ans l (k v) else none
  | _, _ => none
/-- code that answers even where it stops -/
def opt {α : Type} : Prg α → Prg (Option α)
  | .ret a => .ret (some a)
  | .stop => .ret none
  | .sym kk cx z k => .sym kk cx z fun v => opt (k v)
  | .bits n z k => .bits n z fun v => opt (k v)
theorem opt_run {α : Type} (q : Prg α) : ∀ s, (opt q).run s = (some (q.run s).1, (q.run s).2) := by
  induction q with
  | ret a => intro s; rfl
  | stop => intro s; rfl
  | sym kk cx z k ih => intro s; exact ih _ _
  | bits n z k ih => intro s; exact ih _ _
theorem syA_w {s : Cs} (h : s.W = true) (kk cx v : Nat) : syA s kk cx (v : Int) = v := by unfold syA; rw [if_pos h]; simp
theorem biA_w {s : Cs} (h : s.W = true) (n v : Nat) : biA s n (v : Int) = v := by unfold biA; rw [if_pos h]; simp
theorem epr_run {α : Type} (r : α) : ∀ l s, s.W = true → (epr r l).run s = (some r, evl l s)
  | [], s, _ => rfl
  | .sy kk cx v :: l, s, h => by
    show (epr r l).run (syN s kk cx (syA s kk cx (v : Int))) = _
    rw [syA_w h, epr_run r l _ (by rw [(syN_W s kk cx _).1]; exact h)]
    rfl
  | .bi n v :: l, s, h => by
    show (epr r l).run (biN s n (biA s n (v : Int))) = _
    rw [biA_w h, epr_run r l _ (by rw [(biN_W s n _).1]; exact h)]
    rfl
theorem Et.sy_ok {kk cx v : Nat} (h : (Et.sy kk cx v).ok = true) : kk < 32 ∧ cx < sC kk ∧ v < sV kk := by
  simp only [Et.ok, Bool.and_eq_true, decide_eq_true_eq] at h
  exact ⟨h.1.1, h.1.2, h.2⟩
theorem Et.bi_ok {n v : Nat} (h : (Et.bi n v).ok = true) : n ≤ 30 ∧ v < 2 ^ n := by
  simp only [Et.ok, Bool.and_eq_true, decide_eq_true_eq] at h
  exact h
theorem pow_cast {n v : Nat} (h : v < 2 ^ n) : (v : Int) < 2 ^ n := by
  have e : ((2 ^ n : Nat) : Int) = 2 ^ n := by simp
  omega
theorem epr_tw {α : Type} {r : Option α} : ∀ l (q : Prg α), ans l q = some r → (epr r l).Tw (opt q)
  | [], .ret a, h => by simp only [ans, Option.some.injEq] at h; subst h; rfl
  | [], .stop, h => by simp only [ans, Option.some.injEq] at h; subst h; rfl
  | [], .sym _ _ _ _, h => by simp [ans] at h
  | [], .bits _ _ _, h => by simp [ans] at h
  | .sy _ _ _ :: _, .ret _, h => by simp [ans] at h
  | .sy _ _ _ :: _, .stop, h => by simp [ans] at h
  | .sy _ _ _ :: _, .bits _ _ _, h => by simp [ans] at h
  | .bi _ _ :: _, .ret _, h => by simp [ans] at h
  | .bi _ _ :: _, .stop, h => by simp [ans] at h
  | .bi _ _ :: _, .sym _ _ _ _, h => by simp [ans] at h
  | .sy kk cx v :: l, .sym kk' cx' z k, h => by
    simp only [ans] at h
    split at h
    · rename_i hc
      obtain ⟨rfl, rfl, hk⟩ := hc
      obtain ⟨h1, h2, h3⟩ := Et.sy_ok hk
      exact ⟨z, fun v => opt (k v), rfl, h1, h2, by omega, by omega, by simpa using epr_tw l (k v) h⟩
    · cases h
  | .bi n v :: l, .bits n' z k, h => by
    simp only [ans] at h
    split at h
    · rename_i hc
      obtain ⟨rfl, hk⟩ := hc
      obtain ⟨h1, h2⟩ := Et.bi_ok hk
      exact ⟨z, fun v => opt (k v), rfl, h1, by omega, pow_cast h2, by simpa using epr_tw l (k v) h⟩
    · cases h
theorem epr_self {α : Type} (r : α) : ∀ l, l.all Et.ok = true → (epr r l).Tw (epr r l)
  | [], _ => rfl
  | .sy kk cx v :: l, h => by
    rw [List.all_cons, Bool.and_eq_true] at h
    obtain ⟨h1, h2, h3⟩ := Et.sy_ok h.1
    exact ⟨v, fun _ => epr r l, rfl, h1, h2, by omega, by omega, epr_self r l h.2⟩
  | .bi n v :: l, h => by
    rw [List.all_cons, Bool.and_eq_true] at h
    obtain ⟨h1, h2⟩ := Et.bi_ok h.1
    exact ⟨v, fun _ => epr r l, rfl, h1, by omega, pow_cast h2, epr_self r l h.2⟩
theorem evl_append : ∀ l m s, evl (l ++ m) s = evl m (evl l s)
  | [], _, _ => rfl
  | .sy _ _ _ :: l, m, _ => evl_append l m _
  | .bi _ _ :: l, m, _ => evl_append l m _
theorem evn_append : ∀ l m, evn (l ++ m) = evn l + evn m
  | [], _ => (Nat.zero_add _).symm
  | .sy _ _ _ :: l, m => by simp only [List.cons_append, evn, evn_append l m]; omega
  | .bi _ _ :: l, m => by simp only [List.cons_append, evn, evn_append l m]; omega
theorem evl_n : ∀ l s, (evl l s).n = s.n + evn l ∧ (evl l s).W = s.W
  | [], _ => ⟨rfl, rfl⟩
  | .sy kk cx v :: l, s => by
    obtain ⟨h1, h2⟩ := evl_n l (syN s kk cx v)
    obtain ⟨n1, _, _, n4, _⟩ := syN_W s kk cx v
    exact ⟨by simp only [evl, evn]; rw [h1, n4]; omega, by simp only [evl]; rw [h2, n1]⟩
  | .bi n v :: l, s => by
    obtain ⟨h1, h2⟩ := evl_n l (biN s n v)
    obtain ⟨n1, _, _, n4, _⟩ := biN_W s n v
    exact ⟨by simp only [evl, evn]; rw [h1, n4]; omega, by simp only [evl]; rw [h2, n1]⟩
theorem evl_ok : ∀ l s, l.all Et.ok = true → s.W = true → SOk s → SOk (evl l s)
  | [], _, _, _, hs => hs
  | .sy kk cx v :: l, s, h, hW, hs => by
    rw [List.all_cons, Bool.and_eq_true] at h
    obtain ⟨h1, h2, h3⟩ := Et.sy_ok h.1
    have e := syA_w hW kk cx v
    exact evl_ok l _ h.2 (by rw [(syN_W s kk cx _).1]; exact hW) (by rw [← e]; exact sy_ok hs h1 h2 (fun _ => ⟨by omega, by omega⟩))
  | .bi n v :: l, s, h, hW, hs => by
    rw [List.all_cons, Bool.and_eq_true] at h
    have e := biA_w hW n v
    exact evl_ok l _ h.2 (by rw [(biN_W s n _).1]; exact hW) (by rw [← e]; exact bi_ok hs n v)
theorem ans_ok {α : Type} {r : Option α} : ∀ l (q : Prg α), ans l q = some r → l.all Et.ok = true
  | [], _, _ => rfl
  | .sy _ _ _ :: _, .ret _, h => by simp [ans] at h
  | .sy _ _ _ :: _, .stop, h => by simp [ans] at h
  | .sy _ _ _ :: _, .bits _ _ _, h => by simp [ans] at h
  | .bi _ _ :: _, .ret _, h => by simp [ans] at h
  | .bi _ _ :: _, .stop, h => by simp [ans] at h
  | .bi _ _ :: _, .sym _ _ _ _, h => by simp [ans] at h
  | .sy kk cx v :: l, .sym kk' cx' z k, h => by
    simp only [ans] at h
    split at h
    · rename_i hc
      rw [List.all_cons, Bool.and_eq_true]
      exact ⟨hc.2.2, ans_ok l (k v) h⟩
    · cases h
  | .bi n v :: l, .bits n' z k, h => by
    simp only [ans] at h
    split at h
    · rename_i hc
      rw [List.all_cons, Bool.and_eq_true]
      exact ⟨hc.2, ans_ok l (k v) h⟩
    · cases h
/-- what a reader of a writer's bytes makes of its first part -/
theorem follow {α : Type} {q : Prg α} {r : Option α} {l1 l2 : List Et} (h1 : ans l1 q = some r) (h2 : l2.all Et.ok = true) {zs : List Nat} (hz : ∀ i, zs.getD i 0 < 256) {ad : Bool} (hp : L2.pre zs ((evl (l1 ++ l2) (wS ad)).c + 4) = (evl (l1 ++ l2) (wS ad)).a) :
    (q.run (rS ad zs)).1 = r ∧ (q.run (rS ad zs)).2.n = evn l1 := by
  have hT := epr_tw l1 q h1
  have hW1 : (evl l1 (wS ad)).W = true := (evl_n l1 (wS ad)).2
  have hs1 := evl_ok l1 (wS ad) (ans_ok l1 q h1) rfl (wS_ok ad)
  have hs2 := evl_ok l2 _ h2 hW1 hs1
  have hI1 := run_inc _ _ _ hT (wS_ok ad) rfl
  rw [epr_run _ l1 _ rfl] at hI1
  have hI2 := run_inc _ _ _ (epr_self () l2 h2) hs1 hW1
  rw [epr_run _ l2 _ hW1] at hI2
  rw [evl_append] at hp
  have hg0 : 0 < (evl l2 (evl l1 (wS ad))).b := by have := (hs2.ev (by rw [(evl_n l2 _).2]; exact hW1)).1.least; omega
  have hI2' : L2.Inc ((epr r l1).run (wS ad)).2.a ((epr r l1).run (wS ad)).2.b ((epr r l1).run (wS ad)).2.c (evl l2 (evl l1 (wS ad))).a (evl l2 (evl l1 (wS ad))).b (evl l2 (evl l1 (wS ad))).c := by rw [epr_run _ l1 _ rfl]; exact hI2
  have hy := run_syn hz hg0 hp _ _ _ _ hT (wS_ok ad) (rS_ok ad hz) rfl (syn_first hz (hI1.trans hI2) hg0 hp) hI2'
  rw [opt_run, epr_run _ l1 _ rfl] at hy
  obtain ⟨y1, y2⟩ := hy
  refine ⟨Option.some.inj y1, y2.n.trans ?_⟩
  show (evl l1 (wS ad)).n = _
  rw [(evl_n l1 (wS ad)).1]
  exact Nat.zero_add _
/-- a level of 15 and more, its length told by n noughts -/
def lenA (n : Nat) : List Et := [.sy 22 0 0, .sy 23 0 0, .bi 0 0, .sy 27 0 2, .sy 29 0 3, .sy 29 0 3, .sy 29 0 3, .sy 29 0 3] ++ List.replicate n (.bi 1 0)
def lenB (n : Nat) : List Et := [.bi 1 1, .bi n 5, .sy 30 0 1]
theorem len19 : ans (lenA 19 ++ lenB 19) (cr 4 4 0 0) = some (some (-524307 :: List.replicate 15 0)) := by kernel_rfl
theorem len20 : ans (lenA 20 ++ lenB 20) (cr 4 4 0 0) = some (some (-1048595 :: List.replicate 15 0)) := by kernel_rfl
theorem len21 : ans (lenA 21) (cr 4 4 0 0) = some none := by kernel_rfl

end Go.Proofs.YtkmnpechhdendaaGreatDoor
