/- DERIVED. A block coded by both readers; sets that are the same. -/
import Derived.Test.YtkmnpechhdendaaGreatDoorFf
import Derived.Test.YtkmnpechhdendaaGreatDoorF2
import Derived.Test.YtkmnpechhdendaaGreatDoorS5
namespace Go.Proofs.YtkmnpechhdendaaGreatDoor
open Go.RowKit L3

theorem rsame_hu {w : World} {lo bt lo2 bt2 cT1 cT2 : Nat} {B B2 : Nat → Prop} {S : Sx} (h : Hu w lo bt B S) (h2 : Hu w lo2 bt2 B2 S) :
    Calls Tryz.prog 21 #[.agg #[.slice (some ⟨bt, 0, none⟩) 32 cT1], .agg #[.slice (some ⟨bt2, 0, none⟩) 32 cT2]] w fun e w' => e = .returned (.bool true) ∧ Below w.heap.size w w' := by
  obtain ⟨q, K, a1, a2, _, a4, _⟩ := h
  obtain ⟨q2, L, b1, b2, _, b4, _⟩ := h2
  exact rsame_u a1 b1 a2 (ab_als (a4.trans b4.symm))
theorem ri_si2 {w : World} {g : Nat} {C : List Int} (h : L10.Ri 3 w g C) : L10.Si w (some ⟨g, 0, none⟩) C := h.si
/-- what the program's Code answers: a list in new memory, an error, a coder that went on -/
def Pa (w w' : World) (lo x : Nat) (O : Nat → Prop) (A : List Int) (er : Int) (s : Cs) (en : Ending) : Prop :=
  ∃ a c O', en = .returned (.tuple #[.slice a A.length c, .int .i64 er]) ∧ L10.Si w' a A ∧ (∀ g o, a = some ⟨g, o, none⟩ → o = 0 ∧ w.heap.size ≤ g ∧ ¬ O' g ∧ L10.Ri 3 w' g A) ∧ Cd w' lo x O' s ∧ Trn O O' w w' ∧ Below lo w w'
/-- and the document's -/
def Qa (w w' : World) (lo x : Nat) (O : Nat → Prop) (A : List Int) (er : Int) (s : Cs) (en : Ending) : Prop :=
  ∃ a c O', en = .returned (.tuple #[.slice a A.length c, .int .i64 er]) ∧ L10.Si w' a A ∧ (∀ g o, a = some ⟨g, o, none⟩ → o = 0 ∧ w.heap.size ≤ g ∧ ¬ O' g) ∧ Fc w' lo x O' s ∧ Trn O O' w w'
theorem Kz.pa {w w' : World} {lo x : Nat} {O : Nat → Prop} {s : Cs} {en : Ending} (h : Kz w w' lo x O s en) : Pa w w' lo x O [] 2 s en := by
  obtain ⟨O', h1, h2, h3, rfl⟩ := h
  exact ⟨none, 0, O', rfl, Or.inl rfl, fun g o e => (by cases e), h1, h2, h3⟩
theorem Kc.pa {w w' : World} {lo x q : Nat} {O : Nat → Prop} {r : Option (List Int) × Cs} {en : Ending} (h : Kc w w' lo x O q r en) (hl : ∀ K, r.1 = some K → K.length = q) : Pa w w' lo x O (r.1.getD []) (if r.1.isSome then 0 else 4) r.2 en := by
  obtain ⟨O', h1, h2, h3, h4, h5⟩ := h
  obtain ⟨r1, r2⟩ := r
  cases r1 with
  | none =>
    obtain rfl := h5 rfl
    exact ⟨none, 0, O', rfl, Or.inl rfl, fun g o e => (by cases e), h1, h2, h3⟩
  | some K =>
    obtain ⟨g, rfl, g1, g2, g3⟩ := h4 K rfl
    have e := hl K rfl
    refine ⟨some ⟨g, 0, none⟩, q, O', by simp [e], ri_si2 g1, fun g' o e' => ?_, h1, h2, h3⟩
    simp only [Option.some.injEq, Addr.mk.injEq, and_true] at e'
    obtain ⟨rfl, rfl⟩ := e'
    exact ⟨rfl, g2, g3, g1⟩
theorem Kf.qa {w w' : World} {lo x q : Nat} {O : Nat → Prop} {r : Option (List Int) × Cs} {en : Ending} (h : Kf w w' lo x O q r en) (hl : ∀ K, r.1 = some K → K.length = q) : Qa w w' lo x O (r.1.getD []) (if r.1.isSome then 0 else 4) r.2 en := by
  obtain ⟨O', h1, h2, h4, h5⟩ := h
  obtain ⟨r1, r2⟩ := r
  cases r1 with
  | none =>
    obtain rfl := h5 rfl
    exact ⟨none, 0, O', rfl, Or.inl rfl, fun g o e => (by cases e), h1, h2⟩
  | some K =>
    obtain ⟨g, rfl, g1, g2, g3⟩ := h4 K rfl
    have e := hl K rfl
    refine ⟨some ⟨g, 0, none⟩, q, O', by simp [e], ri_si2 g1, fun g' o e' => ?_, h1, h2⟩
    simp only [Option.some.injEq, Addr.mk.injEq, and_true] at e'
    obtain ⟨rfl, rfl⟩ := e'
    exact ⟨rfl, g2, g3⟩
theorem no_qa {w : World} {lo x : Nat} {O : Nat → Prop} {s : Cs} (hf : Fc w lo x O s) {z pl sg : Int} {la : Option Addr} {len lc : Nat} (h : Calls Tryz.prog 43 #[.pointer (some ⟨x, 0, none⟩), .int .i64 z, .int .i64 pl, .int .i64 sg, .slice la len lc] w fun e w' => e = .returned (.bool false) ∧ w' = w) :
    Calls Tryz.prog 12 #[.pointer (some ⟨x, 0, none⟩), .int .i64 z, .int .i64 pl, .int .i64 sg, .slice la len lc] w fun en w' => Qa w w' lo x O [] 2 s en := by
  refine (rcode_no h).mono ?_
  rintro en w' ⟨rfl, rfl⟩
  exact ⟨none, 0, O, rfl, Or.inl rfl, fun g o e => (by cases e), hf, Trn.of (Below.refl _ _)⟩
/-- one block, by both readers -/
theorem both_r (hcl : CodeLaw) (s : Cs) (hso : SOk s) (hW : s.W = false) (hn : s.n ≤ 800000000) (z pl sg : Int) : ∃ (A : List Int) (er : Int) (s' : Cs), s'.W = false ∧ s'.n ≤ s.n + 50000 ∧ s'.ad = s.ad ∧ A.length ≤ 1024 ∧ (er = 0 ∨ er = 2 ∨ er = 4) ∧
    (∀ (w : World) lo x O (la : Option Addr) len lc, Cd w lo x O s → Sh w → L10.Nt w → 1 < lo → Calls Tryz.prog 11 #[.pointer (some ⟨x, 0, none⟩), .int .i64 z, .int .i64 pl, .int .i64 sg, .slice la len lc] w fun en w' => Pa w w' lo x O A er s' en) ∧
    (∀ (w : World) lo x O (la : Option Addr) len lc, Fc w lo x O s → Calls Tryz.prog 12 #[.pointer (some ⟨x, 0, none⟩), .int .i64 z, .int .i64 pl, .int .i64 sg, .slice la len lc] w fun en w' => Qa w w' lo x O A er s' en) := by
  rcases L10.size_any z with ⟨n, hz⟩ | hz
  · by_cases hk : 0 ≤ pl ∧ pl ≤ 2 ∧ 0 ≤ sg ∧ sg ≤ 2
    · obtain ⟨k1, k2, k3, k4⟩ := hk
      obtain ⟨p, rfl⟩ : ∃ p : Nat, pl = (p : Int) := ⟨pl.toNat, by omega⟩
      obtain ⟨g, rfl⟩ : ∃ g : Nat, sg = (g : Int) := ⟨sg.toNat, by omega⟩
      have hq := hz.sd.sq
      have hr : Ran (Kn n) (fun K => K = List.replicate (n * n) 0) (12 + 47 * (n * n)) s (codP z n (min p 1) g (List.replicate (n * n) 0) (endN n (List.replicate (n * n) 0) (n * n))) := cod_ran hso (by omega) hz (by omega) (by omega) (fun e => by rw [hW] at e; cases e)
      have hl : ∀ K, ((codP z n (min p 1) g (List.replicate (n * n) 0) (endN n (List.replicate (n * n) 0) (n * n))).run s).1 = some K → K.length = n * n := fun K hK => (hr.res K hK).1
      refine ⟨_, _, ((codP z n (min p 1) g (List.replicate (n * n) 0) (endN n (List.replicate (n * n) 0) (n * n))).run s).2, hr.w.trans hW, by have := hr.hi; omega, hr.ad, ?_, ?_, fun w lo x O la len lc hc hsh hnt hlo => (kcode_r hcl hc hsh hnt hlo (by omega) hz (by omega) (by omega) hW).mono (fun en w' h => h.pa hl), fun w lo x O la len lc hf => (rcode_any hf (by omega) hz (by omega) (by omega) (fun e => by rw [hW] at e; cases e) (fun _ => rfl)).mono (fun en w' h => h.qa hl)⟩
      · cases e : ((codP z n (min p 1) g (List.replicate (n * n) 0) (endN n (List.replicate (n * n) 0) (n * n))).run s).1 with
        | none => simp
        | some K => have := hl K e; simp; omega
      · split <;> simp
    · exact ⟨[], 2, s, hW, by omega, rfl, by simp, by simp, fun w lo x O la len lc hc hsh hnt hlo => (kcode_kind hc (by omega) hz hk).mono (fun en w' h => h.pa), fun w lo x O la len lc hf => no_qa hf (asked_kind hz hk)⟩
  · exact ⟨[], 2, s, hW, by omega, rfl, by simp, by simp, fun w lo x O la len lc hc hsh hnt hlo => (kcode_nz hc (by omega) hz).mono (fun en w' h => h.pa), fun w lo x O la len lc hf => no_qa hf (asked_nz hz)⟩

end Go.Proofs.YtkmnpechhdendaaGreatDoor
