/- DERIVED. A block coded by both writers. -/
import Derived.Test.YtkmnpechhdendaaGreatDoorFi
namespace Go.Proofs.YtkmnpechhdendaaGreatDoor
open Go.RowKit L3

/-- levels are all small enough, or there is a first one that is not -/
theorem first_bad (L : List Int) : ∀ q, (∀ p, p < q → -1048576 ≤ L.getD p 0 ∧ L.getD p 0 ≤ 1048576) ∨ ∃ f, f < q ∧ (∀ p, p < f → -1048576 ≤ L.getD p 0 ∧ L.getD p 0 ≤ 1048576) ∧ (L.getD f 0 < -1048576 ∨ 1048576 < L.getD f 0)
  | 0 => Or.inl fun p h => by omega
  | q + 1 => by
    rcases first_bad L q with h | ⟨f, h1, h2, h3⟩
    · by_cases hb : -1048576 ≤ L.getD q 0 ∧ L.getD q 0 ≤ 1048576
      · refine Or.inl fun p hp => ?_
        by_cases e : p = q
        · rw [e]; exact hb
        · exact h p (by omega)
      · exact Or.inr ⟨q, by omega, h, by omega⟩
    · exact Or.inr ⟨f, by omega, h2, h3⟩
/-- one block, by both writers -/
theorem both_w (hcl : CodeLaw) (s : Cs) (hso : SOk s) (hW : s.W = true) (hn : s.n ≤ 800000000) (z pl sg : Int) (L : List Int) : ∃ (A : List Int) (er : Int) (s' : Cs), s'.W = true ∧ s'.n ≤ s.n + 50000 ∧ s'.ad = s.ad ∧ A.length ≤ 1024 ∧ (er = 0 ∨ er = 2 ∨ er = 4) ∧
    (∀ (w : World) lo x O (la : Option Addr) lc, Cd w lo x O s → Sh w → L10.Nt w → 1 < lo → L10.Si w la L → (∀ g o, la = some ⟨g, o, none⟩ → ¬ O g) → Calls Tryz.prog 11 #[.pointer (some ⟨x, 0, none⟩), .int .i64 z, .int .i64 pl, .int .i64 sg, .slice la L.length lc] w fun en w' => Pa w w' lo x O A er s' en) ∧
    (∀ (w : World) lo x O (la : Option Addr) lc, Fc w lo x O s → L10.Si w la L → Calls Tryz.prog 12 #[.pointer (some ⟨x, 0, none⟩), .int .i64 z, .int .i64 pl, .int .i64 sg, .slice la L.length lc] w fun en w' => Qa w w' lo x O A er s' en) := by
  rcases L10.size_any z with ⟨n, hz⟩ | hz
  · by_cases hk : 0 ≤ pl ∧ pl ≤ 2 ∧ 0 ≤ sg ∧ sg ≤ 2
    · obtain ⟨k1, k2, k3, k4⟩ := hk
      obtain ⟨p, rfl⟩ : ∃ p : Nat, pl = (p : Int) := ⟨pl.toNat, by omega⟩
      obtain ⟨g, rfl⟩ : ∃ g : Nat, sg = (g : Int) := ⟨sg.toNat, by omega⟩
      have hq := hz.sd.sq
      by_cases hlen : L.length = n * n
      · have h0 : 0 < L.length := by have := hz.sd.lo; rw [hlen]; exact Nat.mul_pos (by omega) (by omega)
        rcases first_bad L (n * n) with hall | ⟨f, hf, hf1, hf2⟩
        · have hL : Lv n L := ⟨hlen, fun p => by
            by_cases hp : p < n * n
            · exact hall p hp
            · rw [List.getD_eq_getElem?_getD, List.getElem?_eq_none (by omega)]; simp⟩
          have hr : Ran (Kn n) (fun K => K = L) (12 + 47 * (n * n)) s (codP z n (min p 1) g L (endN n L (n * n))) := cod_ran hso (by omega) hz (by omega) (by omega) (fun _ => hL)
          have hl : ∀ K, ((codP z n (min p 1) g L (endN n L (n * n))).run s).1 = some K → K.length = n * n := fun K hK => (hr.res K hK).1
          refine ⟨((codP z n (min p 1) g L (endN n L (n * n))).run s).1.getD [], if ((codP z n (min p 1) g L (endN n L (n * n))).run s).1.isSome then 0 else 4, ((codP z n (min p 1) g L (endN n L (n * n))).run s).2, hr.w.trans hW, by have := hr.hi; omega, hr.ad, ?_, ?_, fun w lo x O la lc hc hsh hnt hlo hsi hno => ?_, fun w lo x O la lc hf hsi => ?_⟩
          · cases e : ((codP z n (min p 1) g L (endN n L (n * n))).run s).1 with
            | none => simp
            | some K => have := hl K e; simp; omega
          · split <;> simp
          · obtain ⟨b, o, rfl, hb, hcell⟩ := hsi.form h0
            rw [hlen]
            exact (kcode_w hcl hc hsh hnt hlo (by omega) hz (by omega) (by omega) hW hL hb (hno b o rfl) (fun p hp => hcell p (by omega))).mono (fun en w' h => h.pa hl)
          · rw [hlen]
            exact (rcode_any hf (by omega) hz (by omega) (by omega) (fun _ => ⟨rfl, hL, hsi⟩) (fun e => by rw [hW] at e; cases e)).mono (fun en w' h => h.qa hl)
        · refine ⟨[], 2, s, hW, by omega, rfl, by simp, by simp, fun w lo x O la lc hc hsh hnt hlo hsi hno => ?_, fun w lo x O la lc hfc hsi => ?_⟩
          · obtain ⟨b, o, rfl, hb, hcell⟩ := hsi.form h0
            rw [hlen]
            refine (kcode_bad hc (by omega) hW hz (by omega) (by omega) (fun O1 w1 u ht hb1 => ?_)).mono (fun en w' h => h.pa)
            refine writable_amt (L := L) hq (fun p hp => ?_) hf hf1 hf2
            rw [L10.newCell hb1 _ _ (Nat.lt_of_lt_of_le hb ht.ke.size), ht.ke.cell _ _ hb (hno b o rfl)]
            exact hcell p (by omega)
          · obtain ⟨b, o, rfl, hb, hcell⟩ := hsi.form h0
            rw [hlen]
            exact no_qa hfc (asked_amt hfc hW hz (by omega) (by omega) (L := L) (fun p hp => hcell p (by omega)) hf hf1 hf2)
      · refine ⟨[], 2, s, hW, by omega, rfl, by simp, by simp, fun w lo x O la lc hc hsh hnt hlo hsi hno => ?_, fun w lo x O la lc hfc hsi => ?_⟩
        · exact (kcode_bad hc (by omega) hW hz (by omega) (by omega) (fun O1 w1 u ht hb1 => writable_len hlen)).mono (fun en w' h => h.pa)
        · exact no_qa hfc (asked_len hfc hW hz (by omega) (by omega) hlen)
    · exact ⟨[], 2, s, hW, by omega, rfl, by simp, by simp, fun w lo x O la lc hc hsh hnt hlo hsi hno => (kcode_kind hc (by omega) hz hk).mono (fun en w' h => h.pa), fun w lo x O la lc hf hsi => no_qa hf (asked_kind hz hk)⟩
  · exact ⟨[], 2, s, hW, by omega, rfl, by simp, by simp, fun w lo x O la lc hc hsh hnt hlo hsi hno => (kcode_nz hc (by omega) hz).mono (fun en w' h => h.pa), fun w lo x O la lc hf hsi => no_qa hf (asked_nz hz)⟩

end Go.Proofs.YtkmnpechhdendaaGreatDoor
