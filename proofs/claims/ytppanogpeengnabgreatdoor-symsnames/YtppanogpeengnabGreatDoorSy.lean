/- DERIVED. A table is laid into a set; lists of sets that grow. -/
import Derived.Test.YtppanogpeengnabGreatDoorSx
namespace Go.Proofs.YtppanogpeengnabGreatDoor
open Go.RowKit L3

/-- a table of a set in memory: where it lies, and what becomes of the set where another one is laid there -/
structure Ta (w : World) (lo bt : Nat) (B : Nat → Prop) (S : Sx) (kk c pb tc : Nat) (ta : Option Addr) : Prop where
  own : B pb
  ne : pb ≠ bt
  ob : B bt
  top : ∀ v, Below w.heap.size w v → v.cell? ⟨bt, kk, none⟩ = some (.slice (some ⟨pb, 0, none⟩) (sC kk) (sC kk))
  c0 : ∀ v, Below w.heap.size w v → v.cell? ⟨pb, c * 2, none⟩ = some (.slice ta (sV kk) tc)
  c1 : ∀ v, Below w.heap.size w v → v.cell? ⟨pb, c * 2 + 1, none⟩ = some (.int .i64 (tb S kk c).2)
  th : ∀ v j, Below w.heap.size w v → v.frozen? ⟨pb, j, none⟩ = false
  sl : ∀ v, Below w.heap.size w v → Sl v .u16 ta (tb S kk c).1
  put : ∀ v g cap C n, Below w.heap.size w v → Sl v .u16 (some ⟨g, 0, none⟩) C → w.heap.size ≤ g → C.length = sV kk → TOk C n → ∃ B', Hs ((v.setCell ⟨pb, c * 2, none⟩ (.slice (some ⟨g, 0, none⟩) (sV kk) cap)).setCell ⟨pb, c * 2 + 1, none⟩ (.int .i64 n)) lo bt B' (S.set kk ((S.getD kk []).set c (C, n))) ∧ (∀ y, B' y → B y ∨ w.heap.size ≤ y) ∧ Ke B v ((v.setCell ⟨pb, c * 2, none⟩ (.slice (some ⟨g, 0, none⟩) (sV kk) cap)).setCell ⟨pb, c * 2 + 1, none⟩ (.int .i64 n))
theorem Hs.at {w : World} {lo bt : Nat} {B : Nat → Prop} {S : Sx} (h : Hs w lo bt B S) {kk c : Nat} (hk : kk < 32) (hc : c < sC kk) : ∃ pb tc ta, Ta w lo bt B S kk c pb tc ta := by
  obtain ⟨L, h1, h2, h3, rfl, rfl⟩ := h
  have hkl : kk < L.length := by rw [h2.1]; exact hk
  have hp := List.getElem?_eq_getElem hkl
  obtain ⟨o1, o2⟩ := h2.2 kk _ hp
  have hcl : c < L[kk].2.length := by rw [o1]; exact hc
  have hs := List.getElem?_eq_getElem hcl
  have hpK : L[kk] ∈ L := List.getElem_mem hkl
  have hsm : L[kk].2[c] ∈ L[kk].2 := List.getElem_mem hcl
  obtain ⟨o3, o4⟩ := o2 _ hsm
  have et := ab_tb hp hs
  refine ⟨L[kk].1, L[kk].2[c].c, L[kk].2[c].a, Or.inr ⟨_, hpK, Or.inl rfl⟩, (h1.lie _ hpK).2.2, Or.inl rfl, fun v hv => ?_, fun v hv => ?_, fun v hv => ?_, fun v j hv => (h1.to hv).th _ hpK j, fun v hv => ?_, fun v g cap C n hv hsl hg hC hT => ?_⟩
  · have := (h1.to hv).hd kk _ hp; rw [o1] at this; exact this
  · have := (h1.to hv).c0 _ hpK c _ hs; rw [o3] at this; exact this
  · rw [et]; exact (h1.to hv).c1 _ hpK c _ hs
  · rw [et]; exact (h1.to hv).sl _ hpK _ hsm
  · have hlo : lo ≤ w.heap.size := Nat.le_trans h1.blo (Nat.le_of_lt h1.blt)
    have hne : ∀ b o, (some ⟨g, 0, none⟩ : Option Addr) = some ⟨b, o, none⟩ → C ≠ [] → b ≠ bt ∧ ∀ q ∈ L, b ≠ q.1 := fun b o e _ => by
      simp only [Option.some.injEq, Addr.mk.injEq, and_true] at e
      refine ⟨by have := h1.blt; omega, fun q hq => by have := (h1.lie q hq).2.1; omega⟩
    have hput := (h1.to hv).put hp hcl ⟨some ⟨g, 0, none⟩, cap, C, n⟩ hsl hne
    simp only [hC] at hput
    refine ⟨_, ⟨_, hput, h2.put hp ⟨hC, hT⟩, fun q hq => ?_, by rw [ab_set hp], rfl⟩, fun y hy => ?_, ?_⟩
    · rcases St.mem_set hp hq with e | e
      · subst e
        refine ⟨(h3 _ hpK).1, fun t ht b o e1 e2 => ?_⟩
        rcases List.mem_or_eq_of_mem_set ht with e | e
        · exact (h3 _ hpK).2 t e b o e1 e2
        · subst e
          simp only [Option.some.injEq, Addr.mk.injEq, and_true] at e1
          omega
      · exact h3 q e
    · rcases Bs.set hp hy with e | ⟨_, o, e⟩
      · exact Or.inl e
      · simp only [Option.some.injEq, Addr.mk.injEq, and_true] at e
        exact Or.inr (by omega)
    · have hB : Bs bt L L[kk].1 := Or.inr ⟨_, hpK, Or.inl rfl⟩
      exact Ke.trans (Ke.set _ _ _ _ hB) (Ke.set _ _ _ _ hB) (fun _ e => e) (fun _ _ e => e)

theorem ke_drew (P : Nat → Prop) (w : World) : Ke P w w.drew := Ke.of (below_drew (Below.refl _ _))
theorem ke_two (U : World) (pb i j : Nat) (a b : Value) : Ke (fun y => y = pb) U ((U.drew.setCell ⟨pb, i, none⟩ a).setCell ⟨pb, j, none⟩ b) :=
  Ke.trans (ke_drew (fun y => y = pb) U) (Ke.trans (Ke.set (fun y => y = pb) _ ⟨pb, i, none⟩ a rfl) (Ke.set (fun y => y = pb) _ ⟨pb, j, none⟩ b rfl) (fun _ e => e) (fun _ _ e => e) (R := fun y => y = pb)) (fun _ e => e) (fun _ _ e => e)

/-! ### lists of sets -/
theorem Tryz.inf25 : (Tryz.prog.info? 29).map (fun i => (i.zero, i.size, i.bytes)) = some (some (.agg #[.slice none 0 0]), 1, 24) := by kernel_rfl
def sv (bt : Nat) : Value := .slice (some ⟨bt, 0, none⟩) 32 32
theorem own_ke {P : Nat → Prop} {w w' : World} {B e size n : Nat} {v : Value} {xs : List Value} (h : w.ownsRow B e size v n xs) (hk : Ke P w w') (hP : ∀ g, v.ownBlock = some g → ¬ P g) : w'.ownsRow B e size v n xs := by
  refine ⟨h.1, ?_⟩
  rcases h.2 with h1 | ⟨b, cap, cur, rfl, h2, h3, h4⟩
  · exact Or.inl h1
  · exact Or.inr ⟨b, cap, cur, rfl, h2, by rw [hk.block b ((Array.getElem?_eq_some_iff.1 h3).1) (hP b rfl)]; exact h3, h4⟩
/-- a list of sets, all of it in the blocks of D -/
structure Ls (w : World) (lo : Nat) (v : Value) (R : List Sx) (D : Nat → Prop) : Prop where
  ex : ∃ M : List Nat, M.length = R.length ∧ w.ownsRow lo 29 1 v R.length (M.map sv) ∧ (∀ (j : Nat) bt S, M[j]? = some bt → R[j]? = some S → ∃ B, Hs w lo bt B S ∧ (∀ y, B y → D y) ∧ ∀ g, v.ownBlock = some g → ¬ B g) ∧ (∀ g, v.ownBlock = some g → D g) ∧ ∀ y, D y → lo ≤ y ∧ y < w.heap.size
theorem Ls.nil (w : World) (lo : Nat) : Ls w lo (.slice none 0 0) [] (fun _ => False) := ⟨[], rfl, World.ownsRow_nil _ _ _ _, fun j bt S h => by simp at h, fun g h => by simp [Value.ownBlock] at h, fun _ h => h.elim⟩
theorem Ls.lt {w : World} {lo : Nat} {v : Value} {R : List Sx} {D : Nat → Prop} (h : Ls w lo v R D) {y : Nat} (hy : D y) : lo ≤ y ∧ y < w.heap.size := by obtain ⟨_, _, _, _, _, h⟩ := h; exact h y hy
theorem Ls.ke {P : Nat → Prop} {w w' : World} {lo : Nat} {v : Value} {R : List Sx} {D : Nat → Prop} (h : Ls w lo v R D) (hk : Ke P w w') (hP : ∀ b, P b → ¬ D b) : Ls w' lo v R D := by
  obtain ⟨M, h1, h2, h3, h4, h5⟩ := h
  refine ⟨M, h1, own_ke h2 hk (fun g hg e => hP g e (h4 g hg)), fun j bt S hj hS => ?_, h4, fun y hy => ⟨(h5 y hy).1, Nat.lt_of_lt_of_le (h5 y hy).2 hk.size⟩⟩
  obtain ⟨B, a1, a2, a3⟩ := h3 j bt S hj hS
  exact ⟨B, a1.ke hk (fun b hb e => hP b hb (a2 b e)), a2, a3⟩
theorem Ls.to {w w' : World} {lo : Nat} {v : Value} {R : List Sx} {D : Nat → Prop} (h : Ls w lo v R D) (hb : Below w.heap.size w w') : Ls w' lo v R D := h.ke (P := fun _ => False) (Ke.of hb) (fun _ e => e.elim)
theorem Ls.at {w : World} {lo : Nat} {v : Value} {R : List Sx} {D : Nat → Prop} (h : Ls w lo v R D) {j : Nat} (hj : j < R.length) : ∃ g cap bt B, v = .slice (some ⟨g, 0, none⟩) R.length cap ∧ Hs w lo bt B (R.getD j []) ∧ (∀ y, B y → D y) ∧ D g ∧ w.cell? ⟨g, j, none⟩ = some (.slice (some ⟨bt, 0, none⟩) 32 32) := by
  obtain ⟨M, h1, h2, h3, h4, h5⟩ := h
  obtain ⟨g, cap, hv, hB, hlt⟩ := h2.form (by omega)
  have hjM : j < M.length := by omega
  have hM := List.getElem?_eq_getElem hjM
  have hR := List.getElem?_eq_getElem hj
  obtain ⟨B, a1, a2, _⟩ := h3 j _ _ hM hR
  subst hv
  refine ⟨g, cap, M[j], B, rfl, by rw [List.getD_eq_getElem?_getD, hR]; exact a1, a2, h4 g rfl, ?_⟩
  rw [h2.cellAt j (by omega), List.getElem?_map, hM]
  rfl
theorem Ls.form {w : World} {lo : Nat} {v : Value} {R : List Sx} {D : Nat → Prop} (h : Ls w lo v R D) : ∃ a c, v = .slice a R.length c := by
  obtain ⟨M, h1, h2, _⟩ := h
  exact L2.own_slice h2

end Go.Proofs.YtppanogpeengnabGreatDoor
