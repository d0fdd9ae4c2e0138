/- DERIVED. Rows of whole numbers; EqInts. -/
import Derived.Test.YtkippnfijjhobabTd
import Derived.BigQuiet
namespace Go.Proofs.Ytkippnfijjhobab
open Go.RowKit

theorem below_drewN {B : Nat} {w u : World} (h : Below B w u) (n : Nat) : Below B w (u.drewN n) := ⟨h.os, h.tape, h.output, h.size, h.block⟩
/-- whole numbers, as cells -/
def is (xs : List Int) : List Value := xs.map fun z : Int => .int .i64 z
theorem is_length (xs : List Int) : (is xs).length = xs.length := by simp [is]
theorem is_get (xs : List Int) (j : Nat) (h : j < xs.length) : (is xs)[j]? = some (.int .i64 (xs.getD j 0)) := by simp [is, List.getElem?_eq_getElem h]
theorem is_append (xs ys : List Int) : is (xs ++ ys) = is xs ++ is ys := by simp [is]
theorem is_one (xs : List Int) : ∀ u ∈ is xs, u.oneCell' = true := by
  intro u hu
  obtain ⟨z, _, rfl⟩ := List.mem_map.1 hu
  rfl
/-- a slice from address a holds the numbers C -/
def Si (w : World) (a : Option Addr) (C : List Int) : Prop :=
  C = [] ∨ ∃ b o, a = some ⟨b, o, none⟩ ∧ b < w.heap.size ∧ ∀ j, j < C.length → w.cell? ⟨b, o + j, none⟩ = some (.int .i64 (C.getD j 0))
theorem Si.nil (w : World) (a : Option Addr) : Si w a [] := Or.inl rfl
theorem Si.to {w w' : World} {a : Option Addr} {C : List Int} (h : Si w a C) (hb : Below w.heap.size w w') : Si w' a C := by
  rcases h with h | ⟨b, o, h1, h2, h3⟩
  · exact Or.inl h
  · exact Or.inr ⟨b, o, h1, Nat.lt_of_lt_of_le h2 hb.size, fun j hj => by rw [newCell hb b _ (by omega)]; exact h3 j hj⟩
theorem Si.form {w : World} {a : Option Addr} {C : List Int} (h : Si w a C) (h0 : 0 < C.length) : ∃ b o, a = some ⟨b, o, none⟩ ∧ b < w.heap.size ∧ ∀ j, j < C.length → w.cell? ⟨b, o + j, none⟩ = some (.int .i64 (C.getD j 0)) := by
  rcases h with rfl | h
  · simp at h0
  · exact h
theorem Si.ofOwn {w : World} {B n c : Nat} {a : Option Addr} {C : List Int} (hn : n = C.length) (h : w.ownsRow B 3 1 (.slice a n c) n (is C)) : Si w a C := by
  subst hn
  obtain ⟨h1, h2, h3⟩ := own_form h
  rcases h3 with ⟨_, h0, _⟩ | ⟨g, rfl, h4, h5⟩
  · exact Or.inl (List.eq_nil_of_length_eq_zero h0)
  · exact Or.inr ⟨g, 0, rfl, h5, fun j hj => by rw [Nat.zero_add, h.cellAt j (by omega)]; exact is_get C j hj⟩
theorem Si.built (w : World) (C : List Int) (t : Nat) : Si (w.alloc (.cells (is C).toArray t)) (some ⟨w.heap.size, 0, none⟩) C :=
  Or.inr ⟨w.heap.size, 0, rfl, by simp, fun j hj => by
    have := World.news_of_block (cs := (is C).toArray) (heap_alloc_new w (.cells (is C).toArray t)) j (.int .i64 (C.getD j 0)) (is_get C j hj)
    rw [addr_add] at this
    exact this⟩
theorem ext_getI {C D : List Int} (hl : C.length = D.length) (h : ∀ j, j < C.length → C.getD j 0 = D.getD j 0) : C = D := by
  refine List.ext_getElem hl fun j h1 h2 => ?_
  have := h j h1
  simpa [List.getD_eq_getElem?_getD, List.getElem?_eq_getElem h1, List.getElem?_eq_getElem h2] using this
/-- are two lists the same? -/
def eqI (C D : List Int) : Bool := decide (C = D)
theorem eqI_yes {C D : List Int} (h : C = D) : eqI C D = true := by simp [eqI, h]
theorem eqI_no {C D : List Int} (h : ¬ C = D) : eqI C D = false := by simp [eqI, h]
theorem eqI_self (C : List Int) : eqI C C = true := eqI_yes rfl

set_option maxRecDepth 100000 in
set_option maxHeartbeats 1000000 in
theorem eqInts_any {w : World} {a b : Option Addr} {c d : Nat} {C D : List Int} (h1 : Si w a C) (h2 : Si w b D) (hl : C.length ≤ 140737488355328) (hl2 : D.length ≤ 140737488355328) :
    Calls Try.prog 7 #[.slice a C.length c, .slice b D.length d] w fun e w' => e = .returned (.bool (eqI C D)) ∧ Below w.heap.size w w' := by
  by_cases hn : C.length = D.length
  · by_cases h0 : C.length = 0
    · obtain rfl : C = [] := List.eq_nil_of_length_eq_zero h0
      obtain rfl : D = [] := List.eq_nil_of_length_eq_zero (by simpa using hn.symm)
      rw [eqI_self]
      simp only [List.length_nil]
      go_enter Try.func7, Try.ntmps7
      go_wp2
      go_loop [5] (fun i => i = .int .i64 0) (fun _ => 0)
      case atStart => rfl
      case round =>
        subst hrel
        go_wp2
        go_ret
        exact ⟨rfl, Below.refl _ _⟩
    · obtain ⟨b1, o1, rfl, hbl, hc1⟩ := h1.form (by omega)
      obtain ⟨b2, o2, rfl, hbl2, hc2⟩ := h2.form (by omega)
      have hne : ((C.length : Int) != (D.length : Int)) = false := by simp [hn]
      have Q1 : Hid (∀ m j, j < C.length → (w.drewN m).cell? ⟨b1, o1 + j, none⟩ = some (.int .i64 (C.getD j 0))) := fun m j hj => hc1 j hj
      have Q2 : Hid (∀ m j, j < C.length → (w.drewN m).cell? ⟨b2, o2 + j, none⟩ = some (.int .i64 (D.getD j 0))) := fun m j hj => hc2 j (by omega)
      have HN : Hid (C.length = D.length) := hn
      clear hn h1 h2 hc1 hc2
      go_enter Try.func7, Try.ntmps7
      go_wp2
      go_loopw [5] (fun i wr => ∃ k m : Nat, k ≤ C.length ∧ i = .int .i64 k ∧ wr = w.drewN m ∧ Hid (∀ j, j < k → C.getD j 0 = D.getD j 0)) (fun i _ => C.length - (intOf i).toNat)
      case atStart => exact ⟨0, 0, by omega, rfl, rfl, fun j hj => by omega⟩
      case round =>
        obtain ⟨k, m, hk, rfl, rfl, HK⟩ := hrel
        by_cases hlt : k < C.length
        · have r1 := Q1.out m k hlt
          have r2 := Q2.out m k hlt
          have b0 : 0 ≤ (k : Int) := by omega
          have b1 : (k : Int) < (C.length : Int) := by omega
          have b2 : (k : Int) < (D.length : Int) := by have := HN.out; omega
          generalize he1 : C.getD k 0 = p1 at *
          generalize he2 : D.getD k 0 = p2 at *
          have HE1 : Hid (C.getD k 0 = p1) := he1
          have HE2 : Hid (D.getD k 0 = p2) := he2
          clear he1 he2
          generalize hW : w.drewN m = v at *
          have HW : Hid (w.drewN m = v) := hW
          clear hW
          by_cases hp : p1 = p2
          · have hp' : (p1 != p2) = false := by simp [hp]
            have HP : Hid (p1 = p2) := hp
            clear hp
            go_wp2
            go_quiet (fail)
            go_wp2
            go_roundw
            case rel => exact ⟨k + 1, m + nq, by omega, by go_num, by rw [← HW.out]; exact drewN_drewN _ _ _, fun j hj => by
              by_cases e : j = k
              · rw [e, HE1.out, HE2.out]; exact HP.out
              · exact HK.out j (by omega)⟩
            case measure => simp [intOf]; omega
          · have hp' : (p1 != p2) = true := by rw [bne_iff_ne]; exact hp
            have HF : Hid (eqI C D = false) := eqI_no (fun e => hp (by rw [← HE1.out, ← HE2.out, e]))
            clear hp
            go_wp2
            go_quiet (fail)
            go_wp2
            go_ret
            exact ⟨by rw [HF.out]; rfl, by rw [← HW.out]; exact below_drewN (below_drewN (Below.refl _ _) _) _⟩
        · go_wp2
          go_ret
          exact ⟨by rw [eqI_yes (ext_getI HN.out fun j hj => HK.out j (by omega))]; rfl, below_drewN (Below.refl _ _) _⟩
  · rw [eqI_no (fun e => hn (by rw [e]))]
    have hne : ((C.length : Int) != (D.length : Int)) = true := by rw [bne_iff_ne]; omega
    clear hn
    go_enter Try.func7, Try.ntmps7
    go_wp2
    go_ret
    exact ⟨rfl, Below.refl _ _⟩

theorem eqInts_at {w : World} {a b : Option Addr} {c d n m : Nat} {C D : List Int} (h1 : Si w a C) (h2 : Si w b D) (e1 : C.length = n) (e2 : D.length = m) (hl : n ≤ 140737488355328) (hl2 : m ≤ 140737488355328) :
    Calls Try.prog 7 #[.slice a n c, .slice b m d] w fun e w' => e = .returned (.bool (eqI C D)) ∧ Below w.heap.size w w' := by
  subst e1 e2
  exact eqInts_any h1 h2 hl hl2

end Go.Proofs.Ytkippnfijjhobab
