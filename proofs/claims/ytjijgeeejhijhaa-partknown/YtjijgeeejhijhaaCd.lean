/- DERIVED. Rectangles compared: same, Same. -/
import Derived.Test.YtjijgeeejhijhaaGr
import Derived.Laws.StructEq
namespace Go.Proofs.Ytjijgeeejhijhaa
open Go.RowKit

theorem eqr (a b c d a' b' c' d' : Int) (w : World) : (Op.equalIn 10000 23 (.agg #[.int .i64 a, .int .i64 b, .int .i64 c, .int .i64 d]) (.agg #[.int .i64 a', .int .i64 b', .int .i64 c', .int .i64 d'])).run Try.prog w = .ok (decide ((a, b, c, d) = (a', b', c', d'))) w := by
  have u3 := Try.underlying3
  have a3 := Try.isAgg3
  have z3 := Try.sizeOf3
  have hS : Try.prog.underlying 23 = some (.struct (Try.prog.fieldsOf 23)) := by kernel_rfl
  rw [show (10000 : Nat) = 9999 + 1 from rfl, run_equalIn_agg w 9999 23 _ _ hS (by kernel_rfl)]
  simp only [Program.fieldsOf, Try.underlying23]
  go_simp
  by_cases h1 : a = a' <;> by_cases h2 : b = b' <;> by_cases h3 : c = c' <;> by_cases h4 : d = d' <;> simp [h1, h2, h3, h4]
/-- are two lists the same? -/
def eqR (C D : List Rc) : Bool := decide (C = D)
theorem eqR_yes {C D : List Rc} (h : C = D) : eqR C D = true := by simp [eqR, h]
theorem eqR_no {C D : List Rc} (h : ¬ C = D) : eqR C D = false := by simp [eqR, h]
theorem eqR_self (C : List Rc) : eqR C C = true := eqR_yes rfl

set_option maxRecDepth 100000 in
set_option maxHeartbeats 2000000 in
theorem same_any {w : World} {a b : Option Addr} {c d : Nat} {C D : List Rc} (h1 : Sr w a C) (h2 : Sr w b D) (hl : C.length ≤ 140737488355328) (hl2 : D.length ≤ 140737488355328) :
    Calls Try.prog 23 #[.slice a C.length c, .slice b D.length d] w fun e w' => e = .returned (.bool (eqR C D)) ∧ Below w.heap.size w w' := by
  by_cases hn : C.length = D.length
  · by_cases h0 : C.length = 0
    · obtain rfl : C = [] := List.eq_nil_of_length_eq_zero h0
      obtain rfl : D = [] := List.eq_nil_of_length_eq_zero (by simpa using hn.symm)
      rw [eqR_self]
      simp only [List.length_nil]
      go_enter Try.func23, Try.ntmps23
      go_wp2
      go_loop [5] (fun i => i = .int .i64 0) (fun _ => 0)
      case atStart => rfl
      case round =>
        subst hrel
        go_wp2
        go_ret
        exact ⟨rfl, Below.refl _ _⟩
    · obtain ⟨b1, o1, rfl, hbl, hc1⟩ := h1.form (by omega)
      obtain ⟨b2, o2, rfl, hbl2, hc2⟩ := h2.form (by omega)
      have hne : ((C.length : Int) != (D.length : Int)) = false := by simp [hn]
      have Q1 : Hid (∀ m j, j < C.length → Cl4 (w.drewN m) b1 (o1 + j * 4) (C.getD j rz)) := fun m j hj => ⟨(hc1 j hj).c0, (hc1 j hj).c1, (hc1 j hj).c2, (hc1 j hj).c3⟩
      have Q2 : Hid (∀ m j, j < C.length → Cl4 (w.drewN m) b2 (o2 + j * 4) (D.getD j rz)) := fun m j hj => ⟨(hc2 j (by omega)).c0, (hc2 j (by omega)).c1, (hc2 j (by omega)).c2, (hc2 j (by omega)).c3⟩
      have HN : Hid (C.length = D.length) := hn
      clear hn h1 h2 hc1 hc2
      go_enter Try.func23, Try.ntmps23
      go_wp2
      go_loopw [5] (fun i wr => ∃ k m : Nat, k ≤ C.length ∧ i = .int .i64 k ∧ wr = w.drewN m ∧ Hid (∀ j, j < k → C.getD j rz = D.getD j rz)) (fun i _ => C.length - (intOf i).toNat)
      case atStart => exact ⟨0, 0, by omega, rfl, rfl, fun j hj => by omega⟩
      case round =>
        obtain ⟨k, m, hk, rfl, rfl, HK⟩ := hrel
        by_cases hlt : k < C.length
        · have r1 := Q1.out m k hlt
          have r2 := Q2.out m k hlt
          have b0 : 0 ≤ (k : Int) := by omega
          have b1 : (k : Int) < (C.length : Int) := by omega
          have b2 : (k : Int) < (D.length : Int) := by have := HN.out; omega
          generalize he1 : C.getD k rz = p1 at *
          generalize he2 : D.getD k rz = p2 at *
          have HE1 : Hid (C.getD k rz = p1) := he1
          have HE2 : Hid (D.getD k rz = p2) := he2
          clear he1 he2
          generalize hW : w.drewN m = v at *
          have HW : Hid (w.drewN m = v) := hW
          clear hW
          obtain ⟨q0, q1, q2, q3⟩ := r1
          obtain ⟨s0, s1, s2, s3⟩ := r2
          obtain ⟨x1, y1, w1, z1⟩ := p1
          obtain ⟨x2, y2, w2, z2⟩ := p2
          simp only at q0 q1 q2 q3 s0 s1 s2 s3
          have hE := fun t => eqr x1 y1 w1 z1 x2 y2 w2 z2 t
          by_cases hp : (x1, y1, w1, z1) = (x2, y2, w2, z2)
          · rw [decide_eq_true hp] at hE
            have HP : Hid ((x1, y1, w1, z1) = (x2, y2, w2, z2)) := hp
            clear hp
            go_wp2
            go_quiet (fail)
            go_wp2
            go_roundw
            case rel => exact ⟨k + 1, m + nq, by omega, by go_num, by rw [← HW.out]; exact drewN_drewN _ _ _, fun j hj => by
              by_cases e : j = k
              · rw [e, HE1.out, HE2.out]; exact HP.out
              · exact HK.out j (by omega)⟩
            case measure => simp [intOf]; omega
          · rw [decide_eq_false hp] at hE
            have HF : Hid (eqR C D = false) := eqR_no (fun e => hp (by rw [← HE1.out, ← HE2.out, e]))
            clear hp
            go_wp2
            go_quiet (fail)
            go_wp2
            go_ret
            exact ⟨by rw [HF.out]; rfl, by rw [← HW.out]; exact below_drewN (below_drewN (Below.refl _ _) _) _⟩
        · go_wp2
          go_ret
          exact ⟨by rw [eqR_yes (ext_rc HN.out fun j hj => HK.out j (by omega))]; rfl, below_drewN (Below.refl _ _) _⟩
  · rw [eqR_no (fun e => hn (by rw [e]))]
    have hne : ((C.length : Int) != (D.length : Int)) = true := by rw [bne_iff_ne]; omega
    clear hn
    go_enter Try.func23, Try.ntmps23
    go_wp2
    go_ret
    exact ⟨rfl, Below.refl _ _⟩
theorem same_at {w : World} {a b : Option Addr} {c d n m : Nat} {C D : List Rc} (h1 : Sr w a C) (h2 : Sr w b D) (e1 : C.length = n) (e2 : D.length = m) (hl : n ≤ 140737488355328) (hl2 : m ≤ 140737488355328) :
    Calls Try.prog 23 #[.slice a n c, .slice b m d] w fun e w' => e = .returned (.bool (eqR C D)) ∧ Below w.heap.size w w' := by
  subst e1 e2
  exact same_any h1 h2 hl hl2
set_option maxRecDepth 100000 in
set_option maxHeartbeats 2000000 in
theorem rsame_any {w : World} {a b : Option Addr} {c d : Nat} {C D : List Rc} (h1 : Sr w a C) (h2 : Sr w b D) (hl : C.length ≤ 140737488355328) (hl2 : D.length ≤ 140737488355328) :
    Calls Try.prog 13 #[.slice a C.length c, .slice b D.length d] w fun e w' => e = .returned (.bool (eqR C D)) ∧ Below w.heap.size w w' := by
  by_cases hn : C.length = D.length
  · by_cases h0 : C.length = 0
    · obtain rfl : C = [] := List.eq_nil_of_length_eq_zero h0
      obtain rfl : D = [] := List.eq_nil_of_length_eq_zero (by simpa using hn.symm)
      rw [eqR_self]
      simp only [List.length_nil]
      go_enter Try.func13, Try.ntmps13
      go_wp2
      go_loop [5] (fun i => i = .int .i64 0) (fun _ => 0)
      case atStart => rfl
      case round =>
        subst hrel
        go_wp2
        go_ret
        exact ⟨rfl, Below.refl _ _⟩
    · obtain ⟨b1, o1, rfl, hbl, hc1⟩ := h1.form (by omega)
      obtain ⟨b2, o2, rfl, hbl2, hc2⟩ := h2.form (by omega)
      have hne : ((C.length : Int) != (D.length : Int)) = false := by simp [hn]
      have Q1 : Hid (∀ m j, j < C.length → Cl4 (w.drewN m) b1 (o1 + j * 4) (C.getD j rz)) := fun m j hj => ⟨(hc1 j hj).c0, (hc1 j hj).c1, (hc1 j hj).c2, (hc1 j hj).c3⟩
      have Q2 : Hid (∀ m j, j < C.length → Cl4 (w.drewN m) b2 (o2 + j * 4) (D.getD j rz)) := fun m j hj => ⟨(hc2 j (by omega)).c0, (hc2 j (by omega)).c1, (hc2 j (by omega)).c2, (hc2 j (by omega)).c3⟩
      have HN : Hid (C.length = D.length) := hn
      clear hn h1 h2 hc1 hc2
      go_enter Try.func13, Try.ntmps13
      go_wp2
      go_loopw [5] (fun i wr => ∃ k m : Nat, k ≤ C.length ∧ i = .int .i64 k ∧ wr = w.drewN m ∧ Hid (∀ j, j < k → C.getD j rz = D.getD j rz)) (fun i _ => C.length - (intOf i).toNat)
      case atStart => exact ⟨0, 0, by omega, rfl, rfl, fun j hj => by omega⟩
      case round =>
        obtain ⟨k, m, hk, rfl, rfl, HK⟩ := hrel
        by_cases hlt : k < C.length
        · have r1 := Q1.out m k hlt
          have r2 := Q2.out m k hlt
          have b0 : 0 ≤ (k : Int) := by omega
          have b1 : (k : Int) < (C.length : Int) := by omega
          have b2 : (k : Int) < (D.length : Int) := by have := HN.out; omega
          generalize he1 : C.getD k rz = p1 at *
          generalize he2 : D.getD k rz = p2 at *
          have HE1 : Hid (C.getD k rz = p1) := he1
          have HE2 : Hid (D.getD k rz = p2) := he2
          clear he1 he2
          generalize hW : w.drewN m = v at *
          have HW : Hid (w.drewN m = v) := hW
          clear hW
          obtain ⟨q0, q1, q2, q3⟩ := r1
          obtain ⟨s0, s1, s2, s3⟩ := r2
          obtain ⟨x1, y1, w1, z1⟩ := p1
          obtain ⟨x2, y2, w2, z2⟩ := p2
          simp only at q0 q1 q2 q3 s0 s1 s2 s3
          have hE := fun t => eqr x1 y1 w1 z1 x2 y2 w2 z2 t
          by_cases hp : (x1, y1, w1, z1) = (x2, y2, w2, z2)
          · rw [decide_eq_true hp] at hE
            have HP : Hid ((x1, y1, w1, z1) = (x2, y2, w2, z2)) := hp
            clear hp
            go_wp2
            go_quiet (fail)
            go_wp2
            go_roundw
            case rel => exact ⟨k + 1, m + nq, by omega, by go_num, by rw [← HW.out]; exact drewN_drewN _ _ _, fun j hj => by
              by_cases e : j = k
              · rw [e, HE1.out, HE2.out]; exact HP.out
              · exact HK.out j (by omega)⟩
            case measure => simp [intOf]; omega
          · rw [decide_eq_false hp] at hE
            have HF : Hid (eqR C D = false) := eqR_no (fun e => hp (by rw [← HE1.out, ← HE2.out, e]))
            clear hp
            go_wp2
            go_quiet (fail)
            go_wp2
            go_ret
            exact ⟨by rw [HF.out]; rfl, by rw [← HW.out]; exact below_drewN (below_drewN (Below.refl _ _) _) _⟩
        · go_wp2
          go_ret
          exact ⟨by rw [eqR_yes (ext_rc HN.out fun j hj => HK.out j (by omega))]; rfl, below_drewN (Below.refl _ _) _⟩
  · rw [eqR_no (fun e => hn (by rw [e]))]
    have hne : ((C.length : Int) != (D.length : Int)) = true := by rw [bne_iff_ne]; omega
    clear hn
    go_enter Try.func13, Try.ntmps13
    go_wp2
    go_ret
    exact ⟨rfl, Below.refl _ _⟩
theorem rsame_at {w : World} {a b : Option Addr} {c d n m : Nat} {C D : List Rc} (h1 : Sr w a C) (h2 : Sr w b D) (e1 : C.length = n) (e2 : D.length = m) (hl : n ≤ 140737488355328) (hl2 : m ≤ 140737488355328) :
    Calls Try.prog 13 #[.slice a n c, .slice b m d] w fun e w' => e = .returned (.bool (eqR C D)) ∧ Below w.heap.size w w' := by
  subst e1 e2
  exact rsame_any h1 h2 hl hl2
end Go.Proofs.Ytjijgeeejhijhaa
