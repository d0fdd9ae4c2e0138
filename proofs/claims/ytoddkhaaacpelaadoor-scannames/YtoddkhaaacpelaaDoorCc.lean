/- DERIVED. The walk of the document's Order. -/
import Derived.Test.YtoddkhaaacpelaaDoorCb
namespace Go.Proofs.YtoddkhaaacpelaaDoor
open Go.RowKit

set_option maxRecDepth 100000 in
set_option maxHeartbeats 1000000 in
theorem rorder_yes {w : World} {z : Int} {n : Nat} (h : Sz z n) : Calls Tryd.prog 21 #[.int .i64 z] w fun e w' => On w w' e n := by
  have HS : Hid (Sz z n) := h
  have HD : Hid (Sd n) := h.sd
  have n0 : (4 : Int) ≤ (n : Int) := by have := h.sd.lo; omega
  have n1 : (n : Int) ≤ 32 := by have := h.sd.hi; omega
  have nz : ((n : Int) == 0) = false := by rw [beq_eq_false_iff_ne]; omega
  clear h
  go_enter Tryd.func21, Tryd.ntmps21
  go_wp2_with fail
  refine (side_yes HS.out).mono ?_
  rintro e w' ⟨rfl, rfl⟩
  go_wp2_with fail
  go_loopg [5, 6] (2 * n - 1) (fun g l i wr => ∃ s : Nat, s + g = 2 * n - 1 ∧ i = .int .i64 s ∧ Og w n s 0 l wr)
  case atStart => exact ⟨0, by omega, rfl, Og.start (Oi.nil _ _) (Below.refl _ _)⟩
  case round =>
    obtain ⟨s, hs, rfl, ho⟩ := hrel
    have s0 : 0 ≤ (s : Int) := by omega
    by_cases hlt : s < 2 * n - 1
    · have s1 : (s : Int) ≤ 2 * (n : Int) - 2 := by omega
      have HF : Hid (Og w n s 0 u5 wr) := ho
      have HE : Hid (2 * n - 2 - s < gk) := by show _ < _; omega
      have HR : Hid (∀ l' wr', Og w n (s + 1) 0 l' wr' → ∃ s' : Nat, s' + (2 * n - 2 - s) = 2 * n - 1 ∧ Value.int .i64 ((s : Int) + 1) = .int .i64 (s' : Int) ∧ Og w n s' 0 l' wr') := fun l' wr' h => ⟨s + 1, by omega, by go_num, h⟩
      clear ho hs
      go_wp2_with fail
      go_loopg [5, 7] n (fun g l' i wr' => ∃ r : Nat, r + g = n ∧ i = .int .i64 r ∧ Og w n s r l' wr')
      case atStart => exact ⟨0, by omega, rfl, HF.out⟩
      case round =>
        clear HF
        obtain ⟨r, hr, rfl, ho⟩ := hrel
        have r0 : 0 ≤ (r : Int) := by omega
        have r1 : (r : Int) ≤ (n : Int) := by omega
        by_cases hrn : r < n
        · have r2 : (r : Int) < (n : Int) := by omega
          have HI : Hid (∀ l' w', Og w n s (r + 1) l' w' → ∃ r' : Nat, r' + (n - (r + 1)) = n ∧ Value.int .i64 ((r : Int) + 1) = .int .i64 (r' : Int) ∧ Og w n s r' l' w') := fun l' w' h => ⟨r + 1, by omega, by go_num, h⟩
          have HM : Hid (n - (r + 1) < gk) := by show _ < _; omega
          by_cases hc : r ≤ s ∧ s < n + r
          · have c0 : 0 ≤ (s : Int) - (r : Int) := by omega
            have c1 : (s : Int) - (r : Int) < (n : Int) := by omega
            obtain ⟨ad, m, cp, rfl, hm, hoi, hbel⟩ := ho
            have HOi : Hid (Oi wr w.heap.size ad m cp (ods n s ++ dg n s r)) := hoi
            have HBs : Hid (w.heap.size ≤ wr.heap.size) := hbel.size
            obtain ⟨p, hpn⟩ : ∃ p : Nat, p = r * n := ⟨_, rfl⟩
            have hp : (r : Int) * (n : Int) = (p : Int) := by rw [hpn]; simp
            have p1 : (p : Int) ≤ 1024 := by
              have h1 : r * n ≤ n * n := Nat.mul_le_mul_right _ (by omega)
              have := HD.out.sq
              omega
            have HX : Hid ((p : Int) + ((s : Int) - (r : Int)) = ((r * n + (s - r) : Nat) : Int)) := by show _ = _; rw [← hpn]; omega
            have HP : Hid (∀ g c w', Oi w' w.heap.size (some ⟨g, 0, none⟩) (m + 1) c ((ods n s ++ dg n s r) ++ [(p : Int) + ((s : Int) - (r : Int))]) → Below w.heap.size wr w' → Og w n s (r + 1) (.slice (some ⟨g, 0, none⟩) (m + 1) c) w') := fun g c w' h1 h2 => Og.put rfl hm h1 hbel h2 (by omega) (by omega) HX.out
            have m1 : m < 1024 := by
              have h1 := lnS_mono n (s := s + 1) (t := 2 * n - 1) (by omega)
              rw [HD.out.all, lnS] at h1
              have h2 := HD.out.sq
              rw [hm, List.length_append, ods_len, dg_len n s r (by omega)]
              omega
            clear hm hoi hbel hpn hr hc
            go_wp2_with (at_builtin; refine wpList_append_int _ (by rfl) _ _ (by rfl) w.heap.size m cp (ods n s ++ dg n s r) ad _ HOi.out HBs.out (by omega) (by rfl) (by rfl) ?_; intro g cap w5 how hb5 _)
            go_roundg (n - (r + 1))
            case measure => exact HM.out
            case rel => exact HI.out _ _ (HP.out _ _ _ how hb5)
          · have HX := HI.out _ _ (ho.skip hc)
            have HXX : Hid _ := HX
            by_cases c0 : 0 ≤ (s : Int) - (r : Int)
            · have c1 : ¬ (s : Int) - (r : Int) < (n : Int) := by omega
              clear ho hc hr HX
              go_wp2_with fail
              go_roundg (n - (r + 1))
              case measure => exact HM.out
              case rel => exact HXX.out
            · clear ho hc hr HX
              go_wp2_with fail
              go_roundg (n - (r + 1))
              case measure => exact HM.out
              case rel => exact HXX.out
        · obtain rfl : r = n := by omega
          have HX := HR.out u5 wr ho.next
          clear ho hr
          go_wp2_with fail
          go_roundg (2 * r - 2 - s)
          case measure => exact HE.out
          case rel => exact HX
    · obtain rfl : s = 2 * n - 1 := by omega
      have s1 : ¬ ((2 * n - 1 : Nat) : Int) ≤ 2 * (n : Int) - 2 := by omega
      have HX : Hid (On w wr (.returned (.tuple #[u5, .int .i64 0])) n) := by
        obtain ⟨a', m', c', e1, e2, e3, e4⟩ := ho
        have e5 : ods n (2 * n - 1) ++ dg n (2 * n - 1) 0 = ord n := by simp [dg, ord]
        rw [e5] at e2 e3
        rw [ord_len HD.out] at e2
        subst e2
        have e6 := e3.own.form (by have := HD.out.lo; have := Nat.mul_le_mul this this; omega)
        obtain ⟨b, cap, hv, _, _⟩ := e6
        simp only [Value.slice.injEq] at hv
        obtain ⟨rfl, _, rfl⟩ := hv
        subst e1
        exact ⟨b, _, rfl, e3, e4⟩
      clear ho hs
      generalize 2 * n - 1 = t at *
      go_wp2_with fail
      go_returns
      exact HX.out

theorem rorder_no {w : World} {z : Int} (h : Nz z) : Calls Tryd.prog 21 #[.int .i64 z] w fun e w' => e = .returned (.tuple #[.slice none 0 0, .int .i64 2]) ∧ w = w' := by
  have HS : Hid (Nz z) := h
  clear h
  go_enter Tryd.func21, Tryd.ntmps21
  go_wp2_with fail
  refine (side_no HS.out).mono ?_
  rintro e w' ⟨rfl, rfl⟩
  go_wp2_with fail
  go_returns
  exact ⟨rfl, rfl⟩

end Go.Proofs.YtoddkhaaacpelaaDoor
