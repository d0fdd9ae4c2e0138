/- DERIVED. The walk of the program's Order. -/
import Derived.Test.YtoddkhaaacpelaaDoorCa
import Derived.Deep.LoopGhost
namespace Go.Proofs.YtoddkhaaacpelaaDoor
open Go.RowKit

/-- the order of a side, alone in new memory -/
def On (w w' : World) (e : Ending) (n : Nat) : Prop := ∃ g c, e = .returned (.tuple #[.slice (some ⟨g, 0, none⟩) (n * n) c, .int .i64 0]) ∧ Oi w' w.heap.size (some ⟨g, 0, none⟩) (n * n) c (ord n) ∧ Below w.heap.size w w'

/-- a list of the call's own, in diagonal s ahead of row r -/
structure Og (w : World) (n : Nat) (s r : Nat) (l : Value) (wr : World) : Prop where
  ex : ∃ (a : Option Addr) (m c : Nat), l = .slice a m c ∧ m = (ods n s ++ dg n s r).length ∧ Oi wr w.heap.size a m c (ods n s ++ dg n s r) ∧ Below w.heap.size w wr
theorem Og.start {w wr : World} {n c : Nat} {a : Option Addr} (h : Oi wr w.heap.size a 0 c []) (hb : Below w.heap.size w wr) : Og w n 0 0 (.slice a 0 c) wr := ⟨a, 0, c, rfl, rfl, h, hb⟩
theorem Og.skip {w wr : World} {n s r : Nat} {l : Value} (h : Og w n s r l wr) (hs : ¬ (r ≤ s ∧ s < n + r)) : Og w n s (r + 1) l wr := by
  obtain ⟨a, m, c, h1, h2, h3, h4⟩ := h
  exact ⟨a, m, c, h1, by rw [dg_skip n s r hs]; exact h2, by rw [dg_skip n s r hs]; exact h3, h4⟩
theorem Og.first {w wr : World} {n s : Nat} {l : Value} (h : Og w n s 0 l wr) : Og w n s (s + 1 - n) l wr := by
  obtain ⟨a, m, c, h1, h2, h3, h4⟩ := h
  have e : dg n s (s + 1 - n) = dg n s 0 := by rw [dg_nil n s (s + 1 - n) (Nat.le_refl _)]; rfl
  exact ⟨a, m, c, h1, by rw [e]; exact h2, by rw [e]; exact h3, h4⟩
theorem Og.next {w wr : World} {n s : Nat} {l : Value} (h : Og w n s n l wr) : Og w n (s + 1) 0 l wr := by
  obtain ⟨a, m, c, h1, h2, h3, h4⟩ := h
  have e : ods n (s + 1) ++ dg n (s + 1) 0 = ods n s ++ dg n s n := by rw [ods_step]; simp [dg]
  exact ⟨a, m, c, h1, by rw [e]; exact h2, by rw [e]; exact h3, h4⟩
theorem Og.over {w wr : World} {n s r : Nat} {l : Value} (h : Og w n s r l wr) (hs : s < r) (hr : r ≤ n) : Og w n (s + 1) 0 l wr := by
  refine Og.next ?_
  obtain ⟨a, m, c, h1, h2, h3, h4⟩ := h
  exact ⟨a, m, c, h1, by rw [dg_end n s r hs hr]; exact h2, by rw [dg_end n s r hs hr]; exact h3, h4⟩
theorem Og.put {w wr w' : World} {n s r g m c : Nat} {C : List Int} {x : Int} (hC : C = ods n s ++ dg n s r) (hm : m = C.length) (h : Oi w' w.heap.size (some ⟨g, 0, none⟩) (m + 1) c (C ++ [x])) (hb : Below w.heap.size w wr) (hb' : Below w.heap.size wr w') (hs : r ≤ s) (hs' : s < n + r)
    (hx : x = ((r * n + (s - r) : Nat) : Int)) : Og w n s (r + 1) (.slice (some ⟨g, 0, none⟩) (m + 1) c) w' := by
  subst hC hm hx
  exact ⟨_, _, c, rfl, by rw [dg_step n s r hs hs', ← List.append_assoc, List.length_append (bs := [_])]; rfl, by rw [dg_step n s r hs hs', ← List.append_assoc]; exact h, hb.trans hb'⟩

/-- n squared, by a name -/
theorem sq_name {n : Nat} (h : Sd n) : ∃ q : Nat, q = n * n ∧ (n : Int) * (n : Int) = (q : Int) ∧ 16 ≤ q ∧ q ≤ 1024 := ⟨n * n, rfl, by simp, by have := Nat.mul_le_mul h.lo h.lo; omega, h.sq⟩

set_option maxRecDepth 100000 in
set_option maxHeartbeats 1000000 in
theorem order_yes {w : World} {z : Int} {n : Nat} (h : Sz z n) : Calls Tryd.prog 19 #[.int .i64 z] w fun e w' => On w w' e n := by
  have HS : Hid (Sz z n) := h
  have HD : Hid (Sd n) := h.sd
  have n0 : (4 : Int) ≤ (n : Int) := by have := h.sd.lo; omega
  have n1 : (n : Int) ≤ 32 := by have := h.sd.hi; omega
  obtain ⟨q, hqn, hq, q0, q1⟩ := sq_name h.sd
  have HQ : Hid (q = n * n) := hqn
  have hmk := fun u => mk_room (n := q) (by omega) u
  have HO : Hid (Og w n 0 0 (.slice (some ⟨w.heap.size, 0, none⟩) 0 q) (w.alloc (.cells (madeCells #[.int .i64 0] q) 3))) := Og.start (Oi.room w (by omega) (Nat.le_refl _)) (from_alloc _ _)
  clear h hqn
  go_enter Tryd.func19, Tryd.ntmps19
  go_wp2
  go_step3
  go_wp2_with fail
  refine (sideOf_yes HS.out).mono ?_
  rintro e w' ⟨rfl, rfl⟩
  go_wp2_with fail
  go_step3
  go_wp2_with fail
  clear hmk
  generalize hW : World.alloc _ _ = w1 at *
  clear hW
  go_loopg [6, 7] (2 * n - 1) (fun g l i wr => ∃ s : Nat, s + g = 2 * n - 1 ∧ 1 ≤ g ∧ i = .int .i64 s ∧ Og w n s 0 l wr)
  case atStart => exact ⟨0, by omega, by omega, rfl, HO.out⟩
  case round =>
    obtain ⟨s, hs, hg, rfl, ho⟩ := hrel
    clear HO
    have HF : Hid (Og w n s (s + 1 - n) u6 wr) := ho.first
    have HR : Hid (∀ l' wr', Og w n (s + 1) 0 l' wr' → s < 2 * n - 2 → ∃ s' : Nat, s' + (2 * n - 2 - s) = 2 * n - 1 ∧ 1 ≤ 2 * n - 2 - s ∧ Value.int .i64 ((s : Int) + 1) = .int .i64 (s' : Int) ∧ Og w n s' 0 l' wr') := fun l' wr' h h2 => ⟨s + 1, by omega, by omega, by go_num, h⟩
    clear ho
    have s0 : 0 ≤ (s : Int) := by omega
    have s1 : (s : Int) ≤ 2 * (n : Int) - 2 := by omega
    have HE : Hid (gk = 2 * n - 1 - s) := by show _ = _; omega
    clear hs hg
    go_wp2_with fail
    all_goals
      go_loopg [6, 8] (n - (s + 1 - n)) (fun g l' i wr' => ∃ r : Nat, r + g = n ∧ s + 1 - n ≤ r ∧ (s = 2 * n - 2 → r = n - 1) ∧ i = .int .i64 r ∧ Og w n s r l' wr')
      case atStart => exact ⟨s + 1 - n, by omega, by omega, by omega, by congr 1; omega, HF.out⟩
      case round =>
        clear HF
        obtain ⟨r, hr, hr1, hr2, rfl, ho⟩ := hrel
        have HO : Hid (Og w n s r u6 wr) := ho
        have r0 : 0 ≤ (r : Int) := by omega
        have r1 : (r : Int) ≤ (n : Int) := by omega
        by_cases hrn : r < n
        · have r2 : (r : Int) < (n : Int) := by omega
          by_cases hc : s < r
          · have c0 : (s : Int) - (r : Int) < 0 := by omega
            have HX := HR.out u6 wr (ho.over hc (by omega)) (by omega)
            clear ho
            go_wp2_with fail
            go_roundg (2 * n - 2 - s)
            case measure => have := HE.out; omega
            case rel => exact HX
          · have c0 : ¬ (s : Int) - (r : Int) < 0 := by omega
            obtain ⟨ad, m, cp, rfl, hm, hoi, hbel⟩ := ho
            have HOi : Hid (Oi wr w.heap.size ad m cp (ods n s ++ dg n s r)) := hoi
            have HB : Hid (Below w.heap.size w wr) := hbel
            have HBs : Hid (w.heap.size ≤ wr.heap.size) := hbel.size
            obtain ⟨p, hpn⟩ : ∃ p : Nat, p = r * n := ⟨_, rfl⟩
            have hp : (r : Int) * (n : Int) = (p : Int) := by rw [hpn]; simp
            have p1 : (p : Int) ≤ 1024 := by
              have h1 : r * n ≤ n * n := Nat.mul_le_mul_right _ (by omega)
              have := HD.out.sq
              omega
            have HX : Hid ((p : Int) + ((s : Int) - (r : Int)) = ((r * n + (s - r) : Nat) : Int)) := by show _ = _; rw [← hpn]; omega
            have HP : Hid (∀ g c w', Oi w' w.heap.size (some ⟨g, 0, none⟩) (m + 1) c ((ods n s ++ dg n s r) ++ [(p : Int) + ((s : Int) - (r : Int))]) → Below w.heap.size wr w' → Og w n s (r + 1) (.slice (some ⟨g, 0, none⟩) (m + 1) c) w') := fun g c w' h1 h2 => Og.put rfl hm h1 hbel h2 (by omega) (by omega) HX.out
            have m1 : m < 1024 := by
              have h1 := lnS_mono n (s := s + 1) (t := 2 * n - 1) (by omega)
              rw [HD.out.all, lnS] at h1
              have h2 := HD.out.sq
              rw [hm, List.length_append, ods_len, dg_len n s r (by omega)]
              omega
            by_cases hend : s = 2 * n - 2
            · have hm1 : m + 1 = q := by
                have h1 := HD.out.but
                have h2 := HQ.out
                rw [hm, hend, List.length_append, ods_len, dg_len n (2 * n - 2) r (by omega), h1]
                have := hr2 hend
                omega
              have em : (((m : Int) + 1) == (q : Int)) = true := by rw [beq_iff_eq]; omega
              have HF2 : Hid (∀ g c w', Og w n s (r + 1) (.slice (some ⟨g, 0, none⟩) (m + 1) c) w' → On w w' (.returned (.tuple #[.slice (some ⟨g, 0, none⟩) (m + 1) c, .int .i64 0])) n) := by
                intro g c w' hog
                obtain ⟨a', m', c', e1, e2, e3, e4⟩ := hog
                have e5 : ods n s ++ dg n s (r + 1) = ord n := by rw [hend, show r + 1 = n by omega]; exact part_end HD.out
                rw [e5] at e3
                simp only [Value.slice.injEq] at e1
                obtain ⟨rfl, rfl, rfl⟩ := e1
                exact ⟨g, c, by rw [hm1, HQ.out], by rw [← HQ.out, ← hm1]; exact e3, e4⟩
              clear hm hoi hbel hm1 hpn hend hr2 hr1 hr
              go_wp2_with (at_builtin; refine wpList_append_int _ (by rfl) _ _ (by rfl) w.heap.size m cp (ods n s ++ dg n s r) ad _ HOi.out HBs.out (by omega) (by rfl) (by rfl) ?_; intro g cap w5 how hb5 _)
              go_returns
              exact HF2.out _ _ _ (HP.out _ _ _ how hb5)
            · have em : (((m : Int) + 1) == (q : Int)) = false := by
                have h1 := part_lt HD.out (s := s) (r := r + 1) (by omega) (by omega)
                rw [dg_step n s r (by omega) (by omega), ← List.append_assoc, List.length_append, ← hm, ← HQ.out] at h1
                simp at h1
                rw [beq_eq_false_iff_ne]; omega
              have HI : Hid (∀ l' w', Og w n s (r + 1) l' w' → ∃ r' : Nat, r' + (n - (r + 1)) = n ∧ s + 1 - n ≤ r' ∧ (s = 2 * n - 2 → r' = n - 1) ∧ Value.int .i64 ((r : Int) + 1) = .int .i64 (r' : Int) ∧ Og w n s r' l' w') := fun l' w' h => ⟨r + 1, by omega, by omega, by omega, by go_num, h⟩
              have HM : Hid (n - (r + 1) < gk) := by show _ < _; omega
              clear hm hoi hbel hpn hend hr2 hr1 hr
              go_wp2_with (at_builtin; refine wpList_append_int _ (by rfl) _ _ (by rfl) w.heap.size m cp (ods n s ++ dg n s r) ad _ HOi.out HBs.out (by omega) (by rfl) (by rfl) ?_; intro g cap w5 how hb5 _)
              go_roundg (n - (r + 1))
              case measure => exact HM.out
              case rel => exact HI.out _ _ (HP.out _ _ _ how hb5)
        · obtain rfl : r = n := by omega
          have HX := HR.out u6 wr ho.next (by omega)
          clear ho hr hr1 hr2
          go_wp2_with fail
          go_roundg (2 * r - 2 - s)
          case measure => have := HE.out; omega
          case rel => exact HX

theorem order_no {w : World} {z : Int} (h : Nz z) : Calls Tryd.prog 19 #[.int .i64 z] w fun e w' => e = .returned (.tuple #[.slice none 0 0, .int .i64 2]) ∧ w = w' := by
  have HS : Hid (Nz z) := h
  clear h
  go_enter Tryd.func19, Tryd.ntmps19
  go_wp2
  go_step3
  go_wp2_with fail
  refine (sideOf_no HS.out).mono ?_
  rintro e w' ⟨rfl, rfl⟩
  go_wp2_with fail
  rw [Exit.noGoto_ret]
  go_returns
  exact ⟨rfl, rfl⟩

end Go.Proofs.YtoddkhaaacpelaaDoor
