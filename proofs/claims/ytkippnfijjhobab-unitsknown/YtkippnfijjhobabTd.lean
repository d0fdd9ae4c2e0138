/- DERIVED. The number of a body's bytes, and in how many bytes that is said. -/
import Derived.Test.YtkippnfijjhobabTc
namespace Go.Proofs.Ytkippnfijjhobab
open Go.RowKit

theorem Kp.toBelow' {r B : Nat} {w w' : World} (h : Kp r w w') (hB : B ≤ r) : Below B w w' := ⟨h.os, h.tape, h.output, Nat.le_of_eq h.size.symm, fun k hk => h.block k (by omega)⟩
theorem left_div {n p : Nat} (h8 : p % 8 = 0) (hp : p / 8 ≤ n) : (n : Int) - ((8 * n - p : Nat) : Int) / 8 = ((p / 8 : Nat) : Int) := by omega

set_option maxHeartbeats 1000000 in
set_option maxRecDepth 100000 in
theorem length_any {w : World} {N : Nat} {v : Value} {C : List Nat} (h : By w N v C) :
    Calls Try.prog 16 #[v] w fun e w' => e = .returned (.tuple #[.int .u32 (rLeb (C.take 5) 0).1, .int .i64 ((rLeb (C.take 5) 0).2.2 / 8 : Nat), .int .i64 (rLeb (C.take 5) 0).2.1]) ∧ Below w.heap.size w w' := by
  obtain ⟨a, c, rfl, hc, hnc, hsb⟩ := h.ex
  obtain ⟨m, hm⟩ : ∃ m, m = min C.length 5 := ⟨_, rfl⟩
  have hml : (C.take 5).length = m := by rw [List.length_take, hm, Nat.min_comm]
  have hpart : By w N (.slice (pa a c 0 1) m c) (C.take 5) := by
    have := h.part 0 m (by omega)
    rw [List.drop_zero, Nat.sub_zero] at this
    have e : C.take m = C.take 5 := by
      rw [hm]
      rcases Nat.le_total C.length 5 with h1 | h1
      · rw [Nat.min_eq_left h1, List.take_of_length_le (Nat.le_refl _), List.take_of_length_le h1]
      · rw [Nat.min_eq_right h1]
    rw [e] at this
    exact this
  have hcut : ∀ t : World, (Instr.sliceAt 24 (.slice a C.length c) none (some (.int .i64 (min (C.length : Int) 5))) none).run Try.prog t = .ok (.slice (pa a c 0 1) m c) t := fun t => cut_to (by omega) (by omega) t
  obtain ⟨s1, s2, s3, s4⟩ := rLeb_says hpart.byt
  rw [hml] at s3
  have HP : Hid (By w N (.slice (pa a c 0 1) m c) (C.take 5)) := hpart
  have HL : Hid ((C.take 5).length = m) := hml
  have hln := h.len
  generalize pa a c 0 1 = A at *
  generalize C.take 5 = D at *
  have hm5 : m ≤ 5 := by omega
  have HR : Hid (∀ w : World, SrcOf w (.slice A m c) D → Calls Try.prog 21 #[.slice A m c] w fun e w' => ∃ r v', e = .returned (.pointer (some ⟨r, 0, none⟩)) ∧ Rd w' r v' D 0 ∧ w.heap.size ≤ r ∧ Below w.heap.size w w') := fun w hs => by
    refine (new_any hs hpart.byt hpart.len).mono ?_
    rintro e w' ⟨r, v', h1, h2, h3, _, h5⟩
    exact ⟨r, v', h1, h2, h3, h5⟩
  have HV : Hid (∀ (r : Nat) (v' : Value) (w : World), Rd w r v' D (rLeb D 0).2.2 → Calls Try.prog 23 #[.pointer (some ⟨r, 0, none⟩)] w fun e w' => e = .returned (.int .i64 (8 * m - (rLeb D 0).2.2 : Nat)) ∧ Kp r w w') := fun r v' w hr => by
    refine (left_rd hr).mono ?_
    rintro e w' ⟨rfl, h2, h3⟩
    exact ⟨by rw [HL.out], h3⟩
  have HB : Hid (∀ (r : Nat) (v' : Value) (w : World), Rd w r v' D 0 → Calls Try.prog 22 #[.pointer (some ⟨r, 0, none⟩)] w fun e w' => e = .returned (.tuple #[.int .u32 (rLeb D 0).1, .int .i64 (rLeb D 0).2.1]) ∧ Rd w' r v' D (rLeb D 0).2.2 ∧ Kp r w w') := fun r v' w hr => leb_rd hr
  clear hpart hml hsb h
  generalize (rLeb D 0).1 = x1 at *
  generalize (rLeb D 0).2.1 = x2 at *
  generalize (rLeb D 0).2.2 = x3 at *
  have hdiv := left_div s2 s3
  have HD : Hid _ := hdiv
  have HM : Hid (m = min C.length 5) := hm
  clear hdiv hm
  generalize hq : 8 * m - x3 = q at *
  have hq1 : q ≤ 40 := by omega
  clear hq
  go_enter Try.func16, Try.ntmps16
  go_wp2_with fail
  refine (HR.out _ HP.out.src).mono ?_; rintro e w1 ⟨r, v', rfl, hr1, hlo, hb1⟩
  go_wp2_with fail
  refine (HB.out r v' _ hr1).mono ?_; rintro e w2 ⟨rfl, hr2, hk2⟩
  go_wp2_with fail
  refine (HV.out r v' _ hr2).mono ?_; rintro e w3 ⟨rfl, hk3⟩
  go_wp2_with fail
  go_ret3
  refine ⟨ret_three rfl ?_ rfl, hb1.trans ((hk2.trans hk3).toBelow' hlo)⟩
  have := HD.out
  omega
end Go.Proofs.Ytkippnfijjhobab
