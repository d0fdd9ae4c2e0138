/- DERIVED. Levels and values, in numbers: what is rounded stays near, a level is found again. -/
import Derived.Test.YtaliaoapbjbfaaaQd
namespace Go.Proofs.Ytaliaoapbjbfaaa
open Go.RowKit

def S3 (s : Int) : Prop := s = 1 ∨ s = 2 ∨ s = 4
theorem scl_s3 (sz : Int) : S3 (scl sz) := by unfold scl S3; repeat (first | split | omega)
theorem aw_sg {L c : Int} (h : 0 ≤ L) : aw (sg L c) = L := by unfold aw sg; split <;> split <;> omega
theorem aw_neg (c : Int) : aw (-c) = aw c := by unfold aw; split <;> split <;> omega
theorem lev_eq {c st s : Int} (hs : S3 s) (h0 : -32768 ≤ c) (h1 : c ≤ 32768) (g0 : 1 ≤ st) (g1 : st ≤ 32768) :
    ∃ L, 0 ≤ L ∧ L ≤ 147456 ∧ L * st ≤ aw c * s + st / 2 ∧ aw c * s + st / 2 < L * st + st ∧ ∀ d, aw d = aw c → lev d st s = sg L d := by
  have p0 := aw_lo c
  have p1 := aw_hi (M := 32768) ⟨h0, h1⟩
  have hN : 0 ≤ aw c * s + st / 2 ∧ aw c * s + st / 2 ≤ 147456 := by rcases hs with rfl | rfl | rfl <;> omega
  have e1 := Int.ediv_mul_le (aw c * s + st / 2) (b := st) (by omega)
  have e2 := Int.lt_ediv_add_one_mul_self (aw c * s + st / 2) (b := st) (by omega)
  rw [Int.add_mul, Int.one_mul] at e2
  have e3 : 0 ≤ (aw c * s + st / 2) / st := Int.ediv_nonneg hN.1 (by omega)
  have e4 : (aw c * s + st / 2) / st ≤ aw c * s + st / 2 := Int.ediv_le_self st hN.1
  exact ⟨_, e3, by omega, e1, e2, fun d hd => by unfold lev; rw [hd, Int.min_eq_left (by omega)]⟩
theorem val_eq {l st s : Int} (h0 : 0 ≤ aw l * st) (h1 : aw l * st ≤ 16777215) : val l st s = cl (sg (aw l * st / s) l) (-32768) 32767 := by
  unfold val; rw [Int.emod_eq_of_lt h0 (by omega)]

structure Nr (c l v st s : Int) : Prop where
  m : lev (-c) st s = -l
  w : aw v < 32767 → val (-l) st s = -v
  n : aw (v - c) * s ≤ st / 2 + s
  a : -32768 ≤ v
  b : v ≤ 32767
  g : v = 0 ∨ (c < 0 ↔ v < 0)
  la : -147456 ≤ l
  lb : l ≤ 147456

theorem near_ar {c st s : Int} (hs : S3 s) (h0 : -32768 ≤ c) (h1 : c ≤ 32767) (g0 : 1 ≤ st) (g1 : st ≤ 32768) : Nr c (lev c st s) (val (lev c st s) st s) st s := by
  obtain ⟨L, l0, l1, n0, n1, hl⟩ := lev_eq hs h0 (by omega : c ≤ 32768) g0 g1
  have hc := hl c rfl
  have hm := hl (-c) (aw_neg c)
  have p0 : 0 ≤ L * st := Int.mul_nonneg l0 (by omega)
  have pz : L = 0 → L * st = 0 := fun e => by rw [e, Int.zero_mul]
  have pp : 0 < L → st ≤ L * st := fun e => by
    have := Int.mul_le_mul_of_nonneg_right (show 1 ≤ L by omega) (show 0 ≤ st by omega)
    omega
  have p1 : aw c ≤ 32768 := aw_hi ⟨h0, by omega⟩
  have pb : L * st ≤ 147456 := by rcases hs with rfl | rfl | rfl <;> omega
  have hv : ∀ d, aw d = L → val d st s = cl (sg (L * st / s) d) (-32768) 32767 := fun d hd => by
    rw [val_eq (by rw [hd]; exact p0) (by rw [hd]; omega), hd]
  have hv1 := hv (sg L c) (aw_sg l0)
  have hv2 := hv (-(sg L c)) (by rw [aw_neg]; exact aw_sg l0)
  rw [hc]
  rw [hv1]
  have q0 : 0 ≤ L * st / s := Int.ediv_nonneg p0 (by rcases hs with rfl | rfl | rfl <;> omega)
  refine ⟨?_, ?_, ?_, ?_, ?_, ?_, ?_, ?_⟩
  · rw [hm]
    generalize L * st = P at *
    have : c = 0 → L = 0 := fun e => by
      subst e
      have : aw 0 = 0 := rfl
      rw [this] at n0 n1
      omega
    unfold sg; split <;> split <;> omega
  · rw [hv2]
    generalize L * st = P at *
    have qz : L = 0 → P / s = 0 := fun e => by rw [pz e, Int.zero_ediv]
    generalize P / s = q at *
    unfold aw cl sg
    repeat' split
    all_goals omega
  · rcases hs with rfl | rfl | rfl
    all_goals
      generalize L * st = P at *
      clear hv hl hc hm hv1 hv2
      unfold aw cl sg at *
      repeat' split
      all_goals (repeat' split at n0)
      all_goals (repeat' split at n1)
      all_goals omega
  · exact cl_lo (by omega)
  · exact cl_hi (by omega)
  · generalize L * st = P at *
    have qz : L = 0 → P / s = 0 := fun e => by rw [pz e, Int.zero_ediv]
    generalize P / s = q at *
    clear hv hl hc hm hv1 hv2 pz pp n0 n1
    unfold cl sg
    repeat' split
    all_goals omega
  · unfold sg; split <;> omega
  · unfold sg; split <;> omega

theorem back_ar {l st s : Int} (hs : s = 1 ∨ (6 ≤ st ∧ S3 s)) (h : aw l * st ≤ 32767) (g0 : 1 ≤ st) (g1 : st ≤ 32768) :
    lev (val l st s) st s = l ∧ -32768 ≤ val l st s ∧ val l st s ≤ 32767 := by
  have a0 := aw_lo l
  have p0 : 0 ≤ aw l * st := Int.mul_nonneg a0 (by omega)
  have hs3 : S3 s := by rcases hs with h | h; exact Or.inl h; exact h.2
  have hv := val_eq (l := l) (st := st) (s := s) p0 (by omega)
  have q0 : 0 ≤ aw l * st / s := Int.ediv_nonneg p0 (by rcases hs3 with rfl | rfl | rfl <;> omega)
  have q1 : aw l * st / s ≤ aw l * st := Int.ediv_le_self s p0
  have e1 : cl (sg (aw l * st / s) l) (-32768) 32767 = sg (aw l * st / s) l := by
    generalize aw l * st = P at *
    generalize P / s = q at *
    unfold cl sg
    repeat' split
    all_goals omega
  rw [e1] at hv
  have hb : -32768 ≤ val l st s ∧ val l st s ≤ 32767 := by
    rw [hv]
    generalize aw l * st = P at *
    generalize P / s = q at *
    unfold sg
    split <;> omega
  refine ⟨?_, hb⟩
  have al : aw l ≤ 32767 := by
    have := Int.mul_le_mul_of_nonneg_left (show 1 ≤ st by omega) a0
    omega
  have e2 : (aw (val l st s) * s + st / 2) / st = aw l := by
    rw [hv, aw_sg q0]
    have hr : ∃ r, aw l * st / s * s + st / 2 = aw l * st + r ∧ 0 ≤ r ∧ r < st := by
      refine ⟨aw l * st / s * s + st / 2 - aw l * st, by omega, ?_, ?_⟩
      · rcases hs with rfl | ⟨h6, rfl | rfl | rfl⟩ <;> omega
      · rcases hs3 with rfl | rfl | rfl <;> omega
    obtain ⟨r, hr, r0, r1⟩ := hr
    rw [hr, Int.mul_comm, Int.add_comm, Int.add_mul_ediv_left r _ (by omega), Int.ediv_eq_zero_of_lt r0 r1, Int.zero_add]
  unfold lev
  rw [e2, Int.min_eq_left (by omega)]
  have hp : 0 < aw l → 0 < aw l * st / s := fun h0 => by
    have h2 : st ≤ aw l * st := by
      have := Int.mul_le_mul_of_nonneg_right (show 1 ≤ aw l by omega) (show 0 ≤ st by omega)
      omega
    generalize aw l * st = P at *
    rcases hs with rfl | ⟨h6, rfl | rfl | rfl⟩ <;> omega
  rw [hv]
  generalize aw l * st / s = q at *
  clear e2 e1 hv hb h p0 q1
  unfold sg aw at *
  repeat' split
  all_goals (repeat' split at hp)
  all_goals omega

end Go.Proofs.Ytaliaoapbjbfaaa
