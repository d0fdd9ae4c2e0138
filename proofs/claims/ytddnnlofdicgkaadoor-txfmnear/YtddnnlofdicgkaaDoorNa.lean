/- DERIVED. What is rounded stays near: the numbers. -/
import Derived.Test.YtddnnlofdicgkaaDoorIp
import Derived.Test.YtddnnlofdicgkaaDoorBn
namespace Go.Proofs.YtddnnlofdicgkaaDoor
open Go.RowKit

/-- how far the products of a matrix with itself are off -/
def ofE (W : Nat → Nat → Int) (n j : Nat) (T : Int) : Int := sm (fun i => av (sm (fun k => W k i * W k j) n - if i = j then T else 0)) n
theorem mat_a : ∀ n ∈ [4, 8, 16], ∀ k, k < 3 → ∀ t, t < n → sm (fun y => av (kW ((k : Nat) : Int) n t y)) n ≤ 2896 * (n : Int) := by decide +kernel
theorem mat_b : ∀ n ∈ [4, 8, 16], ∀ k, k < 3 → ∀ y, y < n → sm (fun t => av (kW ((k : Nat) : Int) n t y)) n ≤ 4096 * (n : Int) := by decide +kernel
theorem mat_c : ∀ n ∈ [4, 8, 16], ∀ k, k < 3 → ∀ j, j < n → ofE (kW ((k : Nat) : Int) n) n j (((n / 2 : Nat) : Int) * 16777216) ≤ 262144 := by decide +kernel

/-- there and back, by a matrix: what is off -/
theorem near2 {W : Nat → Nat → Int} {n j : Nat} {h m B D G E z : Int} {x u q : Nat → Int} (hj : j < n) (hm : 0 ≤ m) (hD : 0 ≤ D) (hx : ∀ i, i < n → -B ≤ x i ∧ x i ≤ B) (hB : 0 ≤ B)
    (hu : ∀ t, t < n → -2048 ≤ 4096 * u t - sm (fun i => x i * W t i) n ∧ 4096 * u t - sm (fun i => x i * W t i) n ≤ 2048)
    (hq : ∀ t, t < n → -D ≤ q t - m * u t ∧ q t - m * u t ≤ D)
    (hz : -2048 ≤ 4096 * z - sm (fun t => q t * W t j) n ∧ 4096 * z - sm (fun t => q t * W t j) n ≤ 2048)
    (hG : sm (fun t => av (W t j)) n ≤ G) (hE : ofE W n j (h * 16777216) ≤ E) :
    -(m * (B * E + 2048 * G) + 4096 * (D * G) + 8388608) ≤ 16777216 * z - m * (x j * (h * 16777216)) ∧ 16777216 * z - m * (x j * (h * 16777216)) ≤ m * (B * E + 2048 * G) + 4096 * (D * G) + 8388608 := by
  have e0 : sm (fun t => q t * W t j) n = sm (fun t => (q t - m * u t) * W t j) n + m * sm (fun t => u t * W t j) n := by
    rw [← sm_mul, ← sm_add]
    refine sm_congr n fun t _ => ?_
    rw [Int.sub_mul, Int.mul_assoc, Int.sub_add_cancel]
  have e1 : 4096 * sm (fun k => u k * W k j) n = sm (fun k => (4096 * u k - sm (fun i => x i * W k i) n) * W k j) n + sm (fun k => sm (fun i => x i * W k i) n * W k j) n := by
    rw [← sm_add, ← sm_mul]
    refine sm_congr n fun k _ => ?_
    rw [← Int.add_mul, Int.sub_add_cancel, Int.mul_assoc]
  have e2 : sm (fun k => sm (fun i => x i * W k i) n * W k j) n = sm (fun i => x i * sm (fun k => W k i * W k j) n) n := by
    rw [sm_congr (g := fun k => sm (fun i => x i * (W k i * W k j)) n) n (fun k _ => by
      rw [Int.mul_comm, ← sm_mul]
      exact sm_congr n fun i _ => by rw [← Int.mul_assoc, Int.mul_comm (W k j), Int.mul_assoc, Int.mul_comm (W k j)]), sm_comm]
    exact sm_congr n fun i _ => by rw [← sm_mul]
  have e3 : sm (fun i => x i * sm (fun k => W k i * W k j) n) n = sm (fun i => x i * (sm (fun k => W k i * W k j) n - if i = j then h * 16777216 else 0)) n + x j * (h * 16777216) := by
    rw [← sm_one n j hj x (h * 16777216), ← sm_add]
    refine sm_congr n fun i _ => ?_
    rw [← Int.mul_add, Int.sub_add_cancel]
  have b1 := sm_abs (x := fun k => 4096 * u k - sm (fun i => x i * W k i) n) (e := fun k => W k j) n hu
  have b2 := sm_abs (x := x) (e := fun i => sm (fun k => W k i * W k j) n - if i = j then h * 16777216 else 0) n hx
  have b3 := sm_abs (x := fun t => q t - m * u t) (e := fun t => W t j) n hq
  unfold ofE at hE
  have g1 : 2048 * sm (fun t => av (W t j)) n ≤ 2048 * G := Int.mul_le_mul_of_nonneg_left hG (by omega)
  have g2 : B * sm (fun i => av (sm (fun k => W k i * W k j) n - if i = j then h * 16777216 else 0)) n ≤ B * E := Int.mul_le_mul_of_nonneg_left hE hB
  have g3 : D * sm (fun t => av (W t j)) n ≤ D * G := Int.mul_le_mul_of_nonneg_left hG hD
  have e4 : 4096 * (m * sm (fun t => u t * W t j) n) = m * (sm (fun k => (4096 * u k - sm (fun i => x i * W k i) n) * W k j) n + sm (fun i => x i * (sm (fun k => W k i * W k j) n - if i = j then h * 16777216 else 0)) n) + m * (x j * (h * 16777216)) := by
    rw [← Int.mul_assoc, Int.mul_comm 4096 m, Int.mul_assoc, e1, e2, e3, ← Int.add_assoc, Int.mul_add]
  generalize sm (fun k => (4096 * u k - sm (fun i => x i * W k i) n) * W k j) n = R1 at *
  generalize sm (fun i => x i * (sm (fun k => W k i * W k j) n - if i = j then h * 16777216 else 0)) n = R2 at *
  generalize sm (fun t => (q t - m * u t) * W t j) n = R3 at *
  generalize sm (fun t => u t * W t j) n = Su at *
  generalize sm (fun t => q t * W t j) n = Sq at *
  have m1 : m * (R1 + R2) ≤ m * (B * E + 2048 * G) := Int.mul_le_mul_of_nonneg_left (by omega) hm
  have m2 : m * (-(B * E + 2048 * G)) ≤ m * (R1 + R2) := Int.mul_le_mul_of_nonneg_left (by omega) hm
  rw [Int.mul_neg] at m2
  generalize m * (R1 + R2) = P at *
  generalize m * (B * E + 2048 * G) = Q1 at *
  generalize m * (x j * (h * 16777216)) = X at *
  generalize D * G = DG at *
  generalize m * Su = mS at *
  omega

/-- one way: what is off -/
theorem way1 {W : Nat → Nat → Int} {C : List Int} {n t : Nat} (hC : C.length = n) (ht : t < n) : -2048 ≤ 4096 * (wr W C).getD t 0 - sm (fun i => C.getD i 0 * W i t) n ∧ 4096 * (wr W C).getD t 0 - sm (fun i => C.getD i 0 * W i t) n ≤ 2048 := by
  rw [wr_get _ _ _ (by omega), hC]
  unfold ws
  generalize sm (fun i => C.getD i 0 * W i t) n = S
  omega
theorem fwdR_ne {k : Nat} (h : k < 3) (C : List Int) : fwdR (k : Int) C = wr (fun i j => kW k C.length j i) C := by unfold fwdR; rw [if_neg (by omega)]
theorem invR_ne {k : Nat} (h : k < 3) (C : List Int) : invR (k : Int) C = wr (kW k C.length) C := by unfold invR; rw [if_neg (by omega)]
theorem fwd1 {k n t : Nat} {C : List Int} (hk : k < 3) (hC : C.length = n) (ht : t < n) : -2048 ≤ 4096 * (fwdR (k : Int) C).getD t 0 - sm (fun i => C.getD i 0 * kW k n t i) n ∧ 4096 * (fwdR (k : Int) C).getD t 0 - sm (fun i => C.getD i 0 * kW k n t i) n ≤ 2048 := by
  rw [fwdR_ne hk, hC]; exact way1 hC ht
theorem inv1 {k n t : Nat} {C : List Int} (hk : k < 3) (hC : C.length = n) (ht : t < n) : -2048 ≤ 4096 * (invR (k : Int) C).getD t 0 - sm (fun i => C.getD i 0 * kW k n i t) n ∧ 4096 * (invR (k : Int) C).getD t 0 - sm (fun i => C.getD i 0 * kW k n i t) n ≤ 2048 := by
  rw [invR_ne hk, hC]; exact way1 hC ht
/-- how great a number may grow one way -/
theorem grow1 {n k t : Nat} {C : List Int} {B : Int} (hn : n ∈ [4, 8, 16]) (hk : k < 3) (hC : C.length = n) (hB : 0 ≤ B) (hM : ∀ i, i < n → -B ≤ C.getD i 0 ∧ C.getD i 0 ≤ B) (ht : t < n) :
    -(B * (2896 * (n : Int)) + 2048) ≤ 4096 * (fwdR (k : Int) C).getD t 0 ∧ 4096 * (fwdR (k : Int) C).getD t 0 ≤ B * (2896 * (n : Int)) + 2048 := by
  have h1 := fwd1 (k := k) hk hC ht
  have h2 := sm_abs (x := fun i => C.getD i 0) (e := fun i => kW k n t i) n hM
  have h3 : B * sm (fun i => av (kW (k : Int) n t i)) n ≤ B * (2896 * (n : Int)) := Int.mul_le_mul_of_nonneg_left (mat_a n hn k hk t ht) hB
  generalize sm (fun i => C.getD i 0 * kW k n t i) n = S at *
  generalize B * sm (fun i => av (kW (k : Int) n t i)) n = T1 at *
  generalize B * (2896 * (n : Int)) = T2 at *
  omega

set_option maxHeartbeats 1000000 in
theorem near_block {n k : Nat} (hn : n ∈ [4, 8, 16]) (hk : k < 9) {D : List Int} (hM : Mst D 255) {y x : Nat} (hy : y < n) (hx : x < n) :
    -(8 * (n : Int)) ≤ invF n n k (tab n (fwdF n k D)) y x - layF n D y x ∧ invF n n k (tab n (fwdF n k D)) y x - layF n D y x ≤ 8 * (n : Int) := by
  have hn3 : n = 4 ∨ n = 8 ∨ n = 16 := by simp at hn; omega
  have hr : kR k < 3 := by unfold kR; rw [if_neg (by omega)]; omega
  have hc : kC k < 3 := by unfold kC; rw [if_neg (by omega)]; omega
  -- the way there
  obtain ⟨U, hU⟩ : ∃ U : Nat → Nat → Int, U = colsF n (fwdR (kC k)) (layF n D) := ⟨_, rfl⟩
  have hUa : ∀ i x, i < n → -2048 ≤ 4096 * U i x - sm (fun y => layF n D y x * kW (kC k) n i y) n ∧ 4096 * U i x - sm (fun y => layF n D y x * kW (kC k) n i y) n ≤ 2048 := fun i x hi => by
    have h1 := fwd1 (C := colL n (layF n D) x) hc (colL_len _ _ _) hi
    rw [sm_congr (g := fun y => layF n D y x * kW (kC k) n i y) n (fun y hy => by rw [colL_get _ _ _ _ hy])] at h1
    rw [hU]; exact h1
  have hUb : ∀ i x, i < n → -(255 * (2896 * (n : Int)) + 2048) ≤ 4096 * U i x ∧ 4096 * U i x ≤ 255 * (2896 * (n : Int)) + 2048 := fun i x hi => by
    rw [hU]
    exact grow1 (C := colL n (layF n D) x) hn hc (colL_len _ _ _) (by omega) (fun j hj => by rw [colL_get _ _ _ _ hj]; exact lay_le hM (by omega) j x) hi
  obtain ⟨Ub, hUB⟩ : ∃ Ub : Int, Ub = (255 * (2896 * (n : Int)) + 2048) / 4096 := ⟨_, rfl⟩
  have hUc : ∀ i x, i < n → -Ub ≤ U i x ∧ U i x ≤ Ub := fun i x hi => by have := hUb i x hi; omega
  have hUp : 0 ≤ Ub := by rw [hUB]; rcases hn3 with rfl | rfl | rfl <;> decide
  obtain ⟨Vv, hV⟩ : ∃ Vv : Nat → Nat → Int, Vv = fwdG n k D := ⟨_, rfl⟩
  have hVe : ∀ i j, i < n → Vv i j = (fwdR (kR k) (rowL n U i)).getD j 0 := fun i j hi => by rw [hV, hU]; unfold fwdG rowsF; rw [if_pos hi]
  have hVa : ∀ i j, i < n → j < n → -2048 ≤ 4096 * Vv i j - sm (fun x => U i x * kW (kR k) n j x) n ∧ 4096 * Vv i j - sm (fun x => U i x * kW (kR k) n j x) n ≤ 2048 := fun i j hi hj => by
    have h1 := fwd1 (C := rowL n U i) hr (rowL_len _ _ _) hj
    rw [sm_congr (g := fun x => U i x * kW (kR k) n j x) n (fun x hx => by rw [rowL_get _ _ _ _ hx])] at h1
    rw [hVe i j hi]; exact h1
  have hVb : ∀ i j, i < n → j < n → -(Ub * (2896 * (n : Int)) + 2048) ≤ 4096 * Vv i j ∧ 4096 * Vv i j ≤ Ub * (2896 * (n : Int)) + 2048 := fun i j hi hj => by
    rw [hVe i j hi]
    exact grow1 (C := rowL n U i) hn hr (rowL_len _ _ _) hUp (fun x hx => by rw [rowL_get _ _ _ _ hx]; exact hUc i x hi) hj
  -- nothing is clipped
  obtain ⟨s, hs⟩ : ∃ s : Int, s = if n = 4 then 4 else if n = 8 then 2 else 1 := ⟨_, rfl⟩
  have hCo : ∀ i j, i < n → j < n → clp (layF n (tab n (fwdF n k D)) i j) = s * Vv i j := fun i j hi hj => by
    rw [lay_tab hi hj]
    have h1 : fwdF n k D i j = sca n (Vv i j) := by rw [hV]; unfold fwdF; rw [if_neg (by omega)]
    have h2 := hVb i j hi hj
    rw [h1]
    generalize Vv i j = vv at *
    rcases hn3 with rfl | rfl | rfl
    · rw [show Ub = 721 from by rw [hUB]; decide] at h2
      rw [hs]; unfold sca; simp only [if_true]; unfold clp; omega
    · rw [show Ub = 1442 from by rw [hUB]; decide] at h2
      rw [hs]; unfold sca; simp only [show ¬ (8 = 4) from by decide, if_false, if_true]; unfold clp; omega
    · rw [show Ub = 2885 from by rw [hUB]; decide] at h2
      rw [hs]; unfold sca; simp only [show ¬ (16 = 4) from by decide, show ¬ (16 = 8) from by decide, if_false, if_true]; unfold clp; omega
  -- rows back
  obtain ⟨P, hP⟩ : ∃ P : Nat → Nat → Int, P = invG n n k (tab n (fwdF n k D)) := ⟨_, rfl⟩
  have hPa : ∀ i x, i < n → x < n → -2048 ≤ 4096 * P i x - sm (fun j => (s * Vv i j) * kW (kR k) n j x) n ∧ 4096 * P i x - sm (fun j => (s * Vv i j) * kW (kR k) n j x) n ≤ 2048 := fun i x hi hx => by
    have h1 := inv1 (C := rowL n (fun y x => clp (layF n (tab n (fwdF n k D)) y x)) i) hr (rowL_len _ _ _) hx
    rw [sm_congr (g := fun j => (s * Vv i j) * kW (kR k) n j x) n (fun j hj => by rw [rowL_get _ _ _ _ hj, hCo i j hi hj])] at h1
    rw [hP]; unfold invG rowsF; rw [if_pos hi]; exact h1
  have hs0 : 0 ≤ s := by rw [hs]; split; omega; split; omega; omega
  have hPb : ∀ i x, i < n → x < n → -53 ≤ P i x - 8 * U i x ∧ P i x - 8 * U i x ≤ 53 := fun i x hi hx => by
    have h1 := near2 (W := kW (kR k) n) (n := n) (j := x) (h := ((n / 2 : Nat) : Int)) (m := s) (B := Ub) (D := 0) (G := 4096 * (n : Int)) (E := 262144) (z := P i x) (x := fun x => U i x) (u := fun j => Vv i j) (q := fun j => s * Vv i j) hx hs0 (by omega) (fun x _ => hUc i x hi) hUp (fun j hj => hVa i j hi hj) (fun j _ => by omega) (hPa i x hi hx) (mat_b n hn _ hr x hx) (mat_c n hn _ hr x hx)
    generalize U i x = uu at *
    generalize P i x = pp at *
    rcases hn3 with rfl | rfl | rfl
    · rw [hs, show Ub = 721 from by rw [hUB]; decide] at h1; simp only [if_true] at h1; omega
    · rw [hs, show Ub = 1442 from by rw [hUB]; decide] at h1; simp only [show ¬ (8 = 4) from by decide, if_false, if_true] at h1; omega
    · rw [hs, show Ub = 2885 from by rw [hUB]; decide] at h1; simp only [show ¬ (16 = 4) from by decide, show ¬ (16 = 8) from by decide, if_false] at h1; omega
  obtain ⟨m, hm⟩ : ∃ m : Int, m = if n = 4 then 8 else if n = 8 then 4 else 2 := ⟨_, rfl⟩
  obtain ⟨Dd, hDd⟩ : ∃ Dd : Int, Dd = if n = 4 then 53 else if n = 8 then 27 else 13 := ⟨_, rfl⟩
  have hQ : ∀ i x, i < n → x < n → -Dd ≤ btw n (P i x) - m * U i x ∧ btw n (P i x) - m * U i x ≤ Dd := fun i x hi hx => by
    have h1 := hPb i x hi hx
    have h2 := hUc i x hi
    generalize U i x = uu at *
    generalize P i x = pp at *
    rcases hn3 with rfl | rfl | rfl
    · rw [show Ub = 721 from by rw [hUB]; decide] at h2
      rw [hm, hDd]; unfold btw; simp only [if_true]; unfold clp; omega
    · rw [show Ub = 1442 from by rw [hUB]; decide] at h2
      rw [hm, hDd]; unfold btw; simp only [show ¬ (8 = 4) from by decide, if_false, if_true]; unfold clp; omega
    · rw [show Ub = 2885 from by rw [hUB]; decide] at h2
      rw [hm, hDd]; unfold btw; simp only [show ¬ (16 = 4) from by decide, show ¬ (16 = 8) from by decide, if_false]; unfold clp; omega
  -- columns back
  have hZ := inv1 (C := colL n (fun y x => btw n (P y x)) x) hc (colL_len _ _ _) hy
  rw [sm_congr (g := fun i => btw n (P i x) * kW (kC k) n i y) n (fun i hi => by rw [colL_get _ _ _ _ hi])] at hZ
  have hF : invF n n k (tab n (fwdF n k D)) y x = les ((invR (kC k) (colL n (fun y x => btw n (P y x)) x)).getD y 0) := by
    unfold invF; rw [if_neg (by omega), hP]; rfl
  have hm0 : 0 ≤ m := by rw [hm]; split; omega; split; omega; omega
  have hD0 : 0 ≤ Dd := by rw [hDd]; split; omega; split; omega; omega
  have h1 := near2 (W := kW (kC k) n) (n := n) (j := y) (h := ((n / 2 : Nat) : Int)) (m := m) (B := 255) (D := Dd) (G := 4096 * (n : Int)) (E := 262144) (x := fun y => layF n D y x) (u := fun i => U i x) (q := fun i => btw n (P i x)) hy hm0 hD0 (fun j _ => lay_le hM (by omega) j x) (by omega) (fun i hi => hUa i x hi) (fun i hi => hQ i x hi hx) hZ (mat_b n hn _ hc y hy) (mat_c n hn _ hc y hy)
  rw [hF]
  generalize (invR (kC k) (colL n (fun y x => btw n (P y x)) x)).getD y 0 = zz at *
  generalize layF n D y x = xx at *
  unfold les
  rcases hn3 with rfl | rfl | rfl
  · rw [hm, hDd] at h1; simp only [if_true] at h1; omega
  · rw [hm, hDd] at h1; simp only [show ¬ (8 = 4) from by decide, if_false, if_true] at h1; omega
  · rw [hm, hDd] at h1; simp only [show ¬ (16 = 4) from by decide, show ¬ (16 = 8) from by decide, if_false] at h1; omega

end Go.Proofs.YtddnnlofdicgkaaDoor
