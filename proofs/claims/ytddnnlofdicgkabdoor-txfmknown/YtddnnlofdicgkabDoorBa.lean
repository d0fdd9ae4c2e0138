/- DERIVED. Plain arithmetic of layer 7: cosines, weights, sums. -/
import Derived.WalkKit
namespace Go.Proofs.YtddnnlofdicgkabDoor

def qT : List Int := [4096, 4095, 4091, 4085, 4076, 4065, 4052, 4036, 4017, 3996, 3973, 3948, 3920, 3889, 3857, 3822, 3784, 3745, 3703, 3659, 3612, 3564, 3513, 3461, 3406, 3349, 3290, 3229, 3166, 3102, 3035, 2967, 2896, 2824, 2751, 2675, 2598, 2520, 2440, 2359, 2276, 2191, 2106, 2019, 1931, 1842, 1751, 1660, 1567, 1474, 1380, 1285, 1189, 1092, 995, 897, 799, 700, 601, 501, 401, 301, 201, 101, 0]
/-- what the table has -/
def qv (k : Nat) : Int := qT.getD k 0
/-- a cosine, of a place on the circle -/
def cosN (r : Nat) : Int := if 64 < min r (256 - r) then -(qv (128 - min r (256 - r))) else qv (min r (256 - r))
def cosJ (j : Int) : Int := cosN (j % 256).toNat
theorem qv_le : ∀ k, k < 65 → 0 ≤ qv k ∧ qv k ≤ 4096 := by decide +kernel
theorem cosN_le : ∀ r, r < 256 → -4096 ≤ cosN r ∧ cosN r ≤ 4096 := by decide +kernel
theorem cosJ_le (j : Int) : -4096 ≤ cosJ j ∧ cosJ j ≤ 4096 := cosN_le _ (by omega)

def dctW (n k i : Nat) : Int := if k = 0 then 2896 else cosJ (((2 * i + 1) * k * 64 / n : Nat) : Int)
def adstW (n k i : Nat) : Int := cosJ (64 - (((2 * i + 1) * (2 * k + 1) * 32 / n : Nat) : Int))
def idV (n : Nat) : Int := if n = 4 then 5793 else if n = 8 then 8192 else if n = 16 then 11586 else 16384
def idW (n k i : Nat) : Int := if k = i then idV n else 0
theorem cos32 : cosJ 32 = 2896 := by decide +kernel
theorem idV_le (n : Nat) : 0 ≤ idV n ∧ idV n ≤ 16384 := by unfold idV; split; decide; split; decide; split; decide; decide
theorem dctW_le (n k i : Nat) : -4096 ≤ dctW n k i ∧ dctW n k i ≤ 4096 := by unfold dctW; split; decide; exact cosJ_le _
theorem adstW_le (n k i : Nat) : -4096 ≤ adstW n k i ∧ adstW n k i ≤ 4096 := cosJ_le _
theorem idW_le (n k i : Nat) : -16384 ≤ idW n k i ∧ idW n k i ≤ 16384 := by unfold idW; have := idV_le n; split <;> omega

/-- a sum of the first m -/
def sm (f : Nat → Int) : Nat → Int
  | 0 => 0
  | m + 1 => sm f m + f m
theorem sm_succ (f : Nat → Int) (m : Nat) : sm f (m + 1) = sm f m + f m := rfl
theorem sm_le {f : Nat → Int} {B : Int} (m : Nat) (h : ∀ k, k < m → -B ≤ f k ∧ f k ≤ B) : -(B * m) ≤ sm f m ∧ sm f m ≤ B * m := by
  induction m with
  | zero => simp [sm]
  | succ m ih =>
    have h1 := ih (fun k hk => h k (by omega))
    have h2 := h m (by omega)
    rw [sm_succ, show ((m + 1 : Nat) : Int) = (m : Int) + 1 from by omega, Int.mul_add, Int.mul_one]
    omega
theorem sm_congr {f g : Nat → Int} (m : Nat) (h : ∀ k, k < m → f k = g k) : sm f m = sm g m := by
  induction m with
  | zero => rfl
  | succ m ih => rw [sm_succ, sm_succ, ih (fun k hk => h k (by omega)), h m (by omega)]
theorem sm_add (f g : Nat → Int) (m : Nat) : sm (fun k => f k + g k) m = sm f m + sm g m := by
  induction m with
  | zero => rfl
  | succ m ih => rw [sm_succ, sm_succ, sm_succ, ih]; omega
theorem sm_mul (c : Int) (f : Nat → Int) (m : Nat) : sm (fun k => c * f k) m = c * sm f m := by
  induction m with
  | zero => simp [sm]
  | succ m ih => rw [sm_succ, sm_succ, ih, Int.mul_add]
theorem prod_le {a b A B : Int} (h1 : -A ≤ a ∧ a ≤ A) (h2 : -B ≤ b ∧ b ≤ B) : -(A * B) ≤ a * b ∧ a * b ≤ A * B := by
  have hA : 0 ≤ A := by omega
  have e1 := Int.mul_nonneg (a := A - a) (b := B - b) (by omega) (by omega)
  have e2 := Int.mul_nonneg (a := A + a) (b := B + b) (by omega) (by omega)
  have e3 := Int.mul_nonneg (a := A - a) (b := B + b) (by omega) (by omega)
  have e4 := Int.mul_nonneg (a := A + a) (b := B - b) (by omega) (by omega)
  simp only [Int.sub_mul, Int.mul_sub, Int.mul_add, Int.add_mul] at e1 e2 e3 e4
  generalize A * B = p at *
  generalize a * b = q at *
  generalize A * b = r at *
  generalize a * B = s at *
  omega

/-- what the t-th number of a row becomes, of the first m -/
def ws (W : Nat → Nat → Int) (C : List Int) (m t : Nat) : Int := sm (fun k => C.getD k 0 * W k t) m
/-- the row that a row becomes -/
def wr (W : Nat → Nat → Int) (C : List Int) : List Int := (List.range C.length).map fun t => (ws W C C.length t + 2048) / 4096
theorem wr_len (W : Nat → Nat → Int) (C : List Int) : (wr W C).length = C.length := by simp [wr]
theorem wr_get (W : Nat → Nat → Int) (C : List Int) (t : Nat) (h : t < C.length) : (wr W C).getD t 0 = (ws W C C.length t + 2048) / 4096 := by simp [wr, h]
theorem ws_succ (W : Nat → Nat → Int) (C : List Int) (m t : Nat) : ws W C (m + 1) t = ws W C m t + C.getD m 0 * W m t := rfl
/-- numbers that may be -/
def Mst (C : List Int) (B : Int) : Prop := ∀ k, k < C.length → -B ≤ C.getD k 0 ∧ C.getD k 0 ≤ B
theorem ws_le {W : Nat → Nat → Int} {C : List Int} {m t : Nat} {A B : Int} (hm : m ≤ C.length) (hC : Mst C A) (hW : ∀ k i, -B ≤ W k i ∧ W k i ≤ B) : -(A * B * m) ≤ ws W C m t ∧ ws W C m t ≤ A * B * m :=
  sm_le m fun k hk => prod_le (hC k (by omega)) (hW k t)

/-- Wht, both ways -/
def whtI (x0 x1 x2 x3 : Int) : List Int :=
  let a := x0 + x1
  let d := x2 - x3
  let e := (a - d) / 2
  let b := e - x3
  let c := e - x1
  [a - b, b, c, d + c]
def whtF (x0 x1 x2 x3 : Int) : List Int :=
  let a := x0 + x1
  let d := x3 - x2
  let e := (a - d) / 2
  let b := e - x1
  let c := e - x2
  [a - c, c, d + b, b]

end Go.Proofs.YtddnnlofdicgkabDoor
