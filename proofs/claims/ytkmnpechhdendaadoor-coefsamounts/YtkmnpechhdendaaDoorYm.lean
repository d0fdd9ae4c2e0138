/- DERIVED. How much one level counts; the walks of Log and CoefsAmounts. -/
import Derived.Test.YtkmnpechhdendaaDoorYl
namespace Go.Proofs.YtkmnpechhdendaaDoor
open Go.RowKit L3

theorem wc_bind {α β : Type} {f : α → Prg β} {a : α} (p : Prg α) : p.Wr (fun b => b = a) → (p.bind f).wc = p.wc + (f a).wc := by
  induction p with
  | ret b => intro h; obtain rfl : b = a := h; show (f b).wc = 0 + (f b).wc; omega
  | stop => intro h; exact h.elim
  | sym kk cx z k ih => intro h; show 1 + ((k z.toNat).bind f).wc = 1 + (k z.toNat).wc + (f a).wc; rw [ih _ h.2.2]; omega
  | bits n z k ih => intro h; show n + ((k z.toNat).bind f).wc = n + (k z.toNat).wc + (f a).wc; rw [ih _ h.2.2]; omega
theorem len_wc {x : Int} : ∀ (j m n : Nat), m + n = 21 → n + j ≤ 20 → (2 : Int) ^ (n + j) ≤ x → x < 2 ^ (n + j + 1) → (lenL x m n).wc = 2 * j + n + 1
  | j, 0, n, h, h1, _, _ => by omega
  | 0, m + 1, n, h, h1, h2, h3 => by
    have hp : (0 : Int) < 2 ^ n := Int.pow_pos (by omega)
    rw [Nat.add_zero] at h2 h3
    rw [Int.pow_succ] at h3
    have e : x / 2 ^ n = 1 := by
      have a1 : 1 ≤ x / 2 ^ n := Int.le_ediv_of_mul_le hp (by omega)
      have a2 : x / 2 ^ n < 2 := Int.ediv_lt_of_lt_mul hp (by omega)
      omega
    rw [lenL, bt_yes e]
    show 1 + (n + 0) = _
    omega
  | j + 1, m + 1, n, h, h1, h2, h3 => by
    have hp : (0 : Int) < 2 ^ n := Int.pow_pos (by omega)
    have h4 : (2 : Int) ^ (n + 1) ≤ x := Int.le_trans (by
      have := Nat.pow_le_pow_right (n := 2) (by omega) (show n + 1 ≤ n + (j + 1) by omega)
      have e1 : (2 : Int) ^ (n + 1) = ((2 ^ (n + 1) : Nat) : Int) := by simp
      have e2 : (2 : Int) ^ (n + (j + 1)) = ((2 ^ (n + (j + 1)) : Nat) : Int) := by simp
      rw [e1, e2]; omega) h2
    rw [Int.pow_succ] at h4
    have e : ¬ x / 2 ^ n = 1 := by
      have a1 : 2 ≤ x / 2 ^ n := Int.le_ediv_of_mul_le hp (by omega)
      omega
    have ih := len_wc (x := x) j m (n + 1) (by omega) (by omega) (by rw [show n + 1 + j = n + (j + 1) by omega]; exact h2) (by rw [show n + 1 + j + 1 = n + (j + 1) + 1 by omega]; exact h3)
    rw [lenL, bt_no e]
    show 1 + (lenL x m (n + 1)).wc = _
    rw [ih]; omega
/-- the length's part -/
def lnC (a : Int) (k : Nat) : Nat := if 15 ≤ a then 2 * k + 1 else 0
theorem amt_wc {col more : Nat} {a : Int} {k : Nat} (hx : a ≤ 1048576) (hk : 15 ≤ a → (2 : Int) ^ k ≤ a - 14 ∧ a - 14 < 2 ^ (k + 1)) : ∀ (m : Nat) (said part : Int), m ≤ 4 → said = 3 * (4 - (m : Int)) → said ≤ a → part = min 3 (a - said) →
    ((amtL col more a m said part).wc : Int) = if a - said < 3 then 0 else min ((a - said - 3) / 3 + 1) (m : Int) + (lnC a k : Int)
  | 0, said, part, _, hs, h0, h1 => by
    rw [amtL]
    by_cases hp : part < 3
    · rw [if_pos hp, if_pos (by omega)]; rfl
    · rw [if_neg hp, if_neg (by omega)]
      obtain ⟨k1, k2⟩ := hk (by omega)
      have hw : (lenP (a - (said + part) + 1)).Wr fun v => v = a - (said + part) + 1 := len_wr (by omega) 21 0 rfl (by simp only [Int.pow_zero]; omega)
      rw [wc_bind _ hw]
      have hk20 : k ≤ 20 := by
        by_cases e : k ≤ 20
        · exact e
        · have := Nat.pow_le_pow_right (n := 2) (by omega) (show 21 ≤ k by omega)
          have e1 : (2 : Int) ^ k = ((2 ^ k : Nat) : Int) := by simp
          rw [e1] at k1
          have : (2 : Nat) ^ 21 = 2097152 := by decide
          omega
      have hl := len_wc (x := a - (said + part) + 1) k 21 0 rfl (by omega) (by rw [Nat.zero_add, show a - (said + part) + 1 = a - 14 by omega]; exact k1) (by rw [Nat.zero_add, show a - (said + part) + 1 = a - 14 by omega]; exact k2)
      show (((lenL (a - (said + part) + 1) 21 0).wc + 0 : Nat) : Int) = _
      rw [hl, lnC, if_pos (by omega)]
      omega
  | m + 1, said, part, hm, hs, h0, h1 => by
    rw [amtL]
    by_cases hp : part < 3
    · rw [if_pos hp, if_pos (by omega)]; rfl
    · rw [if_neg hp, if_neg (by omega)]
      have hw := mor_wr (col := col) (more := more) (a := a - (said + part)) (by omega)
      have ih := amt_wc (col := col) (more := more) hx hk m (said + part) (min 3 (a - (said + part))) (by omega) (by omega) (by omega) rfl
      rw [wc_bind _ hw]
      have hmw : (morP col more (a - (said + part))).wc = 1 := rfl
      rw [hmw, Int.natCast_add, ih]
      unfold lnC
      split <;> split <;> omega
theorem amtP_wc {col base more : Nat} {a : Int} {k : Nat} (h1 : 1 ≤ a) (hx : a ≤ 1048576) (hk : 15 ≤ a → (2 : Int) ^ k ≤ a - 14 ∧ a - 14 < 2 ^ (k + 1)) :
    ((amtP col base more true a).wc : Int) = 1 + if a < 3 then 0 else min ((a - 3) / 3 + 1) 4 + (lnC a k : Int) := by
  unfold amtP
  rw [wc_bind _ (fst_wr (by omega) (fun _ => h1))]
  have hf : (fstP col base true a).wc = 1 := rfl
  have := amt_wc (col := col) (more := more) hx hk 4 0 (min 3 a) (by omega) (by omega) (by omega) (by congr 1; omega)
  rw [hf, Int.natCast_add, this]
  simp only [Int.sub_zero]
  rfl
theorem plc_zero {n : Nat} (h : L10.Sd n) : plc n 0 = 0 := by
  have hn := h.lo
  have h1 := (pos_in h (p := 0) (by have := Nat.mul_le_mul hn hn; omega)).2
  have h2 : L10.pos n 0 = 0 := by
    unfold L10.pos
    rw [Nat.zero_div, Nat.zero_mod]
    show L10.lnS n 0 + _ = 0
    rw [L10.lnS]
    omega
  rw [h2] at h1
  exact h1
theorem plc_pos {n e : Nat} (h : L10.Sd n) (he : e < n * n) (h0 : e ≠ 0) : plc n e ≠ 0 := fun e2 => by
  have h1 := (plc_at h he).2.1
  have h2 := (plc_at h (i := 0) (by omega)).2.1
  rw [plc_zero h] at h2
  rw [e2, h2] at h1
  exact h0 h1.symm
theorem end_one {n : Nat} (h : L10.Sd n) {L : List Int} (h0 : L.getD 0 0 ≠ 0) (h1 : ∀ p, p ≠ 0 → L.getD p 0 = 0) : ∀ e, e < n * n → endN n L (e + 1) = 1
  | 0, _ => by rw [endN, plc_zero h, if_neg h0]
  | e + 1, he => by rw [endN, if_pos (h1 _ (plc_pos h he (by omega)))]; exact end_one h h0 h1 e (by omega)
/-- how much one level counts -/
theorem one_count {z : Int} {n col sg : Nat} (hz : L10.Sz z n) {L : List Int} (hL : Lv n L) (h0 : L.getD 0 0 ≠ 0) (h1 : ∀ p, p ≠ 0 → L.getD p 0 = 0) {a : Int} (ha : a = ((L.getD 0 0).natAbs : Int)) {k : Nat} (hk : 15 ≤ a → (2 : Int) ^ k ≤ a - 14 ∧ a - 14 < 2 ^ (k + 1)) :
    ((cw z n col sg L).wc : Int) = 4 + if a < 3 then 0 else min ((a - 3) / 3 + 1) 4 + (lnC a k : Int) := by
  have hq : 0 < n * n := by have := Nat.mul_le_mul hz.sd.lo hz.sd.lo; omega
  have he : endN n L (n * n) = 1 := by
    have := end_one hz.sd h0 h1 (n * n - 1) (by omega)
    rw [show n * n - 1 + 1 = n * n by omega] at this
    exact this
  have hb := hL.all 0
  unfold cw codP
  rw [he, wc_bind _ (end_wr hz (by omega))]
  have hew : (endP z col 1).wc = 2 := by
    unfold endP
    rw [bt_no (by decide)]
    show 1 + (1 + ((cls 1 : Int).toNat - 1 + 0)) = 2
    rfl
  have haw := amp_wr (col := col) hz.sd hL (e := 1) (by omega) (fun _ => by rw [plc_zero hz.sd]; exact h0) 1 (Nat.le_refl _)
  rw [amK_end hz.sd (e := 1) (fun i hi hi2 => h1 _ (plc_pos hz.sd hi2 (by omega)))] at haw
  rw [wc_bind _ haw]
  have hac : ((ampL n col L 1 1 (List.replicate (n * n) 0)).wc : Int) = 1 + if a < 3 then 0 else min ((a - 3) / 3 + 1) 4 + (lnC a k : Int) := by
    rw [ampL, plc_zero hz.sd, ← ha, decide_eq_true (by rfl)]
    have hw := amtP_wr (col := col) (base := (L10.bas (List.replicate (n * n) 0) n 0).toNat) (more := (L10.mor (List.replicate (n * n) 0) n 0).toNat) (last := true) (a := a) (by omega) (fun _ => by omega) (by omega)
    rw [wc_bind _ hw, ← amtP_wc (col := col) (base := (L10.bas (List.replicate (n * n) 0) n 0).toNat) (more := (L10.mor (List.replicate (n * n) 0) n 0).toNat) (by omega) (by omega) hk]
    rfl
  have hsc : (sgnL n col sg L 1 0 (amK n L 0)).wc = 1 := by
    rw [sgnL, amK_sg, sgK_get hz.sd hq, plc_zero hz.sd, if_neg (by omega), wc_bind _ blw_wr]
    unfold blwP
    rw [if_pos rfl]
    rfl
  rw [hew, hsc, Int.natCast_add, Int.natCast_add, hac]
  split <;> omega

set_option maxRecDepth 100000 in
set_option maxHeartbeats 1000000 in
theorem log_any {w : World} {x : Int} (h0 : 1 ≤ x) (h1 : x ≤ 1048576) : Calls Tryd.prog 15 #[.int .i64 x] w fun e w' => ∃ k : Nat, e = .returned (.int .i64 (k : Int)) ∧ Hid ((2 : Int) ^ k ≤ x ∧ x < 2 ^ (k + 1)) ∧ w' = w := by
  go_enter Tryd.func15, Tryd.ntmps15
  go_wp2_with fail
  go_loopw [0, 3] (fun xv kv wr => ∃ (y : Int) (k : Nat), xv = .int .i64 y ∧ kv = .int .i64 (k : Int) ∧ 1 ≤ y ∧ y ≤ 1048576 ∧ k ≤ 40 ∧ Hid (2 ^ k * y ≤ x ∧ x < 2 ^ k * (y + 1) ∧ y * 2 ^ k ≤ 1048576) ∧ wr = w) (fun xv _ _ => (intOf xv).toNat)
  case atStart => exact ⟨x, 0, rfl, rfl, h0, h1, by omega, ⟨by simp, by simp; omega, by simp; omega⟩, rfl⟩
  case round =>
    obtain ⟨y, k, rfl, rfl, y0, y1, hk, HI, rfl⟩ := hrel
    have k0 : (0 : Int) ≤ (k : Int) := by omega
    have k1 : (k : Int) ≤ 40 := by omega
    by_cases hy : 1 < y
    · have e1 : y.tdiv 2 = y / 2 := Int.tdiv_eq_ediv_of_nonneg (by omega)
      obtain ⟨h, hh⟩ : ∃ h, y / 2 = h := ⟨_, rfl⟩
      have e2 : y.tdiv 2 = h := by rw [e1, hh]
      have b1 : 1 ≤ h := by omega
      have b2 : h ≤ 1048576 := by omega
      have HN : Hid ((2 : Int) ^ (k + 1) * h ≤ x ∧ x < 2 ^ (k + 1) * (h + 1) ∧ h * 2 ^ (k + 1) ≤ 1048576 ∧ k + 1 ≤ 40 ∧ h < y) := by
        obtain ⟨i1, i2, i3⟩ := HI.out
        have hp : (0 : Int) < 2 ^ k := Int.pow_pos (by omega)
        have c1 : (2 : Int) ^ k * (2 * h) ≤ 2 ^ k * y := Int.mul_le_mul_of_nonneg_left (by omega) (by omega)
        have c2 : (2 : Int) ^ k * (y + 1) ≤ 2 ^ k * (2 * (h + 1)) := Int.mul_le_mul_of_nonneg_left (by omega) (by omega)
        have c3 : (2 : Int) ^ (k + 1) * h = 2 ^ k * (2 * h) := by rw [Int.pow_succ, Int.mul_assoc]
        have c4 : (2 : Int) ^ (k + 1) * (h + 1) = 2 ^ k * (2 * (h + 1)) := by rw [Int.pow_succ, Int.mul_assoc]
        have c5 : h * (2 : Int) ^ (k + 1) = 2 ^ k * (2 * h) := by rw [Int.mul_comm, c3]
        have c6 : y * (2 : Int) ^ k = 2 ^ k * y := Int.mul_comm _ _
        refine ⟨by omega, by omega, by omega, ?_, by omega⟩
        by_cases e : k + 1 ≤ 40
        · exact e
        · have := Nat.pow_le_pow_right (n := 2) (by omega) (show 40 ≤ k by omega)
          have e3 : (2 : Int) ^ k = ((2 ^ k : Nat) : Int) := by simp
          have e4 : (2 : Int) ^ k * 1 ≤ 2 ^ k * y := Int.mul_le_mul_of_nonneg_left (by omega) (by omega)
          have : (2 : Nat) ^ 40 = 1099511627776 := by decide
          omega
      clear HI hh e1
      go_wp2_with fail
      obtain ⟨n1, n2, n3, n4, n5⟩ := HN.out
      go_roundw
      case rel => exact ⟨h, k + 1, by go_num, by go_num, b1, b2, n4, ⟨n1, n2, n3⟩, (by first | trivial | rfl)⟩
      case measure => simp [intOf]; omega
    · obtain rfl : y = 1 := by omega
      have HF : Hid ((2 : Int) ^ k ≤ x ∧ x < 2 ^ (k + 1)) := by
        obtain ⟨i1, i2, _⟩ := HI.out
        exact ⟨by omega, by rw [Int.pow_succ]; omega⟩
      clear HI
      go_wp2_with fail
      go_ret
      exact ⟨k, rfl, HF, rfl⟩

end Go.Proofs.YtkmnpechhdendaaDoor
