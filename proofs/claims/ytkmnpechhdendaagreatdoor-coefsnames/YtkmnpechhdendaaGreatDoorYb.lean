/- DERIVED. A transform block's levels, as code over a coder. -/
import Derived.Test.YtkmnpechhdendaaGreatDoorYa
import Derived.Test.YtkmnpechhdendaaGreatDoorN0
namespace Go.Proofs.YtkmnpechhdendaaGreatDoor
open Go.RowKit L3

/-- a bit that tells whether something is so -/
def bt (b : Prop) [Decidable b] : Int := if b then 1 else 0
theorem bt_yes {b : Prop} [Decidable b] (h : b) : bt b = 1 := by unfold bt; rw [if_pos h]
theorem bt_no {b : Prop} [Decidable b] (h : ¬ b) : bt b = 0 := by unfold bt; rw [if_neg h]
theorem bt_in (b : Prop) [Decidable b] : 0 ≤ bt b ∧ bt b < 2 := by unfold bt; split <;> omega
/-- a length, of which n noughts are said -/
def lenL (x : Int) : Nat → Nat → Prg Int
  | 0, _ => .stop
  | m + 1, n => .bits 1 (bt (x / 2 ^ n = 1)) fun v => if v = 0 then lenL x m (n + 1) else .bits n (x - 2 ^ n) fun u => .ret (2 ^ n + (u : Int))
def lenP (x : Int) : Prg Int := lenL x 21 0
/-- an amount's first step -/
def fstP (col base : Nat) (last : Bool) (a : Int) : Prg Int :=
  if last then .sym 27 col (min 3 a - 1) fun v => .ret ((v : Int) + 1) else .sym 28 (5 * col + base) (min 3 a) fun v => .ret (v : Int)
/-- a further one -/
def morP (col more : Nat) (left : Int) : Prg Int := .sym 29 (7 * col + more) (min 3 left) fun v => .ret (v : Int)
def amtL (col more : Nat) (a : Int) : Nat → Int → Int → Prg Int
  | 0, said, part => if part < 3 then .ret (said + part) else (lenP (a - (said + part) + 1)).bind fun l => .ret (said + part + (l - 1))
  | m + 1, said, part => if part < 3 then .ret (said + part) else (morP col more (a - (said + part))).bind fun p => amtL col more a m (said + part) p
def amtP (col base more : Nat) (last : Bool) (a : Int) : Prg Int := (fstP col base last a).bind fun p => amtL col more a 4 0 p
/-- the kind that tells the class of a size's end -/
def endK (z : Int) : Nat := if z = 4 then 23 else if z = 8 then 24 else if z = 16 then 25 else 26
/-- the class of an end -/
def cls (z : Int) : Nat := if z ≤ 1 then 0 else if z ≤ 2 then 1 else if z ≤ 4 then 2 else if z ≤ 8 then 3 else if z ≤ 16 then 4 else if z ≤ 32 then 5 else if z ≤ 64 then 6 else if z ≤ 128 then 7 else if z ≤ 256 then 8 else if z ≤ 512 then 9 else 10
theorem cl_of {z : Int} {c : Nat} (h : c ≤ 10) (h1 : z ≤ 2 ^ c) (h2 : c ≠ 0 → (2 : Int) ^ (c - 1) < z) : L10.Cl z c := ⟨h, h1, fun k hk => by
  have := L10.pow_le (k := k) (c := c - 1) (by omega)
  have := h2 (by omega)
  omega⟩
theorem cls_cl {z : Int} (h : z ≤ 1024) : L10.Cl z (cls z) := by
  unfold cls
  repeat' split
  all_goals exact cl_of (by omega) (by simp only [Int.reducePow]; omega) (by intro _; simp only [Nat.reduceSub, Int.reducePow]; omega)
/-- the least end of a class -/
def clLo (c : Nat) : Nat := if c = 0 then 1 else 2 ^ (c - 1) + 1
/-- where the levels end -/
def endP (z : Int) (col e : Nat) : Prg Nat :=
  .sym 22 (2 * col + if 8 < z then 1 else 0) (bt (e = 0)) fun v => if v = 1 then .ret 0 else
    .sym (endK z) col (cls ((max e 1 : Nat) : Int)) fun c => .bits (c - 1) (L10.clE ((max e 1 : Nat) : Int) (cls ((max e 1 : Nat) : Int))) fun u => .ret (clLo c + u)
/-- the place at an index of the order -/
def plc (n i : Nat) : Nat := ((L10.ord n).getD i 0).toNat
def ampL (n col : Nat) (L : List Int) (e : Nat) : Nat → List Int → Prg (List Int)
  | 0, K => .ret K
  | i + 1, K => (amtP col (L10.bas K n (plc n i)).toNat (L10.mor K n (plc n i)).toNat (decide (i + 1 = e)) ((L.getD (plc n i) 0).natAbs : Int)).bind fun a => ampL n col L e i (K.set (plc n i) a)
/-- a level's sign -/
def blwP (col sg p : Nat) (v : Int) : Prg Bool := if p = 0 then .sym 30 (3 * col + sg) (bt (v < 0)) fun u => .ret (u == 1) else .bits 1 (bt (v < 0)) fun u => .ret (u == 1)
def sgnL (n col sg : Nat) (L : List Int) : Nat → Nat → List Int → Prg (List Int)
  | 0, _, K => .ret K
  | m + 1, j, K => if K.getD (plc n j) 0 = 0 then sgnL n col sg L m (j + 1) K else (blwP col sg (plc n j) (L.getD (plc n j) 0)).bind fun b => sgnL n col sg L m (j + 1) (if b then K.set (plc n j) (-(K.getD (plc n j) 0)) else K)
def codP (z : Int) (n col sg : Nat) (L : List Int) (e : Nat) : Prg (List Int) :=
  (endP z col e).bind fun e' => (ampL n col L e' e' (List.replicate (n * n) 0)).bind fun K => sgnL n col sg L e' 0 K
/-- behind the last level that is not nought -/
def endN (n : Nat) (L : List Int) : Nat → Nat
  | 0 => 0
  | e + 1 => if L.getD (plc n e) 0 = 0 then endN n L e else e + 1
theorem endN_le (n : Nat) (L : List Int) : ∀ e, endN n L e ≤ e
  | 0 => Nat.le_refl _
  | e + 1 => by
    rw [endN]
    split
    · exact Nat.le_trans (endN_le n L e) (by omega)
    · exact Nat.le_refl _
theorem endN_far (n : Nat) (L : List Int) : ∀ e i, endN n L e ≤ i → i < e → L.getD (plc n i) 0 = 0
  | 0, i, _, h => by omega
  | e + 1, i, h1, h2 => by
    rw [endN] at h1
    split at h1
    · by_cases e2 : i = e
      · subst e2; assumption
      · exact endN_far n L e i h1 (by omega)
    · omega
theorem endN_last (n : Nat) (L : List Int) : ∀ e, endN n L e ≠ 0 → L.getD (plc n (endN n L e - 1)) 0 ≠ 0
  | 0, h => absurd rfl h
  | e + 1, h => by
    rw [endN] at h ⊢
    split
    · next h2 => rw [if_pos h2] at h; exact endN_last n L e h
    · next h2 => simpa using h2

/-! ### places -/
theorem plc_at {n i : Nat} (h : L10.Sd n) (hi : i < n * n) : plc n i < n * n ∧ L10.pos n (plc n i) = i ∧ (L10.ord n).getD i 0 = ((plc n i : Nat) : Int) := by
  obtain ⟨r, c, hr, hc, h1, h2⟩ := L10.ord_at h hi
  have e : plc n i = r * n + c := by unfold plc; rw [h1]; omega
  rw [e]
  exact ⟨L10.rc_lt hr hc, h2, h1⟩
theorem pos_one {n p q : Nat} (hn : 0 < n) (hp : p < n * n) (hq : q < n * n) (h : L10.pos n p = L10.pos n q) : p = q := by
  have e1 : p / n * n + p % n = p := by rw [Nat.mul_comm]; exact Nat.div_add_mod p n
  have e2 : q / n * n + q % n = q := by rw [Nat.mul_comm]; exact Nat.div_add_mod q n
  have := L10.pos_inj (n := n) (r := p / n) (c := p % n) (r' := q / n) (c' := q % n) (Nat.div_lt_of_lt_mul hp) (Nat.mod_lt _ hn) (Nat.div_lt_of_lt_mul hq) (Nat.mod_lt _ hn) (by rw [e1, e2]; exact h)
  rw [e1, e2] at this
  exact this
theorem pos_in {n p : Nat} (h : L10.Sd n) (hp : p < n * n) : L10.pos n p < n * n ∧ plc n (L10.pos n p) = p := by
  have hn : 0 < n := by have := h.lo; omega
  have e1 : p / n * n + p % n = p := by rw [Nat.mul_comm]; exact Nat.div_add_mod p n
  have hl := L10.pos_lt h (r := p / n) (c := p % n) (Nat.div_lt_of_lt_mul hp) (Nat.mod_lt _ hn)
  have hl2 : L10.pos n p < n * n := hl
  obtain ⟨h1, h2, _⟩ := plc_at h hl2
  exact ⟨hl2, pos_one hn h1 hp h2⟩

/-! ### whatever the values are -/
theorem len_good (x : Int) : ∀ m n, m + n = 21 → (lenL x m n).Good (fun v => 1 ≤ v ∧ v < 2097152) (m + 20)
  | 0, _, _ => trivial
  | m + 1, n, h => by
    refine ⟨by omega, by omega, fun v hv => ?_⟩
    show (if v = 0 then lenL x m (n + 1) else Prg.bits n (x - 2 ^ n) fun u => .ret (2 ^ n + (u : Int))).Good _ _
    split
    · exact (len_good x m (n + 1) (by omega)).mono (fun _ h => h) _ _ _ (by omega)
    · refine ⟨by omega, by omega, fun u hu => ?_⟩
      have h1 : 2 ^ n ≤ 2 ^ 20 := Nat.pow_le_pow_right (by omega) (by omega)
      have h2 : 0 < 2 ^ n := Nat.pow_pos (by omega)
      have e : (2 : Int) ^ n = ((2 ^ n : Nat) : Int) := by simp
      show 1 ≤ (2 : Int) ^ n + (u : Int) ∧ (2 : Int) ^ n + (u : Int) < 2097152
      rw [e]
      omega
def Am (v : Int) : Prop := 0 ≤ v ∧ v ≤ 2097165
theorem fst_good {col base : Nat} (hc : col ≤ 1) (hb : base ≤ 4) (last : Bool) (a : Int) : (fstP col base last a).Good (fun p => 0 ≤ p ∧ p ≤ 3) 1 := by
  unfold fstP
  cases last
  · refine ⟨by omega, by omega, by show _ < 10; omega, fun v hv => ?_⟩
    have : v < 4 := hv
    show 0 ≤ (v : Int) ∧ (v : Int) ≤ 3
    omega
  · refine ⟨by omega, by omega, by show _ < 2; omega, fun v hv => ?_⟩
    have : v < 3 := hv
    show 0 ≤ (v : Int) + 1 ∧ (v : Int) + 1 ≤ 3
    omega
theorem mor_good {col more : Nat} (hc : col ≤ 1) (hb : more ≤ 6) (a : Int) : (morP col more a).Good (fun p => 0 ≤ p ∧ p ≤ 3) 1 := by
  refine ⟨by omega, by omega, by show _ < 14; omega, fun v hv => ?_⟩
  have : v < 4 := hv
  show 0 ≤ (v : Int) ∧ (v : Int) ≤ 3
  omega
theorem amt_good {col more : Nat} (hc : col ≤ 1) (hb : more ≤ 6) (a : Int) : ∀ (m : Nat) (said part : Int), m ≤ 4 → said = 3 * (4 - (m : Int)) → 0 ≤ part → part ≤ 3 → (amtL col more a m said part).Good Am (m + 41)
  | 0, said, part, _, hs, h0, h1 => by
    rw [amtL]
    split
    · exact ⟨by omega, by omega⟩
    · refine (Prg.Good.bind (R := fun v => 1 ≤ v ∧ v < 2097152) _ 0 _ 41 (len_good _ 21 0 rfl) (fun l hl => ?_)).mono (fun _ h => h) _ _ _ (by omega)
      show 0 ≤ _ ∧ _ ≤ _
      omega
  | m + 1, said, part, hm, hs, h0, h1 => by
    rw [amtL]
    split
    · exact ⟨by omega, by omega⟩
    · refine (Prg.Good.bind (R := fun p => 0 ≤ p ∧ p ≤ 3) _ (m + 41) _ 1 (mor_good hc hb _) (fun p hp => ?_)).mono (fun _ h => h) _ _ _ (by omega)
      exact amt_good hc hb a m _ _ (by omega) (by omega) hp.1 hp.2
theorem amtP_good {col base more : Nat} (hc : col ≤ 1) (hb : base ≤ 4) (hm : more ≤ 6) (last : Bool) (a : Int) : (amtP col base more last a).Good Am 46 :=
  (Prg.Good.bind (R := fun p => 0 ≤ p ∧ p ≤ 3) _ 45 _ 1 (fst_good hc hb last a) (fun p hp => amt_good hc hm a 4 0 p (by omega) (by omega) hp.1 hp.2))
theorem endK_in {z : Int} {n : Nat} (h : L10.Sz z n) : endK z < 32 ∧ sC (endK z) = 2 ∧ 2 ^ (sV (endK z) - 1) = n * n ∧ 1 ≤ sV (endK z) ∧ sV (endK z) ≤ 11 := by
  rcases h with ⟨rfl, rfl⟩ | ⟨rfl, rfl⟩ | ⟨rfl, rfl⟩ | ⟨rfl, rfl⟩ | ⟨rfl, rfl⟩ <;> decide +kernel
theorem end_good {z : Int} {n col : Nat} (h : L10.Sz z n) (hc : col ≤ 1) (e : Nat) : (endP z col e).Good (fun r => r ≤ n * n) 12 := by
  obtain ⟨k1, k2, k3, k4, k5⟩ := endK_in h
  refine ⟨by omega, by omega, by show _ < 4; split <;> omega, fun v hv => ?_⟩
  show (if v = 1 then Prg.ret 0 else _).Good _ _
  split
  · exact Nat.zero_le _
  · refine ⟨by omega, k1, by rw [k2]; omega, fun c hc2 => ⟨by omega, by omega, fun u hu => ?_⟩⟩
    show clLo c + u ≤ n * n
    have h1 : 2 ^ c ≤ 2 ^ (sV (endK z) - 1) := Nat.pow_le_pow_right (by omega) (by omega)
    rw [k3] at h1
    unfold clLo
    split
    · next e2 => subst e2; simp at hu h1; omega
    · next e2 =>
      obtain ⟨d, rfl⟩ : ∃ d, c = d + 1 := ⟨c - 1, by omega⟩
      rw [Nat.pow_succ] at h1
      simp only [Nat.add_sub_cancel] at hu ⊢
      omega
/-- levels that are known -/
def Kn (n : Nat) (K : List Int) : Prop := K.length = n * n ∧ ∀ p, -2097165 ≤ K.getD p 0 ∧ K.getD p 0 ≤ 2097165
theorem getD_setI (C : List Int) (k j : Nat) (x : Int) : (C.set k x).getD j 0 = if k = j ∧ k < C.length then x else C.getD j 0 := by
  rw [List.getD_eq_getElem?_getD, List.getD_eq_getElem?_getD, List.getElem?_set]
  by_cases e : k = j
  · subst e
    by_cases h : k < C.length
    · simp [h]
    · simp [h]
  · simp [e]
theorem Kn.set {n : Nat} {K : List Int} (h : Kn n K) (p : Nat) {v : Int} (h1 : -2097165 ≤ v) (h2 : v ≤ 2097165) : Kn n (K.set p v) := by
  refine ⟨by rw [List.length_set]; exact h.1, fun q => ?_⟩
  rw [getD_setI]
  split
  · exact ⟨h1, h2⟩
  · exact h.2 q
theorem Kn.zero (n : Nat) : Kn n (List.replicate (n * n) 0) := by
  refine ⟨by simp, fun p => ?_⟩
  rw [List.getD_eq_getElem?_getD, List.getElem?_replicate]
  split <;> simp
theorem bas_le (K : List Int) (n p : Nat) : 0 ≤ L10.bas K n p ∧ L10.bas K n p ≤ 4 := ⟨L10.ctx_lo (by omega) (L10.sml_lo (by omega) 5), L10.ctx_hi⟩
theorem mor_le (K : List Int) (n p : Nat) : 0 ≤ L10.mor K n p ∧ L10.mor K n p ≤ 6 := ⟨L10.ctx_lo (by omega) (L10.sml_lo (by omega) 3), L10.ctx_hi⟩
theorem amp_good {n col : Nat} (hc : col ≤ 1) (L : List Int) (e : Nat) : ∀ i K, Kn n K → (ampL n col L e i K).Good (Kn n) (46 * i)
  | 0, K, h => h
  | i + 1, K, h => by
    rw [ampL, show 46 * (i + 1) = 46 + 46 * i by omega]
    have := bas_le K n (plc n i)
    have := mor_le K n (plc n i)
    exact Prg.Good.bind (R := Am) _ (46 * i) _ 46 (amtP_good hc (by omega) (by omega) _ _) (fun a ha => amp_good hc L e i _ (h.set _ (by have := ha.1; omega) ha.2))
theorem blw_good {col sg p : Nat} (hc : col ≤ 1) (hs : sg ≤ 2) (v : Int) : (blwP col sg p v).Good (fun _ => True) 1 := by
  unfold blwP
  split
  · exact ⟨by omega, by omega, by show _ < 6; omega, fun _ _ => trivial⟩
  · exact ⟨by omega, by omega, fun _ _ => trivial⟩
theorem sgn_good {n col sg : Nat} (hc : col ≤ 1) (hs : sg ≤ 2) (L : List Int) : ∀ m j K, Kn n K → (sgnL n col sg L m j K).Good (Kn n) m
  | 0, _, K, h => h
  | m + 1, j, K, h => by
    rw [sgnL]
    split
    · exact (sgn_good hc hs L m (j + 1) K h).mono (fun _ h => h) _ _ _ (by omega)
    · rw [show m + 1 = 1 + m by omega]
      refine Prg.Good.bind (R := fun _ => True) _ m _ 1 (blw_good hc hs _) (fun b _ => sgn_good hc hs L m (j + 1) _ ?_)
      have := h.2 (plc n j)
      split
      · exact h.set _ (by omega) (by omega)
      · exact h
theorem cod_good {z : Int} {n col sg : Nat} (h : L10.Sz z n) (hc : col ≤ 1) (hs : sg ≤ 2) (L : List Int) (e : Nat) : (codP z n col sg L e).Good (Kn n) (12 + 47 * (n * n)) := by
  refine Prg.Good.bind (R := fun r => r ≤ n * n) _ _ _ 12 (end_good h hc e) (fun r hr => ?_)
  refine (Prg.Good.bind (R := Kn n) _ r _ (46 * r) (amp_good hc L r r _ (Kn.zero n)) (fun K hK => sgn_good hc hs L r 0 K hK)).mono (fun _ h => h) _ _ _ (by omega)

/-! ### the same way, whatever the levels are -/
namespace Prg
/-- the same, but for the values that are said -/
def Eqv {α : Type} : Prg α → Prg α → Prop
  | .ret a, q => q = .ret a
  | .stop, q => q = .stop
  | .sym kk cx _ k, q => ∃ z' k', q = .sym kk cx z' k' ∧ ∀ v, Eqv (k v) (k' v)
  | .bits n _ k, q => ∃ z' k', q = .bits n z' k' ∧ ∀ v, Eqv (k v) (k' v)
theorem Eqv.bind {α β : Type} {f g : α → Prg β} (hf : ∀ a, Eqv (f a) (g a)) (p : Prg α) : ∀ q, Eqv p q → Eqv (p.bind f) (q.bind g) := by
  induction p with
  | ret a => intro q h; cases h; exact hf a
  | stop => intro q h; cases h; rfl
  | sym kk cx z k ih => intro q h; obtain ⟨z', k', rfl, h⟩ := h; exact ⟨z', _, rfl, fun v => ih v _ (h v)⟩
  | bits n z k ih => intro q h; obtain ⟨z', k', rfl, h⟩ := h; exact ⟨z', _, rfl, fun v => ih v _ (h v)⟩
theorem Eqv.tw {α : Type} {R R0 : α → Prop} (p : Prg α) : ∀ q m, Eqv p q → p.Good R m → p.Wr R0 → p.Tw q := by
  induction p with
  | ret a => intro q m h _ _; exact h
  | stop => intro q m h _ hw; exact hw
  | sym kk cx z k ih =>
    intro q m h hg hw
    obtain ⟨z', k', rfl, h⟩ := h
    exact ⟨z', k', rfl, hg.2.1, hg.2.2.1, hw.1, hw.2.1, ih _ _ _ (h _) (hg.2.2.2 _ (by have := hw.1; have := hw.2.1; omega)) hw.2.2⟩
  | bits n z k ih =>
    intro q m h hg hw
    obtain ⟨z', k', rfl, h⟩ := h
    have e : ((2 ^ n : Nat) : Int) = 2 ^ n := by simp
    exact ⟨z', k', rfl, hg.2.1, hw.1, hw.2.1, ih _ _ _ (h _) (hg.2.2 _ (by have := hw.1; have := hw.2.1; omega)) hw.2.2⟩
theorem Eqv.refl {α : Type} (p : Prg α) : Eqv p p := by
  induction p with
  | ret a => rfl
  | stop => rfl
  | sym kk cx z k ih => exact ⟨z, k, rfl, ih⟩
  | bits n z k ih => exact ⟨z, k, rfl, ih⟩
end Prg
theorem len_eqv (x y : Int) : ∀ m n, (lenL x m n).Eqv (lenL y m n)
  | 0, _ => rfl
  | m + 1, n => by
    refine ⟨_, _, rfl, fun v => ?_⟩
    show Prg.Eqv (if v = 0 then _ else _) (if v = 0 then _ else _)
    split
    · exact len_eqv x y m (n + 1)
    · exact ⟨_, _, rfl, fun u => rfl⟩
theorem amt_eqv (col more : Nat) (a b : Int) : ∀ m said part, (amtL col more a m said part).Eqv (amtL col more b m said part)
  | 0, said, part => by
    rw [amtL, amtL]
    split
    · rfl
    · exact Prg.Eqv.bind (f := fun l => Prg.ret (said + part + (l - 1))) (g := fun l => Prg.ret (said + part + (l - 1))) (fun _ => rfl) _ _ (len_eqv _ _ 21 0)
  | m + 1, said, part => by
    rw [amtL, amtL]
    split
    · rfl
    · exact Prg.Eqv.bind (fun p => amt_eqv col more a b m _ p) _ _ ⟨_, _, rfl, fun _ => rfl⟩
theorem amtP_eqv (col base more : Nat) (last : Bool) (a b : Int) : (amtP col base more last a).Eqv (amtP col base more last b) := by
  refine Prg.Eqv.bind (fun p => amt_eqv col more a b 4 0 p) _ _ ?_
  unfold fstP
  cases last
  · exact ⟨_, _, rfl, fun _ => rfl⟩
  · exact ⟨_, _, rfl, fun _ => rfl⟩
theorem end_eqv (z : Int) (col e e' : Nat) : (endP z col e).Eqv (endP z col e') := by
  refine ⟨_, _, rfl, fun v => ?_⟩
  show Prg.Eqv (if v = 1 then _ else _) (if v = 1 then _ else _)
  split
  · rfl
  · exact ⟨_, _, rfl, fun c => ⟨_, _, rfl, fun u => rfl⟩⟩
theorem amp_eqv (n col : Nat) (L M : List Int) (e : Nat) : ∀ i K, (ampL n col L e i K).Eqv (ampL n col M e i K)
  | 0, K => rfl
  | i + 1, K => by rw [ampL, ampL]; exact Prg.Eqv.bind (fun a => amp_eqv n col L M e i _) _ _ (amtP_eqv _ _ _ _ _ _)
theorem blw_eqv (col sg p : Nat) (u v : Int) : (blwP col sg p u).Eqv (blwP col sg p v) := by
  unfold blwP
  split
  · exact ⟨_, _, rfl, fun _ => rfl⟩
  · exact ⟨_, _, rfl, fun _ => rfl⟩
theorem sgn_eqv (n col sg : Nat) (L M : List Int) : ∀ m j K, (sgnL n col sg L m j K).Eqv (sgnL n col sg M m j K)
  | 0, _, K => rfl
  | m + 1, j, K => by
    rw [sgnL, sgnL]
    split
    · exact sgn_eqv n col sg L M m (j + 1) K
    · exact Prg.Eqv.bind (fun b => sgn_eqv n col sg L M m (j + 1) _) _ _ (blw_eqv _ _ _ _ _)
theorem cod_eqv (z : Int) (n col sg : Nat) (L M : List Int) (e e' : Nat) : (codP z n col sg L e).Eqv (codP z n col sg M e') :=
  Prg.Eqv.bind (fun r => Prg.Eqv.bind (fun K => sgn_eqv n col sg L M r 0 K) _ _ (amp_eqv n col L M r r _)) _ _ (end_eqv z col e e')

/-! ### of one that writes -/
theorem len_wr {x : Int} (hx : x ≤ 1048576) : ∀ m n, m + n = 21 → 2 ^ n ≤ x → (lenL x m n).Wr fun v => v = x
  | 0, n, h, h1 => by
    obtain rfl : n = 21 := by omega
    omega
  | m + 1, n, h, h1 => by
    have h2 : (0 : Int) < 2 ^ n := Int.pow_pos (by omega)
    have hb := bt_in (x / 2 ^ n = 1)
    refine ⟨hb.1, by have := hb.2; omega, ?_⟩
    show (if (bt (x / 2 ^ n = 1)).toNat = 0 then lenL x m (n + 1) else Prg.bits n (x - 2 ^ n) fun u => .ret (2 ^ n + (u : Int))).Wr _
    by_cases e : x / 2 ^ n = 1
    · rw [bt_yes e, if_neg (by decide)]
      have h3 : x < 2 ^ n * 2 := by
        have := Int.lt_mul_ediv_self_add (x := x) h2
        rw [e] at this
        omega
      refine ⟨by omega, by omega, ?_⟩
      show (2 : Int) ^ n + (((x - 2 ^ n).toNat : Nat) : Int) = x
      omega
    · rw [bt_no e, if_pos (by decide)]
      refine len_wr hx m (n + 1) (by omega) ?_
      have h4 : 1 ≤ x / 2 ^ n := Int.le_ediv_of_mul_le h2 (by omega)
      have h5 : x / 2 ^ n * 2 ^ n ≤ x := Int.ediv_mul_le _ (by omega)
      have h6 : 2 * 2 ^ n ≤ x / 2 ^ n * 2 ^ n := Int.mul_le_mul_of_nonneg_right (by omega) (by omega)
      rw [Int.pow_succ]
      omega
theorem fst_wr {col base : Nat} {last : Bool} {a : Int} (h0 : 0 ≤ a) (h1 : last = true → 1 ≤ a) : (fstP col base last a).Wr fun p => p = min 3 a := by
  unfold fstP
  cases last
  · refine ⟨by omega, by show _ < ((4 : Nat) : Int); omega, ?_⟩
    show (((min 3 a).toNat : Nat) : Int) = min 3 a
    omega
  · have := h1 rfl
    refine ⟨by omega, by show _ < ((3 : Nat) : Int); omega, ?_⟩
    show (((min 3 a - 1).toNat : Nat) : Int) + 1 = min 3 a
    omega
theorem mor_wr {col more : Nat} {a : Int} (h0 : 0 ≤ a) : (morP col more a).Wr fun p => p = min 3 a := by
  refine ⟨by omega, by show _ < ((4 : Nat) : Int); omega, ?_⟩
  show (((min 3 a).toNat : Nat) : Int) = min 3 a
  omega
theorem amt_wr {col more : Nat} {a : Int} (hx : a ≤ 1048576) : ∀ (m : Nat) (said part : Int), m ≤ 4 → said = 3 * (4 - (m : Int)) → said ≤ a → part = min 3 (a - said) → (amtL col more a m said part).Wr fun v => v = a
  | 0, said, part, _, hs, h0, h1 => by
    rw [amtL]
    split
    · show said + part = a; omega
    · refine Prg.Wr.bind (R := fun v => v = a - (said + part) + 1) _ _ (len_wr (by omega) 21 0 rfl (by simp only [Int.pow_zero]; omega)) (fun l hl => ?_)
      show said + part + (l - 1) = a
      omega
  | m + 1, said, part, hm, hs, h0, h1 => by
    rw [amtL]
    split
    · show said + part = a; omega
    · refine Prg.Wr.bind (R := fun p => p = min 3 (a - (said + part))) _ _ (mor_wr (by omega)) (fun p hp => ?_)
      exact amt_wr hx m _ _ (by omega) (by omega) (by omega) hp
theorem amtP_wr {col base more : Nat} {last : Bool} {a : Int} (h0 : 0 ≤ a) (h1 : last = true → 1 ≤ a) (hx : a ≤ 1048576) : (amtP col base more last a).Wr fun v => v = a :=
  Prg.Wr.bind (R := fun p => p = min 3 a) _ _ (fst_wr h0 h1) (fun p hp => amt_wr hx 4 0 p (by omega) (by omega) h0 (by rw [hp]; congr 1; omega))
theorem end_wr {z : Int} {n col e : Nat} (h : L10.Sz z n) (he : e ≤ n * n) : (endP z col e).Wr fun r => r = e := by
  obtain ⟨k1, k2, k3, k4, k5⟩ := endK_in h
  have hb := bt_in (e = 0)
  refine ⟨hb.1, by show _ < ((2 : Nat) : Int); exact hb.2, ?_⟩
  show (if (bt (e = 0)).toNat = 1 then Prg.ret 0 else _).Wr _
  by_cases h0 : e = 0
  · rw [bt_yes h0, if_pos (by decide)]; exact h0.symm
  · rw [bt_no h0, if_neg (by decide)]
    have hm : max e 1 = e := by omega
    rw [hm]
    have hsq := h.sd.sq
    have hcl := cls_cl (z := (e : Int)) (by omega)
    generalize cls (e : Int) = c at *
    have hcs : c < sV (endK z) := by
      by_cases hlt : c < sV (endK z)
      · exact hlt
      · have h1 := hcl.lo (sV (endK z) - 1) (by omega)
        have h2 : (2 : Int) ^ (sV (endK z) - 1) = ((2 ^ (sV (endK z) - 1) : Nat) : Int) := by simp
        rw [h2, k3] at h1
        omega
    refine ⟨by omega, by omega, ?_⟩
    show (Prg.bits ((c : Int).toNat - 1) _ _).Wr _
    rw [Int.toNat_natCast]
    have hhi := hcl.hi
    by_cases hc0 : c = 0
    · subst hc0
      simp only [L10.clE, if_pos, Int.pow_zero] at hhi ⊢
      refine ⟨by omega, by simp, ?_⟩
      show clLo 0 + (0 : Int).toNat = e
      unfold clLo
      simp only [if_pos]
      omega
    · obtain ⟨d, rfl⟩ : ∃ d, c = d + 1 := ⟨c - 1, by omega⟩
      have hlo := hcl.lo d (by omega)
      simp only [L10.clE, if_neg (Nat.succ_ne_zero d), Nat.add_sub_cancel]
      rw [Int.pow_succ] at hhi
      refine ⟨by omega, by omega, ?_⟩
      show clLo (d + 1) + ((e : Int) - (2 ^ d + 1)).toNat = e
      unfold clLo
      simp only [if_neg (Nat.succ_ne_zero d), Nat.add_sub_cancel]
      have h2 : (2 : Int) ^ d = ((2 ^ d : Nat) : Int) := by simp
      rw [h2] at hlo ⊢
      omega
/-- the amounts that are known from index i on -/
def amK (n : Nat) (L : List Int) (i : Nat) : List Int := (List.range (n * n)).map fun p => if i ≤ L10.pos n p then ((L.getD p 0).natAbs : Int) else 0
/-- the levels that are known with their signs up to index j -/
def sgK (n : Nat) (L : List Int) (j : Nat) : List Int := (List.range (n * n)).map fun p => if L10.pos n p < j then L.getD p 0 else ((L.getD p 0).natAbs : Int)
theorem map_get {n p : Nat} (f : Nat → Int) (hp : p < n) : ((List.range n).map f).getD p 0 = f p := by
  rw [List.getD_eq_getElem?_getD, List.getElem?_map, List.getElem?_range hp]; rfl
theorem amK_len (n : Nat) (L : List Int) (i : Nat) : (amK n L i).length = n * n := by simp [amK]
theorem amK_set {n i : Nat} (h : L10.Sd n) (hi : i < n * n) (L : List Int) : (amK n L (i + 1)).set (plc n i) ((L.getD (plc n i) 0).natAbs : Int) = amK n L i := by
  obtain ⟨h1, h2, _⟩ := plc_at h hi
  refine L10.ext_getD (by simp [amK]) fun j hj => ?_
  rw [List.length_set, amK_len] at hj
  rw [getD_setI, amK_len]
  unfold amK
  rw [map_get _ hj, map_get _ hj]
  by_cases e : plc n i = j
  · subst e
    rw [if_pos ⟨rfl, h1⟩, if_pos (by omega)]
  · rw [if_neg (by omega)]
    have hne : L10.pos n j ≠ i := fun e2 => e (by have := pos_in h hj; rw [e2] at this; exact this.2)
    by_cases hl : i ≤ L10.pos n j
    · rw [if_pos hl, if_pos (by omega)]
    · rw [if_neg hl, if_neg (by omega)]
theorem amK_end {n e : Nat} (h : L10.Sd n) {L : List Int} (he : ∀ i, e ≤ i → i < n * n → L.getD (plc n i) 0 = 0) : amK n L e = List.replicate (n * n) 0 := by
  refine L10.ext_getD (by simp [amK]) fun j hj => ?_
  rw [amK_len] at hj
  have hp := pos_in h hj
  unfold amK
  have hr : (List.replicate (n * n) (0 : Int)).getD j 0 = 0 := by rw [List.getD_eq_getElem?_getD, List.getElem?_replicate, if_pos hj]; rfl
  rw [map_get _ hj, hr]
  by_cases hl : e ≤ L10.pos n j
  · have := he _ hl hp.1
    rw [hp.2] at this
    rw [if_pos hl, this]; rfl
  · rw [if_neg hl]
theorem amK_sg (n : Nat) (L : List Int) : amK n L 0 = sgK n L 0 := by
  unfold amK sgK
  refine List.map_congr_left fun p _ => ?_
  rw [if_pos (Nat.zero_le _), if_neg (Nat.not_lt_zero _)]
theorem sgK_get {n j : Nat} (h : L10.Sd n) (hj : j < n * n) (L : List Int) : (sgK n L j).getD (plc n j) 0 = ((L.getD (plc n j) 0).natAbs : Int) := by
  obtain ⟨h1, h2, _⟩ := plc_at h hj
  unfold sgK
  rw [map_get _ h1, if_neg (by omega)]
theorem sgK_set {n j : Nat} (h : L10.Sd n) (hj : j < n * n) (L : List Int) : (sgK n L j).set (plc n j) (L.getD (plc n j) 0) = sgK n L (j + 1) := by
  obtain ⟨h1, h2, _⟩ := plc_at h hj
  refine L10.ext_getD (by simp [sgK]) fun p hp => ?_
  have hl : (sgK n L j).length = n * n := by simp [sgK]
  rw [List.length_set, hl] at hp
  rw [getD_setI, hl]
  unfold sgK
  rw [map_get _ hp, map_get _ hp]
  by_cases e : plc n j = p
  · subst e
    rw [if_pos ⟨rfl, h1⟩, if_pos (by omega)]
  · rw [if_neg (by omega)]
    have hne : L10.pos n p ≠ j := fun e2 => e (by have := pos_in h hp; rw [e2] at this; exact this.2)
    by_cases hl : L10.pos n p < j
    · rw [if_pos hl, if_pos (by omega)]
    · rw [if_neg hl, if_neg (by omega)]
theorem sgK_same {n j : Nat} (h : L10.Sd n) (hj : j < n * n) {L : List Int} (hp : 0 ≤ L.getD (plc n j) 0) : sgK n L j = sgK n L (j + 1) := by
  rw [← sgK_set h hj L]
  obtain ⟨h1, _, _⟩ := plc_at h hj
  have hg := sgK_get h hj L
  refine L10.ext_getD (by simp) fun p hp2 => ?_
  rw [getD_setI]
  split
  · next e => rw [← e.1, hg]; omega
  · rfl
theorem sgK_end {n e : Nat} (h : L10.Sd n) {L : List Int} (hL : L.length = n * n) (he : ∀ i, e ≤ i → i < n * n → L.getD (plc n i) 0 = 0) : sgK n L e = L := by
  refine L10.ext_getD (by simp [sgK, hL]) fun p hp => ?_
  have hl : (sgK n L e).length = n * n := by simp [sgK]
  rw [hl] at hp
  have hq := pos_in h hp
  unfold sgK
  rw [map_get _ hp]
  by_cases hlt : L10.pos n p < e
  · rw [if_pos hlt]
  · have := he _ (by omega) hq.1
    rw [hq.2] at this
    rw [if_neg hlt, this]; rfl
/-- levels that may be written -/
structure Lv (n : Nat) (L : List Int) : Prop where
  len : L.length = n * n
  all : ∀ p, -1048576 ≤ L.getD p 0 ∧ L.getD p 0 ≤ 1048576
theorem amp_wr {n col e : Nat} (h : L10.Sd n) {L : List Int} (hL : Lv n L) (he : e ≤ n * n) (hlast : e ≠ 0 → L.getD (plc n (e - 1)) 0 ≠ 0) : ∀ i, i ≤ e → (ampL n col L e i (amK n L i)).Wr fun K => K = amK n L 0
  | 0, _ => rfl
  | i + 1, hi => by
    rw [ampL]
    have hb := hL.all (plc n i)
    refine Prg.Wr.bind (R := fun v => v = ((L.getD (plc n i) 0).natAbs : Int)) _ _ (amtP_wr (by omega) (fun hd => ?_) (by omega)) (fun a ha => ?_)
    · have e2 : i + 1 = e := by simpa using hd
      have := hlast (by omega)
      rw [← e2, Nat.add_sub_cancel] at this
      omega
    · rw [ha, amK_set h (by omega) L]
      exact amp_wr h hL he hlast i (by omega)
theorem blw_wr {col sg p : Nat} {v : Int} : (blwP col sg p v).Wr fun b => b = decide (v < 0) := by
  have hb := bt_in (v < 0)
  have hr : ((bt (v < 0)).toNat == 1) = decide (v < 0) := by
    by_cases e : v < 0
    · rw [bt_yes e]; simp [e]
    · rw [bt_no e]; simp [e]
  unfold blwP
  split
  · exact ⟨hb.1, by show _ < ((2 : Nat) : Int); exact hb.2, hr⟩
  · exact ⟨hb.1, by simp only [Int.pow_one]; exact hb.2, hr⟩
theorem sgn_wr {n col sg e : Nat} (h : L10.Sd n) (L : List Int) (he : e ≤ n * n) : ∀ m j, m + j = e → (sgnL n col sg L m j (sgK n L j)).Wr fun K => K = sgK n L e
  | 0, j, hj => by
    obtain rfl : j = e := by omega
    rfl
  | m + 1, j, hj => by
    have hjn : j < n * n := by omega
    rw [sgnL, sgK_get h hjn]
    split
    · next h0 =>
      rw [sgK_same h hjn (by omega)]
      exact sgn_wr h L he m (j + 1) (by omega)
    · next h0 =>
      refine Prg.Wr.bind (R := fun b => b = decide (L.getD (plc n j) 0 < 0)) _ _ blw_wr (fun b hb => ?_)
      have e2 : (if b = true then (sgK n L j).set (plc n j) (-(((L.getD (plc n j) 0).natAbs : Nat) : Int)) else sgK n L j) = sgK n L (j + 1) := by
        subst hb
        by_cases hn : L.getD (plc n j) 0 < 0
        · rw [if_pos (by simpa using hn), show -(((L.getD (plc n j) 0).natAbs : Nat) : Int) = L.getD (plc n j) 0 by omega, sgK_set h hjn]
        · rw [if_neg (by simpa using hn), sgK_same h hjn (by omega)]
      rw [e2]
      exact sgn_wr h L he m (j + 1) (by omega)
theorem cod_wr {z : Int} {n col sg : Nat} (h : L10.Sz z n) {L : List Int} (hL : Lv n L) : (codP z n col sg L (endN n L (n * n))).Wr fun K => K = L := by
  have hle := endN_le n L (n * n)
  have hfar := fun i h1 h2 => endN_far n L (n * n) i h1 h2
  have hlast := endN_last n L (n * n)
  refine Prg.Wr.bind (R := fun r => r = endN n L (n * n)) _ _ (end_wr h hle) (fun r hr => ?_)
  subst hr
  have ha := amp_wr (col := col) h.sd hL hle hlast _ (Nat.le_refl _)
  rw [amK_end h.sd hfar] at ha
  refine Prg.Wr.bind _ _ ha (fun K hK => ?_)
  rw [hK, amK_sg]
  have hs := sgn_wr (col := col) (sg := sg) h.sd L hle (endN n L (n * n)) 0 (by omega)
  rw [sgK_end h.sd hL.len hfar] at hs
  exact hs

end Go.Proofs.YtkmnpechhdendaaGreatDoor
