/- DERIVED. A coder that reads by its own blocks and plain numbers; what was written is found. -/
import Derived.Test.YtkmnpechhdendaaDoorSw
import Derived.Test.YtkmnpechhdendaaDoorS3
namespace Go.Proofs.YtkmnpechhdendaaDoor
open Go.RowKit L3
variable {Z Z' : Nat → Option Obj}

structure Rc (w : World) (lo x : Nat) (O : Nat → Prop) (S : Sx) (ad : Bool) (n : Int) (zs : List Nat) (q c g : Nat) : Prop where
  ex : ∃ bt K xd b, CR zn w lo x bt K ad n xd b zs q c g ∧ ab K = S ∧ O = Oc x bt K (fun e => e = xd ∨ e = b)
theorem CR.rc {w : World} {lo x bt : Nat} {K : List (Nat × List Tb)} {ad : Bool} {n : Int} {xd b : Nat} {zs : List Nat} {q c g : Nat} (h : CR Z w lo x bt K ad n xd b zs q c g) : Rc w lo x (Oc x bt K (fun e => e = xd ∨ e = b)) (ab K) ad n zs q c g := ⟨bt, K, xd, b, h.watch (fun y o hy => by cases hy), rfl, rfl⟩
theorem Rc.lt {w : World} {lo x : Nat} {O : Nat → Prop} {S : Sx} {ad : Bool} {n : Int} {zs : List Nat} {q c g : Nat} (h : Rc w lo x O S ad n zs q c g) {y : Nat} (hy : O y) : y < w.heap.size := by
  obtain ⟨bt, K, xd, b, h, _, rfl⟩ := h
  exact h.co.own_lt (fun e he => by rcases he with he | he; (have := h.dc.low; omega); (have := h.blt; omega)) hy
theorem Rc.ok {w : World} {lo x : Nat} {O : Nat → Prop} {S : Sx} {ad : Bool} {n : Int} {zs : List Nat} {q c g : Nat} (h : Rc w lo x O S ad n zs q c g) : OkS S := by obtain ⟨_, _, _, _, h, rfl, _⟩ := h; exact ab_okk h.co.ok
theorem Rc.to {w w' : World} {lo x : Nat} {O : Nat → Prop} {S : Sx} {ad : Bool} {n : Int} {zs : List Nat} {q c g : Nat} (h : Rc w lo x O S ad n zs q c g) (hb : Below w.heap.size w w') : Rc w' lo x O S ad n zs q c g := by
  obtain ⟨bt, K, xd, b, h, h1, h2⟩ := h; exact ⟨bt, K, xd, b, h.to hb, h1, h2⟩
theorem Rc.ke {P : Nat → Prop} {w w' : World} {lo x : Nat} {O : Nat → Prop} {S : Sx} {ad : Bool} {n : Int} {zs : List Nat} {q c g : Nat} (h : Rc w lo x O S ad n zs q c g) (hk : Ke P w w') (hP : ∀ b, P b → ¬ O b) : Rc w' lo x O S ad n zs q c g := by
  obtain ⟨bt, K, xd, b, h, h1, rfl⟩ := h
  exact ⟨bt, K, xd, b, ⟨h.co.else hk hP, h.dc.carry (hk.block xd h.dc.low (fun e => hP xd e (Or.inr (Or.inl (Or.inl rfl))))) (fun _ => hk.block b h.blt (fun e => hP b e (Or.inr (Or.inl (Or.inr rfl))))) hk.size, h.dk, h.dlo, Nat.lt_of_lt_of_le h.blt hk.size⟩, h1, rfl⟩
theorem Rc.dk {w : World} {lo x : Nat} {O : Nat → Prop} {S : Sx} {ad : Bool} {n : Int} {zs : List Nat} {q c g : Nat} (h : Rc w lo x O S ad n zs q c g) : L2.Dk c g := by obtain ⟨_, _, _, _, h, _⟩ := h; exact h.dk

theorem symbol_rc {w : World} {lo x : Nat} {O : Nat → Prop} {S : Sx} {ad : Bool} {n : Int} {zs : List Nat} {q c g : Nat} (h : Rc w lo x O S ad n zs q c g) (hsh : Sh w) (hn0 : 0 ≤ n) (hn1 : n ≤ 1152921504606846976) {kk cx : Nat} {z : Int} (hk : kk < 32) (hc : cx < sC kk) :
    Calls Tryd.prog 54 #[.pointer (some ⟨x, 0, none⟩), .int .i64 kk, .int .i64 cx, .int .i64 z] w fun e w' => ∃ v, e = .returned (.tuple #[.int .i64 (v : Nat), .int .i64 0]) ∧ L3.Fd (tb S kk cx).1 (L2.dVal c g) v ∧ ∃ O', Rc w' lo x O' (upd S ad kk cx v) ad (n + 1) zs (L2.dTake zs c g q (eb (tb S kk cx).1 v) (ee (tb S kk cx).1 v)).2.2 (L2.dTake zs c g q (eb (tb S kk cx).1 v) (ee (tb S kk cx).1 v)).1 (L2.dTake zs c g q (eb (tb S kk cx).1 v) (ee (tb S kk cx).1 v)).2.1 ∧ Trn O O' w w' ∧ Below lo w w' := by
  obtain ⟨bt, K, xd, b, h, rfl, rfl⟩ := h
  obtain ⟨Z, hZ, hco⟩ := h.co.rest
  obtain ⟨p, s, hp, hs, _⟩ := h.co.at hk hc
  have h' : CR Z w lo x bt K ad n xd b zs q c g := ⟨hco, h.dc, h.dk, h.dlo, h.blt⟩
  rw [ab_tb hp hs]
  refine (symbol_r h' hsh hn0 hn1 (z := z) hk hc hp hs).mono ?_
  rintro e w' ⟨v, rfl, hf, K', h1, h2, h3⟩
  exact ⟨v, rfl, hf, _, by rw [← ab_adp h2]; exact h1.rc, h1.co.turn h3 hZ, h3⟩
theorem bits_rc {w : World} {lo x : Nat} {O : Nat → Prop} {S : Sx} {ad : Bool} {cn : Int} {zs : List Nat} {q c g : Nat} (h : Rc w lo x O S ad cn zs q c g) (hn0 : 0 ≤ cn) (hn1 : cn ≤ 1152921504606846976) {n : Nat} {z : Int} (hn : n ≤ 30) :
    Calls Tryd.prog 24 #[.pointer (some ⟨x, 0, none⟩), .int .i64 n, .int .i64 z] w fun e w' => e = .returned (.tuple #[.int .i64 (((dBs zs q c g n).1 : Nat) : Int), .int .i64 0]) ∧ ∃ O', Rc w' lo x O' S ad (cn + n) zs (dBs zs q c g n).2.1 (dBs zs q c g n).2.2.1 (dBs zs q c g n).2.2.2 ∧ Trn O O' w w' ∧ Below lo w w' := by
  obtain ⟨bt, K, xd, b, h, rfl, rfl⟩ := h
  obtain ⟨Z, hZ, hco⟩ := h.co.rest
  have h' : CR Z w lo x bt K ad cn xd b zs q c g := ⟨hco, h.dc, h.dk, h.dlo, h.blt⟩
  refine (bits_r h' hn0 hn1 (z := z) hn).mono ?_
  rintro e w' ⟨rfl, h1, h3⟩
  exact ⟨rfl, _, h1.rc, h1.co.turn h3 hZ, h3⟩
theorem count_rc {w : World} {lo x : Nat} {O : Nat → Prop} {S : Sx} {ad : Bool} {cn : Int} {zs : List Nat} {q c g : Nat} (h : Rc w lo x O S ad cn zs q c g) :
    Calls Tryd.prog 14 #[.pointer (some ⟨x, 0, none⟩)] w fun e w' => e = .returned (.int .i64 cn) ∧ w' = w := by
  obtain ⟨bt, K, xd, b, h, _⟩ := h; exact count_r h
theorem reader_rc {w : World} {lo bt : Nat} {B : Nat → Prop} {S : Sx} {ad : Bool} {vb : Value} {zs : List Nat} (hsh : Sh w) (h00 : 0 < w.heap.size) (hs : Hs w lo bt B S) (hv : L2.SrcOf w vb zs) (hz : ∀ i, zs.getD i 0 < 256) (hl : zs.length ≤ 140737488355328) :
    Calls Tryd.prog 13 #[vb, .agg #[.slice (some ⟨bt, 0, none⟩) 32 32], .bool ad] w fun e w' => ∃ x O, e = .returned (.tuple #[.pointer (some ⟨x, 0, none⟩), .int .i64 0]) ∧ Rc w' w.heap.size x O S ad 0 zs 4 (L2.dFirst zs) 4294967295 ∧ (∀ y, O y → y = 0 ∨ w.heap.size ≤ y) ∧ Below w.heap.size w w' := by
  obtain ⟨K, h1, h2, h3, rfl, _⟩ := hs
  refine (reader_core hsh h00 h1 h2 hv hz hl).mono ?_
  rintro e w' ⟨x, bt2, L, xd, b, rfl, k1, k2, k3, k4⟩
  refine ⟨x, _, rfl, by rw [← als_ab k2]; exact k1.rc, fun y hy => ?_, k3⟩
  rcases hy with e | (e | e) | e | ⟨p, hp, e | ⟨t, ht, j1, o, j2⟩⟩
  · rw [e]; exact Or.inr k1.co.xlo
  · rw [e]; exact Or.inr k1.dlo
  · rw [e]; exact k4
  · rw [e]; exact Or.inr k1.co.st.blo
  · rw [e]; exact Or.inr (k1.co.st.lie p hp).1
  · exact Or.inr ((k1.co.dk p hp).2 t ht _ o j2 j1)

/-! ### what was written is found -/
theorem fd_one {C : List Nat} {n : Int} (ht : TOk C n) {p s t : Nat} (hs : L3.Fd C p s) (h : L3.Fd C p t) : s = t := by
  have key : ∀ a b, a < b → L3.Fd C p a → L3.Fd C p b → False := fun a b hab ha hb => by
    have h1 := ee_mono ht (b - 1 - a) a (by have := hb.1; omega)
    rw [show a + (b - 1 - a) = b - 1 from by omega] at h1
    have h2 := hb.2.1
    unfold eb at h2
    rw [if_neg (by omega)] at h2
    have := ha.2.2
    omega
  rcases Nat.lt_trichotomy s t with e | e | e
  · exact (key s t e hs h).elim
  · exact e
  · exact (key t s e h hs).elim
/-- where a reader of the bytes stands beside a writer -/
structure Dw (zs : List Nat) (T g k q c g' : Nat) : Prop where
  code : c + T = L2.pre zs (k + 4)
  rng : g' = g
  read : q = k + 4
theorem Dw.first {zs : List Nat} {T' g' k' : Nat} (hz : ∀ i, zs.getD i 0 < 256) (hI : L2.Inc 0 4294967295 0 T' g' k') (hg : 0 < g') (hp : L2.pre zs (k' + 4) = T') : Dw zs 0 4294967295 0 4 (L2.dFirst zs) 4294967295 := by
  have h := hI.in hg hz hp
  refine ⟨?_, rfl, rfl⟩
  simp only [Nat.zero_add] at h ⊢
  unfold L2.dFirst
  omega
theorem Dw.found {zs : List Nat} {T g k q c g' lo hi T' G' k' : Nat} (h : Dw zs T g k q c g') (hz : ∀ i, zs.getD i 0 < 256) (hE : L2.Ev T g k) (hl : lo < hi) (hh : hi ≤ 32768) (hI : L2.Inc (L2.ePut T g k lo hi).1 (L2.ePut T g k lo hi).2.1 (L2.ePut T g k lo hi).2.2 T' G' k') (hg : 0 < G') (hp : L2.pre zs (k' + 4) = T') :
    L2.dMay c g' lo hi ∧ Dw zs (L2.ePut T g k lo hi).1 (L2.ePut T g k lo hi).2.1 (L2.ePut T g k lo hi).2.2 (L2.dTake zs c g' q lo hi).2.2 (L2.dTake zs c g' q lo hi).1 (L2.dTake zs c g' q lo hi).2.1 := by
  obtain ⟨h1, h2, h3⟩ := h
  subst h2 h3
  have hf := L2.found hz hE hl hh h1 hI hg hp
  exact ⟨hf.1, hf.2.1, hf.2.2.1, hf.2.2.2⟩
theorem ePut_inc {T g k lo hi : Nat} (hE : L2.Ev T g k) (hl : lo < hi) (hh : hi ≤ 32768) : L2.Inc T g k (L2.ePut T g k lo hi).1 (L2.ePut T g k lo hi).2.1 (L2.ePut T g k lo hi).2.2 := by
  have hw := L2.pWid_ok hE.least hl hh
  refine L2.Inc.trans ?_ (L2.en_inc 2 _ _ _)
  exact ⟨Nat.le_refl _, by rw [Nat.sub_self, Nat.pow_zero, Nat.mul_one]; omega, by rw [Nat.sub_self, Nat.pow_zero, Nat.mul_one]; omega⟩
theorem bit_ends (v n i : Nat) {pa pe : Nat} (ha : pa = 16384 * bitA v n i) (he : pe = pa + 16384) : pa < pe ∧ pe ≤ 32768 := by
  have := bitA_lt v n i; omega
theorem eBs_step_inc {T g k : Nat} (hE : L2.Ev T g k) (v n i : Nat) : L2.Inc (eBs T g k v n i).1 (eBs T g k v n i).2.1 (eBs T g k v n i).2.2 (eBs T g k v n (i + 1)).1 (eBs T g k v n (i + 1)).2.1 (eBs T g k v n (i + 1)).2.2 := by
  obtain ⟨pa, ha⟩ : ∃ pa, pa = 16384 * bitA v n i := ⟨_, rfl⟩
  obtain ⟨pe, he⟩ : ∃ pe, pe = pa + 16384 := ⟨_, rfl⟩
  rw [eBs_succ T g k v n i pa pe ha he]
  have := bit_ends v n i ha he
  exact ePut_inc (eBs_ok hE v n i).1 this.1 this.2
theorem eBs_inc {T g k : Nat} (hE : L2.Ev T g k) (v n i : Nat) : ∀ m, L2.Inc (eBs T g k v n i).1 (eBs T g k v n i).2.1 (eBs T g k v n i).2.2 (eBs T g k v n (i + m)).1 (eBs T g k v n (i + m)).2.1 (eBs T g k v n (i + m)).2.2 := by
  intro m
  induction m with
  | zero => exact L2.Inc.refl _ _ _
  | succ m ih => rw [← Nat.add_assoc]; exact ih.trans (eBs_step_inc hE v n (i + m))
theorem Dw.bits {zs : List Nat} {T g k q c g' v n T' G' k' : Nat} (h : Dw zs T g k q c g') (hz : ∀ i, zs.getD i 0 < 256) (hE : L2.Ev T g k) (hv : v < 2 ^ n) (hI : L2.Inc (eBs T g k v n n).1 (eBs T g k v n n).2.1 (eBs T g k v n n).2.2 T' G' k') (hg : 0 < G') (hp : L2.pre zs (k' + 4) = T') :
    ∀ i, i ≤ n → (dBs zs q c g' i).1 = v / 2 ^ (n - i) ∧ Dw zs (eBs T g k v n i).1 (eBs T g k v n i).2.1 (eBs T g k v n i).2.2 (dBs zs q c g' i).2.1 (dBs zs q c g' i).2.2.1 (dBs zs q c g' i).2.2.2 := by
  intro i
  induction i with
  | zero => intro _; rw [dBs_zero, eBs_zero]; exact ⟨by rw [Nat.sub_zero, Nat.div_eq_of_lt hv], h⟩
  | succ i ih =>
    intro hi
    obtain ⟨i1, i2⟩ := ih (by omega)
    obtain ⟨pa, ha⟩ : ∃ pa, pa = 16384 * bitA v n i := ⟨_, rfl⟩
    obtain ⟨pe, he⟩ : ∃ pe, pe = pa + 16384 := ⟨_, rfl⟩
    have hE2 := (eBs_ok hE v n i).1
    have hen := bit_ends v n i ha he
    have hinc := eBs_inc hE v n (i + 1) (n - (i + 1))
    rw [show i + 1 + (n - (i + 1)) = n from by omega] at hinc
    have hinc2 := hinc.trans hI
    rw [eBs_succ T g k v n i pa pe ha he] at hinc2 ⊢
    obtain ⟨hm, hd⟩ := i2.found hz hE2 hen.1 hen.2 hinc2 hg hp
    have hb2 := bitA_lt v n i
    have hb : bitA v n i = L2.dVal (dBs zs q c g' i).2.2.1 (dBs zs q c g' i).2.2.2 / 16384 := by
      have h1 := hm.1
      have h2 := hm.2.1
      omega
    rw [dBs_succ zs q c g' i (bitA v n i) pa pe hb ha he]
    exact ⟨by simp only; rw [i1, half_step v n i (by omega)], hd⟩

end Go.Proofs.YtkmnpechhdendaaDoor
