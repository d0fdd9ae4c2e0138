/- DERIVED. Several texts in one: A coder that reads by its own blocks and plain numbers; what was written is found. A table is laid into a set; lists of sets that grow. A set in memory whose rows have room; Check, Copy, Writer of the program on such a set. What append to a list of sets needs. A set that learnt. -/
import Derived.Test.YtppanogpeengnaaDoorS4
import Derived.Test.YtppanogpeengnaaDoorS3
import Derived.Deep.AppendLies
import Derived.Deep.RegionHeld3
namespace Go.Proofs.YtppanogpeengnaaDoor
open Go.RowKit L3
variable {Z Z' : Nat → Option Obj}

structure Rc (w : World) (lo x : Nat) (O : Nat → Prop) (S : Sx) (ad : Bool) (n : Int) (zs : List Nat) (q c g : Nat) : Prop where
  ex : ∃ bt K xd b, CR zn w lo x bt K ad n xd b zs q c g ∧ ab K = S ∧ O = Oc x bt K (fun e => e = xd ∨ e = b)
theorem CR.rc {w : World} {lo x bt : Nat} {K : List (Nat × List Tb)} {ad : Bool} {n : Int} {xd b : Nat} {zs : List Nat} {q c g : Nat} (h : CR Z w lo x bt K ad n xd b zs q c g) : Rc w lo x (Oc x bt K (fun e => e = xd ∨ e = b)) (ab K) ad n zs q c g := ⟨bt, K, xd, b, h.watch (fun y o hy => by cases hy), rfl, rfl⟩
theorem Rc.lt {w : World} {lo x : Nat} {O : Nat → Prop} {S : Sx} {ad : Bool} {n : Int} {zs : List Nat} {q c g : Nat} (h : Rc w lo x O S ad n zs q c g) {y : Nat} (hy : O y) : y < w.heap.size := by
  obtain ⟨bt, K, xd, b, h, _, rfl⟩ := h
  exact h.co.own_lt (fun e he => by rcases he with he | he; (have := h.dc.low; omega); (have := h.blt; omega)) hy
theorem Rc.ok {w : World} {lo x : Nat} {O : Nat → Prop} {S : Sx} {ad : Bool} {n : Int} {zs : List Nat} {q c g : Nat} (h : Rc w lo x O S ad n zs q c g) : OkS S := by obtain ⟨_, _, _, _, h, rfl, _⟩ := h; exact ab_okk h.co.ok
theorem Rc.to {w w' : World} {lo x : Nat} {O : Nat → Prop} {S : Sx} {ad : Bool} {n : Int} {zs : List Nat} {q c g : Nat} (h : Rc w lo x O S ad n zs q c g) (hb : Below w.heap.size w w') : Rc w' lo x O S ad n zs q c g := by
  obtain ⟨bt, K, xd, b, h, h1, h2⟩ := h; exact ⟨bt, K, xd, b, h.to hb, h1, h2⟩
theorem Rc.ke {P : Nat → Prop} {w w' : World} {lo x : Nat} {O : Nat → Prop} {S : Sx} {ad : Bool} {n : Int} {zs : List Nat} {q c g : Nat} (h : Rc w lo x O S ad n zs q c g) (hk : Ke P w w') (hP : ∀ b, P b → ¬ O b) : Rc w' lo x O S ad n zs q c g := by
  obtain ⟨bt, K, xd, b, h, h1, rfl⟩ := h
  exact ⟨bt, K, xd, b, ⟨h.co.else hk hP, h.dc.carry (hk.block xd h.dc.low (fun e => hP xd e (Or.inr (Or.inl (Or.inl rfl))))) (fun _ => hk.block b h.blt (fun e => hP b e (Or.inr (Or.inl (Or.inr rfl))))) hk.size, h.dk, h.dlo, Nat.lt_of_lt_of_le h.blt hk.size⟩, h1, rfl⟩
theorem Rc.dk {w : World} {lo x : Nat} {O : Nat → Prop} {S : Sx} {ad : Bool} {n : Int} {zs : List Nat} {q c g : Nat} (h : Rc w lo x O S ad n zs q c g) : L2.Dk c g := by obtain ⟨_, _, _, _, h, _⟩ := h; exact h.dk

theorem symbol_rc {w : World} {lo x : Nat} {O : Nat → Prop} {S : Sx} {ad : Bool} {n : Int} {zs : List Nat} {q c g : Nat} (h : Rc w lo x O S ad n zs q c g) (hsh : Sh w) (hn0 : 0 ≤ n) (hn1 : n ≤ 1152921504606846976) {kk cx : Nat} {z : Int} (hk : kk < 32) (hc : cx < sC kk) :
    Calls Tryd.prog 35 #[.pointer (some ⟨x, 0, none⟩), .int .i64 kk, .int .i64 cx, .int .i64 z] w fun e w' => ∃ v, e = .returned (.tuple #[.int .i64 (v : Nat), .int .i64 0]) ∧ L3.Fd (tb S kk cx).1 (L2.dVal c g) v ∧ ∃ O', Rc w' lo x O' (upd S ad kk cx v) ad (n + 1) zs (L2.dTake zs c g q (eb (tb S kk cx).1 v) (ee (tb S kk cx).1 v)).2.2 (L2.dTake zs c g q (eb (tb S kk cx).1 v) (ee (tb S kk cx).1 v)).1 (L2.dTake zs c g q (eb (tb S kk cx).1 v) (ee (tb S kk cx).1 v)).2.1 ∧ Trn O O' w w' ∧ Below lo w w' := by
  obtain ⟨bt, K, xd, b, h, rfl, rfl⟩ := h
  obtain ⟨Z, hZ, hco⟩ := h.co.rest
  obtain ⟨p, s, hp, hs, _⟩ := h.co.at hk hc
  have h' : CR Z w lo x bt K ad n xd b zs q c g := ⟨hco, h.dc, h.dk, h.dlo, h.blt⟩
  rw [ab_tb hp hs]
  refine (symbol_r h' hsh hn0 hn1 (z := z) hk hc hp hs).mono ?_
  rintro e w' ⟨v, rfl, hf, K', h1, h2, h3⟩
  exact ⟨v, rfl, hf, _, by rw [← ab_adp h2]; exact h1.rc, h1.co.turn h3 hZ, h3⟩
theorem bits_rc {w : World} {lo x : Nat} {O : Nat → Prop} {S : Sx} {ad : Bool} {cn : Int} {zs : List Nat} {q c g : Nat} (h : Rc w lo x O S ad cn zs q c g) (hn0 : 0 ≤ cn) (hn1 : cn ≤ 1152921504606846976) {n : Nat} {z : Int} (hn : n ≤ 30) :
    Calls Tryd.prog 34 #[.pointer (some ⟨x, 0, none⟩), .int .i64 n, .int .i64 z] w fun e w' => e = .returned (.tuple #[.int .i64 (((dBs zs q c g n).1 : Nat) : Int), .int .i64 0]) ∧ ∃ O', Rc w' lo x O' S ad (cn + n) zs (dBs zs q c g n).2.1 (dBs zs q c g n).2.2.1 (dBs zs q c g n).2.2.2 ∧ Trn O O' w w' ∧ Below lo w w' := by
  obtain ⟨bt, K, xd, b, h, rfl, rfl⟩ := h
  obtain ⟨Z, hZ, hco⟩ := h.co.rest
  have h' : CR Z w lo x bt K ad cn xd b zs q c g := ⟨hco, h.dc, h.dk, h.dlo, h.blt⟩
  refine (bits_r h' hn0 hn1 (z := z) hn).mono ?_
  rintro e w' ⟨rfl, h1, h3⟩
  exact ⟨rfl, _, h1.rc, h1.co.turn h3 hZ, h3⟩
theorem count_rc {w : World} {lo x : Nat} {O : Nat → Prop} {S : Sx} {ad : Bool} {cn : Int} {zs : List Nat} {q c g : Nat} (h : Rc w lo x O S ad cn zs q c g) :
    Calls Tryd.prog 37 #[.pointer (some ⟨x, 0, none⟩)] w fun e w' => e = .returned (.int .i64 cn) ∧ w' = w := by
  obtain ⟨bt, K, xd, b, h, _⟩ := h; exact count_r h
theorem set_rc {w : World} {lo x : Nat} {O : Nat → Prop} {S : Sx} {ad : Bool} {cn : Int} {zs : List Nat} {q c g : Nat} (h : Rc w lo x O S ad cn zs q c g) (hsh : Sh w) :
    Calls Tryd.prog 16 #[.pointer (some ⟨x, 0, none⟩)] w fun e w' => ∃ bt B, e = .returned (.tuple #[.agg #[.slice (some ⟨bt, 0, none⟩) 32 32], .int .i64 0]) ∧ Hs w' w.heap.size bt B S ∧ Below w.heap.size w w' := by
  obtain ⟨bt, K, xd, b, h, rfl, _⟩ := h
  refine (set_r h hsh).mono ?_
  rintro e w' ⟨bt2, L, rfl, h1, h2, h3, h4⟩
  exact ⟨bt2, _, rfl, ⟨L, h1, h2.okk h.co.ok, h3, als_ab h2, rfl⟩, h4⟩
theorem reader_rc {w : World} {lo bt : Nat} {B : Nat → Prop} {S : Sx} {ad : Bool} {vb : Value} {zs : List Nat} (hsh : Sh w) (h00 : 0 < w.heap.size) (hs : Hs w lo bt B S) (hv : L2.SrcOf w vb zs) (hz : ∀ i, zs.getD i 0 < 256) (hl : zs.length ≤ 140737488355328) :
    Calls Tryd.prog 24 #[vb, .agg #[.slice (some ⟨bt, 0, none⟩) 32 32], .bool ad] w fun e w' => ∃ x O, e = .returned (.tuple #[.pointer (some ⟨x, 0, none⟩), .int .i64 0]) ∧ Rc w' w.heap.size x O S ad 0 zs 4 (L2.dFirst zs) 4294967295 ∧ (∀ y, O y → y = 0 ∨ w.heap.size ≤ y) ∧ Below w.heap.size w w' := by
  obtain ⟨K, h1, h2, h3, rfl, _⟩ := hs
  refine (reader_core hsh h00 h1 h2 hv hz hl).mono ?_
  rintro e w' ⟨x, bt2, L, xd, b, rfl, k1, k2, k3, k4⟩
  refine ⟨x, _, rfl, by rw [← als_ab k2]; exact k1.rc, fun y hy => ?_, k3⟩
  rcases hy with e | (e | e) | e | ⟨p, hp, e | ⟨t, ht, j1, o, j2⟩⟩
  · rw [e]; exact Or.inr k1.co.xlo
  · rw [e]; exact Or.inr k1.dlo
  · rw [e]; exact k4
  · rw [e]; exact Or.inr k1.co.st.blo
  · rw [e]; exact Or.inr (k1.co.st.lie p hp).1
  · exact Or.inr ((k1.co.dk p hp).2 t ht _ o j2 j1)

/-! ### what was written is found -/
theorem fd_one {C : List Nat} {n : Int} (ht : TOk C n) {p s t : Nat} (hs : L3.Fd C p s) (h : L3.Fd C p t) : s = t := by
  have key : ∀ a b, a < b → L3.Fd C p a → L3.Fd C p b → False := fun a b hab ha hb => by
    have h1 := ee_mono ht (b - 1 - a) a (by have := hb.1; omega)
    rw [show a + (b - 1 - a) = b - 1 from by omega] at h1
    have h2 := hb.2.1
    unfold eb at h2
    rw [if_neg (by omega)] at h2
    have := ha.2.2
    omega
  rcases Nat.lt_trichotomy s t with e | e | e
  · exact (key s t e hs h).elim
  · exact e
  · exact (key t s e h hs).elim
/-- where a reader of the bytes stands beside a writer -/
structure Dw (zs : List Nat) (T g k q c g' : Nat) : Prop where
  code : c + T = L2.pre zs (k + 4)
  rng : g' = g
  read : q = k + 4
theorem Dw.first {zs : List Nat} {T' g' k' : Nat} (hz : ∀ i, zs.getD i 0 < 256) (hI : L2.Inc 0 4294967295 0 T' g' k') (hg : 0 < g') (hp : L2.pre zs (k' + 4) = T') : Dw zs 0 4294967295 0 4 (L2.dFirst zs) 4294967295 := by
  have h := hI.in hg hz hp
  refine ⟨?_, rfl, rfl⟩
  simp only [Nat.zero_add] at h ⊢
  unfold L2.dFirst
  omega
theorem Dw.found {zs : List Nat} {T g k q c g' lo hi T' G' k' : Nat} (h : Dw zs T g k q c g') (hz : ∀ i, zs.getD i 0 < 256) (hE : L2.Ev T g k) (hl : lo < hi) (hh : hi ≤ 32768) (hI : L2.Inc (L2.ePut T g k lo hi).1 (L2.ePut T g k lo hi).2.1 (L2.ePut T g k lo hi).2.2 T' G' k') (hg : 0 < G') (hp : L2.pre zs (k' + 4) = T') :
    L2.dMay c g' lo hi ∧ Dw zs (L2.ePut T g k lo hi).1 (L2.ePut T g k lo hi).2.1 (L2.ePut T g k lo hi).2.2 (L2.dTake zs c g' q lo hi).2.2 (L2.dTake zs c g' q lo hi).1 (L2.dTake zs c g' q lo hi).2.1 := by
  obtain ⟨h1, h2, h3⟩ := h
  subst h2 h3
  have hf := L2.found hz hE hl hh h1 hI hg hp
  exact ⟨hf.1, hf.2.1, hf.2.2.1, hf.2.2.2⟩
theorem ePut_inc {T g k lo hi : Nat} (hE : L2.Ev T g k) (hl : lo < hi) (hh : hi ≤ 32768) : L2.Inc T g k (L2.ePut T g k lo hi).1 (L2.ePut T g k lo hi).2.1 (L2.ePut T g k lo hi).2.2 := by
  have hw := L2.pWid_ok hE.least hl hh
  refine L2.Inc.trans ?_ (L2.en_inc 2 _ _ _)
  exact ⟨Nat.le_refl _, by rw [Nat.sub_self, Nat.pow_zero, Nat.mul_one]; omega, by rw [Nat.sub_self, Nat.pow_zero, Nat.mul_one]; omega⟩
theorem bit_ends (v n i : Nat) {pa pe : Nat} (ha : pa = 16384 * bitA v n i) (he : pe = pa + 16384) : pa < pe ∧ pe ≤ 32768 := by
  have := bitA_lt v n i; omega
theorem eBs_step_inc {T g k : Nat} (hE : L2.Ev T g k) (v n i : Nat) : L2.Inc (eBs T g k v n i).1 (eBs T g k v n i).2.1 (eBs T g k v n i).2.2 (eBs T g k v n (i + 1)).1 (eBs T g k v n (i + 1)).2.1 (eBs T g k v n (i + 1)).2.2 := by
  obtain ⟨pa, ha⟩ : ∃ pa, pa = 16384 * bitA v n i := ⟨_, rfl⟩
  obtain ⟨pe, he⟩ : ∃ pe, pe = pa + 16384 := ⟨_, rfl⟩
  rw [eBs_succ T g k v n i pa pe ha he]
  have := bit_ends v n i ha he
  exact ePut_inc (eBs_ok hE v n i).1 this.1 this.2
theorem eBs_inc {T g k : Nat} (hE : L2.Ev T g k) (v n i : Nat) : ∀ m, L2.Inc (eBs T g k v n i).1 (eBs T g k v n i).2.1 (eBs T g k v n i).2.2 (eBs T g k v n (i + m)).1 (eBs T g k v n (i + m)).2.1 (eBs T g k v n (i + m)).2.2 := by
  intro m
  induction m with
  | zero => exact L2.Inc.refl _ _ _
  | succ m ih => rw [← Nat.add_assoc]; exact ih.trans (eBs_step_inc hE v n (i + m))
theorem Dw.bits {zs : List Nat} {T g k q c g' v n T' G' k' : Nat} (h : Dw zs T g k q c g') (hz : ∀ i, zs.getD i 0 < 256) (hE : L2.Ev T g k) (hv : v < 2 ^ n) (hI : L2.Inc (eBs T g k v n n).1 (eBs T g k v n n).2.1 (eBs T g k v n n).2.2 T' G' k') (hg : 0 < G') (hp : L2.pre zs (k' + 4) = T') :
    ∀ i, i ≤ n → (dBs zs q c g' i).1 = v / 2 ^ (n - i) ∧ Dw zs (eBs T g k v n i).1 (eBs T g k v n i).2.1 (eBs T g k v n i).2.2 (dBs zs q c g' i).2.1 (dBs zs q c g' i).2.2.1 (dBs zs q c g' i).2.2.2 := by
  intro i
  induction i with
  | zero => intro _; rw [dBs_zero, eBs_zero]; exact ⟨by rw [Nat.sub_zero, Nat.div_eq_of_lt hv], h⟩
  | succ i ih =>
    intro hi
    obtain ⟨i1, i2⟩ := ih (by omega)
    obtain ⟨pa, ha⟩ : ∃ pa, pa = 16384 * bitA v n i := ⟨_, rfl⟩
    obtain ⟨pe, he⟩ : ∃ pe, pe = pa + 16384 := ⟨_, rfl⟩
    have hE2 := (eBs_ok hE v n i).1
    have hen := bit_ends v n i ha he
    have hinc := eBs_inc hE v n (i + 1) (n - (i + 1))
    rw [show i + 1 + (n - (i + 1)) = n from by omega] at hinc
    have hinc2 := hinc.trans hI
    rw [eBs_succ T g k v n i pa pe ha he] at hinc2 ⊢
    obtain ⟨hm, hd⟩ := i2.found hz hE2 hen.1 hen.2 hinc2 hg hp
    have hb2 := bitA_lt v n i
    have hb : bitA v n i = L2.dVal (dBs zs q c g' i).2.2.1 (dBs zs q c g' i).2.2.2 / 16384 := by
      have h1 := hm.1
      have h2 := hm.2.1
      omega
    rw [dBs_succ zs q c g' i (bitA v n i) pa pe hb ha he]
    exact ⟨by simp only; rw [i1, half_step v n i (by omega)], hd⟩

end Go.Proofs.YtppanogpeengnaaDoor

namespace Go.Proofs.YtppanogpeengnaaDoor
open Go.RowKit L3

/-- a table of a set in memory: where it lies, and what becomes of the set where another one is laid there -/
structure Ta (w : World) (lo bt : Nat) (B : Nat → Prop) (S : Sx) (kk c pb tc : Nat) (ta : Option Addr) : Prop where
  own : B pb
  ne : pb ≠ bt
  ob : B bt
  top : ∀ v, Below w.heap.size w v → v.cell? ⟨bt, kk, none⟩ = some (.slice (some ⟨pb, 0, none⟩) (sC kk) (sC kk))
  c0 : ∀ v, Below w.heap.size w v → v.cell? ⟨pb, c * 2, none⟩ = some (.slice ta (sV kk) tc)
  c1 : ∀ v, Below w.heap.size w v → v.cell? ⟨pb, c * 2 + 1, none⟩ = some (.int .i64 (tb S kk c).2)
  th : ∀ v j, Below w.heap.size w v → v.frozen? ⟨pb, j, none⟩ = false
  sl : ∀ v, Below w.heap.size w v → Sl v .u16 ta (tb S kk c).1
  put : ∀ v g cap C n, Below w.heap.size w v → Sl v .u16 (some ⟨g, 0, none⟩) C → w.heap.size ≤ g → C.length = sV kk → TOk C n → ∃ B', Hs ((v.setCell ⟨pb, c * 2, none⟩ (.slice (some ⟨g, 0, none⟩) (sV kk) cap)).setCell ⟨pb, c * 2 + 1, none⟩ (.int .i64 n)) lo bt B' (S.set kk ((S.getD kk []).set c (C, n))) ∧ (∀ y, B' y → B y ∨ w.heap.size ≤ y) ∧ Ke B v ((v.setCell ⟨pb, c * 2, none⟩ (.slice (some ⟨g, 0, none⟩) (sV kk) cap)).setCell ⟨pb, c * 2 + 1, none⟩ (.int .i64 n))
theorem Hs.at {w : World} {lo bt : Nat} {B : Nat → Prop} {S : Sx} (h : Hs w lo bt B S) {kk c : Nat} (hk : kk < 32) (hc : c < sC kk) : ∃ pb tc ta, Ta w lo bt B S kk c pb tc ta := by
  obtain ⟨L, h1, h2, h3, rfl, rfl⟩ := h
  have hkl : kk < L.length := by rw [h2.1]; exact hk
  have hp := List.getElem?_eq_getElem hkl
  obtain ⟨o1, o2⟩ := h2.2 kk _ hp
  have hcl : c < L[kk].2.length := by rw [o1]; exact hc
  have hs := List.getElem?_eq_getElem hcl
  have hpK : L[kk] ∈ L := List.getElem_mem hkl
  have hsm : L[kk].2[c] ∈ L[kk].2 := List.getElem_mem hcl
  obtain ⟨o3, o4⟩ := o2 _ hsm
  have et := ab_tb hp hs
  refine ⟨L[kk].1, L[kk].2[c].c, L[kk].2[c].a, Or.inr ⟨_, hpK, Or.inl rfl⟩, (h1.lie _ hpK).2.2, Or.inl rfl, fun v hv => ?_, fun v hv => ?_, fun v hv => ?_, fun v j hv => (h1.to hv).th _ hpK j, fun v hv => ?_, fun v g cap C n hv hsl hg hC hT => ?_⟩
  · have := (h1.to hv).hd kk _ hp; rw [o1] at this; exact this
  · have := (h1.to hv).c0 _ hpK c _ hs; rw [o3] at this; exact this
  · rw [et]; exact (h1.to hv).c1 _ hpK c _ hs
  · rw [et]; exact (h1.to hv).sl _ hpK _ hsm
  · have hlo : lo ≤ w.heap.size := Nat.le_trans h1.blo (Nat.le_of_lt h1.blt)
    have hne : ∀ b o, (some ⟨g, 0, none⟩ : Option Addr) = some ⟨b, o, none⟩ → C ≠ [] → b ≠ bt ∧ ∀ q ∈ L, b ≠ q.1 := fun b o e _ => by
      simp only [Option.some.injEq, Addr.mk.injEq, and_true] at e
      refine ⟨by have := h1.blt; omega, fun q hq => by have := (h1.lie q hq).2.1; omega⟩
    have hput := (h1.to hv).put hp hcl ⟨some ⟨g, 0, none⟩, cap, C, n⟩ hsl hne
    simp only [hC] at hput
    refine ⟨_, ⟨_, hput, h2.put hp ⟨hC, hT⟩, fun q hq => ?_, by rw [ab_set hp], rfl⟩, fun y hy => ?_, ?_⟩
    · rcases St.mem_set hp hq with e | e
      · subst e
        refine ⟨(h3 _ hpK).1, fun t ht b o e1 e2 => ?_⟩
        rcases List.mem_or_eq_of_mem_set ht with e | e
        · exact (h3 _ hpK).2 t e b o e1 e2
        · subst e
          simp only [Option.some.injEq, Addr.mk.injEq, and_true] at e1
          omega
      · exact h3 q e
    · rcases Bs.set hp hy with e | ⟨_, o, e⟩
      · exact Or.inl e
      · simp only [Option.some.injEq, Addr.mk.injEq, and_true] at e
        exact Or.inr (by omega)
    · have hB : Bs bt L L[kk].1 := Or.inr ⟨_, hpK, Or.inl rfl⟩
      exact Ke.trans (Ke.set _ _ _ _ hB) (Ke.set _ _ _ _ hB) (fun _ e => e) (fun _ _ e => e)

theorem ke_drew (P : Nat → Prop) (w : World) : Ke P w w.drew := Ke.of (below_drew (Below.refl _ _))
theorem ke_two (U : World) (pb i j : Nat) (a b : Value) : Ke (fun y => y = pb) U ((U.drew.setCell ⟨pb, i, none⟩ a).setCell ⟨pb, j, none⟩ b) :=
  Ke.trans (ke_drew (fun y => y = pb) U) (Ke.trans (Ke.set (fun y => y = pb) _ ⟨pb, i, none⟩ a rfl) (Ke.set (fun y => y = pb) _ ⟨pb, j, none⟩ b rfl) (fun _ e => e) (fun _ _ e => e) (R := fun y => y = pb)) (fun _ e => e) (fun _ _ e => e)

/-! ### lists of sets -/
theorem Tryd.inf25 : (Tryd.prog.info? 25).map (fun i => (i.zero, i.size, i.bytes)) = some (some (.agg #[.slice none 0 0]), 1, 24) := by kernel_rfl
def sv (bt : Nat) : Value := .slice (some ⟨bt, 0, none⟩) 32 32
theorem own_ke {P : Nat → Prop} {w w' : World} {B e size n : Nat} {v : Value} {xs : List Value} (h : w.ownsRow B e size v n xs) (hk : Ke P w w') (hP : ∀ g, v.ownBlock = some g → ¬ P g) : w'.ownsRow B e size v n xs := by
  refine ⟨h.1, ?_⟩
  rcases h.2 with h1 | ⟨b, cap, cur, rfl, h2, h3, h4⟩
  · exact Or.inl h1
  · exact Or.inr ⟨b, cap, cur, rfl, h2, by rw [hk.block b ((Array.getElem?_eq_some_iff.1 h3).1) (hP b rfl)]; exact h3, h4⟩
/-- a list of sets, all of it in the blocks of D -/
structure Ls (w : World) (lo : Nat) (v : Value) (R : List Sx) (D : Nat → Prop) : Prop where
  ex : ∃ M : List Nat, M.length = R.length ∧ w.ownsRow lo 25 1 v R.length (M.map sv) ∧ (∀ (j : Nat) bt S, M[j]? = some bt → R[j]? = some S → ∃ B, Hs w lo bt B S ∧ (∀ y, B y → D y) ∧ ∀ g, v.ownBlock = some g → ¬ B g) ∧ (∀ g, v.ownBlock = some g → D g) ∧ ∀ y, D y → lo ≤ y ∧ y < w.heap.size
theorem Ls.nil (w : World) (lo : Nat) : Ls w lo (.slice none 0 0) [] (fun _ => False) := ⟨[], rfl, World.ownsRow_nil _ _ _ _, fun j bt S h => by simp at h, fun g h => by simp [Value.ownBlock] at h, fun _ h => h.elim⟩
theorem Ls.lt {w : World} {lo : Nat} {v : Value} {R : List Sx} {D : Nat → Prop} (h : Ls w lo v R D) {y : Nat} (hy : D y) : lo ≤ y ∧ y < w.heap.size := by obtain ⟨_, _, _, _, _, h⟩ := h; exact h y hy
theorem Ls.ke {P : Nat → Prop} {w w' : World} {lo : Nat} {v : Value} {R : List Sx} {D : Nat → Prop} (h : Ls w lo v R D) (hk : Ke P w w') (hP : ∀ b, P b → ¬ D b) : Ls w' lo v R D := by
  obtain ⟨M, h1, h2, h3, h4, h5⟩ := h
  refine ⟨M, h1, own_ke h2 hk (fun g hg e => hP g e (h4 g hg)), fun j bt S hj hS => ?_, h4, fun y hy => ⟨(h5 y hy).1, Nat.lt_of_lt_of_le (h5 y hy).2 hk.size⟩⟩
  obtain ⟨B, a1, a2, a3⟩ := h3 j bt S hj hS
  exact ⟨B, a1.ke hk (fun b hb e => hP b hb (a2 b e)), a2, a3⟩
theorem Ls.to {w w' : World} {lo : Nat} {v : Value} {R : List Sx} {D : Nat → Prop} (h : Ls w lo v R D) (hb : Below w.heap.size w w') : Ls w' lo v R D := h.ke (P := fun _ => False) (Ke.of hb) (fun _ e => e.elim)
theorem Ls.at {w : World} {lo : Nat} {v : Value} {R : List Sx} {D : Nat → Prop} (h : Ls w lo v R D) {j : Nat} (hj : j < R.length) : ∃ g cap bt B, v = .slice (some ⟨g, 0, none⟩) R.length cap ∧ Hs w lo bt B (R.getD j []) ∧ (∀ y, B y → D y) ∧ D g ∧ w.cell? ⟨g, j, none⟩ = some (.slice (some ⟨bt, 0, none⟩) 32 32) := by
  obtain ⟨M, h1, h2, h3, h4, h5⟩ := h
  obtain ⟨g, cap, hv, hB, hlt⟩ := h2.form (by omega)
  have hjM : j < M.length := by omega
  have hM := List.getElem?_eq_getElem hjM
  have hR := List.getElem?_eq_getElem hj
  obtain ⟨B, a1, a2, _⟩ := h3 j _ _ hM hR
  subst hv
  refine ⟨g, cap, M[j], B, rfl, by rw [List.getD_eq_getElem?_getD, hR]; exact a1, a2, h4 g rfl, ?_⟩
  rw [h2.cellAt j (by omega), List.getElem?_map, hM]
  rfl
theorem Ls.form {w : World} {lo : Nat} {v : Value} {R : List Sx} {D : Nat → Prop} (h : Ls w lo v R D) : ∃ a c, v = .slice a R.length c := by
  obtain ⟨M, h1, h2, _⟩ := h
  exact L2.own_slice h2

end Go.Proofs.YtppanogpeengnaaDoor

namespace Go.Proofs.YtppanogpeengnaaDoor
open Go.RowKit L3

/-- a set: the list of lists in block bt; of each kind the block of its tables (q: its room) and these -/
structure Su (w : World) (lo bt : Nat) (q : Nat → Nat) (K : List (Nat × List Tb)) : Prop where
  blo : lo ≤ bt
  blt : bt < w.heap.size
  bth : ∀ j, w.frozen? ⟨bt, j, none⟩ = false
  hd : ∀ (k : Nat) (p : Nat × List Tb), K[k]? = some p → w.cell? ⟨bt, k, none⟩ = some (.slice (some ⟨p.1, 0, none⟩) p.2.length (q k))
  lie : ∀ p ∈ K, lo ≤ p.1 ∧ p.1 < w.heap.size ∧ p.1 ≠ bt
  inj : ∀ (j k : Nat) (p q : Nat × List Tb), K[j]? = some p → K[k]? = some q → p.1 = q.1 → j = k
  th : ∀ p ∈ K, ∀ j, w.frozen? ⟨p.1, j, none⟩ = false
  c0 : ∀ p ∈ K, ∀ (c : Nat) (t : Tb), p.2[c]? = some t → w.cell? ⟨p.1, c * 2, none⟩ = some (.slice t.a t.C.length t.c)
  c1 : ∀ p ∈ K, ∀ (c : Nat) (t : Tb), p.2[c]? = some t → w.cell? ⟨p.1, c * 2 + 1, none⟩ = some (.int .i64 t.n)
  sl : ∀ p ∈ K, ∀ t ∈ p.2, Sl w .u16 t.a t.C
  ap : ∀ p ∈ K, ∀ t ∈ p.2, ∀ b o, t.a = some ⟨b, o, none⟩ → t.C ≠ [] → b ≠ bt ∧ ∀ q ∈ K, b ≠ q.1
theorem Su.of {w : World} {lo bt : Nat} {K : List (Nat × List Tb)} (h : St w lo bt K) : Su w lo bt (fun k => (K.getD k (0, [])).2.length) K :=
  ⟨h.blo, h.blt, h.bth, fun k p hp => by rw [List.getD_eq_getElem?_getD, hp]; exact h.hd k p hp, h.lie, h.inj, h.th, h.c0, h.c1, h.sl, h.ap⟩
theorem Su.low {w : World} {lo bt : Nat} {q : Nat → Nat} {K : List (Nat × List Tb)} (h : Su w lo bt q K) {b : Nat} (hb : Bs bt K b) : b < w.heap.size := by
  rcases hb with rfl | ⟨p, hp, rfl | ⟨t, ht, hC, o, ha⟩⟩
  · exact h.blt
  · exact (h.lie p hp).2.1
  · rcases h.sl p hp t ht with e | ⟨b', o', h1, h2, _⟩
    · exact absurd e hC
    · rw [ha] at h1; simp only [Option.some.injEq, Addr.mk.injEq, and_true] at h1; omega
/-- a set stays where other blocks turn -/
theorem Su.ke {P : Nat → Prop} {w w' : World} {lo bt : Nat} {q : Nat → Nat} {K : List (Nat × List Tb)} (h : Su w lo bt q K) (hk : Ke P w w') (hP : ∀ b, P b → ¬ Bs bt K b) : Su w' lo bt q K := by
  have n0 : ¬ P bt := fun e => hP bt e (Or.inl rfl)
  have n1 : ∀ p ∈ K, ¬ P p.1 := fun p hp e => hP p.1 e (Or.inr ⟨p, hp, Or.inl rfl⟩)
  have n2 : ∀ p ∈ K, ∀ t ∈ p.2, ∀ b o, t.a = some ⟨b, o, none⟩ → t.C ≠ [] → ¬ P b := fun p hp t ht b o h1 h2 e => hP b e (Or.inr ⟨p, hp, Or.inr ⟨t, ht, h2, o, h1⟩⟩)
  exact ⟨h.blo, Nat.lt_of_lt_of_le h.blt hk.size, fun j => by rw [hk.frozen _ _ h.blt n0]; exact h.bth j, fun k p hp => by rw [hk.cell _ _ h.blt n0]; exact h.hd k p hp,
    fun p hp => ⟨(h.lie p hp).1, Nat.lt_of_lt_of_le (h.lie p hp).2.1 hk.size, (h.lie p hp).2.2⟩, h.inj, fun p hp j => by rw [hk.frozen _ _ (h.lie p hp).2.1 (n1 p hp)]; exact h.th p hp j,
    fun p hp c t ht => by rw [hk.cell _ _ (h.lie p hp).2.1 (n1 p hp)]; exact h.c0 p hp c t ht, fun p hp c t ht => by rw [hk.cell _ _ (h.lie p hp).2.1 (n1 p hp)]; exact h.c1 p hp c t ht, fun p hp t ht => hk.sl (h.sl p hp t ht) (n2 p hp t ht), h.ap⟩

theorem Su.to {w w' : World} {lo bt : Nat} {q : Nat → Nat} {K : List (Nat × List Tb)} (h : Su w lo bt q K) (hb : Below w.heap.size w w') : Su w' lo bt q K := h.ke (P := fun _ => False) (Ke.of hb) (fun _ e => e.elim)
theorem Su.weak {w : World} {lo lo' bt : Nat} {q : Nat → Nat} {K : List (Nat × List Tb)} (h : Su w lo bt q K) (hl : lo' ≤ lo) : Su w lo' bt q K :=
  ⟨Nat.le_trans hl h.blo, h.blt, h.bth, h.hd, fun p hp => ⟨Nat.le_trans hl (h.lie p hp).1, (h.lie p hp).2⟩, h.inj, h.th, h.c0, h.c1, h.sl, h.ap⟩
/-- a table is laid into the set -/
theorem Su.put {w : World} {lo bt : Nat} {q : Nat → Nat} {K : List (Nat × List Tb)} (h : Su w lo bt q K) {k c : Nat} {p : Nat × List Tb} (hk : K[k]? = some p) (hc : c < p.2.length) (t : Tb) (hs : Sl w .u16 t.a t.C) (hp : ∀ b o, t.a = some ⟨b, o, none⟩ → t.C ≠ [] → b ≠ bt ∧ ∀ q ∈ K, b ≠ q.1) :
    Su ((w.setCell ⟨p.1, c * 2, none⟩ (.slice t.a t.C.length t.c)).setCell ⟨p.1, c * 2 + 1, none⟩ (.int .i64 t.n)) lo bt q (K.set k (p.1, p.2.set c t)) := by
  have hpK : p ∈ K := List.mem_of_getElem? hk
  have hlt : k < K.length := (List.getElem?_eq_some_iff.1 hk).1
  have hne := (h.lie p hpK).2.2
  have oth : ∀ (y : Nat) (j : Nat), y ≠ p.1 → ((w.setCell ⟨p.1, c * 2, none⟩ (.slice t.a t.C.length t.c)).setCell ⟨p.1, c * 2 + 1, none⟩ (.int .i64 t.n)).cell? ⟨y, j, none⟩ = w.cell? ⟨y, j, none⟩ := fun y j hy => by
    rw [World.cell?_setCell_other _ _ _ _ (fun e => hy (by simp only [Addr.mk.injEq] at e; exact e.1.symm)), World.cell?_setCell_other _ _ _ _ (fun e => hy (by simp only [Addr.mk.injEq] at e; exact e.1.symm))]
  have oth2 : ∀ j, j ≠ c * 2 → j ≠ c * 2 + 1 → ((w.setCell ⟨p.1, c * 2, none⟩ (.slice t.a t.C.length t.c)).setCell ⟨p.1, c * 2 + 1, none⟩ (.int .i64 t.n)).cell? ⟨p.1, j, none⟩ = w.cell? ⟨p.1, j, none⟩ := fun j h1 h2 => by
    rw [World.cell?_setCell_other _ _ _ _ (fun e => h2 (by simp only [Addr.mk.injEq, true_and, and_true] at e; exact e.symm)), World.cell?_setCell_other _ _ _ _ (fun e => h1 (by simp only [Addr.mk.injEq, true_and, and_true] at e; exact e.symm))]
  obtain ⟨t0, ht0⟩ : ∃ t0, p.2[c]? = some t0 := ⟨p.2[c], List.getElem?_eq_getElem hc⟩
  have e0 : ((w.setCell ⟨p.1, c * 2, none⟩ (.slice t.a t.C.length t.c)).setCell ⟨p.1, c * 2 + 1, none⟩ (.int .i64 t.n)).cell? ⟨p.1, c * 2, none⟩ = some (.slice t.a t.C.length t.c) := by
    rw [World.cell?_setCell_other _ _ _ _ (by simp), World.cell?_setCell_same _ _ _ (h.c0 p hpK c t0 ht0)]
  have e1 : ((w.setCell ⟨p.1, c * 2, none⟩ (.slice t.a t.C.length t.c)).setCell ⟨p.1, c * 2 + 1, none⟩ (.int .i64 t.n)).cell? ⟨p.1, c * 2 + 1, none⟩ = some (.int .i64 t.n) := by
    rw [World.cell?_setCell_same _ _ _ (by rw [World.cell?_setCell_other _ _ _ _ (by simp)]; exact h.c1 p hpK c t0 ht0)]
  have hsz : ((w.setCell ⟨p.1, c * 2, none⟩ (.slice t.a t.C.length t.c)).setCell ⟨p.1, c * 2 + 1, none⟩ (.int .i64 t.n)).heap.size = w.heap.size := by rw [setCell_size, setCell_size]
  have hfz : ∀ a, ((w.setCell ⟨p.1, c * 2, none⟩ (.slice t.a t.C.length t.c)).setCell ⟨p.1, c * 2 + 1, none⟩ (.int .i64 t.n)).frozen? a = w.frozen? a := fun a => by simp
  have hsl : ∀ (a : Option Addr) (C : List Nat), Sl w .u16 a C → (∀ b o, a = some ⟨b, o, none⟩ → C ≠ [] → b ≠ p.1) → Sl ((w.setCell ⟨p.1, c * 2, none⟩ (.slice t.a t.C.length t.c)).setCell ⟨p.1, c * 2 + 1, none⟩ (.int .i64 t.n)) .u16 a C := fun a C h1 h2 => sl_far (sl_far h1 h2) h2
  have hget : ∀ (j : Nat) (q : Nat × List Tb), (K.set k (p.1, p.2.set c t))[j]? = some q → (j = k ∧ q = (p.1, p.2.set c t)) ∨ (j ≠ k ∧ K[j]? = some q) := fun j q hq => by
    rw [List.getElem?_set] at hq
    by_cases e : k = j
    · subst e; rw [if_pos rfl, if_pos hlt] at hq; simp at hq; exact Or.inl ⟨rfl, hq.symm⟩
    · rw [if_neg e] at hq; exact Or.inr ⟨fun e' => e e'.symm, hq⟩
  generalize ((w.setCell ⟨p.1, c * 2, none⟩ (.slice t.a t.C.length t.c)).setCell ⟨p.1, c * 2 + 1, none⟩ (.int .i64 t.n)) = V at *
  -- a member of the new list: its block is a block of the old one
  have hmem : ∀ r ∈ K.set k (p.1, p.2.set c t), ∃ q ∈ K, r.1 = q.1 ∧ (r = q ∨ r = (p.1, p.2.set c t)) := fun r hr => by
    rcases St.mem_set hk hr with e | e
    · exact ⟨p, hpK, by rw [e], Or.inr e⟩
    · exact ⟨r, e, rfl, Or.inl rfl⟩
  have hset : ∀ (j : Nat) (s : Tb), (p.2.set c t)[j]? = some s → (j = c ∧ s = t) ∨ (j ≠ c ∧ p.2[j]? = some s) := fun j s hs => by
    rw [List.getElem?_set] at hs
    by_cases e : c = j
    · subst e; rw [if_pos rfl, if_pos hc] at hs; simp at hs; exact Or.inl ⟨rfl, hs.symm⟩
    · rw [if_neg e] at hs; exact Or.inr ⟨fun e' => e e'.symm, hs⟩
  have hcell : ∀ r ∈ K.set k (p.1, p.2.set c t), ∀ (j : Nat) (s : Tb), r.2[j]? = some s → V.cell? ⟨r.1, j * 2, none⟩ = some (.slice s.a s.C.length s.c) ∧ V.cell? ⟨r.1, j * 2 + 1, none⟩ = some (.int .i64 s.n) := fun r hr j s hs => by
    obtain ⟨m, hm⟩ := List.getElem?_of_mem hr
    rcases hget m r hm with ⟨_, e⟩ | ⟨e, hm2⟩
    · subst e
      rcases hset j s hs with ⟨rfl, rfl⟩ | ⟨e2, hs2⟩
      · exact ⟨e0, e1⟩
      · exact ⟨by rw [oth2 _ (by omega) (by omega)]; exact h.c0 p hpK j s hs2, by rw [oth2 _ (by omega) (by omega)]; exact h.c1 p hpK j s hs2⟩
    · have hrK : r ∈ K := List.mem_of_getElem? hm2
      have hr1 : r.1 ≠ p.1 := fun e3 => e (h.inj m k r p hm2 hk e3)
      exact ⟨by rw [oth _ _ hr1]; exact h.c0 r hrK j s hs, by rw [oth _ _ hr1]; exact h.c1 r hrK j s hs⟩
  have hmt : ∀ r ∈ K.set k (p.1, p.2.set c t), ∀ s ∈ r.2, s = t ∨ ∃ q ∈ K, s ∈ q.2 := fun r hr s hs => by
    rcases St.mem_set hk hr with e | e
    · subst e
      rcases List.mem_or_eq_of_mem_set hs with e2 | e2
      · exact Or.inr ⟨p, hpK, e2⟩
      · exact Or.inl e2
    · exact Or.inr ⟨r, e, hs⟩
  have hapn : ∀ s : Tb, (s = t ∨ ∃ q ∈ K, s ∈ q.2) → ∀ b o, s.a = some ⟨b, o, none⟩ → s.C ≠ [] → b ≠ bt ∧ ∀ q ∈ K, b ≠ q.1 := fun s hs b o h1 h2 => by
    rcases hs with rfl | ⟨q, hq, hs⟩
    · exact hp b o h1 h2
    · exact h.ap q hq s hs b o h1 h2
  refine ⟨h.blo, by rw [hsz]; exact h.blt, fun j => by rw [hfz]; exact h.bth j, fun j q hq => ?_, fun r hr => ?_, fun i j q r hq hr e => ?_, fun r hr j => ?_, fun r hr j s hs => (hcell r hr j s hs).1, fun r hr j s hs => (hcell r hr j s hs).2, fun r hr s hs => ?_, fun r hr s hs b o h1 h2 => ?_⟩
  · rw [oth _ _ (Ne.symm hne)]
    rcases hget j q hq with ⟨rfl, rfl⟩ | ⟨_, hq2⟩
    · simp only [List.length_set]; exact h.hd j p hk
    · exact h.hd j q hq2
  · obtain ⟨q, hq, e, _⟩ := hmem r hr
    rw [e, hsz]; exact h.lie q hq
  · rcases hget i q hq with ⟨rfl, rfl⟩ | ⟨e1, hq2⟩ <;> rcases hget j r hr with ⟨rfl, rfl⟩ | ⟨e2, hr2⟩
    · rfl
    · exact h.inj _ _ _ _ hk hr2 e
    · exact h.inj _ _ _ _ hq2 hk e
    · exact h.inj _ _ _ _ hq2 hr2 e
  · obtain ⟨q, hq, e, _⟩ := hmem r hr
    rw [hfz, e]; exact h.th q hq j
  · have hs' := hmt r hr s hs
    refine hsl _ _ ?_ (fun b o h1 h2 => (hapn s hs' b o h1 h2).2 p hpK)
    rcases hs' with rfl | ⟨q, hq, hsq⟩
    · exact hs
    · exact h.sl q hq s hsq
  · have := hapn s (hmt r hr s hs) b o h1 h2
    exact ⟨this.1, fun q hq => by obtain ⟨q', hq', e, _⟩ := hmem q hq; rw [e]; exact this.2 q' hq'⟩


/-- a set by its numbers -/
structure Hu (w : World) (lo bt : Nat) (B : Nat → Prop) (S : Sx) : Prop where
  ex : ∃ q L, Su w lo bt q L ∧ Okk L ∧ Dk lo L ∧ ab L = S ∧ B = Bs bt L
theorem Hu.of {w : World} {lo bt : Nat} {B : Nat → Prop} {S : Sx} (h : Hs w lo bt B S) : Hu w lo bt B S := by
  obtain ⟨L, h1, h2, h3, h4, h5⟩ := h; exact ⟨_, L, Su.of h1, h2, h3, h4, h5⟩
theorem Hu.ok {w : World} {lo bt : Nat} {B : Nat → Prop} {S : Sx} (h : Hu w lo bt B S) : OkS S := by obtain ⟨_, L, _, h, _, rfl, _⟩ := h; exact ab_okk h
theorem Hu.lt {w : World} {lo bt : Nat} {B : Nat → Prop} {S : Sx} (h : Hu w lo bt B S) {y : Nat} (hy : B y) : y < w.heap.size := by obtain ⟨_, L, h, _, _, _, rfl⟩ := h; exact h.low hy
theorem Hu.ge {w : World} {lo bt : Nat} {B : Nat → Prop} {S : Sx} (h : Hu w lo bt B S) {y : Nat} (hy : B y) : lo ≤ y := by
  obtain ⟨_, L, h, _, hd, _, rfl⟩ := h
  rcases hy with rfl | ⟨p, hp, e | ⟨t, ht, h1, o, h2⟩⟩
  · exact h.blo
  · rw [e]; exact (h.lie p hp).1
  · exact (hd p hp).2 t ht _ o h2 h1
theorem Hu.ke {P : Nat → Prop} {w w' : World} {lo bt : Nat} {B : Nat → Prop} {S : Sx} (h : Hu w lo bt B S) (hk : Ke P w w') (hP : ∀ b, P b → ¬ B b) : Hu w' lo bt B S := by
  obtain ⟨q, L, h1, h2, h3, h4, rfl⟩ := h; exact ⟨q, L, h1.ke hk hP, h2, h3, h4, rfl⟩
theorem Hu.to {w w' : World} {lo bt : Nat} {B : Nat → Prop} {S : Sx} (h : Hu w lo bt B S) (hb : Below w.heap.size w w') : Hu w' lo bt B S := h.ke (P := fun _ => False) (Ke.of hb) (fun _ e => e.elim)
theorem Hu.weak {w : World} {lo lo' bt : Nat} {B : Nat → Prop} {S : Sx} (h : Hu w lo bt B S) (hl : lo' ≤ lo) : Hu w lo' bt B S := by
  obtain ⟨q, L, h1, h2, h3, h4, rfl⟩ := h; exact ⟨q, L, h1.weak hl, h2, h3.weak hl, h4, rfl⟩

end Go.Proofs.YtppanogpeengnaaDoor

namespace Go.Proofs.YtppanogpeengnaaDoor
open Go.RowKit L3

theorem fd_found {C : List Nat} {n : Int} (ht : TOk C n) {c g v v0 : Nat} (hv : v0 < C.length) (hm : L2.dMay c g (eb C v0) (ee C v0)) (hf : L3.Fd C (L2.dVal c g) v) : v = v0 := fd_one ht hf ⟨hv, hm.1, hm.2.1⟩

/-! ### append of a set -/
theorem grown_ke {a b c : World} {r : Option Nat} (h : Below a.heap.size a b) (k : b.grownBy c r) : Ke (fun y => r = some y) a c :=
  ⟨k.os.trans h.os, k.tape.trans h.tape, k.output.trans h.output, Nat.le_trans h.size k.size, fun i hi hne => by
    rw [k.block i (Nat.lt_of_lt_of_le hi h.size) (fun e => hne e.symm)]; exact h.block i hi⟩
theorem sv_one (M : List Nat) : ∀ u ∈ M.map sv, u.oneCell' = true := by
  intro u hu
  obtain ⟨z, _, rfl⟩ := List.mem_map.1 hu
  rfl

end Go.Proofs.YtppanogpeengnaaDoor

namespace Go.Proofs.YtppanogpeengnaaDoor
open Go.RowKit L3

theorem upd_true (S : Sx) (kk c v : Nat) : upd S true kk c v = S.set kk ((S.getD kk []).set c (L3.ad (tb S kk c).1 (tb S kk c).2 v, adN (tb S kk c).2)) := rfl

end Go.Proofs.YtppanogpeengnaaDoor
