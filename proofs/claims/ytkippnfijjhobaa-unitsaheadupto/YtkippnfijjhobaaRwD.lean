/- DERIVED. The bytes of bits, as the document's own writer gathers them, and its Bytes. -/
import Derived.Test.YtkippnfijjhobaaRwC
namespace Go.Proofs.Ytkippnfijjhobaa
open Go.RowKit

/-- the number of n bits of a list from a place on; behind the end there are noughts -/
def nb (l : List Nat) (p : Nat) : Nat → Nat
  | 0 => 0
  | n + 1 => 2 * nb l p n + l.getD (p + n) 0
theorem nb_add (l : List Nat) (p a b : Nat) : nb l p (a + b) = nb l p a * 2 ^ b + nb l (p + a) b := by
  induction b with
  | zero => simp [nb]
  | succ b ih =>
    rw [← Nat.add_assoc, nb, ih, nb, Nat.pow_succ, Nat.add_assoc p a b, Nat.mul_add, ← Nat.mul_assoc, Nat.mul_comm 2 (nb l p a), Nat.mul_assoc, Nat.mul_comm 2 (2 ^ b)]
    omega
theorem nb_lt {l : List Nat} (h : ∀ i, l.getD i 0 < 2) (p n : Nat) : nb l p n < 2 ^ n := by
  induction n with
  | zero => simp [nb]
  | succ n ih => have := h (p + n); rw [nb, Nat.pow_succ]; omega
theorem nb_end (l : List Nat) (p : Nat) (hp : l.length ≤ p) : ∀ n, nb l p n = 0 := by
  intro n
  induction n with
  | zero => rfl
  | succ n ih => rw [nb, ih, List.getD_eq_getElem?_getD, List.getElem?_eq_none (by omega)]; rfl
theorem vb_nb (l : List Nat) : ∀ n, n ≤ l.length → vb (l.take n) = nb l 0 n := by
  intro n
  induction n with
  | zero => intro _; simp [vb, nb]
  | succ n ih =>
    intro h
    rw [List.take_succ_eq_append_getElem (show n < l.length by omega), vb_snoc, ih (by omega), nb, Nat.zero_add, List.getD_eq_getElem?_getD, List.getElem?_eq_getElem (show n < l.length by omega)]
    rfl
/-- the bytes of bits, the last one filled with noughts: j of them -/
def gatTo (l : List Nat) (j : Nat) : List Nat := (List.range j).map fun i => nb l (8 * i) 8
def gat (l : List Nat) : List Nat := gatTo l ((l.length + 7) / 8)
theorem gatTo_succ (l : List Nat) (j : Nat) : gatTo l (j + 1) = gatTo l j ++ [nb l (8 * j) 8] := by simp [gatTo, List.range_succ]
theorem gatTo_length (l : List Nat) (j : Nat) : (gatTo l j).length = j := by simp [gatTo]
theorem gatTo_get (l : List Nat) (j i : Nat) (h : i < j) : (gatTo l j).getD i 0 = nb l (8 * i) 8 := by
  simp [gatTo, List.getD_eq_getElem?_getD, h]
theorem acc_gat (l : List Nat) (m : Nat) : ∀ j, j ≤ m → acc (gatTo l m) 0 j = nb l 0 (8 * j) := by
  intro j
  induction j with
  | zero => intro _; rfl
  | succ j ih =>
    intro h
    rw [acc, ih (by omega), Nat.zero_add, gatTo_get l m j (by omega), show 8 * (j + 1) = 8 * j + 8 from by omega, nb_add, Nat.zero_add]
theorem Wb.gat {l : List Nat} {t V : Nat} (h : Wb l t V) : Wv (gat l) t V := by
  have hl := h.len
  have hlen : (Go.Proofs.Ytkippnfijjhobaa.gat l).length = (l.length + 7) / 8 := gatTo_length _ _
  have hv : nb l 0 t = V := by rw [← h.val, ← vb_nb l t (by omega), List.take_of_length_le (by omega)]
  refine ⟨fun i => ?_, by rw [hlen, hl], ?_, by rw [← hv]; exact nb_lt h.bit 0 t⟩
  · rcases Nat.lt_or_ge i ((l.length + 7) / 8) with hi | hi
    · unfold Go.Proofs.Ytkippnfijjhobaa.gat
      rw [gatTo_get l _ i hi]
      exact nb_lt h.bit _ 8
    · rw [List.getD_eq_getElem?_getD, List.getElem?_eq_none (by rw [hlen]; exact hi)]; simp
  · rw [hlen]
    unfold Go.Proofs.Ytkippnfijjhobaa.gat
    rw [acc_gat l _ _ (Nat.le_refl _)]
    have e := nb_add l 0 t (8 * ((l.length + 7) / 8) - t)
    rw [show t + (8 * ((l.length + 7) / 8) - t) = 8 * ((l.length + 7) / 8) from by omega, Nat.zero_add, nb_end l t (by omega), Nat.add_zero, hv] at e
    exact e

theorem int_eq {k : IntKind} {a b : Int} (h : a = b) : Value.int k a = .int k b := by rw [h]

/-- ints that can be read: none, or cells behind a plain address -/
def IntsAt (w : World) (v : Value) (l : List Nat) : Prop :=
  (l = [] ∧ ∃ a c, v = .slice a 0 c) ∨ ∃ g off c, v = .slice (some ⟨g, off, none⟩) l.length c ∧ g < w.heap.size ∧ ∀ j, j < l.length → w.cell? ⟨g, off + j, none⟩ = some (.int .i64 (l.getD j 0 : Nat))

def GaInv (w : World) (l : List Nat) (ov iv : Value) (wr : World) : Prop :=
  ∃ j : Nat, iv = .int .i64 ((8 * j : Nat) : Int) ∧ j ≤ (l.length + 7) / 8 ∧ Below w.heap.size w wr ∧ wr.ownsRow w.heap.size 5 1 ov j (bs (gatTo l j))

set_option maxHeartbeats 4000000 in
set_option maxRecDepth 100000 in
theorem gather_any (w : World) (l : List Nat) (a : Option Addr) (c : Nat) (h : IntsAt w (.slice a l.length c) l) (hb : ∀ i, l.getD i 0 < 2) (hl : l.length ≤ 17592186044416) :
    Calls Try.prog 43 #[.slice a l.length c] w fun e w' => ∃ a' c', e = .returned (.slice a' (gat l).length c') ∧ w'.ownsRow w.heap.size 5 1 (.slice a' (gat l).length c') (gat l).length (bs (gat l)) ∧ Below w.heap.size w w' := by
  obtain ⟨i, hi, hz0, hz1, hz2⟩ := info_parts Try.info5
  have HI : Hid (IntsAt w (.slice a l.length c) l) := h
  have HBt : Hid (∀ i, l.getD i 0 < 2) := hb
  clear h hb
  go_enter Try.func43, Try.ntmps43
  go_wp2_with fail
  go_loopw [3, 4] (fun ov iv wr => GaInv w l ov iv wr) (fun _ iv _ => l.length + 8 - (intOf iv).toNat)
  case atStart => exact ⟨0, rfl, by omega, Below.refl _ _, World.ownsRow_nil _ _ _ _⟩
  case round =>
    obtain ⟨j, rfl, hj, hbW, hown⟩ := hrel
    have HB : Hid (Below w.heap.size w wr) := hbW
    have hBs : w.heap.size ≤ wr.heap.size := hbW.size
    clear hbW
    obtain ⟨a3, c3, rfl⟩ := own_slice hown
    by_cases hlt : 8 * j < l.length
    · obtain ⟨g, off, rfl, hg, hcl⟩ : ∃ g off, a = some ⟨g, off, none⟩ ∧ g < w.heap.size ∧ ∀ k, k < l.length → w.cell? ⟨g, off + k, none⟩ = some (.int .i64 (l.getD k 0 : Nat)) := by
        rcases HI.out with ⟨rfl, _⟩ | ⟨g, off, c', hv, hg, hc⟩
        · simp at hlt
        · simp only [Value.slice.injEq] at hv
          exact ⟨g, off, hv.1, hg, hc⟩
      have HCL : Hid (∀ k, k < l.length → wr.cell? ⟨g, off + k, none⟩ = some (.int .i64 (l.getD k 0 : Nat))) := fun k hk => by rw [HB.out.cell (p := ⟨g, off + k, none⟩) hg]; exact hcl k hk
      clear hcl
      go_wp2_with fail
      obtain ⟨wo, hwo⟩ : ∃ wo : World, wo = wr := ⟨_, rfl⟩
      subst hwo
      go_loop [5, 6] (fun nv kv => ∃ k : Nat, kv = .int .i64 k ∧ k ≤ 8 ∧ nv = .int .i64 (nb l (8 * j) k : Nat)) (fun _ kv => 8 - (intOf kv).toNat)
      case atStart => exact ⟨0, rfl, by omega, rfl⟩
      case round =>
        obtain ⟨k, rfl, hk, rfl⟩ := hrel
        have hn := nb_lt HBt.out (8 * j) k
        have hn8 : nb l (8 * j) k < 2 ^ 8 := Nat.lt_of_lt_of_le hn (Nat.pow_le_pow_right (by omega) hk)
        have hn256 : nb l (8 * j) k < 256 := hn8
        have hstep : nb l (8 * j) (k + 1) = 2 * nb l (8 * j) k + l.getD (8 * j + k) 0 := rfl
        have HS : Hid (nb l (8 * j) (k + 1) = 2 * nb l (8 * j) k + l.getD (8 * j + k) 0) := hstep
        clear hn hn8 hstep
        by_cases hk8 : k < 8
        · by_cases hin : 8 * j + k < l.length
          · have hc1 := HCL.out (8 * j + k) hin
            have hb1 := HBt.out (8 * j + k)
            generalize l.getD (8 * j + k) 0 = bt at *
            have hinI : (8 : Int) * (j : Int) + (k : Int) < (l.length : Int) := by omega
            go_wp2_with fail
            go_round
            case rel => exact ⟨k + 1, by go_num, by omega, int_eq (by rw [HS.out]; omega)⟩
            case measure => simp [intOf]; omega
          · have h0 : l.getD (8 * j + k) 0 = 0 := by rw [List.getD_eq_getElem?_getD, List.getElem?_eq_none (by omega)]; rfl
            have hs0 := HS.out
            rw [h0] at hs0
            have HS0 : Hid _ := hs0
            clear h0 hs0
            have hinI : ¬ ((8 : Int) * (j : Int) + (k : Int) < (l.length : Int)) := by omega
            go_wp2_with fail
            go_round
            case rel => exact ⟨k + 1, by go_num, by omega, int_eq (by rw [HS0.out]; omega)⟩
            case measure => simp [intOf]; omega
        · obtain rfl : k = 8 := by omega
          have hgs := gatTo_succ l j
          have HGS : Hid _ := hgs
          clear hgs
          generalize nb l (8 * j) 8 = bt at *
          have hownA : (wo.alloc (.cells #[.int .u8 (bt : Nat)] 5)).ownsRow w.heap.size 5 1 (.slice a3 j c3) j (bs (gatTo l j)) := hown.alloc _
          have hnews : ∀ q u, (bs [bt])[q]? = some u → (wo.alloc (.cells #[.int .u8 (bt : Nat)] 5)).cell? ((⟨wo.heap.size, 0, none⟩ : Addr).add q) = some u := World.news_of_block (cs := #[.int .u8 (bt : Nat)]) (heap_alloc_new wo _)
          go_wp2_with (at_builtin; refine wpList_append_lies _ (by rfl) _ _ _ (by rfl) w.heap.size 5 i (.int .u8 0) 1 1 Try.underlying22 hi hz0 hz1 hz2 rfl (by omega) _ j (bs (gatTo l j)) (by rfl) hownA ⟨wo.heap.size, 0, none⟩ 1 1 (bs [bt]) (by rfl) (by rfl) hnews (bs_one _) (by omega) (by unfold maxLen; omega) (by omega) (by simp; omega) (wo.heap.size + 1) (by simp) ?_; intro g' cap w1 hown1 hgrow hat hlt1)
          refine ⟨⟨j + 1, by simp; omega, by omega, (HB.out.alloc hBs _).grown hgrow (by simp; omega) (fun q hq => (hown.lt q hq).1), ?_⟩, by simp [intOf]; omega⟩
          rw [HGS.out, bs_append]
          exact hown1
    · have hje : j = (l.length + 7) / 8 := by omega
      have hgl : (gat l).length = j := by rw [hje]; exact gatTo_length _ _
      have hgj : gat l = gatTo l j := by rw [hje]; rfl
      have HGL : Hid ((gat l).length = j) := hgl
      have HGJ : Hid (gat l = gatTo l j) := hgj
      clear hgl hgj hje
      go_wp2_with fail
      go_ret
      refine ⟨a3, c3, by rw [HGL.out]; rfl, ?_, HB.out⟩
      rw [HGL.out, HGJ.out]
      exact hown

theorem IntsAt.ofOwn {w : World} {B n : Nat} {v : Value} {l : List Nat} (hn : n = l.length) (h : w.ownsRow B 3 1 v n (iz l)) : IntsAt w v l := by
  subst hn
  have hlt := h.lt
  have h0 := h
  obtain ⟨h1, h2⟩ := h
  rcases h2 with ⟨rfl, hz⟩ | ⟨g, cap, cur, rfl, hB, hg, hn, hm, hs, ht⟩
  · exact Or.inl ⟨List.eq_nil_of_length_eq_zero hz, _, _, rfl⟩
  · refine Or.inr ⟨g, 0, cap, rfl, (hlt g rfl).2, fun j hj => ?_⟩
    rw [Nat.zero_add, h0.cellAt j (by omega)]
    exact iz_get l j hj

theorem Wf.carry {w w' : World} {B x : Nat} {d : Value} {l : List Nat} {t V : Nat} (h : Wf w B x d l t V) (hx : w'.heap[x]? = w.heap[x]?) (hg : ∀ g, d.ownBlock = some g → w'.heap[g]? = w.heap[g]?) (hs : w.heap.size ≤ w'.heap.size) : Wf w' B x d l t V := by
  have ec : ∀ o, w'.cell? ⟨x, o, none⟩ = w.cell? ⟨x, o, none⟩ := fun o => World.cell?_of_block (w := w) hx
  have ef : ∀ o, w'.frozen? ⟨x, o, none⟩ = w.frozen? ⟨x, o, none⟩ := fun o => World.frozen?_of_block (w := w) hx
  refine ⟨by rw [ec]; exact h.data, ?_, h.apart, by rw [ef]; exact h.thaw, ⟨h.low.1, Nat.lt_of_lt_of_le h.low.2 hs⟩, h.wb⟩
  refine ⟨h.own.1, ?_⟩
  rcases h.own.2 with h1 | ⟨g, cap, cur, h1, h2, h3, h4⟩
  · exact Or.inl h1
  · exact Or.inr ⟨g, cap, cur, h1, h2, by rw [hg g (by rw [h1]; rfl)]; exact h3, h4⟩
theorem Wf.below {w w' : World} {B x : Nat} {d : Value} {l : List Nat} {t V : Nat} (h : Wf w B x d l t V) (hb : Below w.heap.size w w') : Wf w' B x d l t V :=
  h.carry (hb.block x h.low.2) (fun g hg => hb.block g (h.own.lt g hg).2) hb.size
theorem Wf.kwBelow {a b : World} {B x : Nat} {d d' : Value} {l : List Nat} {t V : Nat} (h : Wf a B x d l t V) (hk : Kw x d d' a b) : Below B a b :=
  ⟨hk.os, hk.tape, hk.output, hk.size, fun k hkB => hk.block k (by have := h.low; omega) (by have := h.low; omega) (fun e => by have := (h.own.lt k e).1; omega)⟩

set_option maxHeartbeats 400000 in
theorem bytes_wf {w : World} {B x : Nat} {d : Value} {l : List Nat} {t V : Nat} (h : Wf w B x d l t V) (ht : t ≤ 17592186044416) :
    Calls Try.prog 31 #[.pointer (some ⟨x, 0, none⟩)] w fun e w' => ∃ a c, e = .returned (.slice a (gat l).length c) ∧ w'.ownsRow w.heap.size 5 1 (.slice a (gat l).length c) (gat l).length (bs (gat l)) ∧ Below w.heap.size w w' := by
  obtain ⟨a, c, rfl⟩ := own_slice h.own
  have hd := h.data
  have hl := h.wb.len
  have HL : Hid (l.length = t) := hl
  clear hl
  go_enter Try.func31, Try.ntmps31
  go_wp2_with fail
  refine (gather_any _ l a c (IntsAt.ofOwn rfl h.own) h.wb.bit (by have := HL.out; omega)).mono ?_; rintro e w1 ⟨a1, c1, rfl, ho1, hb1⟩
  go_wp2_with fail
  go_ret
  exact ⟨a1, c1, rfl, ho1, hb1⟩

end Go.Proofs.Ytkippnfijjhobaa
