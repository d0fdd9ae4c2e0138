/- DERIVED. The walks of the document's Steep, and of both where n may not be. -/
import Derived.Test.YtpijgdfhkmailaaMd
namespace Go.Proofs.Ytpijgdfhkmailaa
open Go.RowKit

set_option maxHeartbeats 400000 in
theorem rflat_no {w : World} {n : Int} (h : n < 2 ∨ 16 < n) :
    Calls Try.prog 11 #[.int .i64 n] w fun e w' => e = .returned (.tuple #[.agg #[.slice none 0 0, .int .i64 0], .int .i64 2]) ∧ Below w.heap.size w w' := by
  rcases h with h | h
  · go_enter Try.func11, Try.ntmps11
    go_wp2_with fail
    exact bodyPost_ret (v := .tuple #[.agg #[.slice none 0 0, .int .i64 0], .int .i64 2]) (by simp [results, Try.results11, go_sem]) rfl ⟨rfl, by go_grown⟩
  · have h' : ¬ n < 2 := by omega
    go_enter Try.func11, Try.ntmps11
    go_wp2_with fail
    exact bodyPost_ret (v := .tuple #[.agg #[.slice none 0 0, .int .i64 0], .int .i64 2]) (by simp [results, Try.results11, go_sem]) rfl ⟨rfl, by go_grown⟩

set_option maxHeartbeats 400000 in
theorem rsteep_no {w : World} {n : Int} (h : n < 2 ∨ 16 < n) :
    Calls Try.prog 13 #[.int .i64 n] w fun e w' => e = .returned (.tuple #[.agg #[.slice none 0 0, .int .i64 0], .int .i64 2]) ∧ Below w.heap.size w w' := by
  rcases h with h | h
  · go_enter Try.func13, Try.ntmps13
    go_wp2_with fail
    exact bodyPost_ret (v := .tuple #[.agg #[.slice none 0 0, .int .i64 0], .int .i64 2]) (by simp [results, Try.results13, go_sem]) rfl ⟨rfl, by go_grown⟩
  · have h' : ¬ n < 2 := by omega
    go_enter Try.func13, Try.ntmps13
    go_wp2_with fail
    exact bodyPost_ret (v := .tuple #[.agg #[.slice none 0 0, .int .i64 0], .int .i64 2]) (by simp [results, Try.results13, go_sem]) rfl ⟨rfl, by go_grown⟩

/-- another block behind an append -/
theorem Gw.afar {W wr w' : World} {B X c : Nat} {C : List Nat} {n : Int} {a : Option Addr} (h : Gw W B X C n a c wr) (hg : wr.grownBy w' (Value.slice a C.length c).ownBlock) (k j : Nat) (hk : k < B) (hX : k ≠ X) :
    w'.cell? ⟨k, j, none⟩ = W.cell? ⟨k, j, none⟩ ∧ w'.frozen? ⟨k, j, none⟩ = W.frozen? ⟨k, j, none⟩ := by
  have hsB := h.sB
  have hblk : w'.heap[k]? = wr.heap[k]? := hg.block k (by omega) (fun e => by have := (h.own.lt k e.symm).1; omega)
  exact ⟨(World.cell?_of_block (w := wr) (a := ⟨k, j, none⟩) hblk).trans (h.cell k j hk hX), (World.frozen?_of_block (w := wr) (a := ⟨k, j, none⟩) hblk).trans (h.frozen k j hk hX)⟩
/-- half of it, again and again -/
def hv (k : Nat) : Nat := 32768 / 2 ^ k
theorem hv_succ (k : Nat) : hv (k + 1) = hv k / 2 := by unfold hv; rw [Nat.pow_succ, Nat.div_div_eq_div_mul]
theorem hv_le (k : Nat) : hv k ≤ 32768 := Nat.div_le_self _ _
theorem hv_st {n k : Nat} (h : k + 1 < n) : 32768 - (hv k : Int) / 2 = ((st n k : Nat) : Int) := by
  have h1 := hv_le (k + 1)
  have h2 := hv_succ k
  have h3 : st n k = 32768 - hv (k + 1) := by unfold st hv; rw [if_neg (by omega)]
  rw [h3]
  generalize hv (k + 1) = q at *
  omega
theorem stC_take {n k : Nat} (h : k < n) : (stC n).take k ++ [st n k] = (stC n).take (k + 1) := by
  rw [List.take_add_one, List.getElem?_eq_getElem (by rw [stC_len]; exact h)]
  have := stC_get n k h
  rw [getD_lt _ (by rw [stC_len]; exact h)] at this
  rw [this]; rfl

set_option maxRecDepth 100000 in
set_option maxHeartbeats 1000000 in
theorem rsteep_ok {w : World} {n : Nat} (h0 : 2 ≤ n) (h1 : n ≤ 16) :
    Calls Try.prog 13 #[.int .i64 n] w fun e w' => Tn w w' e (stC n) 0 := by
  have i0 : ¬ (n : Int) < 2 := by omega
  have i1 : ¬ (16 : Int) < (n : Int) := by omega
  have hg0 : Gw ((w.alloc (.cells #[.slice none 0 0, .int .i64 0] 24)).alloc (.cells #[.slice none 0 0, .int .i64 0] 24)) (w.heap.size + 2) (w.heap.size + 1) [] 0 none 0 ((w.alloc (.cells #[.slice none 0 0, .int .i64 0] 24)).alloc (.cells #[.slice none 0 0, .int .i64 0] 24)) := by
    have := Gw.start (W := ((w.alloc (.cells #[.slice none 0 0, .int .i64 0] 24)).alloc (.cells #[.slice none 0 0, .int .i64 0] 24))) (X := w.heap.size + 1) (n := 0) (by simp) (by simp) (by simp) (by simp)
    rw [show ((w.alloc (.cells #[.slice none 0 0, .int .i64 0] 24)).alloc (.cells #[.slice none 0 0, .int .i64 0] 24)).heap.size = w.heap.size + 2 from by simp] at this
    exact this
  have HG0 : Hid _ := hg0
  have z : ((w.alloc (.cells #[.slice none 0 0, .int .i64 0] 24)).alloc (.cells #[.slice none 0 0, .int .i64 0] 24)).cell? ⟨w.heap.size, 0, none⟩ = some (.slice none 0 0) ∧ ((w.alloc (.cells #[.slice none 0 0, .int .i64 0] 24)).alloc (.cells #[.slice none 0 0, .int .i64 0] 24)).cell? ⟨w.heap.size, 1, none⟩ = some (.int .i64 0) ∧ ((w.alloc (.cells #[.slice none 0 0, .int .i64 0] 24)).alloc (.cells #[.slice none 0 0, .int .i64 0] 24)).frozen? ⟨w.heap.size, 0, none⟩ = false ∧ ((w.alloc (.cells #[.slice none 0 0, .int .i64 0] 24)).alloc (.cells #[.slice none 0 0, .int .i64 0] 24)).frozen? ⟨w.heap.size, 1, none⟩ = false := by
    have hb := from_alloc (w.alloc (.cells #[.slice none 0 0, .int .i64 0] 24)) (.cells #[.slice none 0 0, .int .i64 0] 24)
    rw [newCell hb _ _ (by simp), newCell hb _ _ (by simp), newFrozen hb _ _ (by simp), newFrozen hb _ _ (by simp)]
    simp
  have HZ : Hid _ := z
  have HBW : Hid (Below w.heap.size w ((w.alloc (.cells #[.slice none 0 0, .int .i64 0] 24)).alloc (.cells #[.slice none 0 0, .int .i64 0] 24))) := to_alloc (from_alloc _ _) _
  clear hg0 z
  go_enter Try.func13, Try.ntmps13
  go_wp2_with fail
  generalize ((w.alloc (.cells #[.slice none 0 0, .int .i64 0] 24)).alloc (.cells #[.slice none 0 0, .int .i64 0] 24)) = W at *
  go_loopw [5, 6] (fun hvv iv wr => ∃ (k : Nat) (a : Option Addr) (c : Nat), k + 1 ≤ n ∧ iv = .int .i64 k ∧ hvv = .int .i64 (hv k : Nat) ∧ Gw W (w.heap.size + 2) (w.heap.size + 1) ((stC n).take k) 0 a c wr) (fun _ iv _ => n - (intOf iv).toNat)
  case atStart => exact ⟨0, none, 0, by omega, rfl, rfl, by simpa using HG0.out⟩
  case round =>
    obtain ⟨k, a, c, hk, rfl, rfl, hgw⟩ := hrel
    clear HG0
    have hlen : ((stC n).take k).length = k := by rw [List.length_take, stC_len]; omega
    have c0 := hgw.c0
    have c1 := hgw.c1
    have f0 := hgw.f0
    rw [hlen] at c0
    have hsB := hgw.sB
    have hXl : w.heap.size + 1 < wr.heap.size := by omega
    have HGW : Hid (Gw W (w.heap.size + 2) (w.heap.size + 1) ((stC n).take k) 0 a c wr) := hgw
    have HLEN : Hid (((stC n).take k).length = k) := hlen
    have HTK : Hid ((stC n).take k ++ [st n k] = (stC n).take (k + 1)) := stC_take (by omega)
    have hhv := hv_le k
    have HHV : Hid _ := hv_succ k
    clear hgw hlen
    by_cases hlt : k + 1 < n
    · have b1 : (k : Int) < (n : Int) - 1 := by omega
      have HV : Hid _ := hv_st hlt
      generalize hv k = h at *
      have hh : (h : Int) ≤ 32768 := by omega
      clear hhv
      go_wp2_with (at_builtin; refine wpList_append_num _ (by rfl) _ _ (by rfl) (w.heap.size + 2) k ((stC n).take k) (.slice a k c) _ (st n k) (by exact HV.out) HLEN.out (by have := HGW.out.own; rw [HLEN.out] at this; exact this) hsB (by omega) (by rfl) (by rfl) ?_; intro g cap w' how' hgr' hat'; have haf := HGW.out.after (by rw [HLEN.out]; exact hgr'); rw [HLEN.out] at haf; have e0 := haf.1; have e1 := haf.2.1; have e2 := haf.2.2)
      have hst := HGW.out.step (y := st n k) (by rw [HLEN.out]; exact how') (by rw [HLEN.out]; exact hgr')
      rw [HTK.out, HLEN.out] at hst
      go_roundw
      case rel => exact ⟨k + 1, _, cap, by omega, by go_num, by rw [HHV.out]; rfl, hst⟩
      case measure => simp [intOf]; omega
    · have b1 : ¬ (k : Int) < (n : Int) - 1 := by omega
      have HK : Hid (k + 1 = n) := (by omega : k + 1 = n)
      have HV : Hid (st n k = 32768) := st_last (by omega)
      clear hhv
      go_wp2_with (at_builtin; refine wpList_append_num _ (by rfl) _ _ (by rfl) (w.heap.size + 2) k ((stC n).take k) (.slice a k c) 32768 (st n k) (by rw [HV.out]; rfl) HLEN.out (by have := HGW.out.own; rw [HLEN.out] at this; exact this) hsB (by omega) (by rfl) (by rfl) ?_; intro g cap w' how' hgr' hat'; have haf := HGW.out.after (by rw [HLEN.out]; exact hgr'); rw [HLEN.out] at haf; have e0 := haf.1; have e1 := haf.2.1; have e2 := haf.2.2; have k0 := HGW.out.afar (by rw [HLEN.out]; exact hgr') w.heap.size 0 (by omega) (by omega); have k1 := HGW.out.afar (by rw [HLEN.out]; exact hgr') w.heap.size 1 (by omega) (by omega); have d0 := k0.1.trans HZ.out.1; have d1 := k1.1.trans HZ.out.2.1; have g0 := k0.2.trans HZ.out.2.2.1; have g1 := k1.2.trans HZ.out.2.2.2; clear k0 k1 haf)
      have hst := HGW.out.step (y := st n k) (by rw [HLEN.out]; exact how') (by rw [HLEN.out]; exact hgr')
      rw [HTK.out, HLEN.out, List.take_of_length_le (by rw [stC_len, HK.out]; exact Nat.le_refl _)] at hst
      have hgl := how'.lies.1
      have hsl : Ow _ (w.heap.size + 2) g n cap (stC n) := ⟨by have := hst.own; rw [stC_len] at this; exact this⟩
      have hbe := hst.below HBW.out (by omega)
      refine bodyPost_ret (v := .tuple #[.agg #[.slice (some ⟨g, 0, none⟩) (k + 1) cap, .int .i64 0], .int .i64 0]) (by simp [results, Try.results13, go_sem, d0, d1]) rfl ⟨_, cap, by rw [stC_len, HK.out], ?_, ?_⟩
      · rw [stC_len]
        exact ((hsl.far (by simp; omega) _).far (by simp; omega) _).mono (Nat.le_add_right _ 2)
      · exact below_set (below_set hbe (by simp) _) (by simp) _

end Go.Proofs.Ytpijgdfhkmailaa
