/- DERIVED. A list of tables in memory; the walks of middle and Average. -/
import Derived.Test.YtppanogpeengnabGreatDoorL3Tf
namespace Go.Proofs.YtppanogpeengnabGreatDoor.L3
open Go.RowKit

/-- a table as a value -/
structure Tb where
  a : Option Addr
  c : Nat
  C : List Nat
  n : Int
/-- a table's numbers lie in memory -/
structure Tb.In (w : World) (t : Tb) : Prop where
  sl : Sl w .u16 t.a t.C
  len : t.C.length ≤ 70368744177664
  u16 : ∀ i, t.C.getD i 0 < 65536
theorem Tb.In.to {w w' : World} {t : Tb} (h : t.In w) (hb : Below w.heap.size w w') : t.In w' := ⟨h.sl.to hb, h.len, h.u16⟩
/-- tables that lie in a row, from cell o of block b -/
structure Ts (w : World) (b o : Nat) (L : List Tb) : Prop where
  low : b < w.heap.size
  cell0 : ∀ j t, L[j]? = some t → w.cell? ⟨b, o + j * 2, none⟩ = some (.slice t.a t.C.length t.c)
  cell1 : ∀ j t, L[j]? = some t → w.cell? ⟨b, o + j * 2 + 1, none⟩ = some (.int .i64 t.n)
  ins : ∀ t, t ∈ L → t.In w
theorem Ts.to {w w' : World} {b o : Nat} {L : List Tb} (h : Ts w b o L) (hb : Below w.heap.size w w') : Ts w' b o L :=
  ⟨Nat.lt_of_lt_of_le h.low hb.size, fun j t ht => by rw [newCell hb _ _ h.low]; exact h.cell0 j t ht, fun j t ht => by rw [newCell hb _ _ h.low]; exact h.cell1 j t ht, fun t ht => (h.ins t ht).to hb⟩

def smK (L : List Tb) (i k : Nat) : Nat := sm ((L.take k).map Tb.C) i
theorem smK_zero (L : List Tb) (i : Nat) : smK L i 0 = 0 := by simp [smK, sm]
theorem smK_succ (L : List Tb) (i k : Nat) (t : Tb) (h : L[k]? = some t) : smK L i (k + 1) = smK L i k + t.C.getD i 0 := by
  unfold smK
  rw [List.take_add_one, h]
  simp [sm_append, sm_cons, sm_nil]
theorem smK_all (L : List Tb) (i : Nat) : smK L i L.length = sm (L.map Tb.C) i := by simp [smK]
theorem smK_le (L : List Tb) (i : Nat) (h : ∀ t ∈ L, t.C.getD i 0 < 65536) : ∀ k, k ≤ L.length → smK L i k ≤ k * 65535
  | 0, _ => by rw [smK_zero]; exact Nat.zero_le _
  | k + 1, hk => by
    have := smK_le L i h k (by omega)
    rw [smK_succ L i k L[k] (List.getElem?_eq_getElem (by omega))]
    have := h L[k] (List.getElem_mem _)
    omega

set_option maxRecDepth 100000 in
set_option maxHeartbeats 1000000 in
theorem middle_any {w : World} {b o c : Nat} {L : List Tb} {i : Nat} (h : Ts w b o L) (h0 : 0 < L.length) (hl : L.length ≤ 4398046511104) (hi : ∀ t ∈ L, i < t.C.length) :
    Calls Tryz.prog 78 #[.int .i64 i, .slice (some ⟨b, o, none⟩) L.length c] w fun e w' => e = .returned (.int .u16 (avE (L.map Tb.C) i : Nat)) ∧ Below w.heap.size w w' := by
  have HT : Hid (Ts w b o L) := h
  have HI : Hid (∀ t ∈ L, i < t.C.length) := hi
  have HLE : Hid (∀ k, k ≤ L.length → smK L i k ≤ k * 65535) := smK_le L i (fun t ht => (h.ins t ht).u16 i)
  clear h hi
  go_enter Tryz.func78, Tryz.ntmps78
  go_wp2_with fail
  go_loopw [6, 16] (fun sv iv wr => ∃ k : Nat, k ≤ L.length ∧ iv = .int .i64 k ∧ sv = .int .u64 ((L.length / 2 + smK L i k : Nat) : Int) ∧ Below w.heap.size w wr) (fun _ iv _ => L.length - (intOf iv).toNat)
  case atStart => exact ⟨0, by omega, rfl, by rw [smK_zero]; simp, Below.refl _ _⟩
  case round =>
    obtain ⟨k, hk, rfl, rfl, hb⟩ := hrel
    have hle := HLE.out k hk
    by_cases hlt : k < L.length
    · have hget := List.getElem?_eq_getElem hlt
      have HSU := smK_succ L i k L[k] hget
      have hin := (HT.out.ins L[k] (List.getElem_mem _))
      have hc := HI.out L[k] (List.getElem_mem _)
      have hc0 := HT.out.cell0 k _ hget
      have hc1 := HT.out.cell1 k _ hget
      generalize L[k] = t at *
      obtain ⟨ta, tc, tC, tn⟩ := t
      simp only at *
      obtain ⟨b', o', rfl, hbl, hcell⟩ := hin.sl.form (Nat.lt_of_le_of_lt (Nat.zero_le _) hc)
      have r0 : wr.cell? ⟨b, o + k * 2, none⟩ = some (.slice (some ⟨b', o', none⟩) tC.length tc) := by rw [newCell hb _ _ HT.out.low]; exact hc0
      have r1 : wr.cell? ⟨b, o + k * 2 + 1, none⟩ = some (.int .i64 tn) := by rw [newCell hb _ _ HT.out.low]; exact hc1
      have r2 : wr.cell? ⟨b', o' + i, none⟩ = some (.int .u16 (tC.getD i 0 : Nat)) := by rw [newCell hb _ _ hbl]; exact hcell i hc
      have hu := hin.u16 i
      generalize tC.getD i 0 = x at *
      have hs := hb.size
      have b0 : 0 ≤ (k : Int) := by omega
      have b1 : (k : Int) < (L.length : Int) := by omega
      have b2 : 0 ≤ (i : Int) := by omega
      have b3 : (i : Int) < (tC.length : Int) := by omega
      have hl1 : b' < wr.heap.size := by omega
      have hl2 : b' ≠ wr.heap.size := by omega
      have hl3 : wr.heap.size ≠ b' := by omega
      have HB : Hid (Below w.heap.size w wr) := hb
      have HSU' : Hid _ := HSU
      clear hb HSU hin hc0 hc1 hcell hget
      go_wp2
      go_roundw
      case rel => exact ⟨k + 1, by omega, by go_num, by rw [HSU'.out]; congr 1; omega, below_alloc HB.out (Nat.le_refl _) _⟩
      case measure => simp [intOf]; omega
    · have hk' : k = L.length := by omega
      subst hk'
      have b1 : (0 : Int) < (L.length : Int) := by omega
      have HA : Hid (avE (L.map Tb.C) i = (L.length / 2 + smK L i L.length) / L.length) := by unfold avE Hid; rw [smK_all]; simp
      have HA2 : Hid (avE (L.map Tb.C) i ≤ 65535) := avE_le (by simpa using h0) (fun C hC => by
        obtain ⟨t, ht, rfl⟩ := List.mem_map.1 hC
        have := (HT.out.ins t ht).u16 i
        omega)
      have HB : Hid (Below w.heap.size w wr) := hb
      clear hb
      go_wp2
      go_ret
      refine ⟨ret_int ?_, HB.out⟩
      have a1 := HA.out
      have a2 := HA2.out
      rw [IntKind.wrap_u16]
      have e : ((L.length : Int) / 2 + (smK L i L.length : Int)) / (L.length : Int) = (((L.length / 2 + smK L i L.length) / L.length : Nat) : Int) := by
        rw [Int.natCast_ediv, Int.natCast_add, Int.natCast_ediv]; rfl
      rw [e, ← a1]
      generalize avE (L.map Tb.C) i = q at *
      omega

/-- tables that have an average -/
def AvOk (L : List Tb) (m : Nat) : Prop := ∀ t, t ∈ L → TOk t.C t.n ∧ t.C.length = m
def FiInv2 (w : World) (f : Nat → Nat) (n g : Nat) (i : Value) (wr : World) : Prop :=
  ∃ k : Nat, k ≤ n ∧ i = .int .i64 k ∧ Ow wr g g n n (part f n k) ∧ Below g w wr
def AvInv (W : World) (L : List Tb) (m : Nat) (iv : Value) (wr : World) : Prop := ∃ k : Nat, k ≤ L.length ∧ iv = .int .i64 k ∧ Below W.heap.size W wr ∧ ∀ j t, j < k → L[j]? = some t → TOk t.C t.n ∧ t.C.length = m

set_option maxRecDepth 100000 in
set_option maxHeartbeats 2000000 in
theorem average_some {w : World} {b o c : Nat} {L : List Tb} {t0 : Tb} (h : Ts w b o L) (h0 : L[0]? = some t0) (hl : L.length ≤ 4398046511104) :
    Calls Tryz.prog 53 #[.slice (some ⟨b, o, none⟩) L.length c] w fun e w' => (AvOk L t0.C.length ∧ Tn w w' e (av t0.C.length (L.map Tb.C)) 0) ∨ (¬ AvOk L t0.C.length ∧ e = .returned (.tuple #[.agg #[.slice none 0 0, .int .i64 0], .int .i64 2]) ∧ Below w.heap.size w w') := by
  obtain ⟨i, hi, hz0, hz1, hz2⟩ := info_parts Tryz.info82
  have hL0 : 0 < L.length := by
    rcases Nat.eq_zero_or_pos L.length with e | e
    · rw [List.getElem?_eq_none (by omega)] at h0; cases h0
    · exact e
  have HT : Hid (Ts w b o L) := h
  have H0 : Hid (L[0]? = some t0) := h0
  have hm0 : t0 ∈ L := List.mem_of_getElem? h0
  have hc0 : (w.alloc (.cells #[.slice none 0 0, .int .i64 0] 59)).cell? ⟨b, o, none⟩ = some (.slice t0.a t0.C.length t0.c) := by
    rw [World.cell?_alloc_lt _ _ _ h.low]; have := h.cell0 0 t0 h0; simpa using this
  have hbW : Below w.heap.size w (w.alloc (.cells #[.slice none 0 0, .int .i64 0] 59)) := (Below.refl _ _).alloc (Nat.le_refl _) _
  have HBW : Hid _ := hbW
  have hn0 : ((L.length : Int) == 0) = false := by rw [beq_eq_false_iff_ne]; omega
  have b00 : (0 : Int) < (L.length : Int) := by omega
  have hlen0 := (h.ins t0 hm0).len
  obtain ⟨ta0, tc0, C0, n0⟩ := t0
  simp only at *
  clear h h0 hbW
  go_enter Tryz.func53, Tryz.ntmps53
  go_wp2_with fail
  have z0 : (w.alloc (.cells #[.slice none 0 0, .int .i64 0] 59)).cell? ⟨w.heap.size, 0, none⟩ = some (.slice none 0 0) := by simp
  have z1 : (w.alloc (.cells #[.slice none 0 0, .int .i64 0] 59)).cell? ⟨w.heap.size, 1, none⟩ = some (.int .i64 0) := by simp
  have z2 : (w.alloc (.cells #[.slice none 0 0, .int .i64 0] 59)).frozen? ⟨w.heap.size, 0, none⟩ = false := by simp
  have z3 : (w.alloc (.cells #[.slice none 0 0, .int .i64 0] 59)).frozen? ⟨w.heap.size, 1, none⟩ = false := by simp
  have hWs : (w.alloc (.cells #[.slice none 0 0, .int .i64 0] 59)).heap.size = w.heap.size + 1 := by simp
  have HWs : Hid _ := hWs
  clear hc0 hWs
  generalize w.alloc (.cells #[.slice none 0 0, .int .i64 0] 59) = W at *
  go_loopw [20] (fun iv wr => AvInv W L C0.length iv wr) (fun iv _ => L.length - (intOf iv).toNat)
  case atStart => exact ⟨0, by omega, rfl, Below.refl _ _, fun j t hj => by omega⟩
  case round =>
    obtain ⟨k, hk, rfl, hb, hall⟩ := hrel
    have HA : Hid _ := hall
    have d0 : wr.cell? ⟨w.heap.size, 0, none⟩ = some (.slice none 0 0) := by rw [newCell hb _ _ (by rw [HWs.out]; omega)]; exact z0
    have d1 : wr.cell? ⟨w.heap.size, 1, none⟩ = some (.int .i64 0) := by rw [newCell hb _ _ (by rw [HWs.out]; omega)]; exact z1
    have f0 : wr.frozen? ⟨w.heap.size, 0, none⟩ = false := by rw [newFrozen hb _ _ (by rw [HWs.out]; omega)]; exact z2
    have f1 : wr.frozen? ⟨w.heap.size, 1, none⟩ = false := by rw [newFrozen hb _ _ (by rw [HWs.out]; omega)]; exact z3
    clear hall
    by_cases hlt : k < L.length
    · have hget := List.getElem?_eq_getElem hlt
      have hin := (HT.out.ins L[k] (List.getElem_mem _))
      have hc0 := HT.out.cell0 k _ hget
      have hc1 := HT.out.cell1 k _ hget
      have HG : Hid (L[k]? = some L[k]) := hget
      have hmem : Hid (L[k] ∈ L) := List.getElem_mem _
      generalize L[k] = t at *
      obtain ⟨ta, tc, tC, tn⟩ := t
      have hsl : Sl w .u16 ta tC := hin.sl
      have hlen : tC.length ≤ 70368744177664 := hin.len
      simp only at *
      have r0 : wr.cell? ⟨b, o + k * 2, none⟩ = some (.slice ta tC.length tc) := by rw [newCell hb _ _ (Nat.lt_of_lt_of_le HT.out.low HBW.out.size), newCell HBW.out _ _ HT.out.low]; exact hc0
      have r1 : wr.cell? ⟨b, o + k * 2 + 1, none⟩ = some (.int .i64 tn) := by rw [newCell hb _ _ (Nat.lt_of_lt_of_le HT.out.low HBW.out.size), newCell HBW.out _ _ HT.out.low]; exact hc1
      have b0 : 0 ≤ (k : Int) := by omega
      have b1 : (k : Int) < (L.length : Int) := by omega
      have HB : Hid (Below W.heap.size W wr) := hb
      have HSL : Hid (Sl wr .u16 ta tC) := (hsl.to HBW.out).to hb
      have hs := hb.size
      clear hb hin hc0 hc1 hget hsl
      by_cases hok : TOk tC tn
      · have HK : Hid (ck tC tn = 0) := ck_ok hok
        have HOK : Hid (TOk tC tn) := hok
        clear hok
        by_cases hln : tC.length = C0.length
        · have hln' : ((tC.length : Int) != (C0.length : Int)) = false := by simp [hln]
          have HLN : Hid (tC.length = C0.length) := hln
          clear hln
          go_wp2_with fail
          refine (check_any (HSL.out.alloc _) (by omega)).mono ?_
          rintro e w1 ⟨rfl, hb1⟩
          rw [HK.out]
          have q0 : w1.cell? ⟨wr.heap.size, 0, none⟩ = some (.slice ta tC.length tc) := by rw [newCell hb1 _ _ (by simp)]; simp
          have HB1 : Hid (Below W.heap.size W w1) := (below_alloc HB.out (Nat.le_refl _) _).trans (hb1.mono (by simp; omega))
          clear hb1
          go_wp2_with fail
          go_roundw
          case rel => exact ⟨k + 1, by omega, by go_num, HB1.out, fun j t hj ht => by
            by_cases e : j = k
            · subst e; rw [HG.out] at ht; cases ht; exact ⟨HOK.out, HLN.out⟩
            · exact HA.out j t (by omega) ht⟩
          case measure => simp [intOf]; omega
        · have hln' : ((tC.length : Int) != (C0.length : Int)) = true := by rw [bne_iff_ne]; omega
          go_wp2_with fail
          refine (check_any (HSL.out.alloc _) (by omega)).mono ?_
          rintro e w1 ⟨rfl, hb1⟩
          rw [HK.out]
          have q0 : w1.cell? ⟨wr.heap.size, 0, none⟩ = some (.slice ta tC.length tc) := by rw [newCell hb1 _ _ (by simp)]; simp
          have HB1 : Hid (Below W.heap.size W w1) := (below_alloc HB.out (Nat.le_refl _) _).trans (hb1.mono (by simp; omega))
          clear hb1
          have d0' : w1.cell? ⟨w.heap.size, 0, none⟩ = some (.slice none 0 0) := by rw [newCell HB1.out _ _ (by rw [HWs.out]; omega)]; exact z0
          have d1' : w1.cell? ⟨w.heap.size, 1, none⟩ = some (.int .i64 0) := by rw [newCell HB1.out _ _ (by rw [HWs.out]; omega)]; exact z1
          have f0' : w1.frozen? ⟨w.heap.size, 0, none⟩ = false := by rw [newFrozen HB1.out _ _ (by rw [HWs.out]; omega)]; exact z2
          have f1' : w1.frozen? ⟨w.heap.size, 1, none⟩ = false := by rw [newFrozen HB1.out _ _ (by rw [HWs.out]; omega)]; exact z3
          go_wp2_with fail
          refine bodyPost_ret (v := .tuple #[.agg #[.slice none 0 0, .int .i64 0], .int .i64 2]) (by simp [results, Tryz.results53, go_sem, d0', d1']) rfl (Or.inr ⟨fun hav => hln (hav _ hmem.out).2, rfl, ?_⟩)
          exact below_set (below_set (HBW.out.trans (HB1.out.mono (by rw [HWs.out]; omega))) (by simp) _) (by simp) _
      · have HK : Hid (ck tC tn = 2) := ck_no hok
        go_wp2_with fail
        refine (check_any (HSL.out.alloc _) (by omega)).mono ?_
        rintro e w1 ⟨rfl, hb1⟩
        rw [HK.out]
        have HB1 : Hid (Below W.heap.size W w1) := (below_alloc HB.out (Nat.le_refl _) _).trans (hb1.mono (by simp; omega))
        clear hb1
        have d0' : w1.cell? ⟨w.heap.size, 0, none⟩ = some (.slice none 0 0) := by rw [newCell HB1.out _ _ (by rw [HWs.out]; omega)]; exact z0
        have d1' : w1.cell? ⟨w.heap.size, 1, none⟩ = some (.int .i64 0) := by rw [newCell HB1.out _ _ (by rw [HWs.out]; omega)]; exact z1
        have f0' : w1.frozen? ⟨w.heap.size, 0, none⟩ = false := by rw [newFrozen HB1.out _ _ (by rw [HWs.out]; omega)]; exact z2
        have f1' : w1.frozen? ⟨w.heap.size, 1, none⟩ = false := by rw [newFrozen HB1.out _ _ (by rw [HWs.out]; omega)]; exact z3
        go_wp2_with fail
        refine bodyPost_ret (v := .tuple #[.agg #[.slice none 0 0, .int .i64 0], .int .i64 2]) (by simp [results, Tryz.results53, go_sem, d0', d1']) rfl (Or.inr ⟨fun hav => hok (hav _ hmem.out).1, rfl, ?_⟩)
        exact below_set (below_set (HBW.out.trans (HB1.out.mono (by rw [HWs.out]; omega))) (by simp) _) (by simp) _
    · generalize wr = wo at *
      have HAV : Hid (AvOk L C0.length) := fun t ht => by
        obtain ⟨j, hj, e⟩ := List.getElem_of_mem ht
        exact HA.out j t (by omega) (by rw [List.getElem?_eq_getElem hj, e])
      have hT0 : TOk C0 n0 := (HAV.out _ hm0).1
      have hhi := hT0.hi
      have hlo := hT0.lo
      have HB : Hid (Below W.heap.size W wo) := hb
      clear hb
      go_wp2_with (at_make; refine wpList_make_full _ (by rfl) _ _ _ (by rfl) wo.heap.size 82 i (.int .u16 0) 1 Tryz.underlying57 hi hz0 hz1 .i64 .i64 _ _ C0.length (by rfl) (by rfl) rfl rfl (by rw [hz2]; omega) (by unfold maxLen; omega) (by simp) ?_; intro w1 hown hgrow)
      rw [← part_zero (avE (L.map Tb.C))] at hown
      have hB1 : Below wo.heap.size wo w1 := (Below.refl _ _).grown hgrow (Nat.le_refl _) (fun k hk => by cases hk)
      clear hgrow
      go_wp2_with fail
      go_loopw [40] (fun iv u => FiInv2 wo (avE (L.map Tb.C)) C0.length wo.heap.size iv u) (fun iv _ => C0.length - (intOf iv).toNat)
      case atStart => exact ⟨0, by omega, rfl, ⟨hown⟩, hB1⟩
      case round =>
        obtain ⟨q, hq, rfl, ho, hbq⟩ := hrel
        clear hown hB1
        by_cases hqt : q < C0.length
        · have HO : Hid _ := ho
          have HBQ : Hid _ := hbq
          have HPT : Hid _ := part_set (avE (L.map Tb.C)) C0.length q hqt
          clear ho hbq
          have b0 : 0 ≤ (q : Int) := by omega
          have b1 : (q : Int) < (C0.length : Int) := by omega
          go_wp2_with fail
          refine (middle_any (((HT.out.to HBW.out).to HB.out).to HBQ.out) hL0 hl (fun t ht => by rw [(HAV.out t ht).2]; exact hqt)).mono ?_
          rintro e w2 ⟨rfl, hb2⟩
          have HO2 : Hid (Ow w2 wo.heap.size wo.heap.size C0.length C0.length (part (avE (L.map Tb.C)) C0.length q)) := HO.out.to hb2
          have HB2 : Hid (Below wo.heap.size wo w2) := HBQ.out.trans (hb2.mono HBQ.out.size)
          have c1 := HO2.out.cell q hqt
          have c2 := HO2.out.thaw q
          clear hb2 HO HBQ
          generalize avE (L.map Tb.C) q = v at *
          go_wp2_with fail
          go_roundw
          case rel =>
            refine ⟨q + 1, by omega, by go_num, ?_, below_set HB2.out (Nat.le_refl _) _⟩
            rw [← HPT.out]
            exact HO2.out.set q v
          case measure => simp [intOf]; omega
        · have hq' : q = C0.length := by omega
          subst hq'
          have e0 : wr.cell? ⟨w.heap.size, 0, none⟩ = some (.slice none 0 0) := by rw [newCell hbq _ _ (by have := HB.out.size; rw [HWs.out] at this; omega)]; exact d0
          have e1 : wr.cell? ⟨w.heap.size, 1, none⟩ = some (.int .i64 0) := by rw [newCell hbq _ _ (by have := HB.out.size; rw [HWs.out] at this; omega)]; exact d1
          have g0 : wr.frozen? ⟨w.heap.size, 0, none⟩ = false := by rw [newFrozen hbq _ _ (by have := HB.out.size; rw [HWs.out] at this; omega)]; exact f0
          have g1 : wr.frozen? ⟨w.heap.size, 1, none⟩ = false := by rw [newFrozen hbq _ _ (by have := HB.out.size; rw [HWs.out] at this; omega)]; exact f1
          have HO : Hid _ := ho
          have HBQ : Hid _ := hbq
          clear ho hbq d0 d1 f0 f1
          go_wp2_with fail
          refine bodyPost_ret (v := .tuple #[.agg #[.slice (some ⟨wo.heap.size, 0, none⟩) C0.length C0.length, .int .i64 0], .int .i64 0]) (by simp [results, Tryz.results53, go_sem, e0, e1]) rfl (Or.inl ⟨HAV.out, wo.heap.size, C0.length, by rw [av_len], ?_, ?_⟩)
          · rw [av_len]
            have hsz := HB.out.size
            rw [HWs.out] at hsz
            have hav : part (avE (L.map Tb.C)) C0.length C0.length = av C0.length (L.map Tb.C) := list_eq_of_getD (by rw [part_len, av_len]) (fun j hj => by
              rw [part_len] at hj
              rw [part_get _ _ _ _ hj, if_pos hj, av_get _ _ _ hj])
            have hoo := HO.out
            rw [hav] at hoo
            exact ((hoo.far (by simp; omega) _).far (by simp; omega) _).mono (by omega)
          · have h1 := HBW.out.size
            have h2 := HB.out.size
            exact below_set (below_set ((HBW.out.trans (HB.out.mono h1)).trans (HBQ.out.mono (by omega))) (by simp) _) (by simp) _

set_option maxHeartbeats 1000000 in
theorem average_none {w : World} {a : Option Addr} {c : Nat} :
    Calls Tryz.prog 53 #[.slice a 0 c] w fun e w' => e = .returned (.tuple #[.agg #[.slice none 0 0, .int .i64 0], .int .i64 2]) ∧ Below w.heap.size w w' := by
  go_enter Tryz.func53, Tryz.ntmps53
  go_wp2_with fail
  exact bodyPost_ret (v := .tuple #[.agg #[.slice none 0 0, .int .i64 0], .int .i64 2]) (by simp [results, Tryz.results53, go_sem]) rfl ⟨rfl, by go_grown⟩

end Go.Proofs.YtppanogpeengnabGreatDoor.L3
