/- DERIVED. The walks of filled and Default. -/
import Derived.Test.YtppanogpeengnabGreatDoorSc
namespace Go.Proofs.YtppanogpeengnabGreatDoor
open Go.RowKit L3

theorem Tryz.inf60 : (Tryz.prog.info? 60).map (fun i => (i.zero, i.size, i.bytes)) = some (some (.slice none 0 0), 1, 24) := by kernel_rfl
theorem Tryz.inf63 : (Tryz.prog.info? 59).map (fun i => (i.zero, i.size, i.bytes)) = some (some (.agg #[.slice none 0 0, .int .i64 0]), 2, 32) := by kernel_rfl

set_option maxRecDepth 100000 in
set_option maxHeartbeats 1000000 in
theorem begin_any {w : World} {k : Nat} {c : Int} (h : Sh w) (hk : k < 32) : Calls Tryz.prog 30 #[.int .i64 k, .int .i64 c] w fun e w' => T1 w w' e (dfC k) 0 := by
  have HSH : Hid (Sh (w.alloc (.cells #[.slice none 0 0, .int .i64 0] 59))) := h.to (from_alloc _ _)
  have HBW : Hid (Below w.heap.size w (w.alloc (.cells #[.slice none 0 0, .int .i64 0] 59))) := from_alloc _ _
  have HZ : Hid ((w.alloc (.cells #[.slice none 0 0, .int .i64 0] 59)).cell? ⟨w.heap.size, 0, none⟩ = some (.slice none 0 0) ∧ (w.alloc (.cells #[.slice none 0 0, .int .i64 0] 59)).cell? ⟨w.heap.size, 1, none⟩ = some (.int .i64 0) ∧ (w.alloc (.cells #[.slice none 0 0, .int .i64 0] 59)).frozen? ⟨w.heap.size, 0, none⟩ = false ∧ (w.alloc (.cells #[.slice none 0 0, .int .i64 0] 59)).frozen? ⟨w.heap.size, 1, none⟩ = false) := by unfold Hid; simp
  have HWs : Hid ((w.alloc (.cells #[.slice none 0 0, .int .i64 0] 59)).heap.size = w.heap.size + 1) := by unfold Hid; simp
  have HFA : Hid (∀ u, Sh u → Calls Tryz.prog 31 #[.int .i64 k] u fun e w' => T1 u w' e (dfC k) 0) := fun u hu => first_any hu hk
  generalize dfC k = DC at *
  clear h
  go_enter Tryz.func30, Tryz.ntmps30
  go_wp2_with fail
  generalize w.alloc (.cells #[.slice none 0 0, .int .i64 0] 59) = W at *
  refine (HFA.out _ HSH.out).mono ?_
  rintro e w1 ⟨g, c', rfl, ho, hb⟩
  have HB1 : Hid (Below W.heap.size W w1) := hb
  have HO1 : Hid (Ow w1 W.heap.size g DC.length c' DC) := ho
  have d0 : w1.cell? ⟨w.heap.size, 0, none⟩ = some (.slice none 0 0) := by rw [newCell HB1.out _ _ (by rw [HWs.out]; omega)]; exact HZ.out.1
  have d1 : w1.cell? ⟨w.heap.size, 1, none⟩ = some (.int .i64 0) := by rw [newCell HB1.out _ _ (by rw [HWs.out]; omega)]; exact HZ.out.2.1
  have f0 : w1.frozen? ⟨w.heap.size, 0, none⟩ = false := by rw [newFrozen HB1.out _ _ (by rw [HWs.out]; omega)]; exact HZ.out.2.2.1
  have f1 : w1.frozen? ⟨w.heap.size, 1, none⟩ = false := by rw [newFrozen HB1.out _ _ (by rw [HWs.out]; omega)]; exact HZ.out.2.2.2
  clear ho hb
  go_wp2_with fail
  refine bodyPost_ret (v := .agg #[.slice (some ⟨g, 0, none⟩) DC.length c', .int .i64 0]) (by simp [results, Tryz.results30, go_sem, d0, d1]) rfl ⟨g, c', rfl, ?_, ?_⟩
  · have := HO1.out.lies.1
    exact ((HO1.out.far (by rw [HWs.out] at this; simp; omega) _).far (by rw [HWs.out] at this; simp; omega) _).mono (by rw [HWs.out]; omega)
  · exact below_set (below_set (HBW.out.trans (HB1.out.mono (by rw [HWs.out]; omega))) (by simp) _) (by simp) _

theorem far2 {u : World} {x y j a b : Nat} {v v1 v2 : Value} (hne : x ≠ y) (h : u.cell? ⟨x, j, none⟩ = some v) : ((u.setCell ⟨y, a, none⟩ v1).setCell ⟨y, b, none⟩ v2).cell? ⟨x, j, none⟩ = some v := by
  rw [World.cell?_setCell_other _ _ _ _ (fun e => hne (by simp only [Addr.mk.injEq] at e; exact e.1.symm)), World.cell?_setCell_other _ _ _ _ (fun e => hne (by simp only [Addr.mk.injEq] at e; exact e.1.symm))]; exact h
/-- of the blocks of w that of r alone may have turned -/
structure Kr (r : Nat) (w w' : World) : Prop where
  os : w'.os = w.os
  tape : w'.tape = w.tape
  output : w'.output = w.output
  size : w.heap.size ≤ w'.heap.size
  block : ∀ k, k < w.heap.size → k ≠ r → w'.heap[k]? = w.heap[k]?
theorem Kr.refl (r : Nat) (w : World) : Kr r w w := ⟨rfl, rfl, rfl, Nat.le_refl _, fun _ _ _ => rfl⟩
theorem Kr.to {r : Nat} {w a b : World} (h : Kr r w a) (hb : Below a.heap.size a b) : Kr r w b :=
  ⟨hb.os.trans h.os, hb.tape.trans h.tape, hb.output.trans h.output, Nat.le_trans h.size hb.size, fun k hk hr => by rw [hb.block k (Nat.lt_of_lt_of_le hk h.size)]; exact h.block k hk hr⟩
theorem Kr.set {r : Nat} {w a : World} (h : Kr r w a) (x : Addr) (v : Value) (hx : x.block = r ∨ w.heap.size ≤ x.block) : Kr r w (a.setCell x v) :=
  ⟨h.os, h.tape, h.output, by rw [setCell_size]; exact h.size, fun k hk hr => by rw [Below.heap_setCell _ _ _ _ (by rcases hx with e | e; rw [e]; exact hr; omega)]; exact h.block k hk hr⟩
theorem Kr.cell {r : Nat} {w a : World} (h : Kr r w a) (k j : Nat) (hk : k < w.heap.size) (hr : k ≠ r) : a.cell? ⟨k, j, none⟩ = w.cell? ⟨k, j, none⟩ := World.cell?_of_block (w := w) (a := ⟨k, j, none⟩) (h.block k hk hr)
theorem Kr.frozen {r : Nat} {w a : World} (h : Kr r w a) (k j : Nat) (hk : k < w.heap.size) (hr : k ≠ r) : a.frozen? ⟨k, j, none⟩ = w.frozen? ⟨k, j, none⟩ := World.frozen?_of_block (w := w) (a := ⟨k, j, none⟩) (h.block k hk hr)
theorem Kr.below {r B : Nat} {w a : World} (h : Kr r w a) (hB : B ≤ r) (hs : B ≤ w.heap.size) : Below B w a := ⟨h.os, h.tape, h.output, h.size, fun k hk => h.block k (by omega) (by omega)⟩

/-- the tables of a kind as they begin -/
def Dq (j : Nat) (p : Nat × List Tb) : Prop := p.2.length = sC j ∧ ∀ t ∈ p.2, t.C = dfC j ∧ t.n = 0
/-- blocks of tables and rows lie from B on -/
def Dk (B : Nat) (K : List (Nat × List Tb)) : Prop := ∀ p ∈ K, B ≤ p.1 ∧ ∀ t ∈ p.2, ∀ b o, t.a = some ⟨b, o, none⟩ → t.C ≠ [] → B ≤ b
theorem Dk.mono {B B' : Nat} {K : List (Nat × List Tb)} (h : Dk B K) (hb : B' ≤ B) : Dk B' K := fun p hp => ⟨Nat.le_trans hb (h p hp).1, fun t ht b o h1 h2 => Nat.le_trans hb ((h p hp).2 t ht b o h1 h2)⟩
theorem St.lower {w : World} {lo lo' bt : Nat} {K : List (Nat × List Tb)} (h : St w lo bt K) (hb : lo' ≤ lo) : St w lo' bt K := ⟨Nat.le_trans hb h.blo, h.blt, h.bth, h.tl, h.hd, fun p hp => ⟨Nat.le_trans hb (h.lie p hp).1, (h.lie p hp).2⟩, h.inj, h.th, h.c0, h.c1, h.sl, h.ap⟩
def FI (W : World) (lo bt : Nat) (iv : Value) (wr : World) : Prop :=
  ∃ (k : Nat) (K : List (Nat × List Tb)), k ≤ 32 ∧ iv = .int .i64 k ∧ K.length = k ∧ St wr lo bt K ∧ Dk W.heap.size K ∧ (∀ (j : Nat) p, K[j]? = some p → Dq j p) ∧ Kr bt W wr
def FJ (W : World) (lo bt k : Nat) (iv : Value) (wr : World) : Prop :=
  ∃ (c : Nat) (K : List (Nat × List Tb)) (p : Nat × List Tb), c ≤ sC k ∧ iv = .int .i64 c ∧ K.length = k + 1 ∧ K[k]? = some p ∧ p.2.length = sC k ∧ St wr lo bt K ∧ Dk W.heap.size K ∧ (∀ (j : Nat) q, j < k → K[j]? = some q → Dq j q) ∧ (∀ (i : Nat) t, i < c → p.2[i]? = some t → t.C = dfC k ∧ t.n = 0) ∧ Kr bt W wr

/-- the set that all begins with is answered, in new memory -/
def Dset (w w' : World) (e : Ending) : Prop := ∃ bt K, e = .returned (.agg #[.slice (some ⟨bt, 0, none⟩) 32 32]) ∧ St w' w.heap.size bt K ∧ K.length = 32 ∧ (∀ (j : Nat) p, K[j]? = some p → Dq j p) ∧ Dk w.heap.size K ∧ Below w.heap.size w w'

set_option maxRecDepth 100000 in
set_option maxHeartbeats 4000000 in
theorem filled_default {w : World} (h : Sh w) : Calls Tryz.prog 24 #[.func (.func 30) #[] #[]] w fun e w' => Dset w w' e := by
  obtain ⟨i, hi, hz0, hz1, hz2⟩ := info_parts Tryz.inf60
  obtain ⟨i3, hi3, hy0, hy1, hy2⟩ := info_parts Tryz.inf63
  have hmk : ∀ u : World, (Instr.makeSlice 27 (.int .i64 32) (.int .i64 32)).run Tryz.prog u = .ok (.slice (some ⟨u.heap.size, 0, none⟩) 32 32) (u.alloc (.cells (madeCells #[.slice none 0 0] 32) 60)) := fun u => by
    have h := run_make (P := Tryz.prog) u 27 60 i (.slice none 0 0) Tryz.underlying27 hi hz0 .i64 .i64 32 32 (by omega) (Int.le_refl _) (by rw [hz2]; omega) (by omega)
    simpa [hz1, Value.cells] using h
  have HMK : Hid (∀ (n : Nat), n ≤ 14 → ∀ u : World, (Instr.makeSlice 60 (.int .i64 n) (.int .i64 n)).run Tryz.prog u = .ok (.slice (some ⟨u.heap.size, 0, none⟩) n n) (u.alloc (.cells (madeCells #[.slice none 0 0, .int .i64 0] (n * 2)) 59))) := fun n hn u => by
    have h := run_make (P := Tryz.prog) u 60 59 i3 (.agg #[.slice none 0 0, .int .i64 0]) Tryz.underlying60 hi3 hy0 .i64 .i64 n n (by omega) (Int.le_refl _) (by rw [hy2]; omega) (by omega)
    simpa [hy1, Value.cells] using h
  have HSHw : Hid (Sh w) := h
  clear h
  go_enter Tryz.func24, Tryz.ntmps24
  go_wp2_with fail
  have HS0 : Hid (St (((w.alloc (.cells #[.slice none 0 0] 29)).alloc (.cells (madeCells #[.slice none 0 0] 32) 60)).alloc (.cells #[.slice (some ⟨w.heap.size + 1, 0, none⟩) 32 32] 29)) w.heap.size (w.heap.size + 1) []) := by
    have h1 : (w.alloc (.cells #[.slice none 0 0] 29)).heap.size = w.heap.size + 1 := by simp
    have := (St.start (w := w.alloc (.cells #[.slice none 0 0] 29)) (lo := w.heap.size) (by rw [h1]; omega)).to (from_alloc _ (.cells #[.slice (some ⟨w.heap.size + 1, 0, none⟩) 32 32] 29))
    rw [h1] at this
    exact this
  have HSH : Hid (Sh (((w.alloc (.cells #[.slice none 0 0] 29)).alloc (.cells (madeCells #[.slice none 0 0] 32) 60)).alloc (.cells #[.slice (some ⟨w.heap.size + 1, 0, none⟩) 32 32] 29))) := ((HSHw.out.to (from_alloc _ _)).to (from_alloc _ _)).to (from_alloc _ _)
  have HWs : Hid ((((w.alloc (.cells #[.slice none 0 0] 29)).alloc (.cells (madeCells #[.slice none 0 0] 32) 60)).alloc (.cells #[.slice (some ⟨w.heap.size + 1, 0, none⟩) 32 32] 29)).heap.size = w.heap.size + 3) := by unfold Hid; simp
  have HBW : Hid (Below w.heap.size w (((w.alloc (.cells #[.slice none 0 0] 29)).alloc (.cells (madeCells #[.slice none 0 0] 32) 60)).alloc (.cells #[.slice (some ⟨w.heap.size + 1, 0, none⟩) 32 32] 29))) := to_alloc (to_alloc (from_alloc _ _) _) _
  have HX3 : Hid ((((w.alloc (.cells #[.slice none 0 0] 29)).alloc (.cells (madeCells #[.slice none 0 0] 32) 60)).alloc (.cells #[.slice (some ⟨w.heap.size + 1, 0, none⟩) 32 32] 29)).cell? ⟨w.heap.size + 2, 0, none⟩ = some (.slice (some ⟨w.heap.size + 1, 0, none⟩) 32 32)) := by
    have h1 : ((w.alloc (.cells #[.slice none 0 0] 29)).alloc (.cells (madeCells #[.slice none 0 0] 32) 60)).heap.size = w.heap.size + 2 := by simp
    unfold Hid; rw [← h1, new_get]; rfl
  have HX2 : Hid ((((w.alloc (.cells #[.slice none 0 0] 29)).alloc (.cells (madeCells #[.slice none 0 0] 32) 60)).alloc (.cells #[.slice (some ⟨w.heap.size + 1, 0, none⟩) 32 32] 29)).cell? ⟨w.heap.size, 0, none⟩ = some (.slice none 0 0) ∧ (((w.alloc (.cells #[.slice none 0 0] 29)).alloc (.cells (madeCells #[.slice none 0 0] 32) 60)).alloc (.cells #[.slice (some ⟨w.heap.size + 1, 0, none⟩) 32 32] 29)).frozen? ⟨w.heap.size, 0, none⟩ = false) := by
    have h1 : w.heap.size < (w.alloc (.cells #[.slice none 0 0] 29)).heap.size := by simp
    have hb : Below (w.alloc (.cells #[.slice none 0 0] 29)).heap.size (w.alloc (.cells #[.slice none 0 0] 29)) (((w.alloc (.cells #[.slice none 0 0] 29)).alloc (.cells (madeCells #[.slice none 0 0] 32) 60)).alloc (.cells #[.slice (some ⟨w.heap.size + 1, 0, none⟩) 32 32] 29)) := to_alloc (from_alloc _ _) _
    refine ⟨?_, ?_⟩
    · rw [newCell hb _ _ h1]; simp
    · rw [newFrozen hb _ _ h1]; simp
  have HLO : Hid (0 < w.heap.size) := HSHw.out.low
  clear HSHw
  generalize (((w.alloc (.cells #[.slice none 0 0] 29)).alloc (.cells (madeCells #[.slice none 0 0] 32) 60)).alloc (.cells #[.slice (some ⟨w.heap.size + 1, 0, none⟩) 32 32] 29)) = W at *
  rw [show w.heap.size + 1 + 1 = w.heap.size + 2 from rfl]
  go_loopw [8] (fun iv wr => FI W w.heap.size (w.heap.size + 1) iv wr) (fun iv _ => 32 - (intOf iv).toNat)
  case atStart => exact ⟨0, [], by omega, rfl, rfl, HS0.out, fun p hp => by simp at hp, fun j p hp => by simp at hp, Kr.refl _ _⟩
  case round =>
    obtain ⟨k, K, hk, rfl, hKl, hst, hdk, hdq, hkr⟩ := hrel
    clear HS0
    have HST : Hid _ := hst
    have HDK : Hid (Dk W.heap.size K) := hdk
    have HDQ : Hid (∀ (j : Nat) p, K[j]? = some p → Dq j p) := hdq
    have HKR : Hid (Kr (w.heap.size + 1) W wr) := hkr
    have HKL : Hid (K.length = k) := hKl
    have hks := hkr.size
    rw [HWs.out] at hks
    have HSHr : Hid (Sh wr) := HSH.out.below (hkr.below (B := w.heap.size) (by omega) (by rw [HWs.out]; omega)) HLO.out
    have x3 : wr.cell? ⟨w.heap.size + 2, 0, none⟩ = some (.slice (some ⟨w.heap.size + 1, 0, none⟩) 32 32) := by rw [hkr.cell _ _ (by rw [HWs.out]; omega) (by omega)]; exact HX3.out
    have x2 : wr.cell? ⟨w.heap.size, 0, none⟩ = some (.slice none 0 0) := by rw [hkr.cell _ _ (by rw [HWs.out]; omega) (by omega)]; exact HX2.out.1
    have x2f : wr.frozen? ⟨w.heap.size, 0, none⟩ = false := by rw [hkr.frozen _ _ (by rw [HWs.out]; omega) (by omega)]; exact HX2.out.2
    clear hst hdk hdq hkr hKl
    by_cases hlt : k < 32
    · have b0 : 0 ≤ (k : Int) := by omega
      have b1 : (k : Int) < 32 := by omega
      have cc := HSHr.out.c k hlt
      have tlk := HST.out.tl k (by rw [HKL.out]; exact Nat.le_refl _) hlt
      have thk := HST.out.bth k
      have mk := HMK.out (sC k) (sC_le k hlt).2
      have hc14 := (sC_le k hlt).2
      have hba : Below wr.heap.size wr (wr.alloc (.cells (madeCells #[.slice none 0 0, .int .i64 0] (sC k * 2)) 59)) := from_alloc _ _
      have y3 : (wr.alloc (.cells (madeCells #[.slice none 0 0, .int .i64 0] (sC k * 2)) 59)).cell? ⟨w.heap.size + 2, 0, none⟩ = some (.slice (some ⟨w.heap.size + 1, 0, none⟩) 32 32) := by rw [newCell hba _ _ (by omega)]; exact x3
      have ycc : (wr.alloc (.cells (madeCells #[.slice none 0 0, .int .i64 0] (sC k * 2)) 59)).cell? ⟨0, k * 3, none⟩ = some (.int .i64 (sC k : Nat)) := by rw [newCell hba _ _ (by have := HLO.out; omega)]; exact cc
      have ytl : (wr.alloc (.cells (madeCells #[.slice none 0 0, .int .i64 0] (sC k * 2)) 59)).cell? ⟨w.heap.size + 1, k, none⟩ = some (.slice none 0 0) := by rw [newCell hba _ _ (by omega)]; exact tlk
      have yth : (wr.alloc (.cells (madeCells #[.slice none 0 0, .int .i64 0] (sC k * 2)) 59)).frozen? ⟨w.heap.size + 1, k, none⟩ = false := by rw [newFrozen hba _ _ (by omega)]; exact thk
      clear x2 x2f hba
      go_wp2_with fail
      go_region
      have HKR2 : Hid (Kr (w.heap.size + 1) W ((wr.alloc (.cells (madeCells #[.slice none 0 0, .int .i64 0] (sC k * 2)) 59)).setCell ⟨w.heap.size + 1, k, none⟩ (.slice (some ⟨wr.heap.size, 0, none⟩) (sC k) (sC k))).drew) := ((HKR.out.to (from_alloc wr (.cells (madeCells #[.slice none 0 0, .int .i64 0] (sC k * 2)) 59))).set ⟨w.heap.size + 1, k, none⟩ (.slice (some ⟨wr.heap.size, 0, none⟩) (sC k) (sC k)) (Or.inl rfl)).to (below_drew (Below.refl _ _))
      have HST2 : Hid (St ((wr.alloc (.cells (madeCells #[.slice none 0 0, .int .i64 0] (sC k * 2)) 59)).setCell ⟨w.heap.size + 1, k, none⟩ (.slice (some ⟨wr.heap.size, 0, none⟩) (sC k) (sC k))).drew w.heap.size (w.heap.size + 1) (K ++ [(wr.heap.size, List.replicate (sC k) zT)])) := by
        have := (HST.out.add (by omega) (by rw [HKL.out]; exact hlt) (sC k)).to (below_drew (Below.refl _ _))
        rw [HKL.out] at this
        exact this
      have HV1 : Hid (wr.heap.size < ((wr.alloc (.cells (madeCells #[.slice none 0 0, .int .i64 0] (sC k * 2)) 59)).setCell ⟨w.heap.size + 1, k, none⟩ (.slice (some ⟨wr.heap.size, 0, none⟩) (sC k) (sC k))).drew.heap.size) := by
        unfold Hid
        have : ((wr.alloc (.cells (madeCells #[.slice none 0 0, .int .i64 0] (sC k * 2)) 59)).setCell ⟨w.heap.size + 1, k, none⟩ (.slice (some ⟨wr.heap.size, 0, none⟩) (sC k) (sC k))).drew.heap.size = wr.heap.size + 1 := by
          show ((wr.alloc (.cells (madeCells #[.slice none 0 0, .int .i64 0] (sC k * 2)) 59)).setCell _ _).heap.size = _
          rw [setCell_size]; simp
        rw [this]; exact Nat.lt_succ_self _
      have HWR : Hid (W.heap.size ≤ wr.heap.size) := HKR.out.size
      clear HKR HST HSHr x3 cc tlk thk mk y3 ycc ytl yth
      generalize ((wr.alloc (.cells (madeCells #[.slice none 0 0, .int .i64 0] (sC k * 2)) 59)).setCell ⟨w.heap.size + 1, k, none⟩ (.slice (some ⟨wr.heap.size, 0, none⟩) (sC k) (sC k))).drew = V at *
      have HSHV : Hid (Sh V) := HSH.out.below (HKR2.out.below (B := w.heap.size) (by omega) (by rw [HWs.out]; omega)) HLO.out
      have cc := HSHV.out.c k hlt
      go_wp2_with fail
      go_loopw [24] (fun iv wr => FJ W w.heap.size (w.heap.size + 1) k iv wr) (fun iv _ => sC k - (intOf iv).toNat)
      case atStart =>
        refine ⟨0, _, (wr.heap.size, List.replicate (sC k) zT), by omega, rfl, by rw [List.length_append, HKL.out]; rfl, by rw [List.getElem?_append_right (by rw [HKL.out]; exact Nat.le_refl _), HKL.out]; simp, by simp, HST2.out, fun p hp => ?_, fun j q hj hq => ?_, fun i t hi => by omega, HKR2.out⟩
        · rcases List.mem_append.1 hp with e | e
          · exact HDK.out p e
          · simp at e; subst e
            refine ⟨HWR.out, fun t ht b o h1 h2 => ?_⟩
            have : t = zT := List.eq_of_mem_replicate ht
            subst this; exact absurd rfl h2
        · rw [List.getElem?_append_left (by rw [HKL.out]; exact hj)] at hq
          exact HDQ.out j q hq
      case round =>
        clear HST2 HKR2 HDK HDQ HKL HSHV cc HV1 HWR
        generalize hwo : wr = wo at *
        clear hwo
        obtain ⟨c, K2, p, hc, rfl, hK2, hKk, hpl, hst, hdk, hdq, hdc, hkr⟩ := hrel
        have HST : Hid _ := hst
        have HDK : Hid (Dk W.heap.size K2) := hdk
        have HDQ : Hid (∀ (j : Nat) q, j < k → K2[j]? = some q → Dq j q) := hdq
        have HDC : Hid (∀ (i : Nat) t, i < c → p.2[i]? = some t → t.C = dfC k ∧ t.n = 0) := hdc
        have HKR : Hid _ := hkr
        have HKK : Hid (K2[k]? = some p) := hKk
        have HK2 : Hid (K2.length = k + 1) := hK2
        have HPL : Hid (p.2.length = sC k) := hpl
        clear hst hdk hdq hdc hkr hKk hK2 hpl
        by_cases hcl : c < sC k
        · have a0 : 0 ≤ (k : Int) := by omega
          have a1 : (k : Int) < 32 := by omega
          have a2 : 0 ≤ (c : Int) := by omega
          have a3 : (c : Int) < (sC k : Int) := by omega
          have hks := HKR.out.size
          rw [HWs.out] at hks
          have hpK : p ∈ K2 := List.mem_of_getElem? HKK.out
          have hlie := HST.out.lie p hpK
          have hbig := (HDK.out p hpK).1
          rw [HWs.out] at hbig
          have x3 : wo.cell? ⟨w.heap.size + 2, 0, none⟩ = some (.slice (some ⟨w.heap.size + 1, 0, none⟩) 32 32) := by rw [HKR.out.cell _ _ (by rw [HWs.out]; omega) (by omega)]; exact HX3.out
          have xb : wo.cell? ⟨w.heap.size + 1, k, none⟩ = some (.slice (some ⟨p.1, 0, none⟩) (sC k) (sC k)) := by have := HST.out.hd k p HKK.out; rw [HPL.out] at this; exact this
          obtain ⟨t0, ht0⟩ : ∃ t0, p.2[c]? = some t0 := ⟨p.2[c]'(by rw [HPL.out]; exact hcl), List.getElem?_eq_getElem _⟩
          have z0 := HST.out.c0 p hpK c t0 ht0
          have z1 := HST.out.c1 p hpK c t0 ht0
          have zf0 := HST.out.th p hpK (c * 2)
          have zf1 := HST.out.th p hpK (c * 2 + 1)
          have HSHo : Hid (Sh wo) := HSH.out.below (HKR.out.below (B := w.heap.size) (by omega) (by rw [HWs.out]; omega)) HLO.out
          obtain ⟨pb, pt⟩ := p
          simp only at hlie hbig xb z0 z1 zf0 zf1 HPL HDC
          have HBG : Hid (∀ u, Below wo.heap.size wo u → Calls Tryz.prog 30 #[.int .i64 k, .int .i64 c] u fun e u' => ∃ g c', e = .returned (.agg #[.slice (some ⟨g, 0, none⟩) (dfC k).length c', .int .i64 0]) ∧ Ow u' u.heap.size g (dfC k).length c' (dfC k) ∧ Below u.heap.size u u' ∧ Below wo.heap.size wo u' ∧ u'.cell? ⟨w.heap.size + 2, 0, none⟩ = some (.slice (some ⟨w.heap.size + 1, 0, none⟩) 32 32) ∧ u'.cell? ⟨w.heap.size + 1, k, none⟩ = some (.slice (some ⟨pb, 0, none⟩) (sC k) (sC k)) ∧ u'.cell? ⟨pb, c * 2, none⟩ = some (.slice t0.a t0.C.length t0.c) ∧ u'.cell? ⟨pb, c * 2 + 1, none⟩ = some (.int .i64 t0.n) ∧ u'.frozen? ⟨pb, c * 2, none⟩ = false ∧ u'.frozen? ⟨pb, c * 2 + 1, none⟩ = false) := fun u hu => by
            refine (begin_any (HSHo.out.to hu) hlt).mono fun e u' h => ?_
            obtain ⟨g, c', h1, h2, h3⟩ := h
            have hb := below_to hu h3
            exact ⟨g, c', h1, h2, h3, hb, by rw [newCell hb _ _ (by omega)]; exact x3, by rw [newCell hb _ _ (by omega)]; exact xb, by rw [newCell hb _ _ (by omega)]; exact z0, by rw [newCell hb _ _ (by omega)]; exact z1, by rw [newFrozen hb _ _ (by omega)]; exact zf0, by rw [newFrozen hb _ _ (by omega)]; exact zf1⟩
          have hbd : Below wo.heap.size wo wo.drew := below_drew (Below.refl _ _)
          have d3 : wo.drew.cell? ⟨w.heap.size + 2, 0, none⟩ = some (.slice (some ⟨w.heap.size + 1, 0, none⟩) 32 32) := x3
          have db : wo.drew.cell? ⟨w.heap.size + 1, k, none⟩ = some (.slice (some ⟨pb, 0, none⟩) (sC k) (sC k)) := xb
          have n1 : w.heap.size + 2 ≠ pb := by omega
          have n2 : w.heap.size + 1 ≠ pb := by omega
          clear z0 z1 zf0 zf1 x3 xb
          go_wp2_with fail
          go_region_held3 (fun u => u.cell? ⟨w.heap.size + 2, 0, none⟩ = some (.slice (some ⟨w.heap.size + 1, 0, none⟩) 32 32) ∧ u.cell? ⟨w.heap.size + 1, k, none⟩ = some (.slice (some ⟨pb, 0, none⟩) (sC k) (sC k)) ∧ Below wo.heap.size wo wo) (((try dsimp only); first | assumption | (refine ⟨?_, ?_, ?_⟩ <;> first | assumption | exact Below.refl _ _ | go_keep) | go_keep)) ((go_at_call 30; refine (HBG.out _ (by (repeat (first | with_reducible assumption | with_reducible refine below_drew ?_ | with_reducible refine below_alloc ?_ ?_ _ | with_reducible refine below_set ?_ ?_ _ | exact Nat.le_refl _ | exact Below.size (by assumption))))).mono ?_; rintro e w3 ⟨g, c', rfl, ho, hb, hbw, q3, qb, z0, z1, zf0, zf1⟩; have y3 : ((w3.setCell ⟨pb, c * 2, none⟩ (.slice (some ⟨g, 0, none⟩) (dfC k).length c')).setCell ⟨pb, c * 2 + 1, none⟩ (.int .i64 0)).cell? ⟨w.heap.size + 2, 0, none⟩ = some (.slice (some ⟨w.heap.size + 1, 0, none⟩) 32 32) := far2 n1 q3; have yb : ((w3.setCell ⟨pb, c * 2, none⟩ (.slice (some ⟨g, 0, none⟩) (dfC k).length c')).setCell ⟨pb, c * 2 + 1, none⟩ (.int .i64 0)).cell? ⟨w.heap.size + 1, k, none⟩ = some (.slice (some ⟨pb, 0, none⟩) (sC k) (sC k)) := far2 n2 qb))
          have hgl : wo.heap.size ≤ g := ho.lies.1
          have hgap : ∀ b o, (some ⟨g, 0, none⟩ : Option Addr) = some ⟨b, o, none⟩ → dfC k ≠ [] → b ≠ w.heap.size + 1 ∧ ∀ q ∈ K2, b ≠ q.1 := fun b o h1 _ => by
            simp only [Option.some.injEq, Addr.mk.injEq, and_true] at h1
            exact ⟨by omega, fun q hq => by have := (HST.out.lie q hq).2.1; omega⟩
          have HPUT : Hid _ := (HST.out.to hbw).put HKK.out (by rw [HPL.out]; exact hcl) ⟨some ⟨g, 0, none⟩, c', dfC k, 0⟩ ho.sl hgap
          have HKR3 : Hid _ := ((HKR.out.to hbw).set ⟨pb, c * 2, none⟩ (.slice (some ⟨g, 0, none⟩) (dfC k).length c') (Or.inr (by rw [HWs.out]; exact hbig))).set ⟨pb, c * 2 + 1, none⟩ (.int .i64 0) (Or.inr (by rw [HWs.out]; exact hbig))
          have HDK3 : Hid (Dk W.heap.size (K2.set k (pb, pt.set c ⟨some ⟨g, 0, none⟩, c', dfC k, 0⟩))) := fun r hr => by
            rcases St.mem_set HKK.out hr with e | e
            · subst e
              refine ⟨by rw [HWs.out]; exact hbig, fun t ht b o h1 h2 => ?_⟩
              rcases List.mem_or_eq_of_mem_set ht with e2 | e2
              · exact (HDK.out _ hpK).2 t e2 b o h1 h2
              · subst e2
                simp only [Option.some.injEq, Addr.mk.injEq, and_true] at h1
                rw [HWs.out]; omega
            · exact HDK.out r e
          clear ho hb hbw q3 qb z0 z1 zf0 zf1 y3 yb
          go_wp2_with fail
          go_roundw
          case rel =>
            refine ⟨c + 1, _, (pb, pt.set c ⟨some ⟨g, 0, none⟩, c', dfC k, 0⟩), by omega, by go_num, by rw [List.length_set]; exact HK2.out, by rw [List.getElem?_set_self (by rw [HK2.out]; omega)], by simp only [List.length_set]; exact HPL.out, HPUT.out, HDK3.out, fun j q hj hq => ?_, fun m t hm ht => ?_, HKR3.out⟩
            · rw [List.getElem?_set_ne (by omega)] at hq
              exact HDQ.out j q hj hq
            · simp only at ht
              rw [List.getElem?_set] at ht
              by_cases e : c = m
              · subst e
                rw [if_pos rfl, if_pos (by rw [HPL.out]; exact hcl)] at ht
                simp at ht; subst ht; exact ⟨rfl, rfl⟩
              · rw [if_neg e] at ht
                exact HDC.out m t (by omega) ht
          case measure => simp [intOf]; omega
        · have a3 : ¬ (c : Int) < (sC k : Int) := by omega
          have hcs : c = sC k := by omega
          go_wp2_with fail
          go_roundw
          case rel =>
            refine ⟨k + 1, K2, by omega, by go_num, HK2.out, HST.out, HDK.out, fun j q hq => ?_, HKR.out⟩
            by_cases hj : j < k
            · exact HDQ.out j q hj hq
            · have hjk : j = k := by
                have := (List.getElem?_eq_some_iff.1 hq).1
                rw [HK2.out] at this
                omega
              subst hjk
              rw [HKK.out] at hq
              simp only [Option.some.injEq] at hq
              subst hq
              refine ⟨HPL.out, fun t ht => ?_⟩
              obtain ⟨m, hm⟩ := List.getElem?_of_mem ht
              have := (List.getElem?_eq_some_iff.1 hm).1
              exact HDC.out m t (by rw [HPL.out] at this; omega) hm
          case measure => simp [intOf]; omega
    · have hk' : k = 32 := by omega
      subst hk'
      have b1 : ¬ ((32 : Nat) : Int) < 32 := by omega
      go_wp2_with fail
      refine bodyPost_ret (v := .agg #[.slice (some ⟨w.heap.size + 1, 0, none⟩) 32 32]) (by simp [results, Tryz.results24, go_sem, x2]) rfl ⟨w.heap.size + 1, K, rfl, ?_, HKL.out, HDQ.out, HDK.out.mono (by rw [HWs.out]; omega), ?_⟩
      · refine HST.out.far _ _ (by simp) (fun p hp e => ?_) (fun p hp t ht b o h1 h2 e => ?_)
        · have := (HDK.out p hp).1; rw [HWs.out] at this; simp at e; omega
        · have := (HDK.out p hp).2 t ht b o h1 h2; rw [HWs.out] at this; simp at e; omega
      · exact below_set (HBW.out.trans (HKR.out.below (B := w.heap.size) (by omega) (by rw [HWs.out]; omega))) (by simp) _

set_option maxRecDepth 100000 in
set_option maxHeartbeats 1000000 in
theorem default_any {w : World} (h : Sh w) : Calls Tryz.prog 16 #[] w fun e w' => Dset w w' e := by
  have HSH : Hid (Sh (w.alloc (.cells #[.slice none 0 0] 29))) := h.to (from_alloc _ _)
  have HBW : Hid (Below w.heap.size w (w.alloc (.cells #[.slice none 0 0] 29))) := from_alloc _ _
  have HZ : Hid ((w.alloc (.cells #[.slice none 0 0] 29)).cell? ⟨w.heap.size, 0, none⟩ = some (.slice none 0 0) ∧ (w.alloc (.cells #[.slice none 0 0] 29)).frozen? ⟨w.heap.size, 0, none⟩ = false) := by unfold Hid; simp
  have HWs : Hid ((w.alloc (.cells #[.slice none 0 0] 29)).heap.size = w.heap.size + 1) := by unfold Hid; simp
  clear h
  go_enter Tryz.func16, Tryz.ntmps16
  go_wp2_with fail
  generalize w.alloc (.cells #[.slice none 0 0] 29) = W at *
  refine (filled_default HSH.out).mono ?_
  rintro e w1 ⟨bt, K, rfl, hst, hKl, hdq, hdk, hb⟩
  have HB1 : Hid (Below W.heap.size W w1) := hb
  have HST : Hid (St w1 W.heap.size bt K) := hst
  have HDQ : Hid (∀ (j : Nat) p, K[j]? = some p → Dq j p) := hdq
  have HKL : Hid (K.length = 32) := hKl
  have HDK : Hid (Dk W.heap.size K) := hdk
  have d0 : w1.cell? ⟨w.heap.size, 0, none⟩ = some (.slice none 0 0) := by rw [newCell HB1.out _ _ (by rw [HWs.out]; omega)]; exact HZ.out.1
  have f0 : w1.frozen? ⟨w.heap.size, 0, none⟩ = false := by rw [newFrozen HB1.out _ _ (by rw [HWs.out]; omega)]; exact HZ.out.2
  clear hst hdq hb hKl hdk
  go_wp2_with fail
  refine bodyPost_ret (v := .agg #[.slice (some ⟨bt, 0, none⟩) 32 32]) (by simp [results, Tryz.results16, go_sem, d0]) rfl ⟨bt, K, rfl, ?_, HKL.out, HDQ.out, HDK.out.mono (by rw [HWs.out]; omega), ?_⟩
  · have hl := HST.out.blo
    rw [HWs.out] at hl
    refine (HST.out.far _ _ (by simp; omega) (fun p hp e => ?_) (fun p hp t ht b o h1 h2 e => ?_)).lower (by rw [HWs.out]; omega)
    · have := (HST.out.lie p hp).1; rw [HWs.out] at this; simp at e; omega
    · have := (HDK.out p hp).2 t ht b o h1 h2; rw [HWs.out] at this; simp at e; omega
  · exact below_set (HBW.out.trans (HB1.out.mono (by rw [HWs.out]; omega))) (by simp) _

end Go.Proofs.YtppanogpeengnabGreatDoor
