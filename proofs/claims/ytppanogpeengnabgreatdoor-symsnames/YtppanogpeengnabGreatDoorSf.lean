/- DERIVED. The walk of Copy, of sets that may be. -/
import Derived.Test.YtppanogpeengnabGreatDoorSe
namespace Go.Proofs.YtppanogpeengnabGreatDoor
open Go.RowKit L3

/-- two lists of tables have the same numbers -/
def Alq (p q : List Tb) : Prop := q.length = p.length ∧ ∀ (c : Nat) s t, p[c]? = some s → q[c]? = some t → t.C = s.C ∧ t.n = s.n
/-- two sets have the same numbers -/
def Als (K L : List (Nat × List Tb)) : Prop := L.length = K.length ∧ ∀ (j : Nat) p q, K[j]? = some p → L[j]? = some q → Alq p.2 q.2
theorem Alq.refl (p : List Tb) : Alq p p := ⟨rfl, fun c s t h1 h2 => by rw [h1] at h2; simp at h2; rw [h2]; exact ⟨rfl, rfl⟩⟩
theorem Als.refl (K : List (Nat × List Tb)) : Als K K := ⟨rfl, fun j p q h1 h2 => by rw [h1] at h2; simp at h2; rw [h2]; exact Alq.refl _⟩
theorem Alq.trans {p q r : List Tb} (h : Alq p q) (k : Alq q r) : Alq p r := ⟨k.1.trans h.1, fun c s u h1 h2 => by
  have hc : c < q.length := by rw [h.1]; exact (List.getElem?_eq_some_iff.1 h1).1
  have e := List.getElem?_eq_getElem hc
  have a := h.2 c s _ h1 e
  have b := k.2 c _ u e h2
  exact ⟨b.1.trans a.1, b.2.trans a.2⟩⟩
theorem Als.trans {K L M : List (Nat × List Tb)} (h : Als K L) (k : Als L M) : Als K M := ⟨k.1.trans h.1, fun j p r h1 h2 => by
  have hc : j < L.length := by rw [h.1]; exact (List.getElem?_eq_some_iff.1 h1).1
  have e := List.getElem?_eq_getElem hc
  exact (h.2 j p _ h1 e).trans (k.2 j _ r e h2)⟩
theorem Als.okk {K L : List (Nat × List Tb)} (h : Als K L) (ho : Okk K) : Okk L :=
  ⟨h.1.trans ho.1, fun j q hq => by
    have hj : j < K.length := by rw [← h.1]; exact (List.getElem?_eq_some_iff.1 hq).1
    have hp := List.getElem?_eq_getElem hj
    obtain ⟨l1, l2⟩ := h.2 j _ q hp hq
    obtain ⟨o1, o2⟩ := ho.2 j _ hp
    refine ⟨l1.trans o1, fun t ht => ?_⟩
    obtain ⟨c, hc⟩ := List.getElem?_of_mem ht
    have hcl : c < (K[j]).2.length := by rw [← l1]; exact (List.getElem?_eq_some_iff.1 hc).1
    have hs := List.getElem?_eq_getElem hcl
    obtain ⟨e1, e2⟩ := l2 c _ t hs hc
    rw [e1, e2]
    exact o2 _ (List.getElem_mem _)⟩

/-- a copy of a set is answered, in new memory -/
def Cset (w w' : World) (e : Ending) (K : List (Nat × List Tb)) : Prop := ∃ bt L, e = .returned (.agg #[.slice (some ⟨bt, 0, none⟩) 32 32]) ∧ St w' w.heap.size bt L ∧ Als K L ∧ Dk w.heap.size L ∧ Below w.heap.size w w'
def CI (W : World) (lo bt : Nat) (K : List (Nat × List Tb)) (iv : Value) (wr : World) : Prop :=
  ∃ (k : Nat) (L : List (Nat × List Tb)), k ≤ 32 ∧ iv = .int .i64 k ∧ L.length = k ∧ St wr lo bt L ∧ Dk W.heap.size L ∧ (∀ (j : Nat) p q, K[j]? = some p → L[j]? = some q → Alq p.2 q.2) ∧ Kr bt W wr
def CJ (W : World) (lo bt k : Nat) (K : List (Nat × List Tb)) (pt : List Tb) (iv : Value) (wr : World) : Prop :=
  ∃ (c : Nat) (L : List (Nat × List Tb)) (p : Nat × List Tb), c ≤ sC k ∧ iv = .int .i64 c ∧ L.length = k + 1 ∧ L[k]? = some p ∧ p.2.length = sC k ∧ St wr lo bt L ∧ Dk W.heap.size L ∧ (∀ (j : Nat) p q, j < k → K[j]? = some p → L[j]? = some q → Alq p.2 q.2) ∧ (∀ (i : Nat) s t, i < c → pt[i]? = some s → p.2[i]? = some t → t.C = s.C ∧ t.n = s.n) ∧ Kr bt W wr

set_option maxRecDepth 100000 in
set_option maxHeartbeats 8000000 in
theorem scopy_ok {w : World} {lo bt : Nat} {K : List (Nat × List Tb)} (hsh : Sh w) (h : St w lo bt K) (ho : Okk K) :
    Calls Tryz.prog 22 #[.agg #[.slice (some ⟨bt, 0, none⟩) 32 32]] w fun e w' => Cset w w' e K := by
  obtain ⟨i, hi, hz0, hz1, hz2⟩ := info_parts Tryz.inf60
  obtain ⟨i3, hi3, hy0, hy1, hy2⟩ := info_parts Tryz.inf63
  have hmk : ∀ u : World, (Instr.makeSlice 27 (.int .i64 32) (.int .i64 32)).run Tryz.prog u = .ok (.slice (some ⟨u.heap.size, 0, none⟩) 32 32) (u.alloc (.cells (madeCells #[.slice none 0 0] 32) 60)) := fun u => by
    have h := run_make (P := Tryz.prog) u 27 60 i (.slice none 0 0) Tryz.underlying27 hi hz0 .i64 .i64 32 32 (by omega) (Int.le_refl _) (by rw [hz2]; omega) (by omega)
    simpa [hz1, Value.cells] using h
  have HMK : Hid (∀ (n : Nat), n ≤ 14 → ∀ u : World, (Instr.makeSlice 60 (.int .i64 n) (.int .i64 n)).run Tryz.prog u = .ok (.slice (some ⟨u.heap.size, 0, none⟩) n n) (u.alloc (.cells (madeCells #[.slice none 0 0, .int .i64 0] (n * 2)) 59))) := fun n hn u => by
    have h := run_make (P := Tryz.prog) u 60 59 i3 (.agg #[.slice none 0 0, .int .i64 0]) Tryz.underlying60 hi3 hy0 .i64 .i64 n n (by omega) (Int.le_refl _) (by rw [hy2]; omega) (by omega)
    simpa [hy1, Value.cells] using h
  have HOK : Hid (Okk K) := ho
  have HSRC : Hid (St w lo bt K) := h
  have HS0 : Hid (St ((((w.alloc (.cells #[.slice (some ⟨bt, 0, none⟩) 32 32] 29)).alloc (.cells #[.slice none 0 0] 29)).alloc (.cells (madeCells #[.slice none 0 0] 32) 60)).alloc (.cells #[.slice (some ⟨w.heap.size + 2, 0, none⟩) 32 32] 29)) w.heap.size (w.heap.size + 2) []) := by
    have h1 : ((w.alloc (.cells #[.slice (some ⟨bt, 0, none⟩) 32 32] 29)).alloc (.cells #[.slice none 0 0] 29)).heap.size = w.heap.size + 2 := by simp
    have := (St.start (w := ((w.alloc (.cells #[.slice (some ⟨bt, 0, none⟩) 32 32] 29)).alloc (.cells #[.slice none 0 0] 29))) (lo := w.heap.size) (by rw [h1]; omega)).to (from_alloc _ (.cells #[.slice (some ⟨w.heap.size + 2, 0, none⟩) 32 32] 29))
    rw [h1] at this
    exact this
  have HLO : Hid (0 < w.heap.size) := hsh.low
  have HWs : Hid (((((w.alloc (.cells #[.slice (some ⟨bt, 0, none⟩) 32 32] 29)).alloc (.cells #[.slice none 0 0] 29)).alloc (.cells (madeCells #[.slice none 0 0] 32) 60)).alloc (.cells #[.slice (some ⟨w.heap.size + 2, 0, none⟩) 32 32] 29)).heap.size = w.heap.size + 4) := by unfold Hid; simp
  have HBW : Hid (Below w.heap.size w ((((w.alloc (.cells #[.slice (some ⟨bt, 0, none⟩) 32 32] 29)).alloc (.cells #[.slice none 0 0] 29)).alloc (.cells (madeCells #[.slice none 0 0] 32) 60)).alloc (.cells #[.slice (some ⟨w.heap.size + 2, 0, none⟩) 32 32] 29))) := to_alloc (to_alloc (to_alloc (from_alloc _ _) _) _) _
  have HX3 : Hid (((((w.alloc (.cells #[.slice (some ⟨bt, 0, none⟩) 32 32] 29)).alloc (.cells #[.slice none 0 0] 29)).alloc (.cells (madeCells #[.slice none 0 0] 32) 60)).alloc (.cells #[.slice (some ⟨w.heap.size + 2, 0, none⟩) 32 32] 29)).cell? ⟨w.heap.size + 3, 0, none⟩ = some (.slice (some ⟨w.heap.size + 2, 0, none⟩) 32 32)) := by
    have h1 : (((w.alloc (.cells #[.slice (some ⟨bt, 0, none⟩) 32 32] 29)).alloc (.cells #[.slice none 0 0] 29)).alloc (.cells (madeCells #[.slice none 0 0] 32) 60)).heap.size = w.heap.size + 3 := by simp
    unfold Hid; rw [← h1, new_get]; rfl
  have HX2 : Hid (((((w.alloc (.cells #[.slice (some ⟨bt, 0, none⟩) 32 32] 29)).alloc (.cells #[.slice none 0 0] 29)).alloc (.cells (madeCells #[.slice none 0 0] 32) 60)).alloc (.cells #[.slice (some ⟨w.heap.size + 2, 0, none⟩) 32 32] 29)).cell? ⟨w.heap.size + 1, 0, none⟩ = some (.slice none 0 0) ∧ ((((w.alloc (.cells #[.slice (some ⟨bt, 0, none⟩) 32 32] 29)).alloc (.cells #[.slice none 0 0] 29)).alloc (.cells (madeCells #[.slice none 0 0] 32) 60)).alloc (.cells #[.slice (some ⟨w.heap.size + 2, 0, none⟩) 32 32] 29)).frozen? ⟨w.heap.size + 1, 0, none⟩ = false) := by
    have h0 : (w.alloc (.cells #[.slice (some ⟨bt, 0, none⟩) 32 32] 29)).heap.size = w.heap.size + 1 := by simp
    have h1 : w.heap.size + 1 < ((w.alloc (.cells #[.slice (some ⟨bt, 0, none⟩) 32 32] 29)).alloc (.cells #[.slice none 0 0] 29)).heap.size := by simp
    have hb : Below ((w.alloc (.cells #[.slice (some ⟨bt, 0, none⟩) 32 32] 29)).alloc (.cells #[.slice none 0 0] 29)).heap.size ((w.alloc (.cells #[.slice (some ⟨bt, 0, none⟩) 32 32] 29)).alloc (.cells #[.slice none 0 0] 29)) ((((w.alloc (.cells #[.slice (some ⟨bt, 0, none⟩) 32 32] 29)).alloc (.cells #[.slice none 0 0] 29)).alloc (.cells (madeCells #[.slice none 0 0] 32) 60)).alloc (.cells #[.slice (some ⟨w.heap.size + 2, 0, none⟩) 32 32] 29)) := to_alloc (from_alloc _ _) _
    refine ⟨?_, ?_⟩
    · rw [newCell hb _ _ h1, ← h0, new_get]; rfl
    · rw [newFrozen hb _ _ h1, ← h0]; simp
  have s1 : ((((w.alloc (.cells #[.slice (some ⟨bt, 0, none⟩) 32 32] 29)).alloc (.cells #[.slice none 0 0] 29)).alloc (.cells (madeCells #[.slice none 0 0] 32) 60)).alloc (.cells #[.slice (some ⟨w.heap.size + 2, 0, none⟩) 32 32] 29)).cell? ⟨w.heap.size, 0, none⟩ = some (.slice (some ⟨bt, 0, none⟩) 32 32) := by
    have h1 : w.heap.size < (w.alloc (.cells #[.slice (some ⟨bt, 0, none⟩) 32 32] 29)).heap.size := by simp
    have hb : Below (w.alloc (.cells #[.slice (some ⟨bt, 0, none⟩) 32 32] 29)).heap.size (w.alloc (.cells #[.slice (some ⟨bt, 0, none⟩) 32 32] 29)) ((((w.alloc (.cells #[.slice (some ⟨bt, 0, none⟩) 32 32] 29)).alloc (.cells #[.slice none 0 0] 29)).alloc (.cells (madeCells #[.slice none 0 0] 32) 60)).alloc (.cells #[.slice (some ⟨w.heap.size + 2, 0, none⟩) 32 32] 29)) := to_alloc (to_alloc (from_alloc _ _) _) _
    rw [newCell hb _ _ h1]; simp
  clear h ho hsh
  go_enter Tryz.func22, Tryz.ntmps22
  go_wp2_with fail
  rw [show w.heap.size + 1 + 1 + 1 = w.heap.size + 3 from rfl, show w.heap.size + 1 + 1 = w.heap.size + 2 from rfl]
  generalize ((((w.alloc (.cells #[.slice (some ⟨bt, 0, none⟩) 32 32] 29)).alloc (.cells #[.slice none 0 0] 29)).alloc (.cells (madeCells #[.slice none 0 0] 32) 60)).alloc (.cells #[.slice (some ⟨w.heap.size + 2, 0, none⟩) 32 32] 29)) = W at *
  clear s1
  go_loopw [16] (fun iv wr => CI W w.heap.size (w.heap.size + 2) K iv wr) (fun iv _ => 32 - (intOf iv).toNat)
  case atStart => exact ⟨0, [], by omega, rfl, rfl, HS0.out, fun p hp => by simp at hp, fun j p q _ hq => by simp at hq, Kr.refl _ _⟩
  case round =>
    obtain ⟨k, L, hk, rfl, hLl, hst, hdk, hal, hkr⟩ := hrel
    clear HS0
    have HST : Hid _ := hst
    have HDK : Hid (Dk W.heap.size L) := hdk
    have HAL : Hid (∀ (j : Nat) p q, K[j]? = some p → L[j]? = some q → Alq p.2 q.2) := hal
    have HKR : Hid (Kr (w.heap.size + 2) W wr) := hkr
    have HLL : Hid (L.length = k) := hLl
    have hks := hkr.size
    rw [HWs.out] at hks
    have HBr : Hid (Below w.heap.size w wr) := HBW.out.trans (hkr.below (B := w.heap.size) (by omega) (by rw [HWs.out]; omega))
    have x3 : wr.cell? ⟨w.heap.size + 3, 0, none⟩ = some (.slice (some ⟨w.heap.size + 2, 0, none⟩) 32 32) := by rw [hkr.cell _ _ (by rw [HWs.out]; omega) (by omega)]; exact HX3.out
    have x2 : wr.cell? ⟨w.heap.size + 1, 0, none⟩ = some (.slice none 0 0) := by rw [hkr.cell _ _ (by rw [HWs.out]; omega) (by omega)]; exact HX2.out.1
    have x2f : wr.frozen? ⟨w.heap.size + 1, 0, none⟩ = false := by rw [hkr.frozen _ _ (by rw [HWs.out]; omega) (by omega)]; exact HX2.out.2
    clear hst hdk hal hkr hLl
    by_cases hlt : k < 32
    · have b0 : 0 ≤ (k : Int) := by omega
      have b1 : (k : Int) < 32 := by omega
      have hkl : k < K.length := by rw [HOK.out.1]; exact hlt
      have hget := List.getElem?_eq_getElem hkl
      have HGK : Hid (K[k]? = some K[k]) := hget
      have hoq := HOK.out.2 k _ hget
      have hmem : K[k] ∈ K := List.getElem_mem _
      have xb0 := HSRC.out.hd k _ hget
      have hlie := (HSRC.out.lie _ hmem).2.1
      have HC0 : Hid (∀ (c : Nat) t, K[k].2[c]? = some t → w.cell? ⟨K[k].1, c * 2, none⟩ = some (.slice t.a t.C.length t.c) ∧ w.cell? ⟨K[k].1, c * 2 + 1, none⟩ = some (.int .i64 t.n) ∧ Sl w .u16 t.a t.C) := fun c t ht => ⟨HSRC.out.c0 _ hmem c t ht, HSRC.out.c1 _ hmem c t ht, HSRC.out.sl _ hmem t (List.mem_of_getElem? ht)⟩
      generalize K[k] = sp at *
      obtain ⟨sb, st⟩ := sp
      simp only at xb0 hlie HC0
      have HPS : Hid (st.length = sC k) := hoq.1
      have HPT : Hid (∀ t ∈ st, t.C.length = sV k ∧ TOk t.C t.n) := hoq.2
      have xs : wr.cell? ⟨bt, k, none⟩ = some (.slice (some ⟨sb, 0, none⟩) (sC k) (sC k)) := by rw [newCell HBr.out _ _ HSRC.out.blt]; rw [HPS.out] at xb0; exact xb0
      have tlk := HST.out.tl k (by rw [HLL.out]; exact Nat.le_refl _) hlt
      have thk := HST.out.bth k
      have mk := HMK.out (sC k) (sC_le k hlt).2
      have hc14 := (sC_le k hlt).2
      have hba : Below wr.heap.size wr (wr.alloc (.cells (madeCells #[.slice none 0 0, .int .i64 0] (sC k * 2)) 59)) := from_alloc _ _
      have y3 : (wr.alloc (.cells (madeCells #[.slice none 0 0, .int .i64 0] (sC k * 2)) 59)).cell? ⟨w.heap.size + 3, 0, none⟩ = some (.slice (some ⟨w.heap.size + 2, 0, none⟩) 32 32) := by rw [newCell hba _ _ (by omega)]; exact x3
      have ytl : (wr.alloc (.cells (madeCells #[.slice none 0 0, .int .i64 0] (sC k * 2)) 59)).cell? ⟨w.heap.size + 2, k, none⟩ = some (.slice none 0 0) := by rw [newCell hba _ _ (by omega)]; exact tlk
      have yth : (wr.alloc (.cells (madeCells #[.slice none 0 0, .int .i64 0] (sC k * 2)) 59)).frozen? ⟨w.heap.size + 2, k, none⟩ = false := by rw [newFrozen hba _ _ (by omega)]; exact thk
      clear x2 x2f hba hget hoq hmem xb0
      go_wp2_with fail
      go_region
      have HKR2 : Hid (Kr (w.heap.size + 2) W ((wr.alloc (.cells (madeCells #[.slice none 0 0, .int .i64 0] (sC k * 2)) 59)).setCell ⟨w.heap.size + 2, k, none⟩ (.slice (some ⟨wr.heap.size, 0, none⟩) (sC k) (sC k))).drew) := ((HKR.out.to (from_alloc wr (.cells (madeCells #[.slice none 0 0, .int .i64 0] (sC k * 2)) 59))).set ⟨w.heap.size + 2, k, none⟩ (.slice (some ⟨wr.heap.size, 0, none⟩) (sC k) (sC k)) (Or.inl rfl)).to (below_drew (Below.refl _ _))
      have HST2 : Hid (St ((wr.alloc (.cells (madeCells #[.slice none 0 0, .int .i64 0] (sC k * 2)) 59)).setCell ⟨w.heap.size + 2, k, none⟩ (.slice (some ⟨wr.heap.size, 0, none⟩) (sC k) (sC k))).drew w.heap.size (w.heap.size + 2) (L ++ [(wr.heap.size, List.replicate (sC k) zT)])) := by
        have := (HST.out.add (by omega) (by rw [HLL.out]; exact hlt) (sC k)).to (below_drew (Below.refl _ _))
        rw [HLL.out] at this
        exact this
      have HWR : Hid (W.heap.size ≤ wr.heap.size) := HKR.out.size
      clear HKR HST x3 tlk thk mk y3 ytl yth HBr xs
      generalize ((wr.alloc (.cells (madeCells #[.slice none 0 0, .int .i64 0] (sC k * 2)) 59)).setCell ⟨w.heap.size + 2, k, none⟩ (.slice (some ⟨wr.heap.size, 0, none⟩) (sC k) (sC k))).drew = V at *
      go_wp2_with fail
      go_loopw [30] (fun iv wr => CJ W w.heap.size (w.heap.size + 2) k K st iv wr) (fun iv _ => sC k - (intOf iv).toNat)
      case atStart =>
        refine ⟨0, _, (wr.heap.size, List.replicate (sC k) zT), by omega, rfl, by rw [List.length_append, HLL.out]; rfl, by rw [List.getElem?_append_right (by rw [HLL.out]; exact Nat.le_refl _), HLL.out]; simp, by simp, HST2.out, fun p hp => ?_, fun j p q hj hp hq => ?_, fun i s t hi => by omega, HKR2.out⟩
        · rcases List.mem_append.1 hp with e | e
          · exact HDK.out p e
          · simp at e; subst e
            refine ⟨HWR.out, fun t ht b o h1 h2 => ?_⟩
            have : t = zT := List.eq_of_mem_replicate ht
            subst this; exact absurd rfl h2
        · rw [List.getElem?_append_left (by rw [HLL.out]; exact hj)] at hq
          exact HAL.out j p q hp hq
      case round =>
        clear HST2 HKR2 HDK HAL HLL HWR
        generalize hwo : wr = wo at *
        clear hwo
        obtain ⟨c, L2, p, hc, rfl, hL2, hLk, hpl, hst, hdk, hal, hac, hkr⟩ := hrel
        have HST : Hid _ := hst
        have HDK : Hid (Dk W.heap.size L2) := hdk
        have HAL : Hid (∀ (j : Nat) p q, j < k → K[j]? = some p → L2[j]? = some q → Alq p.2 q.2) := hal
        have HAC : Hid (∀ (i : Nat) s t, i < c → st[i]? = some s → p.2[i]? = some t → t.C = s.C ∧ t.n = s.n) := hac
        have HKR : Hid _ := hkr
        have HLK : Hid (L2[k]? = some p) := hLk
        have HL2 : Hid (L2.length = k + 1) := hL2
        have HPL : Hid (p.2.length = sC k) := hpl
        clear hst hdk hal hac hkr hLk hL2 hpl
        by_cases hcl : c < sC k
        · have a0 : 0 ≤ (k : Int) := by omega
          have a1 : (k : Int) < 32 := by omega
          have a2 : 0 ≤ (c : Int) := by omega
          have a3 : (c : Int) < (sC k : Int) := by omega
          have hks := HKR.out.size
          rw [HWs.out] at hks
          have hpK : p ∈ L2 := List.mem_of_getElem? HLK.out
          have hpl2 := HST.out.lie p hpK
          have hbig := (HDK.out p hpK).1
          rw [HWs.out] at hbig
          have x3 : wo.cell? ⟨w.heap.size + 3, 0, none⟩ = some (.slice (some ⟨w.heap.size + 2, 0, none⟩) 32 32) := by rw [HKR.out.cell _ _ (by rw [HWs.out]; omega) (by omega)]; exact HX3.out
          have xb : wo.cell? ⟨w.heap.size + 2, k, none⟩ = some (.slice (some ⟨p.1, 0, none⟩) (sC k) (sC k)) := by have := HST.out.hd k p HLK.out; rw [HPL.out] at this; exact this
          obtain ⟨t0, ht0⟩ : ∃ t0, p.2[c]? = some t0 := ⟨p.2[c]'(by rw [HPL.out]; exact hcl), List.getElem?_eq_getElem _⟩
          have z0 := HST.out.c0 p hpK c t0 ht0
          have z1 := HST.out.c1 p hpK c t0 ht0
          have zf0 := HST.out.th p hpK (c * 2)
          have zf1 := HST.out.th p hpK (c * 2 + 1)
          have HBo : Hid (Below w.heap.size w wo) := HBW.out.trans (HKR.out.below (B := w.heap.size) (by omega) (by rw [HWs.out]; omega))
          have hcs : c < st.length := by rw [HPS.out]; exact hcl
          have hgs := List.getElem?_eq_getElem hcs
          have HGS : Hid (st[c]? = some st[c]) := hgs
          obtain ⟨g0, g1, gs⟩ := HC0.out c _ hgs
          have hok := HPT.out _ (List.getElem_mem hcs)
          generalize st[c] = sT at *
          obtain ⟨sa, sc, sC', sn⟩ := sT
          simp only at g0 g1 gs hok
          have HSN : Hid (sC'.length = sV k) := hok.1
          rw [HSN.out] at g0
          have u0 : wo.cell? ⟨sb, c * 2, none⟩ = some (.slice sa (sV k) sc) := by rw [newCell HBo.out _ _ hlie]; exact g0
          have u1 : wo.cell? ⟨sb, c * 2 + 1, none⟩ = some (.int .i64 sn) := by rw [newCell HBo.out _ _ hlie]; exact g1
          have HSL : Hid (Sl w .u16 sa sC') := gs
          have hv := sV_le k hlt
          have hv1 := hv.1
          have hv2 := hv.2
          obtain ⟨pb, pt⟩ := p
          simp only at hpl2 hbig xb z0 z1 zf0 zf1 HPL HAC
          clear g0 g1 gs hgs hok hv
          have HBa : Hid (Below wo.heap.size wo (wo.alloc (.cells #[.slice sa (sV k) sc, .int .i64 sn] 59))) := from_alloc _ _
          have e0 : (wo.alloc (.cells #[.slice sa (sV k) sc, .int .i64 sn] 59)).cell? ⟨wo.heap.size, 0, none⟩ = some (.slice sa (sV k) sc) := by simp
          have e1 : (wo.alloc (.cells #[.slice sa (sV k) sc, .int .i64 sn] 59)).cell? ⟨wo.heap.size, 1, none⟩ = some (.int .i64 sn) := by simp
          have hxw : wo.heap.size < (wo.alloc (.cells #[.slice sa (sV k) sc, .int .i64 sn] 59)).heap.size := by simp
          go_wp2_with fail
          have HSTa : Hid (St (wo.alloc (.cells #[.slice sa (sV k) sc, .int .i64 sn] 59)) w.heap.size (w.heap.size + 2) L2) := HST.out.to HBa.out
          have HKRa : Hid (Kr (w.heap.size + 2) W (wo.alloc (.cells #[.slice sa (sV k) sc, .int .i64 sn] 59))) := HKR.out.to HBa.out
          have HSLa : Hid (Sl (wo.alloc (.cells #[.slice sa (sV k) sc, .int .i64 sn] 59)) .u16 sa sC') := HSL.out.to (below_to HBo.out HBa.out)
          have v3 : (wo.alloc (.cells #[.slice sa (sV k) sc, .int .i64 sn] 59)).cell? ⟨w.heap.size + 3, 0, none⟩ = some (.slice (some ⟨w.heap.size + 2, 0, none⟩) 32 32) := by rw [newCell HBa.out _ _ (by omega)]; exact x3
          have vb : (wo.alloc (.cells #[.slice sa (sV k) sc, .int .i64 sn] 59)).cell? ⟨w.heap.size + 2, k, none⟩ = some (.slice (some ⟨pb, 0, none⟩) (sC k) (sC k)) := by rw [newCell HBa.out _ _ (by omega)]; exact xb
          have vz0 : (wo.alloc (.cells #[.slice sa (sV k) sc, .int .i64 sn] 59)).cell? ⟨pb, c * 2, none⟩ = some (.slice t0.a t0.C.length t0.c) := by rw [newCell HBa.out _ _ hpl2.2.1]; exact z0
          have vz1 : (wo.alloc (.cells #[.slice sa (sV k) sc, .int .i64 sn] 59)).cell? ⟨pb, c * 2 + 1, none⟩ = some (.int .i64 t0.n) := by rw [newCell HBa.out _ _ hpl2.2.1]; exact z1
          have vf0 : (wo.alloc (.cells #[.slice sa (sV k) sc, .int .i64 sn] 59)).frozen? ⟨pb, c * 2, none⟩ = false := by rw [newFrozen HBa.out _ _ hpl2.2.1]; exact zf0
          have vf1 : (wo.alloc (.cells #[.slice sa (sV k) sc, .int .i64 sn] 59)).frozen? ⟨pb, c * 2 + 1, none⟩ = false := by rw [newFrozen HBa.out _ _ hpl2.2.1]; exact zf1
          have hpx : wo.heap.size ≠ pb := by have := hpl2.2.1; omega
          have hplt : pb < (wo.alloc (.cells #[.slice sa (sV k) sc, .int .i64 sn] 59)).heap.size := by have := hpl2.2.1; omega
          clear x3 xb z0 z1 zf0 zf1 u0 u1 HST HKR HBo HBa
          generalize wo.alloc (.cells #[.slice sa (sV k) sc, .int .i64 sn] 59) = V2 at *
          generalize wo.heap.size = x7 at *
          have HCL : Hid (∀ u, Below V2.heap.size V2 u → Calls Tryz.prog 48 #[.slice sa (sV k) sc] u fun e u' => ∃ g c', e = .returned (.slice (some ⟨g, 0, none⟩) (sV k) c') ∧ Ow u' V2.heap.size g (sV k) c' sC' ∧ Below V2.heap.size V2 u' ∧ u'.cell? ⟨w.heap.size + 3, 0, none⟩ = some (.slice (some ⟨w.heap.size + 2, 0, none⟩) 32 32) ∧ u'.cell? ⟨w.heap.size + 2, k, none⟩ = some (.slice (some ⟨pb, 0, none⟩) (sC k) (sC k)) ∧ u'.cell? ⟨x7, 0, none⟩ = some (.slice sa (sV k) sc) ∧ u'.cell? ⟨x7, 1, none⟩ = some (.int .i64 sn) ∧ u'.cell? ⟨pb, c * 2, none⟩ = some (.slice t0.a t0.C.length t0.c) ∧ u'.cell? ⟨pb, c * 2 + 1, none⟩ = some (.int .i64 t0.n) ∧ u'.frozen? ⟨pb, c * 2, none⟩ = false ∧ u'.frozen? ⟨pb, c * 2 + 1, none⟩ = false) := fun u hu => by
            have h1 := clone_some (c := sc) (HSLa.out.to hu) (by rw [HSN.out]; omega) (by rw [HSN.out]; omega)
            rw [HSN.out] at h1
            refine h1.mono fun e u' h => ?_
            obtain ⟨g, c', h2, h3, h4⟩ := h
            have hb := below_to hu h4
            exact ⟨g, c', h2, h3.mono hu.size, hb, by rw [newCell hb _ _ (by omega)]; exact v3, by rw [newCell hb _ _ (by omega)]; exact vb, by rw [newCell hb _ _ hxw]; exact e0, by rw [newCell hb _ _ hxw]; exact e1, by rw [newCell hb _ _ hplt]; exact vz0, by rw [newCell hb _ _ hplt]; exact vz1, by rw [newFrozen hb _ _ hplt]; exact vf0, by rw [newFrozen hb _ _ hplt]; exact vf1⟩
          have hbd : Below V2.heap.size V2 V2.drew := below_drew (Below.refl _ _)
          have d3 : V2.drew.cell? ⟨w.heap.size + 3, 0, none⟩ = some (.slice (some ⟨w.heap.size + 2, 0, none⟩) 32 32) := v3
          have db : V2.drew.cell? ⟨w.heap.size + 2, k, none⟩ = some (.slice (some ⟨pb, 0, none⟩) (sC k) (sC k)) := vb
          have d7 : V2.drew.cell? ⟨x7, 0, none⟩ = some (.slice sa (sV k) sc) := e0
          have d8 : V2.drew.cell? ⟨x7, 1, none⟩ = some (.int .i64 sn) := e1
          have n1 : w.heap.size + 3 ≠ pb := by omega
          have n2 : w.heap.size + 2 ≠ pb := by omega
          clear v3 vb vz0 vz1 vf0 vf1 e0 e1
          go_region_held3 (fun u => u.cell? ⟨w.heap.size + 3, 0, none⟩ = some (.slice (some ⟨w.heap.size + 2, 0, none⟩) 32 32) ∧ u.cell? ⟨w.heap.size + 2, k, none⟩ = some (.slice (some ⟨pb, 0, none⟩) (sC k) (sC k)) ∧ u.cell? ⟨x7, 0, none⟩ = some (.slice sa (sV k) sc) ∧ u.cell? ⟨x7, 1, none⟩ = some (.int .i64 sn)) (((try dsimp only); first | assumption | (refine ⟨?_, ?_, ?_, ?_⟩ <;> first | assumption | go_keep) | go_keep)) ((go_at_call 48; refine (HCL.out _ (by (repeat (first | with_reducible assumption | with_reducible refine below_drew ?_ | with_reducible refine below_alloc ?_ ?_ _ | with_reducible refine below_set ?_ ?_ _ | exact Nat.le_refl _ | exact Below.size (by assumption))))).mono ?_; rintro e w3 ⟨g, c', rfl, ho, hbw, q3, qb, q7, q8, z0, z1, zf0, zf1⟩; have y3 : ((w3.setCell ⟨pb, c * 2, none⟩ (.slice (some ⟨g, 0, none⟩) (sV k) c')).setCell ⟨pb, c * 2 + 1, none⟩ (.int .i64 sn)).cell? ⟨w.heap.size + 3, 0, none⟩ = some (.slice (some ⟨w.heap.size + 2, 0, none⟩) 32 32) := far2 n1 q3; have yb : ((w3.setCell ⟨pb, c * 2, none⟩ (.slice (some ⟨g, 0, none⟩) (sV k) c')).setCell ⟨pb, c * 2 + 1, none⟩ (.int .i64 sn)).cell? ⟨w.heap.size + 2, k, none⟩ = some (.slice (some ⟨pb, 0, none⟩) (sC k) (sC k)) := far2 n2 qb; have y7 : ((w3.setCell ⟨pb, c * 2, none⟩ (.slice (some ⟨g, 0, none⟩) (sV k) c')).setCell ⟨pb, c * 2 + 1, none⟩ (.int .i64 sn)).cell? ⟨x7, 0, none⟩ = some (.slice sa (sV k) sc) := far2 hpx q7; have y8 : ((w3.setCell ⟨pb, c * 2, none⟩ (.slice (some ⟨g, 0, none⟩) (sV k) c')).setCell ⟨pb, c * 2 + 1, none⟩ (.int .i64 sn)).cell? ⟨x7, 1, none⟩ = some (.int .i64 sn) := far2 hpx q8))
          have hgl : V2.heap.size ≤ g := ho.lies.1
          have hgap : ∀ b o, (some ⟨g, 0, none⟩ : Option Addr) = some ⟨b, o, none⟩ → sC' ≠ [] → b ≠ w.heap.size + 2 ∧ ∀ q ∈ L2, b ≠ q.1 := fun b o h1 _ => by
            simp only [Option.some.injEq, Addr.mk.injEq, and_true] at h1
            exact ⟨by omega, fun q hq => by have := (HSTa.out.lie q hq).2.1; omega⟩
          have HPUT : Hid (St ((w3.setCell ⟨pb, c * 2, none⟩ (.slice (some ⟨g, 0, none⟩) (sV k) c')).setCell ⟨pb, c * 2 + 1, none⟩ (.int .i64 sn)) w.heap.size (w.heap.size + 2) (L2.set k (pb, pt.set c ⟨some ⟨g, 0, none⟩, c', sC', sn⟩))) := by
            have := (HSTa.out.to hbw).put HLK.out (by rw [HPL.out]; exact hcl) ⟨some ⟨g, 0, none⟩, c', sC', sn⟩ ho.sl hgap
            simp only [HSN.out] at this
            exact this
          have hWs : W.heap.size ≤ pb := by rw [HWs.out]; exact hbig
          have HKR3 : Hid (Kr (w.heap.size + 2) W ((w3.setCell ⟨pb, c * 2, none⟩ (.slice (some ⟨g, 0, none⟩) (sV k) c')).setCell ⟨pb, c * 2 + 1, none⟩ (.int .i64 sn))) := ((HKRa.out.to hbw).set ⟨pb, c * 2, none⟩ (.slice (some ⟨g, 0, none⟩) (sV k) c') (Or.inr hWs)).set ⟨pb, c * 2 + 1, none⟩ (.int .i64 sn) (Or.inr hWs)
          have HDK3 : Hid (Dk W.heap.size (L2.set k (pb, pt.set c ⟨some ⟨g, 0, none⟩, c', sC', sn⟩))) := fun r hr => by
            rcases St.mem_set HLK.out hr with e | e
            · subst e
              refine ⟨hWs, fun t ht b o h1 h2 => ?_⟩
              rcases List.mem_or_eq_of_mem_set ht with e2 | e2
              · exact (HDK.out _ hpK).2 t e2 b o h1 h2
              · subst e2
                simp only [Option.some.injEq, Addr.mk.injEq, and_true] at h1
                rw [HWs.out]; omega
            · exact HDK.out r e
          clear ho hbw q3 qb q7 q8 z0 z1 zf0 zf1 y3 yb y7 y8
          go_wp2_with fail
          go_roundw
          case rel =>
            refine ⟨c + 1, _, (pb, pt.set c ⟨some ⟨g, 0, none⟩, c', sC', sn⟩), by omega, by go_num, by rw [List.length_set]; exact HL2.out, by rw [List.getElem?_set_self (by rw [HL2.out]; omega)], by simp only [List.length_set]; exact HPL.out, HPUT.out, HDK3.out, fun j p q hj hp hq => ?_, fun m s t hm hs ht => ?_, HKR3.out⟩
            · rw [List.getElem?_set_ne (by omega)] at hq
              exact HAL.out j p q hj hp hq
            · simp only at ht
              rw [List.getElem?_set] at ht
              by_cases e : c = m
              · subst e
                rw [if_pos rfl, if_pos (by rw [HPL.out]; exact hcl)] at ht
                rw [HGS.out] at hs
                simp at ht hs; subst ht; subst hs; exact ⟨rfl, rfl⟩
              · rw [if_neg e] at ht
                exact HAC.out m s t (by omega) hs ht
          case measure => simp [intOf]; omega
        · have a3 : ¬ (c : Int) < (sC k : Int) := by omega
          have hcs : c = sC k := by omega
          go_wp2_with fail
          go_roundw
          case rel =>
            refine ⟨k + 1, L2, by omega, by go_num, HL2.out, HST.out, HDK.out, fun j p' q hp hq => ?_, HKR.out⟩
            by_cases hj : j < k
            · exact HAL.out j p' q hj hp hq
            · have hjk : j = k := by
                have := (List.getElem?_eq_some_iff.1 hq).1
                rw [HL2.out] at this
                omega
              subst hjk
              rw [HLK.out] at hq
              rw [HGK.out] at hp
              simp only [Option.some.injEq] at hq hp
              subst hq hp
              refine ⟨by show p.2.length = st.length; rw [HPL.out, HPS.out], fun m s t hs ht => HAC.out m s t ?_ hs ht⟩
              have := (List.getElem?_eq_some_iff.1 ht).1
              rw [HPL.out] at this; omega
          case measure => simp [intOf]; omega
    · have hk' : k = 32 := by omega
      subst hk'
      have b1 : ¬ ((32 : Nat) : Int) < 32 := by omega
      go_wp2_with fail
      refine bodyPost_ret (v := .agg #[.slice (some ⟨w.heap.size + 2, 0, none⟩) 32 32]) (by simp [results, Tryz.results22, go_sem, x2]) rfl ⟨w.heap.size + 2, L, rfl, ?_, ⟨by rw [HLL.out, HOK.out.1], HAL.out⟩, HDK.out.mono (by rw [HWs.out]; omega), ?_⟩
      · refine HST.out.far _ _ (by simp) (fun p hp e => ?_) (fun p hp t ht b o h1 h2 e => ?_)
        · have := (HDK.out p hp).1; rw [HWs.out] at this; simp at e; omega
        · have := (HDK.out p hp).2 t ht b o h1 h2; rw [HWs.out] at this; simp at e; omega
      · exact below_set (HBW.out.trans (HKR.out.below (B := w.heap.size) (by omega) (by rw [HWs.out]; omega))) (by simp) _

end Go.Proofs.YtppanogpeengnabGreatDoor
