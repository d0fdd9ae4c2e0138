/- DERIVED. The shapes of the kinds; the walks of Shape and first. -/
import Derived.Test.YtppanogpeengnabGreatDoorL3Th
import Derived.Deep.RegionHeld3
import Derived.Deep.RegionLaw
namespace Go.Proofs.YtppanogpeengnabGreatDoor
open Go.RowKit L3

/-- contexts, values, whether steep -/
def shp : List (Nat × Nat × Bool) := [(8, 10, false), (4, 8, false), (3, 2, false), (3, 2, false), (4, 13, false), (8, 7, false), (1, 13, false), (1, 14, false), (1, 8, false), (2, 16, true), (1, 2, false), (3, 3, false), (3, 9, false), (1, 2, false), (3, 3, false), (1, 2, false), (3, 4, false), (1, 4, false), (2, 11, true), (2, 8, false), (1, 3, false), (1, 2, false), (4, 2, false), (2, 5, false), (2, 7, false), (2, 9, false), (2, 11, false), (2, 3, true), (10, 4, true), (14, 4, true), (6, 2, false), (3, 2, false)]
def sC (k : Nat) : Nat := (shp.getD k (0, 0, false)).1
def sV (k : Nat) : Nat := (shp.getD k (0, 0, false)).2.1
def sS (k : Nat) : Bool := (shp.getD k (0, 0, false)).2.2
theorem sC_le : ∀ k, k < 32 → 1 ≤ sC k ∧ sC k ≤ 14 := by decide +kernel
theorem sV_le : ∀ k, k < 32 → 2 ≤ sV k ∧ sV k ≤ 16 := by decide +kernel
/-- the table of shapes lies in its block -/
structure Sh (w : World) : Prop where
  low : 0 < w.heap.size
  c : ∀ k, k < 32 → w.cell? ⟨0, k * 3, none⟩ = some (.int .i64 (sC k : Nat))
  v : ∀ k, k < 32 → w.cell? ⟨0, k * 3 + 1, none⟩ = some (.int .i64 (sV k : Nat))
  s : ∀ k, k < 32 → w.cell? ⟨0, k * 3 + 2, none⟩ = some (.bool (sS k))
theorem Sh.below {B : Nat} {w w' : World} (h : Sh w) (hb : Below B w w') (hB : 0 < B) : Sh w' :=
  ⟨Nat.lt_of_lt_of_le h.low hb.size, fun k hk => by rw [newCell hb _ _ hB]; exact h.c k hk, fun k hk => by rw [newCell hb _ _ hB]; exact h.v k hk, fun k hk => by rw [newCell hb _ _ hB]; exact h.s k hk⟩
theorem Sh.to {w w' : World} (h : Sh w) (hb : Below w.heap.size w w') : Sh w' := h.below hb h.low

set_option maxHeartbeats 1000000 in
theorem shape_ok {w : World} {k : Nat} (h : Sh w) (hk : k < 32) :
    Calls Tryz.prog 10 #[.int .i64 k] w fun e w' => e = .returned (.tuple #[.int .i64 (sC k : Nat), .int .i64 (sV k : Nat), .int .i64 0]) ∧ Below w.heap.size w w' := by
  have c0 := h.c k hk
  have c1 := h.v k hk
  have b0 : 0 ≤ (k : Int) := by omega
  have b1 : (k : Int) < 32 := by omega
  have hB : Hid (Below w.heap.size w w) := Below.refl _ _
  generalize sC k = C at *
  generalize sV k = V at *
  clear h
  go_enter Tryz.func10, Tryz.ntmps10
  go_wp2_with fail
  go_quiet (fail)
  have HQ : Hid (Below w.heap.size w (w.drewN nq)) := below_drewN hB.out nq
  go_wp2_with fail
  exact bodyPost_ret (v := .tuple #[.int .i64 (C : Nat), .int .i64 (V : Nat), .int .i64 0]) (by simp [results, Tryz.results10, go_sem]) rfl ⟨rfl, HQ.out⟩

set_option maxHeartbeats 1000000 in
theorem shape_no {w : World} {k : Int} (hk : k < 0 ∨ 32 ≤ k) :
    Calls Tryz.prog 10 #[.int .i64 k] w fun e w' => e = .returned (.tuple #[.int .i64 0, .int .i64 0, .int .i64 41]) ∧ Below w.heap.size w w' := by
  have hB : Hid (Below w.heap.size w w) := Below.refl _ _
  rcases hk with hk | hk
  · go_enter Tryz.func10, Tryz.ntmps10
    go_wp2_with fail
    exact bodyPost_ret (v := .tuple #[.int .i64 0, .int .i64 0, .int .i64 41]) (by simp [results, Tryz.results10, go_sem]) rfl ⟨rfl, hB.out⟩
  · have h0 : ¬ k < 0 := by omega
    go_enter Tryz.func10, Tryz.ntmps10
    go_wp2_with fail
    exact bodyPost_ret (v := .tuple #[.int .i64 0, .int .i64 0, .int .i64 41]) (by simp [results, Tryz.results10, go_sem]) rfl ⟨rfl, hB.out⟩

/-- the numbers of the table that a kind begins with -/
def dfC (k : Nat) : List Nat := if sS k then stC (sV k) else flC (sV k)
theorem dfC_len (k : Nat) : (dfC k).length = sV k := by unfold dfC; split; exact stC_len _; exact flC_len _
def tokB (C : List Nat) : Bool := decide (2 ≤ C.length) && decide (C.length ≤ 16) && decide (C.getD (C.length - 1) 0 = 32768) && (List.range C.length).all fun i => i == 0 || decide (C.getD (i - 1) 0 ≤ C.getD i 0)
theorem tok_of {C : List Nat} (h : tokB C = true) : TOk C 0 := by
  simp only [tokB, Bool.and_eq_true, decide_eq_true_eq, List.all_eq_true, List.mem_range, Bool.or_eq_true, beq_iff_eq] at h
  exact ⟨h.1.1.1, h.1.1.2, h.1.2, by omega, by omega, fun i h1 h2 => by rcases h.2 i h2 with e | e; omega; exact e⟩
theorem dfC_all : ∀ k, k < 32 → tokB (dfC k) = true := by decide +kernel
theorem dfC_ok (k : Nat) (hk : k < 32) : TOk (dfC k) 0 := tok_of (dfC_all k hk)

/-- a table that is answered alone, in new memory -/
def T1 (w w' : World) (e : Ending) (C : List Nat) (n : Int) : Prop := ∃ g c, e = .returned (.agg #[.slice (some ⟨g, 0, none⟩) C.length c, .int .i64 n]) ∧ Ow w' w.heap.size g C.length c C ∧ Below w.heap.size w w'

set_option maxRecDepth 100000 in
set_option maxHeartbeats 1000000 in
theorem first_any {w : World} {k : Nat} (h : Sh w) (hk : k < 32) : Calls Tryz.prog 31 #[.int .i64 k] w fun e w' => T1 w w' e (dfC k) 0 := by
  obtain ⟨v1, v2⟩ := sV_le k hk
  have HSH : Hid (Sh (w.alloc (.cells #[.slice none 0 0, .int .i64 0] 59))) := h.to (from_alloc _ _)
  have HBW : Hid (Below w.heap.size w (w.alloc (.cells #[.slice none 0 0, .int .i64 0] 59))) := from_alloc _ _
  have HZ : Hid ((w.alloc (.cells #[.slice none 0 0, .int .i64 0] 59)).cell? ⟨w.heap.size, 0, none⟩ = some (.slice none 0 0) ∧ (w.alloc (.cells #[.slice none 0 0, .int .i64 0] 59)).cell? ⟨w.heap.size, 1, none⟩ = some (.int .i64 0) ∧ (w.alloc (.cells #[.slice none 0 0, .int .i64 0] 59)).frozen? ⟨w.heap.size, 0, none⟩ = false ∧ (w.alloc (.cells #[.slice none 0 0, .int .i64 0] 59)).frozen? ⟨w.heap.size, 1, none⟩ = false) := by unfold Hid; simp
  have HWs : Hid ((w.alloc (.cells #[.slice none 0 0, .int .i64 0] 59)).heap.size = w.heap.size + 1) := by unfold Hid; simp
  have c1 := HSH.out.v k hk
  have c2 := HSH.out.s k hk
  have b0 : 0 ≤ (k : Int) := by omega
  have b1 : (k : Int) < 32 := by omega
  have HD : Hid (dfC k = if sS k then stC (sV k) else flC (sV k)) := rfl
  have HL : Hid ((dfC k).length = sV k) := dfC_len k
  generalize dfC k = DC at *
  clear h
  cases hs : sS k
  all_goals
    rw [hs] at c2
    go_enter Tryz.func31, Tryz.ntmps31
    go_wp2_with fail
    generalize w.alloc (.cells #[.slice none 0 0, .int .i64 0] 59) = W at *
    first
      | (have hd : DC = flC (sV k) := by rw [HD.out, hs]; rfl
         refine (flat_ok (n := sV k) v1 v2).mono ?_
         rw [← hd])
      | (have hd : DC = stC (sV k) := by rw [HD.out, hs]; rfl
         refine (steep_ok (n := sV k) v1 v2).mono ?_
         rw [← hd])
    rintro e w1 ⟨g, c, rfl, ho, hb⟩
    rw [HL.out] at ho ⊢
    have HB1 : Hid (Below W.heap.size W (w1.alloc (.cells #[.slice (some ⟨g, 0, none⟩) (sV k) c, .int .i64 0] 59))) := to_alloc hb _
    have HO1 : Hid (Ow (w1.alloc (.cells #[.slice (some ⟨g, 0, none⟩) (sV k) c, .int .i64 0] 59)) W.heap.size g (sV k) c DC) := ho.to (from_alloc _ _)
    have d0 : (w1.alloc (.cells #[.slice (some ⟨g, 0, none⟩) (sV k) c, .int .i64 0] 59)).cell? ⟨w.heap.size, 0, none⟩ = some (.slice none 0 0) := by rw [newCell HB1.out _ _ (by rw [HWs.out]; omega)]; exact HZ.out.1
    have d1 : (w1.alloc (.cells #[.slice (some ⟨g, 0, none⟩) (sV k) c, .int .i64 0] 59)).cell? ⟨w.heap.size, 1, none⟩ = some (.int .i64 0) := by rw [newCell HB1.out _ _ (by rw [HWs.out]; omega)]; exact HZ.out.2.1
    have f0 : (w1.alloc (.cells #[.slice (some ⟨g, 0, none⟩) (sV k) c, .int .i64 0] 59)).frozen? ⟨w.heap.size, 0, none⟩ = false := by rw [newFrozen HB1.out _ _ (by rw [HWs.out]; omega)]; exact HZ.out.2.2.1
    have f1 : (w1.alloc (.cells #[.slice (some ⟨g, 0, none⟩) (sV k) c, .int .i64 0] 59)).frozen? ⟨w.heap.size, 1, none⟩ = false := by rw [newFrozen HB1.out _ _ (by rw [HWs.out]; omega)]; exact HZ.out.2.2.2
    have e0 : (w1.alloc (.cells #[.slice (some ⟨g, 0, none⟩) (sV k) c, .int .i64 0] 59)).cell? ⟨w1.heap.size, 0, none⟩ = some (.slice (some ⟨g, 0, none⟩) (sV k) c) := by simp
    have e1 : (w1.alloc (.cells #[.slice (some ⟨g, 0, none⟩) (sV k) c, .int .i64 0] 59)).cell? ⟨w1.heap.size, 1, none⟩ = some (.int .i64 0) := by simp
    clear ho hb hd
    go_wp2_with fail
    generalize (w1.alloc (.cells #[.slice (some ⟨g, 0, none⟩) (sV k) c, .int .i64 0] 59)) = V at *
    refine bodyPost_ret (v := .agg #[.slice (some ⟨g, 0, none⟩) (sV k) c, .int .i64 0]) (by simp [results, Tryz.results31, go_sem, d0, d1]) rfl ⟨g, c, by rw [HL.out], ?_, ?_⟩
    · have := HO1.out.lies.1
      rw [HL.out]
      exact ((HO1.out.far (by rw [HWs.out] at this; simp; omega) _).far (by rw [HWs.out] at this; simp; omega) _).mono (by rw [HWs.out]; omega)
    · exact below_set (below_set (HBW.out.trans (HB1.out.mono (by rw [HWs.out]; omega))) (by simp) _) (by simp) _

end Go.Proofs.YtppanogpeengnabGreatDoor
