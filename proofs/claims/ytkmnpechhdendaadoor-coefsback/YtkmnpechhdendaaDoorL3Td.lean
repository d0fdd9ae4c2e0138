/- DERIVED. The walks of filled, Flat and Steep. -/
import Derived.Test.YtkmnpechhdendaaDoorL3Tc
namespace Go.Proofs.YtkmnpechhdendaaDoor.L3
open Go.RowKit

theorem Tryd.info82 : (Tryd.prog.info? 82).map (fun i => (i.zero, i.size, i.bytes)) = some (some (.int .u16 0), 1, 2) := by kernel_rfl

/-- a table whose first k elements are set -/
def part (f : Nat → Nat) (n k : Nat) : List Nat := (List.range n).map fun j => if j < k then f j else 0
theorem part_len (f : Nat → Nat) (n k : Nat) : (part f n k).length = n := by simp [part]
theorem part_get (f : Nat → Nat) (n k j : Nat) (h : j < n) : (part f n k).getD j 0 = if j < k then f j else 0 := range_getD _ h
theorem part_set (f : Nat → Nat) (n k : Nat) (h : k < n) : (part f n k).set k (f k) = part f n (k + 1) := by
  refine list_eq_of_getD (by simp [part]) fun j hj => ?_
  rw [List.length_set, part_len] at hj
  rw [part_get _ _ _ _ hj, List.getD_eq_getElem?_getD, List.getElem?_set]
  by_cases e : k = j
  · subst e; rw [if_pos rfl, if_pos (by rw [part_len]; exact h)]; simp
  · rw [if_neg e, ← List.getD_eq_getElem?_getD, part_get _ _ _ _ hj]
    by_cases g : j < k
    · rw [if_pos g, if_pos (by omega)]
    · rw [if_neg g, if_neg (by omega)]
theorem part_zero (f : Nat → Nat) (n : Nat) : ns .u16 (part f n 0) = (madeCells (Value.int .u16 0).cells (n * 1)).toList := by
  refine List.ext_getElem (by simp [part, ns, madeCells]) fun j h1 h2 => ?_
  simp [part, ns, madeCells, Value.cells, Nat.mod_one]

/-- a row of 16-bit numbers that the call itself made -/
structure Ow (w : World) (B g n c : Nat) (C : List Nat) : Prop where
  own : w.ownsRow B 82 1 (.slice (some ⟨g, 0, none⟩) n c) n (ns .u16 C)
theorem Ow.set {w : World} {B g n c : Nat} {C : List Nat} (h : Ow w B g n c C) (k x : Nat) : Ow (w.setCell ⟨g, k, none⟩ (.int .u16 (x : Int))) B g n c (C.set k x) := by
  refine ⟨?_⟩; rw [ns_set]; exact (World.ownsRow.stored h.own k (.int .u16 (x : Int))).1
theorem Ow.far {w : World} {B g n c : Nat} {C : List Nat} (h : Ow w B g n c C) {a : Addr} (ha : g ≠ a.block) (u : Value) : Ow (w.setCell a u) B g n c C := ⟨own_set_far h.own (by simp [Value.ownBlock]; exact ha) u⟩
theorem Ow.len {w : World} {B g n c : Nat} {C : List Nat} (h : Ow w B g n c C) : C.length = n := by have := h.own.1; rw [ns_length] at this; omega
theorem Ow.cell {w : World} {B g n c : Nat} {C : List Nat} (h : Ow w B g n c C) (j : Nat) (hj : j < n) : w.cell? ⟨g, j, none⟩ = some (.int .u16 (C.getD j 0 : Nat)) := by
  have hl := h.len
  rw [h.own.cellAt j (by omega)]; exact ns_get _ _ _ (by omega)
theorem Ow.thaw {w : World} {B g n c : Nat} {C : List Nat} (h : Ow w B g n c C) (j : Nat) : w.frozen? ⟨g, j, none⟩ = false := own_thaw h.own j
theorem Ow.lies {w : World} {B g n c : Nat} {C : List Nat} (h : Ow w B g n c C) : B ≤ g ∧ g < w.heap.size := h.own.lt g rfl
theorem Ow.cap {w : World} {B g n c : Nat} {C : List Nat} (h : Ow w B g n c C) : n ≤ c := own_cap h.own
theorem Ow.to {w w' : World} {B g n c : Nat} {C : List Nat} (h : Ow w B g n c C) (hb : Below w.heap.size w w') : Ow w' B g n c C := ⟨own_below h.own hb⟩
theorem Ow.carry {w w' : World} {B g n c : Nat} {C : List Nat} (h : Ow w B g n c C) (hb : w'.heap[g]? = w.heap[g]?) : Ow w' B g n c C := ⟨own_carry h.own fun k hk => by simp [Value.ownBlock] at hk; subst hk; exact hb⟩
theorem Ow.mono {w : World} {B B' g n c : Nat} {C : List Nat} (h : Ow w B g n c C) (hb : B' ≤ B) : Ow w B' g n c C := by
  refine ⟨h.own.1, ?_⟩
  rcases h.own.2 with h1 | ⟨g', cap, cur, h1, h2, h3⟩
  · exact Or.inl h1
  · exact Or.inr ⟨g', cap, cur, h1, Nat.le_trans hb h2, h3⟩
theorem Ow.sl {w : World} {B g n c : Nat} {C : List Nat} (h : Ow w B g n c C) : Sl w .u16 (some ⟨g, 0, none⟩) C := by
  refine Or.inr ⟨g, 0, rfl, h.lies.2, fun j hj => ?_⟩
  rw [Nat.zero_add]; exact h.cell j (by rw [← h.len]; exact hj)

/-- a table of the list C with Count n, in new memory -/
def Tn (w w' : World) (e : Ending) (C : List Nat) (n : Int) : Prop := ∃ g c, e = .returned (.tuple #[.agg #[.slice (some ⟨g, 0, none⟩) C.length c, .int .i64 n], .int .i64 0]) ∧ Ow w' w.heap.size g C.length c C ∧ Below w.heap.size w w'

def FiInv (w : World) (B : Nat) (f : Nat → Nat) (n g : Nat) (i : Value) (wr : World) : Prop :=
  ∃ k : Nat, k + 1 ≤ n ∧ i = .int .i64 k ∧ Ow wr B g n n (part f n k) ∧ Below B w wr

/-- Flat's elements -/
def fl (n j : Nat) : Nat := 32768 * (j + 1) / n
theorem fl_le {n j : Nat} (h : j < n) : fl n j ≤ 32768 := by
  unfold fl
  exact Nat.div_le_of_le_mul (by rw [Nat.mul_comm n]; exact Nat.mul_le_mul_left _ (by omega))
theorem fl_last {n j : Nat} (h : j + 1 = n) : fl n j = 32768 := by
  unfold fl; rw [h]; exact Nat.mul_div_cancel _ (by omega)
theorem fl_val {n k : Nat} (h : k < n) : IntKind.u16.wrap (32768 * ((k : Int) + 1) / (n : Int)) = ((fl n k : Nat) : Int) := by
  have := fl_le h
  have e : 32768 * ((k : Int) + 1) / (n : Int) = ((fl n k : Nat) : Int) := by unfold fl; rw [Int.natCast_ediv, Int.natCast_mul, Int.natCast_add]; rfl
  rw [e, IntKind.wrap_u16]
  generalize fl n k = q at *
  omega
/-- Steep's elements -/
def st (n j : Nat) : Nat := if j + 1 = n then 32768 else 32768 - 32768 / 2 ^ (j + 1)
theorem st_le {n j : Nat} : st n j ≤ 32768 := by unfold st; split; exact Nat.le_refl _; exact Nat.sub_le _ _
theorem st_last {n j : Nat} (h : j + 1 = n) : st n j = 32768 := by unfold st; rw [if_pos h]

theorem st_all : ∀ k : Nat, k < 15 → IntKind.u16.wrap (wrap64 (32768 - (32768 : Int) / 2 ^ (k + 1))) = ((32768 - 32768 / 2 ^ (k + 1) : Nat) : Int) := by decide +kernel
theorem st_val {n k : Nat} (h : k + 1 < n) (hn : n ≤ 16) : IntKind.u16.wrap (wrap64 (32768 - (32768 : Int) / 2 ^ (k + 1))) = ((st n k : Nat) : Int) := by
  rw [st_all k (by omega)]; unfold st; rw [if_neg (by omega)]

set_option maxRecDepth 100000 in
set_option maxHeartbeats 1000000 in
theorem filled_flat {w : World} {n x : Nat} (h0 : 2 ≤ n) (h1 : n ≤ 16) (hx : x < w.heap.size) (hc : w.cell? ⟨x, 0, none⟩ = some (.int .i64 n)) :
    Calls Tryd.prog 48 #[.int .i64 n, .func (.func 49) #[] #[.pointer (some ⟨x, 0, none⟩)]] w fun e w' => Tn w w' e (part (fl n) n n) 0 := by
  obtain ⟨i, hi, hz0, hz1, hz2⟩ := info_parts Tryd.info82
  have i0 : ¬ (n : Int) < 2 := by omega
  have i1 : ¬ (16 : Int) < (n : Int) := by omega
  go_enter Tryd.func48, Tryd.ntmps48
  go_wp2_with (at_make; refine wpList_make_full _ (by rfl) _ _ _ (by rfl) (w.heap.size + 1) 82 i (.int .u16 0) 1 Tryd.underlying57 hi hz0 hz1 .i64 .i64 _ _ n (by rfl) (by rfl) rfl rfl (by rw [hz2]; omega) (by unfold maxLen; omega) (by simp) ?_; intro w1 hown hgrow)
  rw [← part_zero (fl n), show (w.alloc (.cells #[.slice none 0 0, .int .i64 0] 59)).heap.size = w.heap.size + 1 from by simp] at hown
  have hB : Below (w.heap.size + 1) (w.alloc (.cells #[.slice none 0 0, .int .i64 0] 59)) w1 := (Below.refl _ _).grown hgrow (by simp) (fun k hk => by cases hk)
  clear hgrow
  go_wp2_with fail
  go_loopw [19] (fun i wr => FiInv (w.alloc (.cells #[.slice none 0 0, .int .i64 0] 59)) (w.heap.size + 1) (fl n) n (w.heap.size + 1) i wr) (fun i _ => n - (intOf i).toNat)
  case atStart => exact ⟨0, by omega, rfl, ⟨hown⟩, hB⟩
  case round =>
    obtain ⟨k, hk, rfl, ho, hb⟩ := hrel
    clear hown hB
    have c1 : wr.cell? ⟨w.heap.size + 1, k, none⟩ = some (.int .u16 0) := by
      rw [ho.cell k (by omega), part_get _ _ _ _ (by omega), if_neg (by omega)]; rfl
    have c2 := ho.thaw k
    have HO : Hid _ := ho
    have HB : Hid _ := hb
    have b0 : 0 ≤ (k : Int) := by omega
    have b2 : (0 : Int) < (n : Int) := by omega
    have b3 : (n : Int) ≤ 16 := by omega
    have HPT := part_set (fl n) n k (by omega)
    by_cases hlt : k + 1 < n
    · have b1 : (k : Int) < (n : Int) - 1 := by omega
      have c0 : wr.cell? ⟨x, 0, none⟩ = some (.int .i64 n) := by
        rw [newCell hb _ _ (by omega), World.cell?_alloc_lt _ _ _ hx]; exact hc
      have HPT' : Hid _ := HPT
      clear ho hb HPT
      go_wp2
      go_roundw
      case rel =>
        refine ⟨k + 1, by omega, by go_num, ?_, below_set HB.out (by simp) _⟩
        rw [fl_val (by omega), ← HPT'.out]
        exact HO.out.set k (fl n k)
      case measure => simp [intOf]; omega
    · have b1 : ¬ (k : Int) < (n : Int) - 1 := by omega
      have b4 : ((n : Int) - 1).toNat = k := by omega
      have b5 : (0 : Int) ≤ (n : Int) - 1 := by omega
      have b6 : (n : Int) - 1 < (n : Int) := by omega
      have d0 : wr.cell? ⟨w.heap.size, 0, none⟩ = some (.slice none 0 0) := by rw [newCell hb _ _ (by omega)]; simp
      have d1 : wr.cell? ⟨w.heap.size, 1, none⟩ = some (.int .i64 0) := by rw [newCell hb _ _ (by omega)]; simp
      have f0 : wr.frozen? ⟨w.heap.size, 0, none⟩ = false := by rw [newFrozen hb _ _ (by omega)]; simp
      have f1 : wr.frozen? ⟨w.heap.size, 1, none⟩ = false := by rw [newFrozen hb _ _ (by omega)]; simp
      rw [show fl n k = 32768 from fl_last (by omega), show k + 1 = n from by omega] at HPT
      have HPT' : Hid _ := HPT
      clear ho hb HPT
      go_wp2
      refine bodyPost_ret (v := .tuple #[.agg #[.slice (some ⟨w.heap.size + 1, 0, none⟩) n n, .int .i64 0], .int .i64 0]) (by simp [results, Tryd.results48, go_sem, d0, d1]) rfl ?_
      have ho2 := HO.out.set k 32768
      rw [HPT'.out] at ho2
      refine ⟨w.heap.size + 1, n, by rw [part_len], ?_, ?_⟩
      · rw [part_len]
        exact ((ho2.far (by simp) _).far (by simp) _).mono (by omega)
      · exact below_set (below_set (below_set (((Below.refl _ _).alloc (Nat.le_refl _) _).trans (HB.out.mono (by omega))) (by simp) _) (by simp) _) (by simp) _

set_option maxRecDepth 100000 in
set_option maxHeartbeats 1000000 in
theorem filled_steep {w : World} {n : Nat} (h0 : 2 ≤ n) (h1 : n ≤ 16) :
    Calls Tryd.prog 48 #[.int .i64 n, .func (.func 50) #[] #[]] w fun e w' => Tn w w' e (part (st n) n n) 0 := by
  obtain ⟨i, hi, hz0, hz1, hz2⟩ := info_parts Tryd.info82
  have i0 : ¬ (n : Int) < 2 := by omega
  have i1 : ¬ (16 : Int) < (n : Int) := by omega
  go_enter Tryd.func48, Tryd.ntmps48
  go_wp2_with (at_make; refine wpList_make_full _ (by rfl) _ _ _ (by rfl) (w.heap.size + 1) 82 i (.int .u16 0) 1 Tryd.underlying57 hi hz0 hz1 .i64 .i64 _ _ n (by rfl) (by rfl) rfl rfl (by rw [hz2]; omega) (by unfold maxLen; omega) (by simp) ?_; intro w1 hown hgrow)
  rw [← part_zero (st n), show (w.alloc (.cells #[.slice none 0 0, .int .i64 0] 59)).heap.size = w.heap.size + 1 from by simp] at hown
  have hB : Below (w.heap.size + 1) (w.alloc (.cells #[.slice none 0 0, .int .i64 0] 59)) w1 := (Below.refl _ _).grown hgrow (by simp) (fun k hk => by cases hk)
  clear hgrow
  go_wp2_with fail
  go_loopw [19] (fun i wr => FiInv (w.alloc (.cells #[.slice none 0 0, .int .i64 0] 59)) (w.heap.size + 1) (st n) n (w.heap.size + 1) i wr) (fun i _ => n - (intOf i).toNat)
  case atStart => exact ⟨0, by omega, rfl, ⟨hown⟩, hB⟩
  case round =>
    obtain ⟨k, hk, rfl, ho, hb⟩ := hrel
    clear hown hB
    have c1 : wr.cell? ⟨w.heap.size + 1, k, none⟩ = some (.int .u16 0) := by
      rw [ho.cell k (by omega), part_get _ _ _ _ (by omega), if_neg (by omega)]; rfl
    have c2 := ho.thaw k
    have HO : Hid _ := ho
    have HB : Hid _ := hb
    have b0 : 0 ≤ (k : Int) := by omega
    have b2 : (0 : Int) < (n : Int) := by omega
    have b3 : (n : Int) ≤ 16 := by omega
    have HPT := part_set (st n) n k (by omega)
    by_cases hlt : k + 1 < n
    · have b1 : (k : Int) < (n : Int) - 1 := by omega
      have HPT' : Hid _ := HPT
      clear ho hb HPT
      go_wp2
      go_roundw
      case rel =>
        refine ⟨k + 1, by omega, by go_num, ?_, below_set HB.out (by simp) _⟩
        rw [st_val hlt h1, ← HPT'.out]
        exact HO.out.set k (st n k)
      case measure => simp [intOf]; omega
    · have b1 : ¬ (k : Int) < (n : Int) - 1 := by omega
      have b4 : ((n : Int) - 1).toNat = k := by omega
      have b5 : (0 : Int) ≤ (n : Int) - 1 := by omega
      have b6 : (n : Int) - 1 < (n : Int) := by omega
      have d0 : wr.cell? ⟨w.heap.size, 0, none⟩ = some (.slice none 0 0) := by rw [newCell hb _ _ (by omega)]; simp
      have d1 : wr.cell? ⟨w.heap.size, 1, none⟩ = some (.int .i64 0) := by rw [newCell hb _ _ (by omega)]; simp
      have f0 : wr.frozen? ⟨w.heap.size, 0, none⟩ = false := by rw [newFrozen hb _ _ (by omega)]; simp
      have f1 : wr.frozen? ⟨w.heap.size, 1, none⟩ = false := by rw [newFrozen hb _ _ (by omega)]; simp
      rw [show st n k = 32768 from st_last (by omega), show k + 1 = n from by omega] at HPT
      have HPT' : Hid _ := HPT
      clear ho hb HPT
      go_wp2
      refine bodyPost_ret (v := .tuple #[.agg #[.slice (some ⟨w.heap.size + 1, 0, none⟩) n n, .int .i64 0], .int .i64 0]) (by simp [results, Tryd.results48, go_sem, d0, d1]) rfl ?_
      have ho2 := HO.out.set k 32768
      rw [HPT'.out] at ho2
      refine ⟨w.heap.size + 1, n, by rw [part_len], ?_, ?_⟩
      · rw [part_len]
        exact ((ho2.far (by simp) _).far (by simp) _).mono (by omega)
      · exact below_set (below_set (below_set (((Below.refl _ _).alloc (Nat.le_refl _) _).trans (HB.out.mono (by omega))) (by simp) _) (by simp) _) (by simp) _

set_option maxHeartbeats 400000 in
theorem filled_no {w : World} {n : Int} {f : Value} (h : n < 2 ∨ 16 < n) :
    Calls Tryd.prog 48 #[.int .i64 n, f] w fun e w' => e = .returned (.tuple #[.agg #[.slice none 0 0, .int .i64 0], .int .i64 2]) ∧ Below w.heap.size w w' := by
  rcases h with h | h
  · go_enter Tryd.func48, Tryd.ntmps48
    go_wp2_with fail
    exact bodyPost_ret (v := .tuple #[.agg #[.slice none 0 0, .int .i64 0], .int .i64 2]) (by simp [results, Tryd.results48, go_sem]) rfl ⟨rfl, by go_grown⟩
  · have h' : ¬ n < 2 := by omega
    go_enter Tryd.func48, Tryd.ntmps48
    go_wp2_with fail
    exact bodyPost_ret (v := .tuple #[.agg #[.slice none 0 0, .int .i64 0], .int .i64 2]) (by simp [results, Tryd.results48, go_sem]) rfl ⟨rfl, by go_grown⟩

def flC (n : Nat) : List Nat := part (fl n) n n
def stC (n : Nat) : List Nat := part (st n) n n
theorem flC_len (n : Nat) : (flC n).length = n := part_len _ _ _
theorem stC_len (n : Nat) : (stC n).length = n := part_len _ _ _
theorem flC_get (n j : Nat) (h : j < n) : (flC n).getD j 0 = fl n j := by unfold flC; rw [part_get _ _ _ _ h, if_pos h]
theorem stC_get (n j : Nat) (h : j < n) : (stC n).getD j 0 = st n j := by unfold stC; rw [part_get _ _ _ _ h, if_pos h]

set_option maxRecDepth 100000 in
set_option maxHeartbeats 400000 in
theorem flat_ok {w : World} {n : Nat} (h0 : 2 ≤ n) (h1 : n ≤ 16) :
    Calls Tryd.prog 34 #[.int .i64 n] w fun e w' => Tn w w' e (flC n) 0 := by
  go_enter Tryd.func34, Tryd.ntmps34
  go_wp2_with fail
  refine (filled_flat (x := w.heap.size) h0 h1 (by simp; omega) (by simp)).mono ?_
  rintro e w1 ⟨g, c, rfl, ho, hb⟩
  have d0 : w1.cell? ⟨w.heap.size + 1, 0, none⟩ = some (.slice none 0 0) := by rw [newCell hb _ _ (by simp)]; simp
  have d1 : w1.cell? ⟨w.heap.size + 1, 1, none⟩ = some (.int .i64 0) := by rw [newCell hb _ _ (by simp)]; simp
  have f0 : w1.frozen? ⟨w.heap.size + 1, 0, none⟩ = false := by rw [newFrozen hb _ _ (by simp)]; simp
  have f1 : w1.frozen? ⟨w.heap.size + 1, 1, none⟩ = false := by rw [newFrozen hb _ _ (by simp)]; simp
  have hgl := ho.lies.1
  rw [show ((w.alloc (.cells #[.int .i64 n] 3)).alloc (.cells #[.slice none 0 0, .int .i64 0] 59)).heap.size = w.heap.size + 1 + 1 from by simp] at hgl
  have HO : Hid _ := ho
  have HB : Hid _ := hb
  clear ho hb
  go_wp2_with fail
  refine bodyPost_ret (v := .tuple #[.agg #[.slice (some ⟨g, 0, none⟩) (flC n).length c, .int .i64 0], .int .i64 0]) (by simp [results, Tryd.results34, go_sem, d0, d1, flC]) rfl ?_
  refine ⟨g, c, rfl, ?_, ?_⟩
  · exact ((HO.out.far (by simp; omega) _).far (by simp; omega) _).mono (by simp; try omega)
  · exact below_set (below_set ((below_alloc ((Below.refl _ _).alloc (Nat.le_refl _) _) (Nat.le_refl _) _).trans (HB.out.mono (by simp; try omega))) (by simp) _) (by simp) _

set_option maxRecDepth 100000 in
set_option maxHeartbeats 400000 in
theorem flat_no {w : World} {n : Int} (h : n < 2 ∨ 16 < n) :
    Calls Tryd.prog 34 #[.int .i64 n] w fun e w' => e = .returned (.tuple #[.agg #[.slice none 0 0, .int .i64 0], .int .i64 2]) ∧ Below w.heap.size w w' := by
  have HH : Hid _ := h
  clear h
  go_enter Tryd.func34, Tryd.ntmps34
  go_wp2_with fail
  refine (filled_no HH.out).mono ?_
  rintro e w1 ⟨rfl, hb⟩
  have d0 : w1.cell? ⟨w.heap.size + 1, 0, none⟩ = some (.slice none 0 0) := by rw [newCell hb _ _ (by simp)]; simp
  have d1 : w1.cell? ⟨w.heap.size + 1, 1, none⟩ = some (.int .i64 0) := by rw [newCell hb _ _ (by simp)]; simp
  have f0 : w1.frozen? ⟨w.heap.size + 1, 0, none⟩ = false := by rw [newFrozen hb _ _ (by simp)]; simp
  have f1 : w1.frozen? ⟨w.heap.size + 1, 1, none⟩ = false := by rw [newFrozen hb _ _ (by simp)]; simp
  have HB : Hid _ := hb
  clear hb
  go_wp2_with fail
  refine bodyPost_ret (v := .tuple #[.agg #[.slice none 0 0, .int .i64 0], .int .i64 2]) (by simp [results, Tryd.results34, go_sem, d0, d1]) rfl ⟨rfl, ?_⟩
  exact below_set (below_set ((below_alloc ((Below.refl _ _).alloc (Nat.le_refl _) _) (Nat.le_refl _) _).trans (HB.out.mono (by simp; try omega))) (by simp) _) (by simp) _

set_option maxRecDepth 100000 in
set_option maxHeartbeats 400000 in
theorem steep_ok {w : World} {n : Nat} (h0 : 2 ≤ n) (h1 : n ≤ 16) :
    Calls Tryd.prog 35 #[.int .i64 n] w fun e w' => Tn w w' e (stC n) 0 := by
  go_enter Tryd.func35, Tryd.ntmps35
  go_wp2_with fail
  refine (filled_steep h0 h1).mono ?_
  rintro e w1 ⟨g, c, rfl, ho, hb⟩
  have d0 : w1.cell? ⟨w.heap.size, 0, none⟩ = some (.slice none 0 0) := by rw [newCell hb _ _ (by simp)]; simp
  have d1 : w1.cell? ⟨w.heap.size, 1, none⟩ = some (.int .i64 0) := by rw [newCell hb _ _ (by simp)]; simp
  have f0 : w1.frozen? ⟨w.heap.size, 0, none⟩ = false := by rw [newFrozen hb _ _ (by simp)]; simp
  have f1 : w1.frozen? ⟨w.heap.size, 1, none⟩ = false := by rw [newFrozen hb _ _ (by simp)]; simp
  have hgl := ho.lies.1
  rw [show (w.alloc (.cells #[.slice none 0 0, .int .i64 0] 59)).heap.size = w.heap.size + 1 from by simp] at hgl
  have HO : Hid _ := ho
  have HB : Hid _ := hb
  clear ho hb
  go_wp2_with fail
  refine bodyPost_ret (v := .tuple #[.agg #[.slice (some ⟨g, 0, none⟩) (stC n).length c, .int .i64 0], .int .i64 0]) (by simp [results, Tryd.results35, go_sem, d0, d1, stC]) rfl ?_
  refine ⟨g, c, rfl, ?_, ?_⟩
  · exact ((HO.out.far (by simp; omega) _).far (by simp; omega) _).mono (by simp; try omega)
  · exact below_set (below_set ((((Below.refl _ _).alloc (Nat.le_refl _) _)).trans (HB.out.mono (by simp; try omega))) (by simp) _) (by simp) _

set_option maxRecDepth 100000 in
set_option maxHeartbeats 400000 in
theorem steep_no {w : World} {n : Int} (h : n < 2 ∨ 16 < n) :
    Calls Tryd.prog 35 #[.int .i64 n] w fun e w' => e = .returned (.tuple #[.agg #[.slice none 0 0, .int .i64 0], .int .i64 2]) ∧ Below w.heap.size w w' := by
  have HH : Hid _ := h
  clear h
  go_enter Tryd.func35, Tryd.ntmps35
  go_wp2_with fail
  refine (filled_no HH.out).mono ?_
  rintro e w1 ⟨rfl, hb⟩
  have d0 : w1.cell? ⟨w.heap.size, 0, none⟩ = some (.slice none 0 0) := by rw [newCell hb _ _ (by simp)]; simp
  have d1 : w1.cell? ⟨w.heap.size, 1, none⟩ = some (.int .i64 0) := by rw [newCell hb _ _ (by simp)]; simp
  have f0 : w1.frozen? ⟨w.heap.size, 0, none⟩ = false := by rw [newFrozen hb _ _ (by simp)]; simp
  have f1 : w1.frozen? ⟨w.heap.size, 1, none⟩ = false := by rw [newFrozen hb _ _ (by simp)]; simp
  have HB : Hid _ := hb
  clear hb
  go_wp2_with fail
  refine bodyPost_ret (v := .tuple #[.agg #[.slice none 0 0, .int .i64 0], .int .i64 2]) (by simp [results, Tryd.results35, go_sem, d0, d1]) rfl ⟨rfl, ?_⟩
  exact below_set (below_set ((((Below.refl _ _).alloc (Nat.le_refl _) _)).trans (HB.out.mono (by simp; try omega))) (by simp) _) (by simp) _

end Go.Proofs.YtkmnpechhdendaaDoor.L3
