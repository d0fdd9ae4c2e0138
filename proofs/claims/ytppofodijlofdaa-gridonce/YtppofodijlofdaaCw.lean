/- DERIVED. Part. -/
import Derived.Test.YtppofodijlofdaaCn
namespace Go.Proofs.Ytppofodijlofdaa
open Go.RowKit

set_option maxRecDepth 100000 in
set_option maxHeartbeats 2000000 in
theorem count_1 {w : World} {p m K : Nat} {T : Rc} {v : Value} {L : List Bl} {X Y : Int} {q : Bl → Bool} {t : Nat} (hg : Gd w p m T v L) (hX : I64 X) (hY : I64 Y) (hL : L.length ≤ 1000000)
    (hK : ∀ (xs : Array Value) (u : World), (callFunc K xs).run Try.prog u = .ok (.enter K xs) u)
    (hf : ∀ u b, Below w.heap.size w u → Calls Try.prog K #[.agg b.cs.toArray, .pointer (some ⟨t, 0, none⟩)] u fun e w' => e = .returned (.bool (q b)) ∧ Below u.heap.size u w') :
    Calls Try.prog 42 #[.pointer (some ⟨p, 0, none⟩), .int .i64 X, .int .i64 Y, .func (.func K) #[] #[.pointer (some ⟨t, 0, none⟩)]] w fun e w' => e = .returned (.int .i64 (cn q L X Y : Nat)) ∧ Below w.heap.size w w' := by
  have HA : Hid (Calls Try.prog 17 #[.pointer (some ⟨p, 0, none⟩), .int .i64 X, .int .i64 Y] w fun e w' => Aq w w' e (atB L X Y) (atK L X Y)) := at_any hg hX hY hL
  have HF : Hid (∀ u b r, Below w.heap.size w u → q b = r → Calls Try.prog K #[.agg b.cs.toArray, .pointer (some ⟨t, 0, none⟩)] u fun e w' => e = .returned (.bool r) ∧ Below u.heap.size u w') := fun u b r hb h => by rw [← h]; exact hf u b hb
  have HC : Hid (cn q L X Y = if atK L X Y = true ∧ q (atB L X Y) = true then 1 else 0) := rfl
  clear hg hX hY hL hf
  generalize atB L X Y = b at *
  generalize atK L X Y = k at *
  generalize cn q L X Y = c at *
  go_enter Try.func42, Try.ntmps42
  go_wp2_with fail
  refine HA.out.mono ?_
  rintro e w1 ⟨rfl, hb⟩
  have HB1 : Hid (Below w.heap.size w w1) := hb
  have HB1' : Hid (∀ o, Below w.heap.size w (w1.alloc o)) := fun o => below_alloc hb (Nat.le_refl _) o
  have HSz : Hid (w.heap.size ≤ w1.heap.size) := hb.size
  clear hb HA
  have HO1 : Hid (Ob (w1.alloc (.cells bz.cs.toArray 40)) w1.heap.size bz) := Ob.new w1 bz rfl
  cases k
  · have HC0 : Hid (c = 0) := by show _ = _; rw [HC.out]; simp
    clear HC
    go_wp2_with (refine wpList_store_block (by rfl) _ _ (by rfl) w1.heap.size bz b HO1.out (by rfl) (by rfl) ?_; intro w2 hob hsw; have HW2 : Hid (Sw w1.heap.size _ w2) := hsw; clear hob hsw)
    go_ret
    exact ⟨by rw [HC0.out]; rfl, HW2.out.below (HB1'.out _) HSz.out⟩
  · cases hq : q b
    · have HFq : Hid (q b = false) := hq
      have HC0 : Hid (c = 0) := by show _ = _; rw [HC.out]; simp [hq]
      clear hq HC
      go_upto_region 2 with (refine wpList_store_block (by rfl) _ _ (by rfl) w1.heap.size bz b HO1.out (by rfl) (by rfl) ?_; intro w2 hob hsw; have HO2 : Hid (Ob w2 w1.heap.size b) := hob; have HB2 : Hid (Below w.heap.size w w2) := hsw.below (HB1'.out _) HSz.out; clear hob hsw)
      go_wp2_with (refine wpList_load_block (by rfl) _ (by rfl) w1.heap.size 0 (by rfl) b HO2.out.bc ?_)
      refine (HF.out _ _ _ HB2.out HFq.out).mono ?_
      rintro e w3 ⟨rfl, hb⟩
      have HB3 : Hid (Below w.heap.size w w3) := below_to HB2.out hb
      clear hb
      go_wp2_with fail
      go_ret
      exact ⟨by rw [HC0.out]; rfl, HB3.out⟩
    · have HFq : Hid (q b = true) := hq
      have HC0 : Hid (c = 1) := by show _ = _; rw [HC.out]; simp [hq]
      clear hq HC
      go_upto_region 2 with (refine wpList_store_block (by rfl) _ _ (by rfl) w1.heap.size bz b HO1.out (by rfl) (by rfl) ?_; intro w2 hob hsw; have HO2 : Hid (Ob w2 w1.heap.size b) := hob; have HB2 : Hid (Below w.heap.size w w2) := hsw.below (HB1'.out _) HSz.out; clear hob hsw)
      go_wp2_with (refine wpList_load_block (by rfl) _ (by rfl) w1.heap.size 0 (by rfl) b HO2.out.bc ?_)
      refine (HF.out _ _ _ HB2.out HFq.out).mono ?_
      rintro e w3 ⟨rfl, hb⟩
      have HB3 : Hid (Below w.heap.size w w3) := below_to HB2.out hb
      clear hb
      go_wp2_with fail
      go_ret
      exact ⟨by rw [HC0.out]; rfl, HB3.out⟩
set_option maxRecDepth 100000 in
theorem fPart1_any {w : World} {b : Bl} {t : Nat} {s : Int} (h : w.cell? ⟨t, 0, none⟩ = some (.int .i64 s)) : Calls Try.prog 43 #[.agg b.cs.toArray, .pointer (some ⟨t, 0, none⟩)] w fun e w' => e = .returned (.bool (decide (b.w < s))) ∧ Below w.heap.size w w' := by
  have HB : Hid (Below w.heap.size w (w.alloc (.cells b.cs.toArray 40))) := from_alloc _ _
  have c4 : (w.alloc (.cells b.cs.toArray 40)).cell? ⟨w.heap.size, 2, none⟩ = some (.int .i64 b.w) := by
    have := (Bc.box w b).at 2 _ rfl
    rwa [Nat.zero_add] at this
  have c5 : (w.alloc (.cells b.cs.toArray 40)).cell? ⟨t, 0, none⟩ = some (.int .i64 s) := by rw [HB.out.cell (p := ⟨t, 0, none⟩) (World.block_lt_of_cell? w _ h)]; exact h
  clear h
  go_enter Try.func43, Try.ntmps43
  go_wp2_with fail
  go_ret
  exact ⟨rfl, HB.out⟩
set_option maxRecDepth 100000 in
theorem fPart2_any {w : World} {b : Bl} {t : Nat} {s : Int} (h : w.cell? ⟨t, 0, none⟩ = some (.int .i64 s)) : Calls Try.prog 44 #[.agg b.cs.toArray, .pointer (some ⟨t, 0, none⟩)] w fun e w' => e = .returned (.bool (decide (b.h < s))) ∧ Below w.heap.size w w' := by
  have HB : Hid (Below w.heap.size w (w.alloc (.cells b.cs.toArray 40))) := from_alloc _ _
  have c4 : (w.alloc (.cells b.cs.toArray 40)).cell? ⟨w.heap.size, 3, none⟩ = some (.int .i64 b.h) := by
    have := (Bc.box w b).at 3 _ rfl
    rwa [Nat.zero_add] at this
  have c5 : (w.alloc (.cells b.cs.toArray 40)).cell? ⟨t, 0, none⟩ = some (.int .i64 s) := by rw [HB.out.cell (p := ⟨t, 0, none⟩) (World.block_lt_of_cell? w _ h)]; exact h
  clear h
  go_enter Try.func44, Try.ntmps44
  go_wp2_with fail
  go_ret
  exact ⟨rfl, HB.out⟩
/-- what may be asked of Part -/
def pok (T : Rc) (X Y s : Int) : Prop := (s = 64 ∨ s = 32 ∨ s = 16) ∧ ask T X Y s = true
set_option maxRecDepth 100000 in
set_option maxHeartbeats 4000000 in
theorem part_ok {w : World} {p m : Nat} {T : Rc} {v : Value} {L : List Bl} {X Y s : Int} (hg : Gd w p m T v L) (h : pok T X Y s) (hL : L.length ≤ 1000000) :
    Calls Try.prog 21 #[.pointer (some ⟨p, 0, none⟩), .int .i64 X, .int .i64 Y, .int .i64 s] w fun e w' => e = .returned (.tuple #[.int .i64 (((cn (fun b => decide (b.w < s)) L X (Y - 1) : Nat) + 2 * (cn (fun b => decide (b.h < s)) L (X - 1) Y : Nat) : Nat) : Int), .int .i64 0]) ∧ Below w.heap.size w w' := by
  obtain ⟨hs, ha⟩ := h
  obtain ⟨x0, x1, y0, y1, -, -⟩ := ask_in hg.tok ha
  have HB0 : Hid (Below w.heap.size w (w.alloc (.cells #[.int .i64 s] 3))) := from_alloc _ _
  have c0 : (w.alloc (.cells #[.int .i64 s] 3)).cell? ⟨w.heap.size, 0, none⟩ = some (.int .i64 s) := (Ri.built 3 w [s] rfl).cell 0 (by simp)
  have HS0 : Hid (w.heap.size < (w.alloc (.cells #[.int .i64 s] 3)).heap.size) := by show _ < _; simp
  have HCe : Hid (∀ u, Below (w.alloc (.cells #[.int .i64 s] 3)).heap.size (w.alloc (.cells #[.int .i64 s] 3)) u → u.cell? ⟨w.heap.size, 0, none⟩ = some (.int .i64 s)) := fun u hb => by
    rw [hb.cell (p := ⟨w.heap.size, 0, none⟩) (by show _ < _; exact HS0.out)]; exact c0
  have HN : Hid (∀ u, Below w.heap.size w u → Calls Try.prog 24 #[.pointer (some ⟨p, 0, none⟩)] u fun e w' => e = .returned (.bool false) ∧ u = w') := fun u hb => isNone_map (hg.to hb).c5
  have HA : Hid (∀ u, Below w.heap.size w u → Calls Try.prog 36 #[.pointer (some ⟨p, 0, none⟩), .int .i64 X, .int .i64 Y, .int .i64 s] u fun e w' => e = .returned (.bool true) ∧ Below u.heap.size u w') := fun u hb => by rw [← ha]; exact mayAsk_any (hg.to hb).cl hg.tok (by omega)
  have HC1 : Hid (∀ u, Below w.heap.size w u → Below (w.alloc (.cells #[.int .i64 s] 3)).heap.size (w.alloc (.cells #[.int .i64 s] 3)) u → Calls Try.prog 42 #[.pointer (some ⟨p, 0, none⟩), .int .i64 X, .int .i64 (Y - 1), .func (.func 43) #[] #[.pointer (some ⟨w.heap.size, 0, none⟩)]] u fun e w' => e = .returned (.int .i64 (cn (fun b => decide (b.w < s)) L X (Y - 1) : Nat)) ∧ Below u.heap.size u w') := fun u hb hv =>
    count_1 (q := fun b => decide (b.w < s)) (hg.to hb) (by unfold I64; omega) (by unfold I64; omega) hL (enter_go Try.func43 (by kernel_rfl) (by kernel_rfl)) (fun x b hx => fPart1_any (HCe.out x (hv.trans (hx.mono hv.size))))
  have HC2 : Hid (∀ u, Below w.heap.size w u → Below (w.alloc (.cells #[.int .i64 s] 3)).heap.size (w.alloc (.cells #[.int .i64 s] 3)) u → Calls Try.prog 42 #[.pointer (some ⟨p, 0, none⟩), .int .i64 (X - 1), .int .i64 Y, .func (.func 44) #[] #[.pointer (some ⟨w.heap.size, 0, none⟩)]] u fun e w' => e = .returned (.int .i64 (cn (fun b => decide (b.h < s)) L (X - 1) Y : Nat)) ∧ Below u.heap.size u w') := fun u hb hv =>
    count_1 (q := fun b => decide (b.h < s)) (hg.to hb) (by unfold I64; omega) (by unfold I64; omega) hL (enter_go Try.func44 (by kernel_rfl) (by kernel_rfl)) (fun x b hx => fPart2_any (HCe.out x (hv.trans (hx.mono hv.size))))
  have h1 := cn_le (fun b => decide (b.w < s)) L X (Y - 1)
  have h2 := cn_le (fun b => decide (b.h < s)) L (X - 1) Y
  have HI : Hid (0 ≤ X ∧ X ≤ 256 ∧ 0 ≤ Y ∧ Y ≤ 256) := ⟨x0, x1, y0, y1⟩
  rw [show ((((cn (fun b => decide (b.w < s)) L X (Y - 1) : Nat) + 2 * (cn (fun b => decide (b.h < s)) L (X - 1) Y : Nat) : Nat) : Int)) = ((cn (fun b => decide (b.w < s)) L X (Y - 1) : Nat) : Int) + 2 * ((cn (fun b => decide (b.h < s)) L (X - 1) Y : Nat) : Int) by push_cast; rfl]
  have b1 : ((cn (fun b => decide (b.w < s)) L X (Y - 1) : Nat) : Int) ≤ 1 := by omega
  have b2 : ((cn (fun b => decide (b.h < s)) L (X - 1) Y : Nat) : Int) ≤ 1 := by omega
  have b3 : (0 : Int) ≤ ((cn (fun b => decide (b.w < s)) L X (Y - 1) : Nat) : Int) := by omega
  have b4 : (0 : Int) ≤ ((cn (fun b => decide (b.h < s)) L (X - 1) Y : Nat) : Int) := by omega
  clear hg ha h1 h2 hL HCe
  generalize ((cn (fun b => decide (b.w < s)) L X (Y - 1) : Nat) : Int) = n1 at *
  generalize ((cn (fun b => decide (b.h < s)) L (X - 1) Y : Nat) : Int) = n2 at *
  rcases hs with rfl | rfl | rfl
  · go_enter Try.func21, Try.ntmps21
    go_upto_region 1 with fail
    generalize (w.alloc (.cells #[.int .i64 64] 3)) = V at *
    generalize hz : w.heap.size = z at *
    have HZ : Hid (w.heap.size = z) := hz
    clear hz
    go_wp2_with ((with_reducible refine (HN.out _ HB0.out).mono ?_); rintro e w5 ⟨rfl, rfl⟩)
    refine (HA.out _ HB0.out).mono ?_
    rintro e w1 ⟨rfl, hb⟩
    have HB1 : Hid (Below z w w1) := HB0.out.trans (hb.mono (Nat.le_of_lt HS0.out))
    have HV1 : Hid (Below V.heap.size V w1) := hb
    clear hb HA HN HB0 c0
    go_wp2_with fail
    refine (HC1.out _ HB1.out HV1.out).mono ?_
    rintro e w2 ⟨rfl, hb⟩
    have HB2 : Hid (Below z w w2) := HB1.out.trans (hb.mono (Nat.le_trans (Nat.le_of_lt HS0.out) HV1.out.size))
    have HV2 : Hid (Below V.heap.size V w2) := HV1.out.trans (hb.mono HV1.out.size)
    clear hb HB1 HV1
    go_wp2_with fail
    refine (HC2.out _ HB2.out HV2.out).mono ?_
    rintro e w3 ⟨rfl, hb⟩
    have HB3 : Hid (Below z w w3) := HB2.out.trans (hb.mono (Nat.le_trans (Nat.le_of_lt HS0.out) HV2.out.size))
    clear hb HB2 HV2
    go_wp2_with fail
    go_ret2
    exact ⟨rfl, by rw [HZ.out]; exact HB3.out⟩
  · go_enter Try.func21, Try.ntmps21
    go_upto_region 1 with fail
    generalize (w.alloc (.cells #[.int .i64 32] 3)) = V at *
    generalize hz : w.heap.size = z at *
    have HZ : Hid (w.heap.size = z) := hz
    clear hz
    go_wp2_with ((with_reducible refine (HN.out _ HB0.out).mono ?_); rintro e w5 ⟨rfl, rfl⟩)
    refine (HA.out _ HB0.out).mono ?_
    rintro e w1 ⟨rfl, hb⟩
    have HB1 : Hid (Below z w w1) := HB0.out.trans (hb.mono (Nat.le_of_lt HS0.out))
    have HV1 : Hid (Below V.heap.size V w1) := hb
    clear hb HA HN HB0 c0
    go_wp2_with fail
    refine (HC1.out _ HB1.out HV1.out).mono ?_
    rintro e w2 ⟨rfl, hb⟩
    have HB2 : Hid (Below z w w2) := HB1.out.trans (hb.mono (Nat.le_trans (Nat.le_of_lt HS0.out) HV1.out.size))
    have HV2 : Hid (Below V.heap.size V w2) := HV1.out.trans (hb.mono HV1.out.size)
    clear hb HB1 HV1
    go_wp2_with fail
    refine (HC2.out _ HB2.out HV2.out).mono ?_
    rintro e w3 ⟨rfl, hb⟩
    have HB3 : Hid (Below z w w3) := HB2.out.trans (hb.mono (Nat.le_trans (Nat.le_of_lt HS0.out) HV2.out.size))
    clear hb HB2 HV2
    go_wp2_with fail
    go_ret2
    exact ⟨rfl, by rw [HZ.out]; exact HB3.out⟩
  · go_enter Try.func21, Try.ntmps21
    go_upto_region 1 with fail
    generalize (w.alloc (.cells #[.int .i64 16] 3)) = V at *
    generalize hz : w.heap.size = z at *
    have HZ : Hid (w.heap.size = z) := hz
    clear hz
    go_wp2_with ((with_reducible refine (HN.out _ HB0.out).mono ?_); rintro e w5 ⟨rfl, rfl⟩)
    refine (HA.out _ HB0.out).mono ?_
    rintro e w1 ⟨rfl, hb⟩
    have HB1 : Hid (Below z w w1) := HB0.out.trans (hb.mono (Nat.le_of_lt HS0.out))
    have HV1 : Hid (Below V.heap.size V w1) := hb
    clear hb HA HN HB0 c0
    go_wp2_with fail
    refine (HC1.out _ HB1.out HV1.out).mono ?_
    rintro e w2 ⟨rfl, hb⟩
    have HB2 : Hid (Below z w w2) := HB1.out.trans (hb.mono (Nat.le_trans (Nat.le_of_lt HS0.out) HV1.out.size))
    have HV2 : Hid (Below V.heap.size V w2) := HV1.out.trans (hb.mono HV1.out.size)
    clear hb HB1 HV1
    go_wp2_with fail
    refine (HC2.out _ HB2.out HV2.out).mono ?_
    rintro e w3 ⟨rfl, hb⟩
    have HB3 : Hid (Below z w w3) := HB2.out.trans (hb.mono (Nat.le_trans (Nat.le_of_lt HS0.out) HV2.out.size))
    clear hb HB2 HV2
    go_wp2_with fail
    go_ret2
    exact ⟨rfl, by rw [HZ.out]; exact HB3.out⟩
set_option maxRecDepth 100000 in
theorem part_non {w : World} {v : Value} {X Y s : Int} (h : Non w v) :
    Calls Try.prog 21 #[v, .int .i64 X, .int .i64 Y, .int .i64 s] w fun e w' => e = .returned (.tuple #[.int .i64 0, .int .i64 1]) ∧ Below w.heap.size w w' := by
  have HB0 : Hid (Below w.heap.size w (w.alloc (.cells #[.int .i64 s] 3))) := from_alloc _ _
  have c0 : (w.alloc (.cells #[.int .i64 s] 3)).cell? ⟨w.heap.size, 0, none⟩ = some (.int .i64 s) := (Ri.built 3 w [s] rfl).cell 0 (by simp)
  have HN : Hid (∀ u, Below w.heap.size w u → Calls Try.prog 24 #[v] u fun e w' => e = .returned (.bool true) ∧ u = w') := fun u hb => isNone_non (h.to hb)
  clear h
  go_enter Try.func21, Try.ntmps21
  go_upto_region 1 with fail
  generalize (w.alloc (.cells #[.int .i64 s] 3)) = V at *
  generalize hz : w.heap.size = z at *
  have HZ : Hid (w.heap.size = z) := hz
  clear hz
  go_wp2_with ((with_reducible refine (HN.out _ HB0.out).mono ?_); rintro e w5 ⟨rfl, rfl⟩)
  go_ret2
  exact ⟨rfl, by rw [HZ.out]; exact HB0.out⟩
set_option maxRecDepth 100000 in
theorem part_no1 {w : World} {p m : Nat} {T : Rc} {v : Value} {L : List Bl} {X Y s : Int} (hg : Gd w p m T v L) (h1 : ¬ s = 64) (h2 : ¬ s = 32) (h3 : ¬ s = 16) :
    Calls Try.prog 21 #[.pointer (some ⟨p, 0, none⟩), .int .i64 X, .int .i64 Y, .int .i64 s] w fun e w' => e = .returned (.tuple #[.int .i64 0, .int .i64 2]) ∧ Below w.heap.size w w' := by
  have HB0 : Hid (Below w.heap.size w (w.alloc (.cells #[.int .i64 s] 3))) := from_alloc _ _
  have c0 : (w.alloc (.cells #[.int .i64 s] 3)).cell? ⟨w.heap.size, 0, none⟩ = some (.int .i64 s) := (Ri.built 3 w [s] rfl).cell 0 (by simp)
  have HN : Hid (∀ u, Below w.heap.size w u → Calls Try.prog 24 #[.pointer (some ⟨p, 0, none⟩)] u fun e w' => e = .returned (.bool false) ∧ u = w') := fun u hb => isNone_map (hg.to hb).c5
  clear hg
  have g1 : (s != 64) = true := by rw [bne_iff_ne]; exact h1
  have g2 : (s != 32) = true := by rw [bne_iff_ne]; exact h2
  have g3 : (s != 16) = true := by rw [bne_iff_ne]; exact h3
  go_enter Try.func21, Try.ntmps21
  go_upto_region 1 with fail
  generalize (w.alloc (.cells #[.int .i64 s] 3)) = V at *
  generalize hz : w.heap.size = z at *
  have HZ : Hid (w.heap.size = z) := hz
  clear hz
  go_wp2_with ((with_reducible refine (HN.out _ HB0.out).mono ?_); rintro e w5 ⟨rfl, rfl⟩)
  go_ret2
  exact ⟨rfl, by rw [HZ.out]; exact HB0.out⟩
set_option maxRecDepth 100000 in
set_option maxHeartbeats 2000000 in
theorem part_no2 {w : World} {p m : Nat} {T : Rc} {v : Value} {L : List Bl} {X Y s : Int} (hg : Gd w p m T v L) (hs : s = 64 ∨ s = 32 ∨ s = 16) (ha : ask T X Y s = false) :
    Calls Try.prog 21 #[.pointer (some ⟨p, 0, none⟩), .int .i64 X, .int .i64 Y, .int .i64 s] w fun e w' => e = .returned (.tuple #[.int .i64 0, .int .i64 2]) ∧ Below w.heap.size w w' := by
  have HB0 : Hid (Below w.heap.size w (w.alloc (.cells #[.int .i64 s] 3))) := from_alloc _ _
  have c0 : (w.alloc (.cells #[.int .i64 s] 3)).cell? ⟨w.heap.size, 0, none⟩ = some (.int .i64 s) := (Ri.built 3 w [s] rfl).cell 0 (by simp)
  have HS0 : Hid (w.heap.size < (w.alloc (.cells #[.int .i64 s] 3)).heap.size) := by show _ < _; simp
  have HN : Hid (∀ u, Below w.heap.size w u → Calls Try.prog 24 #[.pointer (some ⟨p, 0, none⟩)] u fun e w' => e = .returned (.bool false) ∧ u = w') := fun u hb => isNone_map (hg.to hb).c5
  have HA : Hid (∀ u, Below w.heap.size w u → Calls Try.prog 36 #[.pointer (some ⟨p, 0, none⟩), .int .i64 X, .int .i64 Y, .int .i64 s] u fun e w' => e = .returned (.bool false) ∧ Below u.heap.size u w') := fun u hb => by rw [← ha]; exact mayAsk_any (hg.to hb).cl hg.tok (by omega)
  clear hg ha
  rcases hs with rfl | rfl | rfl
  · go_enter Try.func21, Try.ntmps21
    go_upto_region 1 with fail
    generalize (w.alloc (.cells #[.int .i64 64] 3)) = V at *
    generalize hz : w.heap.size = z at *
    have HZ : Hid (w.heap.size = z) := hz
    clear hz
    go_wp2_with ((with_reducible refine (HN.out _ HB0.out).mono ?_); rintro e w5 ⟨rfl, rfl⟩)
    refine (HA.out _ HB0.out).mono ?_
    rintro e w1 ⟨rfl, hb⟩
    have HB1 : Hid (Below z w w1) := HB0.out.trans (hb.mono (Nat.le_of_lt HS0.out))
    clear hb HA HN HB0 c0
    go_wp2_with fail
    go_ret2
    exact ⟨rfl, by rw [HZ.out]; exact HB1.out⟩
  · go_enter Try.func21, Try.ntmps21
    go_upto_region 1 with fail
    generalize (w.alloc (.cells #[.int .i64 32] 3)) = V at *
    generalize hz : w.heap.size = z at *
    have HZ : Hid (w.heap.size = z) := hz
    clear hz
    go_wp2_with ((with_reducible refine (HN.out _ HB0.out).mono ?_); rintro e w5 ⟨rfl, rfl⟩)
    refine (HA.out _ HB0.out).mono ?_
    rintro e w1 ⟨rfl, hb⟩
    have HB1 : Hid (Below z w w1) := HB0.out.trans (hb.mono (Nat.le_of_lt HS0.out))
    clear hb HA HN HB0 c0
    go_wp2_with fail
    go_ret2
    exact ⟨rfl, by rw [HZ.out]; exact HB1.out⟩
  · go_enter Try.func21, Try.ntmps21
    go_upto_region 1 with fail
    generalize (w.alloc (.cells #[.int .i64 16] 3)) = V at *
    generalize hz : w.heap.size = z at *
    have HZ : Hid (w.heap.size = z) := hz
    clear hz
    go_wp2_with ((with_reducible refine (HN.out _ HB0.out).mono ?_); rintro e w5 ⟨rfl, rfl⟩)
    refine (HA.out _ HB0.out).mono ?_
    rintro e w1 ⟨rfl, hb⟩
    have HB1 : Hid (Below z w w1) := HB0.out.trans (hb.mono (Nat.le_of_lt HS0.out))
    clear hb HA HN HB0 c0
    go_wp2_with fail
    go_ret2
    exact ⟨rfl, by rw [HZ.out]; exact HB1.out⟩
theorem part_no {w : World} {p m : Nat} {T : Rc} {v : Value} {L : List Bl} {X Y s : Int} (hg : Gd w p m T v L) (h : ¬ pok T X Y s) :
    Calls Try.prog 21 #[.pointer (some ⟨p, 0, none⟩), .int .i64 X, .int .i64 Y, .int .i64 s] w fun e w' => e = .returned (.tuple #[.int .i64 0, .int .i64 2]) ∧ Below w.heap.size w w' := by
  by_cases hs : s = 64 ∨ s = 32 ∨ s = 16
  · cases ha : ask T X Y s
    · exact part_no2 hg hs ha
    · exact absurd ⟨hs, ha⟩ h
  · exact part_no1 hg (fun e => hs (Or.inl e)) (fun e => hs (Or.inr (Or.inl e))) (fun e => hs (Or.inr (Or.inr e)))
end Go.Proofs.Ytppofodijlofdaa
