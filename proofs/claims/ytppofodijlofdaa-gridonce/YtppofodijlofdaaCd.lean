/- DERIVED. cellsOf: the cells of a block, row by row. -/
import Derived.Test.YtppofodijlofdaaCc
import Derived.Deep.DeepCutAuto
import Derived.Deep.Light
namespace Go.Proofs.Ytppofodijlofdaa
open Go.RowKit

/-- j rows of cells, and k cells of the next one -/
def clp (X Y : Int) (I j k : Nat) : List (Int × Int) := ((List.range j).flatMap fun j : Nat => (List.range I).map fun i : Nat => (X + (i : Int), Y + (j : Int))) ++ (List.range k).map fun i : Nat => (X + (i : Int), Y + (j : Int))
theorem clp_step (X Y : Int) (I j k : Nat) : clp X Y I j k ++ [(X + (k : Int), Y + (j : Int))] = clp X Y I j (k + 1) := by
  unfold clp
  rw [List.append_assoc, List.range_succ, List.map_append]
  rfl
theorem clp_row (X Y : Int) (I j : Nat) : clp X Y I j I = clp X Y I (j + 1) 0 := by
  unfold clp
  rw [List.range_succ, List.flatMap_append]
  simp
theorem clp_len (X Y : Int) (I j k : Nat) : (clp X Y I j k).length = j * I + k := by
  unfold clp
  rw [List.length_append, List.length_flatMap]
  simp [List.map_const', List.sum_replicate_nat]
theorem clp_zero (X Y : Int) (I : Nat) : clp X Y I 0 0 = [] := rfl
theorem cls_clp (b : Bl) : cls b = clp (b.x / 8) (b.y / 8) (b.w / 8).toNat (b.h / 8).toNat 0 := by
  unfold cls clp
  simp
theorem Bc.box (w : World) (l : Bl) : Bc (w.alloc (.cells l.cs.toArray 40)) w.heap.size 0 l := (Ob.new w l rfl).bc

theorem Oc.rebase {w : World} {B B' n c : Nat} {a : Option Addr} {C : List (Int × Int)} (h : Oc w B a n c C) (hb : ∀ g, (Value.slice a n c).ownBlock = some g → B' ≤ g) : Oc w B' a n c C := by
  obtain ⟨h1, h2⟩ := h.own
  refine ⟨h1, ?_⟩
  rcases h2 with h2 | ⟨g, cap, cur, e1, e2, e3, e4⟩
  · exact Or.inl h2
  · exact Or.inr ⟨g, cap, cur, e1, hb g (by rw [e1]; rfl), e3, e4⟩
set_option maxRecDepth 100000 in
set_option maxHeartbeats 4000000 in
theorem cellsOf_any {w : World} {b : Bl} {X Y : Int} {I J : Nat} (hx : b.x = 8 * X) (hy : b.y = 8 * Y) (hw : b.w = 8 * (I : Int)) (hh : b.h = 8 * (J : Int)) (x0 : -1000 ≤ X) (x1 : X ≤ 1000) (y0 : -1000 ≤ Y) (y1 : Y ≤ 1000) (i1 : I ≤ 8) (j1 : J ≤ 8) :
    Calls Try.prog 26 #[.agg b.cs.toArray] w fun e w' => ∃ a c, e = .returned (.slice a (J * I) c) ∧ Oc w' w.heap.size a (J * I) c (clp X Y I J 0) ∧ Below w.heap.size w w' := by
  have HC : Hid (Bc (w.alloc (.cells b.cs.toArray 40)) w.heap.size 0 b) := Bc.box w b
  have HB : Hid (Below w.heap.size w (w.alloc (.cells b.cs.toArray 40))) := from_alloc _ _
  have HZ : Hid (w.heap.size < (w.alloc (.cells b.cs.toArray 40)).heap.size) := by show _ < _; simp
  have HA : Hid (∀ (u : World) (x y cx cy : Int), x / 8 = cx → y / 8 = cy → Calls Try.prog 35 #[.int .i64 x, .int .i64 y] u fun e w' => e = .returned (.agg #[.int .i64 cx, .int .i64 cy]) ∧ Below u.heap.size u w') := fun u x y cx cy h1 h2 => cellAt_any h1 h2
  generalize b.cs.toArray = bc at *
  go_enter Try.func26, Try.ntmps26
  go_upto_region 1 with fail
  generalize hV : (w.alloc (.cells bc 40)) = V at *
  generalize hP : w.heap.size = p at *
  have HP : Hid (w.heap.size = p) := hP
  clear hV hP
  have c1 : V.cell? ⟨p, 1, none⟩ = some (.int .i64 (8 * Y)) := by have := HC.out.at 1 _ rfl; rw [hy] at this; simpa using this
  have HCs : Hid (∀ u, Below V.heap.size V u → u.cell? ⟨p, 0, none⟩ = some (.int .i64 (8 * X)) ∧ u.cell? ⟨p, 1, none⟩ = some (.int .i64 (8 * Y)) ∧ u.cell? ⟨p, 2, none⟩ = some (.int .i64 (8 * (I : Int))) ∧ u.cell? ⟨p, 3, none⟩ = some (.int .i64 (8 * (J : Int)))) := fun u hb => by
    have h := HC.out.below hb HZ.out
    have k0 := h.at 0 _ rfl
    have k1 := h.at 1 _ rfl
    have k2 := h.at 2 _ rfl
    have k3 := h.at 3 _ rfl
    rw [hx] at k0
    rw [hy] at k1
    rw [hw] at k2
    rw [hh] at k3
    exact ⟨by simpa using k0, by simpa using k1, by simpa using k2, by simpa using k3⟩
  clear hx hy hw hh HC
  go_wp2_with fail
  go_loopw [3, 4] (fun s y wr => ∃ (j : Nat) (a : Option Addr) (c : Nat), j ≤ J ∧ y = .int .i64 (8 * Y + 8 * (j : Int)) ∧ s = .slice a (j * I) c ∧ Oc wr V.heap.size a (j * I) c (clp X Y I j 0) ∧ Below V.heap.size V wr) (fun _ y _ => J - ((intOf y - 8 * Y) / 8).toNat)
  case atStart => exact ⟨0, none, 0, by omega, by simp, by simp, by rw [Nat.zero_mul]; exact Oc.nil _ _, Below.refl _ _⟩
  case round =>
    clear c1
    obtain ⟨j, a, c, hj, rfl, rfl, ho, hb⟩ := hrel
    have HO : Hid _ := ho
    have HBr : Hid _ := hb
    obtain ⟨k0, k1, k2, k3⟩ := HCs.out _ hb
    clear ho hb
    by_cases hlt : j < J
    · have hq : (8 * Y + 8 * (j : Int)) < 8 * Y + 8 * (J : Int) := by omega
      have hdv : (8 * Y + 8 * (j : Int)) / 8 = Y + (j : Int) := by omega
      have HDV : Hid ((8 * Y + 8 * (j : Int)) / 8 = Y + (j : Int)) := hdv
      have yb : 8 * Y + 8 * (j : Int) ≤ 100000 := by omega
      have yb' : -100000 ≤ 8 * Y + 8 * (j : Int) := by omega
      have HJ : Hid (j < J) := hlt
      clear hdv hlt
      go_wp2_with fail
      go_loopw [3, 5] (fun s x wv => ∃ (i : Nat) (a : Option Addr) (c : Nat), i ≤ I ∧ x = .int .i64 (8 * X + 8 * (i : Int)) ∧ s = .slice a (j * I + i) c ∧ Oc wv V.heap.size a (j * I + i) c (clp X Y I j i) ∧ Below V.heap.size V wv) (fun _ x _ => I - ((intOf x - 8 * X) / 8).toNat)
      case atStart => exact ⟨0, a, c, by omega, by simp, by simp, HO.out, HBr.out⟩
      case round =>
        clear HO HBr k0 k1 k2 k3
        obtain ⟨i, a, c, hi, rfl, rfl, ho, hb⟩ := hrel
        have HO : Hid _ := ho
        have HBr : Hid _ := hb
        obtain ⟨k0, k1, k2, k3⟩ := HCs.out _ hb
        clear ho hb
        by_cases hlt : i < I
        · have hq2 : (8 * X + 8 * (i : Int)) < 8 * X + 8 * (I : Int) := by omega
          have HDX : Hid ((8 * X + 8 * (i : Int)) / 8 = X + (i : Int)) := by show _ = _; omega
          have xb : 8 * X + 8 * (i : Int) ≤ 100000 := by omega
          have xb' : -100000 ≤ 8 * X + 8 * (i : Int) := by omega
          have HI : Hid (i < I ∧ j * I + i < 1048576) := ⟨hlt, by
            have : j * I ≤ 8 * 8 := Nat.mul_le_mul (by omega) i1
            omega⟩
          clear hlt
          go_wp2_with fail
          refine (HA.out _ _ _ _ _ HDX.out HDV.out).mono ?_
          rintro e wa ⟨rfl, hb⟩
          have HOa : Hid (Oc wa V.heap.size a (j * I + i) c (clp X Y I j i)) := HO.out.to hb
          have HBa : Hid (Below V.heap.size V wa) := below_to HBr.out hb
          have HSa : Hid (V.heap.size ≤ wa.heap.size) := HBa.out.size
          clear hb HO HBr k0 k1 k2 k3
          go_wp2_with (at_builtin; refine wpList_append_cell _ (by rfl) _ _ (by rfl) V.heap.size (j * I + i) c (clp X Y I j i) a (X + (i : Int)) (Y + (j : Int)) HOa.out HSa.out HI.out.2 (by rfl) (by rfl) ?_; intro ad' cap w5 h1 h2 h3; have Q1 : Hid _ := h1; have Q2 : Hid _ := h2; clear h1 h2 h3)
          go_roundw
          case rel => exact ⟨i + 1, ad', cap, by have := HI.out; omega, by go_num, by rfl, by rw [← clp_step]; exact Q1.out, HBa.out.trans Q2.out⟩
          case measure => have := HI.out; simp [intOf]; omega
        · obtain rfl : i = I := by omega
          clear hlt
          go_wp2_with fail
          go_roundw
          case rel => exact ⟨j + 1, a, c, by have := HJ.out; omega, by go_num, by rw [Nat.succ_mul], by rw [← clp_row, Nat.succ_mul]; exact HO.out, HBr.out⟩
          case measure => have := HJ.out; simp [intOf]; omega
    · obtain rfl : j = J := by omega
      clear hlt
      go_wp2_with fail
      go_ret
      rw [HP.out]
      exact ⟨a, c, rfl, HO.out.rebase fun g hg => Nat.le_trans (Nat.le_of_lt HZ.out) (HO.out.own.lt g hg).1, HB.out.trans (HBr.out.mono (Nat.le_of_lt HZ.out))⟩
end Go.Proofs.Ytppofodijlofdaa
