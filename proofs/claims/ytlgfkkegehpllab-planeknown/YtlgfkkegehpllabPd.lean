/- DERIVED. The walks of fill, New, within, line. -/
import Derived.Test.YtlgfkkegehpllabPc
namespace Go.Proofs.Ytlgfkkegehpllab
open Go.RowKit

theorem splice_rep_zero (C : List Nat) (o v : Nat) : splice C o (List.replicate 0 v) = C := by simp [splice]
theorem splice_rep_step {C : List Nat} {o k v : Nat} (h : o + k < C.length) : (splice C o (List.replicate k v)).set (o + k) v = splice C o (List.replicate (k + 1) v) := by
  have f1 : o + (List.replicate k v).length ≤ C.length := by rw [List.length_replicate]; omega
  have f2 : o + (List.replicate (k + 1) v).length ≤ C.length := by rw [List.length_replicate]; omega
  refine list_eq_of_getD (by rw [List.length_set, splice_len _ _ _ f1, splice_len _ _ _ f2]) fun j hj => ?_
  rw [List.length_set, splice_len _ _ _ f1] at hj
  rw [splice_get _ _ _ f2, List.length_replicate, List.getD_eq_getElem?_getD, List.getElem?_set]
  by_cases e : o + k = j
  · rw [if_pos e, if_pos (by rw [splice_len _ _ _ f1]; omega), if_pos (by omega), rep_get (by omega)]; rfl
  · rw [if_neg e, ← List.getD_eq_getElem?_getD, splice_get _ _ _ f1, List.length_replicate]
    by_cases g : o ≤ j ∧ j < o + k
    · rw [if_pos g, if_pos (by omega), rep_get (by omega), rep_get (by omega)]
    · rw [if_neg g, if_neg (by omega)]
theorem splice_all {C D : List Nat} (h : D.length = C.length) : splice C 0 D = D := by
  refine list_eq_of_getD (by rw [splice_len _ _ _ (by omega), h]) fun j hj => ?_
  rw [splice_len _ _ _ (by omega)] at hj
  rw [splice_get _ _ _ (by omega), if_pos (by omega), Nat.sub_zero]

def FillInv (w : World) (g : Nat) (C : List Nat) (o n v : Nat) (iv : Value) (wr : World) : Prop := ∃ k : Nat, k ≤ n ∧ iv = .int .i64 k ∧ Rw wr g (splice C o (List.replicate k v)) ∧ Kb g w wr

set_option maxHeartbeats 1000000 in
theorem fill_row {w : World} {g o n c v : Nat} {C : List Nat} (h : Rw w g C) (hl : o + n ≤ C.length) (hs : C.length ≤ 70368744177664) :
    Calls Try.prog 23 #[.slice (some ⟨g, o, none⟩) n c, .int .u8 (v : Int)] w fun e w' => e = .returned (.tuple #[]) ∧ Rw w' g (splice C o (List.replicate n v)) ∧ Kb g w w' := by
  have b9 : (n : Int) ≤ 70368744177664 := by omega
  have HR : Hid _ := h
  have HL : Hid _ := hl
  clear h hl hs
  go_enter Try.func23, Try.ntmps23
  go_wp2_with fail
  go_loopw [7] (fun i wr => FillInv w g C o n v i wr) (fun i _ => n - (intOf i).toNat)
  case atStart => exact ⟨0, Nat.zero_le _, rfl, by rw [splice_rep_zero]; exact HR.out, Kb.refl _ _⟩
  case round =>
    obtain ⟨k, hk, rfl, hr, hb⟩ := hrel
    have HR2 : Hid _ := hr
    have HB : Hid _ := hb
    clear HR
    by_cases hlt : k < n
    · have hin : o + k < C.length := by have := HL.out; omega
      have c1 := hr.cell (o + k) (by rw [splice_len _ _ _ (by rw [List.length_replicate]; omega)]; exact hin)
      have c2 := hr.thaw (o + k)
      generalize (splice C o (List.replicate k v)).getD (o + k) 0 = old at c1
      have b0 : 0 ≤ (k : Int) := by omega
      have b1 : (k : Int) < (n : Int) := by omega
      have HS : Hid _ := splice_rep_step (v := v) hin
      clear hr hb hin
      go_wp2
      go_roundw
      case rel => exact ⟨k + 1, by omega, by go_num, by rw [← HS.out]; exact HR2.out.set _ _, HB.out.trans (Kb.setCell _ _ _ _)⟩
      case measure => simp [intOf]; omega
    · have hk' : k = n := by omega
      subst hk'
      clear hr hb
      go_wp2
      go_end0
      exact ⟨rfl, HR2.out, HB.out⟩

set_option maxHeartbeats 1000000 in
theorem fill_nil {w : World} {a : Option Addr} {c v : Nat} :
    Calls Try.prog 23 #[.slice a 0 c, .int .u8 (v : Int)] w fun e w' => e = .returned (.tuple #[]) ∧ w' = w := by
  go_enter Try.func23, Try.ntmps23
  go_wp2_with fail
  go_loop [7] (fun i => i = .int .i64 0) (fun _ => 0)
  case atStart => rfl
  case round =>
    subst hrel
    go_wp2
    go_end0
    exact ⟨rfl, rfl⟩

/-- a plane of samples C is answered, in new memory -/
def Pn (w w' : World) (e : Ending) (x y : Nat) (C : List Nat) : Prop := ∃ g, e = .returned (.tuple #[.agg #[.int .i64 (x : Int), .int .i64 (y : Int), .slice (some ⟨g, 0, none⟩) C.length C.length], .int .i64 0]) ∧ w.heap.size ≤ g ∧ Rw w' g C ∧ Below w.heap.size w w'
/-- no plane is answered -/
def Pz (w w' : World) (e : Ending) : Prop := e = .returned (.tuple #[.agg #[.int .i64 0, .int .i64 0, .slice none 0 0], .int .i64 2]) ∧ Below w.heap.size w w'

/-- a rectangle lies within a plane -/
structure Win (W H X Y w h : Int) : Prop where
  w0 : 1 ≤ w
  h0 : 1 ≤ h
  x0 : 0 ≤ X
  y0 : 0 ≤ Y
  wx : w ≤ W - X
  hy : h ≤ H - Y

set_option maxHeartbeats 1000000 in
theorem within_yes {u : World} {a : Option Addr} {n c : Nat} {W H X Y w h : Int} (k : Win W H X Y w h) (hW : 1 ≤ W) (hW1 : W ≤ 512) (hH : 1 ≤ H) (hH1 : H ≤ 512) :
    Calls Try.prog 19 #[.agg #[.int .i64 W, .int .i64 H, .slice a n c], .agg #[.int .i64 X, .int .i64 Y, .int .i64 w, .int .i64 h]] u fun e w' => e = .returned (.bool true) ∧ Below u.heap.size u w' := by
  obtain ⟨k1, k2, k3, k4, k5, k6⟩ := k
  have k7 : X ≤ 512 := by omega
  have k8 : Y ≤ 512 := by omega
  go_enter Try.func19, Try.ntmps19
  go_wp2
  go_ret
  exact ⟨rfl, to_alloc (from_alloc _ _) _⟩

theorem wr_sub {W X : Int} (hW : 1 ≤ W) (hW1 : W ≤ 512) (h0 : 0 ≤ X) (h1 : X ≤ 9223372036854775807) : wrap64 (W - X) = W - X := by unfold wrap64; omega

set_option maxHeartbeats 1000000 in
theorem within_no {u : World} {a : Option Addr} {n c : Nat} {W H X Y w h : Int} (k : ¬ Win W H X Y w h) (hW : 1 ≤ W) (hW1 : W ≤ 512) (hH : 1 ≤ H) (hH1 : H ≤ 512) (bX : X ≤ 9223372036854775807) (bY : Y ≤ 9223372036854775807) :
    Calls Try.prog 19 #[.agg #[.int .i64 W, .int .i64 H, .slice a n c], .agg #[.int .i64 X, .int .i64 Y, .int .i64 w, .int .i64 h]] u fun e w' => e = .returned (.bool false) ∧ Below u.heap.size u w' := by
  have KK : Hid _ := k
  have BX : Bx (X ≤ 9223372036854775807) := ⟨bX⟩
  have BY : Bx (Y ≤ 9223372036854775807) := ⟨bY⟩
  clear k bX bY
  by_cases k1 : w < 1
  · go_enter Try.func19, Try.ntmps19
    go_wp2
    go_ret
    exact ⟨rfl, to_alloc (from_alloc _ _) _⟩
  by_cases k2 : h < 1
  · go_enter Try.func19, Try.ntmps19
    go_wp2
    go_ret
    exact ⟨rfl, to_alloc (from_alloc _ _) _⟩
  by_cases k3 : X < 0
  · go_enter Try.func19, Try.ntmps19
    go_wp2
    go_ret
    exact ⟨rfl, to_alloc (from_alloc _ _) _⟩
  by_cases k4 : Y < 0
  · go_enter Try.func19, Try.ntmps19
    go_wp2
    go_ret
    exact ⟨rfl, to_alloc (from_alloc _ _) _⟩
  have e1 : wrap64 (W - X) = W - X := wr_sub hW hW1 (by omega) BX.out
  have e2 : wrap64 (H - Y) = H - Y := wr_sub hH hH1 (by omega) BY.out
  by_cases k5 : w ≤ W - X
  · have k6 : ¬ h ≤ H - Y := fun g => KK.out ⟨by omega, by omega, by omega, by omega, k5, g⟩
    have k7 : X ≤ 512 := by omega
    clear e1 hW hH hW1 hH1
    go_enter Try.func19, Try.ntmps19
    go_wp2
    all_goals
      go_ret
      first | exact ⟨rfl, to_alloc (from_alloc _ _) _⟩ | (exfalso; omega)
  · clear e2 hW hH hW1 hH1
    go_enter Try.func19, Try.ntmps19
    go_wp2
    all_goals
      go_ret
      first | exact ⟨rfl, to_alloc (from_alloc _ _) _⟩ | (exfalso; omega)

theorem ret_slice {a : Option Addr} {n n' c : Nat} (h : n = n') : Ending.returned (.slice a n c) = .returned (.slice a n' c) := by rw [h]
set_option maxHeartbeats 1000000 in
theorem line_ok {u : World} {b o n c W X Y w z : Nat} {H : Int} (hz : z = Y * W + X) (hw : 1 ≤ w) (hn : z + w ≤ c) (hc : z + w ≤ 70368744177664) :
    Calls Try.prog 20 #[.agg #[.int .i64 (W : Int), .int .i64 H, .slice (some ⟨b, o, none⟩) n c], .int .i64 (X : Int), .int .i64 (Y : Int), .int .i64 (w : Int)] u fun e w' => e = .returned (.slice (some ⟨b, o + z, none⟩) w (c - z)) ∧ Below u.heap.size u w' := by
  obtain ⟨q, hq⟩ : ∃ q : Nat, q = Y * W := ⟨_, rfl⟩
  rw [← hq] at hz
  have e1 : (Y : Int) * (W : Int) = (q : Int) := by rw [← Int.natCast_mul, hq]
  have e2 : (q : Int) + (X : Int) = (z : Int) := by omega
  have p1 : (q : Int) ≤ 70368744177664 := by omega
  have p2 : (X : Int) ≤ 70368744177664 := by omega
  have p3 : (z : Int) + (w : Int) ≤ (c : Int) := by omega
  have p4 : (z : Int) ≤ (z : Int) + (w : Int) := by omega
  have p5 : (z : Int) ≤ 70368744177664 := by omega
  have p6 : (w : Int) ≤ 70368744177664 := by omega
  have p7 : ((z : Int) + (w : Int) - (z : Int)).toNat = w := by omega
  have p8 : ((c : Int) - (z : Int)).toNat = c - z := by omega
  have p9 : ¬ z = c := by omega
  have HZ : Hid _ := hz
  have HQ : Hid _ := hq
  clear hz hq hn
  go_enter Try.func20, Try.ntmps20
  go_wp2
  go_ret
  exact ⟨ret_slice (by omega), from_alloc _ _⟩

end Go.Proofs.Ytlgfkkegehpllab
