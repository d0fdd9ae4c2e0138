/- DERIVED. The walk of GridOnce. -/
import Derived.Test.YtppofodijlofdaaEg
import Derived.Test.YtppofodijlofdaaEt
import Derived.Deep.RegionHeld3
namespace Go.Proofs.Ytppofodijlofdaa
open Go.RowKit

theorem Try.zero49 (w : World) : (zeroValue 49).run Try.prog w = .ok (.agg (is (List.replicate 256 0)).toArray) w := by kernel_rfl
theorem wrapk_id {n : Int} (h0 : -9223372036854775808 ≤ n) (h1 : n ≤ 9223372036854775807) : IntKind.i64.wrap n = n := by
  simp [IntKind.wrap, IntKind.signed, IntKind.bits] <;> (try split) <;> omega
set_option maxRecDepth 100000 in
set_option maxHeartbeats 8000000 in
theorem once_walk {w : World} {X Y W H : Int} {a1 : Option Addr} {cl : Nat} {M : List Bl} (hM : Sb w a1 M) :
    Calls Try.prog 4 #[.agg #[.int .i64 X, .int .i64 Y, .int .i64 W, .int .i64 H], .slice a1 M.length cl] w fun e w' => e = .returned (.bool true) ∧ Below w.heap.size w w' := by
  have HTi : Hid (Below w.heap.size w (w.alloc (.cells #[.int .i64 X, .int .i64 Y, .int .i64 W, .int .i64 H] 23)) ∧ Ri 23 (w.alloc (.cells #[.int .i64 X, .int .i64 Y, .int .i64 W, .int .i64 H] 23)) w.heap.size [X, Y, W, H]) := ⟨from_alloc _ _, Ri.built 23 w [X, Y, W, H] rfl⟩
  have HAwk : Hid (∀ u, Calls Try.prog 9 #[] u fun e w' => e = .returned (.bool true) ∧ Below u.heap.size u w') := fun u => awake_any
  have HM : Hid (Sb w a1 M) := hM
  have hBa : ∀ u, Calls Try.prog 16 #[.int .i64 X, .int .i64 2] u fun e w' => e = .returned (.int .i64 (X % 2)) ∧ u = w' := fun u => bring_any (by omega) (by omega)
  have hBb : ∀ u, Calls Try.prog 16 #[.int .i64 Y, .int .i64 2] u fun e w' => e = .returned (.int .i64 (Y % 2)) ∧ u = w' := fun u => bring_any (by omega) (by omega)
  have hBc : ∀ u, Calls Try.prog 16 #[.int .i64 W, .int .i64 16] u fun e w' => e = .returned (.int .i64 (W % 16)) ∧ u = w' := fun u => bring_any (by omega) (by omega)
  have hBd : ∀ u, Calls Try.prog 16 #[.int .i64 H, .int .i64 16] u fun e w' => e = .returned (.int .i64 (H % 16)) ∧ u = w' := fun u => bring_any (by omega) (by omega)
  have a0 : 0 ≤ X % 2 := by omega
  have a1' : X % 2 < 2 := by omega
  have b0 : 0 ≤ Y % 2 := by omega
  have b1 : Y % 2 < 2 := by omega
  have d0 : 0 ≤ W % 16 := by omega
  have d1 : W % 16 < 16 := by omega
  have e0 : 0 ≤ H % 16 := by omega
  have e1 : H % 16 < 16 := by omega
  generalize X % 2 = ta at *
  generalize Y % 2 = tb at *
  generalize W % 16 = tc at *
  generalize H % 16 = td at *
  have HBa : Hid _ := hBa
  have HBb : Hid _ := hBb
  have HBc : Hid _ := hBc
  have HBd : Hid _ := hBd
  clear hBa hBb hBc hBd hM
  go_enter Try.func4, Try.ntmps4
  go_upto_region 1 with fail
  generalize hz : w.heap.size = z2 at *
  have HZ : Hid (w.heap.size = z2) := hz
  clear hz
  generalize (w.alloc (.cells #[.int .i64 X, .int .i64 Y, .int .i64 W, .int .i64 H] 23)) = V0 at *
  go_wp2_with fail
  refine (HAwk.out _).mono ?_
  rintro e V ⟨rfl, hb⟩
  have HTj : Hid (Below z2 w V ∧ Ri 23 V z2 [X, Y, W, H]) := ⟨HTi.out.1.trans (hb.mono (Nat.le_of_lt HTi.out.2.lt)), HTi.out.2.to hb⟩
  clear hb HTi
  have c0 : V.cell? ⟨z2, 0, none⟩ = some (.int .i64 X) := HTj.out.2.cell 0 (by simp)
  have c1 : V.cell? ⟨z2, 1, none⟩ = some (.int .i64 Y) := HTj.out.2.cell 1 (by simp)
  have c2 : V.cell? ⟨z2, 2, none⟩ = some (.int .i64 W) := HTj.out.2.cell 2 (by simp)
  have c3 : V.cell? ⟨z2, 3, none⟩ = some (.int .i64 H) := HTj.out.2.cell 3 (by simp)
  have f0 := HTj.out.2.thaw 0
  have f1 := HTj.out.2.thaw 1
  have f2 := HTj.out.2.thaw 2
  have f3 := HTj.out.2.thaw 3
  go_upto_region 3 with fail
  refine road_start (S := fun t => t.cell? ⟨z2, 0, none⟩ = some (.int .i64 X) ∧ t.cell? ⟨z2, 1, none⟩ = some (.int .i64 Y) ∧ t.cell? ⟨z2, 2, none⟩ = some (.int .i64 W) ∧ t.cell? ⟨z2, 3, none⟩ = some (.int .i64 H)) (z := 19) (by kernel_rfl) ?_
  change Road _ _ _ _ _ 20 #[false, false, false, false, false, false, false, false, false, false, false, false, false, false, false, false, false, false, false, false] _ _
  have hHeld : V.drew.cell? ⟨z2, 0, none⟩ = some (.int .i64 X) ∧ V.drew.cell? ⟨z2, 1, none⟩ = some (.int .i64 Y) ∧ V.drew.cell? ⟨z2, 2, none⟩ = some (.int .i64 W) ∧ V.drew.cell? ⟨z2, 3, none⟩ = some (.int .i64 H) := ⟨c0, c1, c2, c3⟩
  refine road_take (i := 0) (o := { dst := some 25, op := Op.fieldAddr 23 (Operand.tmp 2) 0, type := 0, pos := "outright.go:35", after := #[], guard := none }) (v := ?_) rfl (by kernel_rfl) (by kernel_rfl) (by kernel_rfl) (fun _ _ _ h => h) (by kernel_rfl) (Or.inl ⟨by rfl, ?hy⟩) (by assumption) ?_
  case hy =>
    intro wz hSw
    (try dsimp only at hSw)
    (try obtain ⟨hs0, hs1, hs2, hs3⟩ := hSw)
    first | (go_simp; done) | (go_simp; with_reducible rfl)
  simp only [Act.put, List.setIfInBounds_toArray, List.set_cons_zero, List.set_cons_succ]
  refine road_take (i := 1) (o := { dst := some 26, op := Op.load 3 (Operand.tmp 25), type := 3, pos := "outright.go:35", after := #[{ on := 0, ground := Ground.data }], guard := none }) (v := ?_) rfl (by kernel_rfl) (by kernel_rfl) (by kernel_rfl) (fun _ _ _ h => h) (by kernel_rfl) (Or.inl ⟨by rfl, ?hy⟩) (by assumption) ?_
  case hy =>
    intro wz hSw
    (try dsimp only at hSw)
    (try obtain ⟨hs0, hs1, hs2, hs3⟩ := hSw)
    first | (go_simp; done) | (go_simp; with_reducible rfl)
  simp only [Act.put, List.setIfInBounds_toArray, List.set_cons_zero, List.set_cons_succ]
  refine road_take (i := 4) (o := { dst := some 29, op := Op.fieldAddr 23 (Operand.tmp 2) 1, type := 0, pos := "outright.go:35", after := #[], guard := none }) (v := ?_) rfl (by kernel_rfl) (by kernel_rfl) (by kernel_rfl) (fun _ _ _ h => h) (by kernel_rfl) (Or.inl ⟨by rfl, ?hy⟩) (by assumption) ?_
  case hy =>
    intro wz hSw
    (try dsimp only at hSw)
    (try obtain ⟨hs0, hs1, hs2, hs3⟩ := hSw)
    first | (go_simp; done) | (go_simp; with_reducible rfl)
  simp only [Act.put, List.setIfInBounds_toArray, List.set_cons_zero, List.set_cons_succ]
  refine road_take (i := 5) (o := { dst := some 30, op := Op.load 3 (Operand.tmp 29), type := 3, pos := "outright.go:35", after := #[{ on := 4, ground := Ground.data }], guard := none }) (v := ?_) rfl (by kernel_rfl) (by kernel_rfl) (by kernel_rfl) (fun _ _ _ h => h) (by kernel_rfl) (Or.inl ⟨by rfl, ?hy⟩) (by assumption) ?_
  case hy =>
    intro wz hSw
    (try dsimp only at hSw)
    (try obtain ⟨hs0, hs1, hs2, hs3⟩ := hSw)
    first | (go_simp; done) | (go_simp; with_reducible rfl)
  simp only [Act.put, List.setIfInBounds_toArray, List.set_cons_zero, List.set_cons_succ]
  refine road_take (i := 8) (o := { dst := some 33, op := Op.fieldAddr 23 (Operand.tmp 2) 2, type := 0, pos := "outright.go:35", after := #[], guard := none }) (v := ?_) rfl (by kernel_rfl) (by kernel_rfl) (by kernel_rfl) (fun _ _ _ h => h) (by kernel_rfl) (Or.inl ⟨by rfl, ?hy⟩) (by assumption) ?_
  case hy =>
    intro wz hSw
    (try dsimp only at hSw)
    (try obtain ⟨hs0, hs1, hs2, hs3⟩ := hSw)
    first | (go_simp; done) | (go_simp; with_reducible rfl)
  simp only [Act.put, List.setIfInBounds_toArray, List.set_cons_zero, List.set_cons_succ]
  refine road_take (i := 9) (o := { dst := some 34, op := Op.load 3 (Operand.tmp 33), type := 3, pos := "outright.go:35", after := #[{ on := 8, ground := Ground.data }], guard := none }) (v := ?_) rfl (by kernel_rfl) (by kernel_rfl) (by kernel_rfl) (fun _ _ _ h => h) (by kernel_rfl) (Or.inl ⟨by rfl, ?hy⟩) (by assumption) ?_
  case hy =>
    intro wz hSw
    (try dsimp only at hSw)
    (try obtain ⟨hs0, hs1, hs2, hs3⟩ := hSw)
    first | (go_simp; done) | (go_simp; with_reducible rfl)
  simp only [Act.put, List.setIfInBounds_toArray, List.set_cons_zero, List.set_cons_succ]
  refine road_take (i := 13) (o := { dst := some 38, op := Op.fieldAddr 23 (Operand.tmp 2) 3, type := 0, pos := "outright.go:35", after := #[], guard := none }) (v := ?_) rfl (by kernel_rfl) (by kernel_rfl) (by kernel_rfl) (fun _ _ _ h => h) (by kernel_rfl) (Or.inl ⟨by rfl, ?hy⟩) (by assumption) ?_
  case hy =>
    intro wz hSw
    (try dsimp only at hSw)
    (try obtain ⟨hs0, hs1, hs2, hs3⟩ := hSw)
    first | (go_simp; done) | (go_simp; with_reducible rfl)
  simp only [Act.put, List.setIfInBounds_toArray, List.set_cons_zero, List.set_cons_succ]
  refine road_take (i := 14) (o := { dst := some 39, op := Op.load 3 (Operand.tmp 38), type := 3, pos := "outright.go:35", after := #[{ on := 13, ground := Ground.data }], guard := none }) (v := ?_) rfl (by kernel_rfl) (by kernel_rfl) (by kernel_rfl) (fun _ _ _ h => h) (by kernel_rfl) (Or.inl ⟨by rfl, ?hy⟩) (by assumption) ?_
  case hy =>
    intro wz hSw
    (try dsimp only at hSw)
    (try obtain ⟨hs0, hs1, hs2, hs3⟩ := hSw)
    first | (go_simp; done) | (go_simp; with_reducible rfl)
  simp only [Act.put, List.setIfInBounds_toArray, List.set_cons_zero, List.set_cons_succ]
  refine road_next (i := 2) (o := { dst := some 27, op := Op.call { callee := Callee.value (Operand.func 16), args := #[Operand.tmp 26, Operand.const (Value.int IntKind.i64 2)], argTypes := #[3, 3] }, type := 3, pos := "outright.go:35", after := #[{ on := 1, ground := Ground.data }], guard := none }) (by kernel_rfl) rfl (fun K hK => ?_)
  go_simp
  refine (HBa.out _).mono ?_
  rintro e w5 ⟨rfl, rfl⟩
  (try go_wp2_with fail)
  refine hK.out _ _ (Or.inr hHeld) ?_
  clear hK K
  (try simp only [List.setIfInBounds_toArray, List.set_cons_zero, List.set_cons_succ])
  refine road_take (i := 3) (o := { dst := some 28, op := Op.binOp BinOp.mul 3 (Operand.const (Value.int IntKind.i64 64)) (Operand.tmp 27) 3, type := 3, pos := "outright.go:35", after := #[{ on := 2, ground := Ground.data }], guard := none }) (v := ?_) rfl (by kernel_rfl) (by kernel_rfl) (by kernel_rfl) (fun _ _ _ h => h) (by kernel_rfl) (Or.inl ⟨by rfl, ?hy⟩) (by assumption) ?_
  case hy =>
    intro wz hSw
    (try dsimp only at hSw)
    (try obtain ⟨hs0, hs1, hs2, hs3⟩ := hSw)
    first | (go_simp; done) | (go_simp; with_reducible rfl)
  simp only [Act.put, List.setIfInBounds_toArray, List.set_cons_zero, List.set_cons_succ]
  refine road_next (i := 6) (o := { dst := some 31, op := Op.call { callee := Callee.value (Operand.func 16), args := #[Operand.tmp 30, Operand.const (Value.int IntKind.i64 2)], argTypes := #[3, 3] }, type := 3, pos := "outright.go:35", after := #[{ on := 5, ground := Ground.data }, { on := 2, ground := Ground.chain }], guard := none }) (by kernel_rfl) rfl (fun K hK => ?_)
  go_simp
  refine (HBb.out _).mono ?_
  rintro e w5 ⟨rfl, rfl⟩
  (try go_wp2_with fail)
  refine hK.out _ _ (Or.inr hHeld) ?_
  clear hK K
  (try simp only [List.setIfInBounds_toArray, List.set_cons_zero, List.set_cons_succ])
  refine road_take (i := 7) (o := { dst := some 32, op := Op.binOp BinOp.mul 3 (Operand.const (Value.int IntKind.i64 64)) (Operand.tmp 31) 3, type := 3, pos := "outright.go:35", after := #[{ on := 6, ground := Ground.data }], guard := none }) (v := ?_) rfl (by kernel_rfl) (by kernel_rfl) (by kernel_rfl) (fun _ _ _ h => h) (by kernel_rfl) (Or.inl ⟨by rfl, ?hy⟩) (by assumption) ?_
  case hy =>
    intro wz hSw
    (try dsimp only at hSw)
    (try obtain ⟨hs0, hs1, hs2, hs3⟩ := hSw)
    first | (go_simp; done) | (go_simp; with_reducible rfl)
  simp only [Act.put, List.setIfInBounds_toArray, List.set_cons_zero, List.set_cons_succ]
  refine road_next (i := 10) (o := { dst := some 35, op := Op.call { callee := Callee.value (Operand.func 16), args := #[Operand.tmp 34, Operand.const (Value.int IntKind.i64 16)], argTypes := #[3, 3] }, type := 3, pos := "outright.go:35", after := #[{ on := 9, ground := Ground.data }, { on := 6, ground := Ground.chain }], guard := none }) (by kernel_rfl) rfl (fun K hK => ?_)
  go_simp
  refine (HBc.out _).mono ?_
  rintro e w5 ⟨rfl, rfl⟩
  (try go_wp2_with fail)
  refine hK.out _ _ (Or.inr hHeld) ?_
  clear hK K
  (try simp only [List.setIfInBounds_toArray, List.set_cons_zero, List.set_cons_succ])
  refine road_take (i := 11) (o := { dst := some 36, op := Op.binOp BinOp.add 3 (Operand.const (Value.int IntKind.i64 1)) (Operand.tmp 35) 3, type := 3, pos := "outright.go:35", after := #[{ on := 10, ground := Ground.data }], guard := none }) (v := ?_) rfl (by kernel_rfl) (by kernel_rfl) (by kernel_rfl) (fun _ _ _ h => h) (by kernel_rfl) (Or.inl ⟨by rfl, ?hy⟩) (by assumption) ?_
  case hy =>
    intro wz hSw
    (try dsimp only at hSw)
    (try obtain ⟨hs0, hs1, hs2, hs3⟩ := hSw)
    first | (go_simp; done) | (go_simp; with_reducible rfl)
  simp only [Act.put, List.setIfInBounds_toArray, List.set_cons_zero, List.set_cons_succ]
  refine road_take (i := 12) (o := { dst := some 37, op := Op.binOp BinOp.mul 3 (Operand.const (Value.int IntKind.i64 8)) (Operand.tmp 36) 3, type := 3, pos := "outright.go:35", after := #[{ on := 11, ground := Ground.data }], guard := none }) (v := ?_) rfl (by kernel_rfl) (by kernel_rfl) (by kernel_rfl) (fun _ _ _ h => h) (by kernel_rfl) (Or.inl ⟨by rfl, ?hy⟩) (by assumption) ?_
  case hy =>
    intro wz hSw
    (try dsimp only at hSw)
    (try obtain ⟨hs0, hs1, hs2, hs3⟩ := hSw)
    first | (go_simp; done) | (go_simp; with_reducible rfl)
  simp only [Act.put, List.setIfInBounds_toArray, List.set_cons_zero, List.set_cons_succ]
  refine road_next (i := 15) (o := { dst := some 40, op := Op.call { callee := Callee.value (Operand.func 16), args := #[Operand.tmp 39, Operand.const (Value.int IntKind.i64 16)], argTypes := #[3, 3] }, type := 3, pos := "outright.go:35", after := #[{ on := 14, ground := Ground.data }, { on := 10, ground := Ground.chain }], guard := none }) (by kernel_rfl) rfl (fun K hK => ?_)
  go_simp
  refine (HBd.out _).mono ?_
  rintro e w5 ⟨rfl, rfl⟩
  (try go_wp2_with fail)
  refine hK.out _ _ (Or.inr hHeld) ?_
  clear hK K
  (try simp only [List.setIfInBounds_toArray, List.set_cons_zero, List.set_cons_succ])
  refine road_take (i := 16) (o := { dst := some 41, op := Op.binOp BinOp.add 3 (Operand.const (Value.int IntKind.i64 1)) (Operand.tmp 40) 3, type := 3, pos := "outright.go:35", after := #[{ on := 15, ground := Ground.data }], guard := none }) (v := ?_) rfl (by kernel_rfl) (by kernel_rfl) (by kernel_rfl) (fun _ _ _ h => h) (by kernel_rfl) (Or.inl ⟨by rfl, ?hy⟩) (by assumption) ?_
  case hy =>
    intro wz hSw
    (try dsimp only at hSw)
    (try obtain ⟨hs0, hs1, hs2, hs3⟩ := hSw)
    first | (go_simp; done) | (go_simp; with_reducible rfl)
  simp only [Act.put, List.setIfInBounds_toArray, List.set_cons_zero, List.set_cons_succ]
  refine road_take (i := 17) (o := { dst := some 42, op := Op.binOp BinOp.mul 3 (Operand.const (Value.int IntKind.i64 8)) (Operand.tmp 41) 3, type := 3, pos := "outright.go:35", after := #[{ on := 16, ground := Ground.data }], guard := none }) (v := ?_) rfl (by kernel_rfl) (by kernel_rfl) (by kernel_rfl) (fun _ _ _ h => h) (by kernel_rfl) (Or.inl ⟨by rfl, ?hy⟩) (by assumption) ?_
  case hy =>
    intro wz hSw
    (try dsimp only at hSw)
    (try obtain ⟨hs0, hs1, hs2, hs3⟩ := hSw)
    first | (go_simp; done) | (go_simp; with_reducible rfl)
  simp only [Act.put, List.setIfInBounds_toArray, List.set_cons_zero, List.set_cons_succ]
  refine road_take (i := 18) (o := { dst := some 43, op := Op.build 23 #[(0, Operand.tmp 28), (1, Operand.tmp 32), (2, Operand.tmp 37), (3, Operand.tmp 42)], type := 23, pos := "outright.go:35", after := #[{ on := 3, ground := Ground.data }, { on := 7, ground := Ground.data }, { on := 12, ground := Ground.data }, { on := 17, ground := Ground.data }], guard := none }) (v := ?_) rfl (by kernel_rfl) (by kernel_rfl) (by kernel_rfl) (fun _ _ _ h => h) (by kernel_rfl) (Or.inl ⟨by rfl, ?hy⟩) (by assumption) ?_
  case hy =>
    intro wz hSw
    (try dsimp only at hSw)
    (try obtain ⟨hs0, hs1, hs2, hs3⟩ := hSw)
    first | (go_simp; done) | (go_simp; with_reducible rfl)
  simp only [Act.put, List.setIfInBounds_toArray, List.set_cons_zero, List.set_cons_succ]
  refine road_next (i := 19) (o := { dst := none, op := Op.store 23 (Operand.tmp 2) (Operand.tmp 43), type := 0, pos := "outright.go:35", after := #[{ on := 18, ground := Ground.data }, { on := 15, ground := Ground.chain }, { on := 0, ground := Ground.phase }, { on := 1, ground := Ground.phase }, { on := 2, ground := Ground.phase }, { on := 3, ground := Ground.phase }, { on := 4, ground := Ground.phase }, { on := 5, ground := Ground.phase }, { on := 6, ground := Ground.phase }, { on := 7, ground := Ground.phase }, { on := 8, ground := Ground.phase }, { on := 9, ground := Ground.phase }, { on := 10, ground := Ground.phase }, { on := 11, ground := Ground.phase }, { on := 12, ground := Ground.phase }, { on := 13, ground := Ground.phase }, { on := 14, ground := Ground.phase }, { on := 15, ground := Ground.phase }, { on := 16, ground := Ground.phase }, { on := 17, ground := Ground.phase }, { on := 18, ground := Ground.phase }], guard := none }) (by kernel_rfl) rfl (fun K hK => ?_)
  go_simp
  refine hK.out _ _ (Or.inl rfl) ?_
  clear hK K
  (try simp only [List.setIfInBounds_toArray, List.set_cons_zero, List.set_cons_succ])
  refine road_done (by kernel_rfl) ?_
  have wa : IntKind.i64.wrap (64 * ta) = 64 * ta := wrapk_id (by omega) (by omega)
  have wb : IntKind.i64.wrap (64 * tb) = 64 * tb := wrapk_id (by omega) (by omega)
  have wc1 : IntKind.i64.wrap (1 + tc) = 1 + tc := wrapk_id (by omega) (by omega)
  have wc2 : IntKind.i64.wrap (8 * (1 + tc)) = 8 * (1 + tc) := wrapk_id (by omega) (by omega)
  have wd1 : IntKind.i64.wrap (1 + td) = 1 + td := wrapk_id (by omega) (by omega)
  have wd2 : IntKind.i64.wrap (8 * (1 + td)) = 8 * (1 + td) := wrapk_id (by omega) (by omega)
  simp only [wa, wb, wc1, wc2, wd1, wd2]
  clear wa wb wc1 wc2 wd1 wd2
  go_upto_region 4 with fail
  have HUb : Hid (Below z2 w ((((V.setCell ⟨z2, 0, none⟩ (.int .i64 (64 * ta))).setCell ⟨z2, 1, none⟩ (.int .i64 (64 * tb))).setCell ⟨z2, 2, none⟩ (.int .i64 (8 * (1 + tc)))).setCell ⟨z2, 3, none⟩ (.int .i64 (8 * (1 + td)))).drew) := below_drew (below_set (below_set (below_set (below_set HTj.out.1 (Nat.le_refl _) _) (Nat.le_refl _) _) (Nat.le_refl _) _) (Nat.le_refl _) _)
  have HUr : Hid (Ri 23 ((((V.setCell ⟨z2, 0, none⟩ (.int .i64 (64 * ta))).setCell ⟨z2, 1, none⟩ (.int .i64 (64 * tb))).setCell ⟨z2, 2, none⟩ (.int .i64 (8 * (1 + tc)))).setCell ⟨z2, 3, none⟩ (.int .i64 (8 * (1 + td)))).drew z2 [64 * ta, 64 * tb, 8 * (1 + tc), 8 * (1 + td)]) := ((((HTj.out.2.set 0 _).set 1 _).set 2 _).set 3 _).drew
  have HT2 : Hid (To2 (64 * ta, 64 * tb, 8 * (1 + tc), 8 * (1 + td))) := to2 a0 a1' b0 b1 d0 d1 e0 e1
  have bx : 0 ≤ 64 * ta ∧ 64 * ta ≤ 64 ∧ 0 ≤ 64 * tb ∧ 64 * tb ≤ 64 ∧ 8 ≤ 8 * (1 + tc) ∧ 8 * (1 + tc) ≤ 128 ∧ 8 ≤ 8 * (1 + td) ∧ 8 * (1 + td) ≤ 128 := by omega
  generalize ((((V.setCell ⟨z2, 0, none⟩ (.int .i64 (64 * ta))).setCell ⟨z2, 1, none⟩ (.int .i64 (64 * tb))).setCell ⟨z2, 2, none⟩ (.int .i64 (8 * (1 + tc)))).setCell ⟨z2, 3, none⟩ (.int .i64 (8 * (1 + td)))).drew = U at *
  clear c0 c1 c2 c3 f0 f1 f2 f3 HTj hHeld HBa HBb HBc HBd a0 a1' b0 b1 d0 d1 e0 e1
  generalize 64 * ta = x0 at *
  generalize 64 * tb = y0 at *
  generalize 8 * (1 + tc) = w0 at *
  generalize 8 * (1 + td) = h0 at *
  obtain ⟨x0a, x0b, y0a, y0b, w0a, w0b, h0a, h0b⟩ := bx
  have c0 : U.cell? ⟨z2, 0, none⟩ = some (.int .i64 x0) := HUr.out.cell 0 (by simp)
  have c1 : U.cell? ⟨z2, 1, none⟩ = some (.int .i64 y0) := HUr.out.cell 1 (by simp)
  have c2 : U.cell? ⟨z2, 2, none⟩ = some (.int .i64 w0) := HUr.out.cell 2 (by simp)
  have c3 : U.cell? ⟨z2, 3, none⟩ = some (.int .i64 h0) := HUr.out.cell 3 (by simp)
  go_wp2_with fail
  refine (new_ok (T := (x0, y0, w0, h0)) HT2.out.ok).mono ?_
  rintro e u1 ⟨p, m, rfl, hgd, hp, hm, hb⟩
  have HGd : Hid (Gd u1 p m (x0, y0, w0, h0) (.slice none 0 0) []) := hgd
  have HPm : Hid (U.heap.size ≤ p ∧ U.heap.size ≤ m) := ⟨hp, hm⟩
  have HU1 : Hid (Below z2 w u1 ∧ Ri 23 u1 z2 [x0, y0, w0, h0]) := ⟨HUb.out.trans (hb.mono (Nat.le_of_lt HUr.out.lt)), HUr.out.to hb⟩
  have HZ2 : Hid (z2 < U.heap.size) := HUr.out.lt
  clear hgd hp hm hb c0 c1 c2 c3 HUb HUr
  obtain ⟨zz, hzz⟩ : ∃ zz : Array Value, (is (List.replicate 256 0)).toArray = zz := ⟨_, rfl⟩
  have hz49 : ∀ u, (zeroValue 49).run Try.prog u = .ok (.agg zz) u := fun u => by rw [← hzz]; exact Try.zero49 u
  have HZz : Hid ((is (List.replicate 256 0)).toArray = zz) := hzz
  clear hzz
  go_upto_region 8 with fail
  clear hz49
  have HOs0 : Hid (Os w (u1.alloc (.cells zz 49)) z2 u1.heap.size p m (x0, y0, w0, h0) (.slice none 0 0) (.slice none 0 0) [] [] (List.replicate 256 0)) := by
    have l1 := HGd.out.blt (i := p) (Or.inl rfl)
    have l2 := HGd.out.blt (i := m) (Or.inr (Or.inl rfl))
    have l3 := HPm.out
    have l4 := HZ2.out
    have l5 := HU1.out.2.lt
    refine ⟨HGd.out.to (from_alloc _ _), HU1.out.2.to (from_alloc _ _), by rw [← HZz.out]; exact Ri.built 49 u1 (List.replicate 256 0) rfl, Or.nil _ _, ?_, by omega, fun i hi => ?_, ⟨fun e => (by cases e), fun e => (by cases e)⟩, ⟨by rw [HZ.out]; omega, by rw [HZ.out]; omega⟩, fun i hi => ?_⟩
    · rw [HZ.out]
      exact HU1.out.1.trans ((from_alloc _ _).mono (Nat.le_of_lt l5))
    · rcases hi with rfl | rfl | hi
      · exact ⟨by omega, by omega, fun e => (by cases e)⟩
      · exact ⟨by omega, by omega, fun e => (by cases e)⟩
      · cases hi
    · rw [HZ.out]
      rcases hi with rfl | rfl | hi
      · omega
      · omega
      · cases hi
  generalize u1.heap.size = zo at *
  generalize (u1.alloc (.cells zz 49)) = U3 at *
  clear HGd HPm HU1 HZ2 HZz
  go_wp2_with fail
  go_loopw [8, 9] (fun vp i wr => ∃ (k : Nat) (v : Value) (L : List Bl) (C : List Int), k ≤ M.length ∧ k ≤ 60 ∧ i = .int .i64 (k : Int) ∧ Os w wr z2 zo p m (x0, y0, w0, h0) v vp L L C ∧ Wo (x0, y0, w0, h0) L C ∧ L.length ≤ k) (fun _ i _ => M.length - (intOf i).toNat)
  case atStart => exact ⟨0, _, _, _, by omega, by omega, by simp, HOs0.out, Wo.none, by simp⟩
  case round =>
    clear HOs0
    obtain ⟨k, v, L, C, hk, hk1, rfl, hos, hwo, hl⟩ := hrel
    obtain ⟨vp, rfl⟩ : ∃ vp, vp = u8 := ⟨_, rfl⟩
    have HOs : Hid (Os w wr z2 zo p m (x0, y0, w0, h0) v vp L L C) := hos
    have HWo : Hid (Wo (x0, y0, w0, h0) L C) := hwo
    have HLk : Hid (L.length ≤ k) := hl
    clear hos hwo hl
    obtain ⟨cv, hcv⟩ : ∃ cv, decide (k < M.length ∧ k < 60) = cv := ⟨_, rfl⟩
    have HCv : Hid (decide (k < M.length ∧ k < 60) = cv) := hcv
    have k0 : (0 : Int) ≤ (k : Int) := by omega
    clear hcv
    go_upto_region 10 with fail
    go_cut [58] from 51 to 209 (fun s U => s = .bool cv ∧ wr = U)
    case first =>
      by_cases h1 : k < M.length
      · have j1 : (k : Int) < (M.length : Int) := by omega
        by_cases h2 : k < 60
        · have j2 : (k : Int) < 60 := by omega
          obtain rfl : true = cv := by rw [← HCv.out]; exact (decide_eq_true ⟨h1, h2⟩).symm
          go_wp2_with fail
          go_meet
          exact ⟨rfl, rfl⟩
        · have j2 : ¬ (k : Int) < 60 := by omega
          obtain rfl : false = cv := by rw [← HCv.out]; exact (decide_eq_false (fun h => h2 h.2)).symm
          go_wp2_with fail
          go_meet
          exact ⟨rfl, rfl⟩
      · have j1 : ¬ (k : Int) < (M.length : Int) := by omega
        obtain rfl : false = cv := by rw [← HCv.out]; exact (decide_eq_false (fun h => h1 h.1)).symm
        go_wp2_with fail
        go_meet
        exact ⟨rfl, rfl⟩
    obtain ⟨rfl, rfl⟩ := hcut
    clear k0
    by_cases hlt : k < M.length ∧ k < 60
    · as_aux_lemma =>
       obtain rfl : true = cv := by rw [← HCv.out]; exact (decide_eq_true hlt).symm
       clear HCv
       obtain ⟨g, o, rfl, hgl, hgc⟩ := HM.out.form (by omega)
       obtain ⟨b0, hb0⟩ : ∃ b0, M.getD k bz = b0 := ⟨_, rfl⟩
       have HBi : Hid (Bc wr g (o + k * 23) b0) := by have h := (hgc k hlt.1).below HOs.out.bel hgl; rw [hb0] at h; exact h
       have k0 : (0 : Int) ≤ (k : Int) := by omega
       have k1 : (k : Int) < (M.length : Int) := by omega
       have k2 : (k : Int) < 60 := by omega
       have HK : Hid (k < M.length ∧ k < 60) := hlt
       have HOn : Hid (Ob (wr.alloc (.cells bz.cs.toArray 40)) wr.heap.size bz) := Ob.new wr bz rfl
       clear hgl hgc hb0 hlt hk hk1
       go_upto_region 13 with (first | (refine wpList_load_block (by rfl) _ (by rfl) g (o + k * 23) (by rfl) b0 HBi.out ?_) | (refine wpList_store_block (by rfl) _ _ (by rfl) wr.heap.size bz b0 HOn.out (by rfl) (by rfl) ?_; intro w2 hob hsw; have w2z : Hid (Oz w w2 z2 zo p m (x0, y0, w0, h0) v vp L L C wr.heap.size b0) := Oz.mk' HOs.out (hsw.below (from_alloc _ _) (Nat.le_refl _)) hob; clear hob hsw))
       clear HOn HBi HOs
       generalize wr.heap.size = zb at *
       obtain ⟨ct0, ct1, ct2, ct3⟩ := w2z.out.os.ts
       have ct : w2.cell? ⟨z2, 0, none⟩ = some (.int .i64 x0) := ct0
       clear ct0 ct1 ct2 ct3
       have cb : w2.cell? ⟨zb, 0, none⟩ = some (.int .i64 b0.x) := w2z.out.ob.c 0 _ rfl
       have fb : w2.frozen? ⟨zb, 0, none⟩ = false := w2z.out.ob.thaw 0
       have hBr : ∀ u, Calls Try.prog 16 #[.int .i64 b0.x, .int .i64 18] u fun e w' => e = .returned (.int .i64 (b0.x % 18)) ∧ u = w' := fun u => bring_any (by omega) (by omega)
       obtain ⟨px, hpx⟩ : ∃ px : Nat, b0.x % 18 = (px : Int) := ⟨(b0.x % 18).toNat, by omega⟩
       have Hpx : Hid (px < 18) := by show _ < _; omega
       rw [hpx] at hBr
       have HBr : Hid _ := hBr
       have p0 : (0 : Int) ≤ (px : Int) := by omega
       have p1 : (px : Int) < 18 := by omega
       clear hBr hpx
       generalize b0.x = bv at *
       have wp1 : IntKind.i64.wrap (8 * (px : Int)) = 8 * (px : Int) := wrapk_id (by omega) (by omega)
       have wp2 : IntKind.i64.wrap (x0 + 8 * (px : Int)) = x0 + 8 * (px : Int) := wrapk_id (by omega) (by omega)
       refine road_start (S := fun t => t.cell? ⟨z2, 0, none⟩ = some (.int .i64 x0) ∧ t.cell? ⟨zb, 0, none⟩ = some (.int .i64 bv)) (z := 8) (by kernel_rfl) ?_
       change Road _ _ _ _ _ 9 #[false, false, false, false, false, false, false, false, false] _ _
       have hHeld : w2.drew.cell? ⟨z2, 0, none⟩ = some (.int .i64 x0) ∧ w2.drew.cell? ⟨zb, 0, none⟩ = some (.int .i64 bv) := ⟨ct, cb⟩
       refine road_take (i := 0) (o := { dst := some 65, op := Op.fieldAddr 23 (Operand.tmp 2) 0, type := 0, pos := "outright.go:44", after := #[], guard := none }) (v := ?_) rfl (by kernel_rfl) (by kernel_rfl) (by kernel_rfl) (fun _ _ _ h => h) (by kernel_rfl) (Or.inl ⟨by rfl, ?hy⟩) (by assumption) ?_
       case hy =>
         intro wz hSw
         (try dsimp only at hSw)
         (try obtain ⟨hs0, hs1⟩ := hSw)
         first | (go_simp; done) | (go_simp; with_reducible rfl)
       simp only [Act.put, List.setIfInBounds_toArray, List.set_cons_zero, List.set_cons_succ]
       refine road_take (i := 1) (o := { dst := some 66, op := Op.load 3 (Operand.tmp 65), type := 3, pos := "outright.go:44", after := #[{ on := 0, ground := Ground.data }], guard := none }) (v := ?_) rfl (by kernel_rfl) (by kernel_rfl) (by kernel_rfl) (fun _ _ _ h => h) (by kernel_rfl) (Or.inl ⟨by rfl, ?hy⟩) (by assumption) ?_
       case hy =>
         intro wz hSw
         (try dsimp only at hSw)
         (try obtain ⟨hs0, hs1⟩ := hSw)
         first | (go_simp; done) | (go_simp; with_reducible rfl)
       simp only [Act.put, List.setIfInBounds_toArray, List.set_cons_zero, List.set_cons_succ]
       refine road_take (i := 2) (o := { dst := some 67, op := Op.fieldAddr 40 (Operand.tmp 10) 0, type := 0, pos := "outright.go:44", after := #[], guard := none }) (v := ?_) rfl (by kernel_rfl) (by kernel_rfl) (by kernel_rfl) (fun _ _ _ h => h) (by kernel_rfl) (Or.inl ⟨by rfl, ?hy⟩) (by assumption) ?_
       case hy =>
         intro wz hSw
         (try dsimp only at hSw)
         (try obtain ⟨hs0, hs1⟩ := hSw)
         first | (go_simp; done) | (go_simp; with_reducible rfl)
       simp only [Act.put, List.setIfInBounds_toArray, List.set_cons_zero, List.set_cons_succ]
       refine road_take (i := 3) (o := { dst := some 68, op := Op.load 3 (Operand.tmp 67), type := 3, pos := "outright.go:44", after := #[{ on := 2, ground := Ground.data }], guard := none }) (v := ?_) rfl (by kernel_rfl) (by kernel_rfl) (by kernel_rfl) (fun _ _ _ h => h) (by kernel_rfl) (Or.inl ⟨by rfl, ?hy⟩) (by assumption) ?_
       case hy =>
         intro wz hSw
         (try dsimp only at hSw)
         (try obtain ⟨hs0, hs1⟩ := hSw)
         first | (go_simp; done) | (go_simp; with_reducible rfl)
       simp only [Act.put, List.setIfInBounds_toArray, List.set_cons_zero, List.set_cons_succ]
       refine road_next (i := 4) (o := { dst := some 69, op := Op.call { callee := Callee.value (Operand.func 16), args := #[Operand.tmp 68, Operand.const (Value.int IntKind.i64 18)], argTypes := #[3, 3] }, type := 3, pos := "outright.go:44", after := #[{ on := 3, ground := Ground.data }], guard := none }) (by kernel_rfl) rfl (fun K hK => ?_)
       go_simp
       refine (HBr.out _).mono ?_
       rintro e w5 ⟨rfl, rfl⟩
       (try go_wp2_with fail)
       refine hK.out _ _ (Or.inr hHeld) ?_
       clear hK K
       (try simp only [List.setIfInBounds_toArray, List.set_cons_zero, List.set_cons_succ])
       refine road_take (i := 5) (o := { dst := some 70, op := Op.binOp BinOp.mul 3 (Operand.const (Value.int IntKind.i64 8)) (Operand.tmp 69) 3, type := 3, pos := "outright.go:44", after := #[{ on := 4, ground := Ground.data }], guard := none }) (v := ?_) rfl (by kernel_rfl) (by kernel_rfl) (by kernel_rfl) (fun _ _ _ h => h) (by kernel_rfl) (Or.inl ⟨by rfl, ?hy⟩) (by assumption) ?_
       case hy =>
         intro wz hSw
         (try dsimp only at hSw)
         (try obtain ⟨hs0, hs1⟩ := hSw)
         first | (go_simp; done) | (go_simp; with_reducible rfl)
       simp only [Act.put, List.setIfInBounds_toArray, List.set_cons_zero, List.set_cons_succ]
       refine road_take (i := 6) (o := { dst := some 71, op := Op.binOp BinOp.add 3 (Operand.tmp 66) (Operand.tmp 70) 3, type := 3, pos := "outright.go:44", after := #[{ on := 1, ground := Ground.data }, { on := 5, ground := Ground.data }], guard := none }) (v := ?_) rfl (by kernel_rfl) (by kernel_rfl) (by kernel_rfl) (fun _ _ _ h => h) (by kernel_rfl) (Or.inl ⟨by rfl, ?hy⟩) (by assumption) ?_
       case hy =>
         intro wz hSw
         (try dsimp only at hSw)
         (try obtain ⟨hs0, hs1⟩ := hSw)
         first | (go_simp; done) | (go_simp; with_reducible rfl)
       simp only [Act.put, List.setIfInBounds_toArray, List.set_cons_zero, List.set_cons_succ]
       refine road_take (i := 7) (o := { dst := some 72, op := Op.fieldAddr 40 (Operand.tmp 10) 0, type := 0, pos := "outright.go:44", after := #[{ on := 0, ground := Ground.phase }, { on := 1, ground := Ground.phase }, { on := 2, ground := Ground.phase }, { on := 3, ground := Ground.phase }, { on := 4, ground := Ground.phase }, { on := 5, ground := Ground.phase }, { on := 6, ground := Ground.phase }], guard := none }) (v := ?_) rfl (by kernel_rfl) (by kernel_rfl) (by kernel_rfl) (fun _ _ _ h => h) (by kernel_rfl) (Or.inl ⟨by rfl, ?hy⟩) (by assumption) ?_
       case hy =>
         intro wz hSw
         (try dsimp only at hSw)
         (try obtain ⟨hs0, hs1⟩ := hSw)
         first | (go_simp; done) | (go_simp; with_reducible rfl)
       simp only [Act.put, List.setIfInBounds_toArray, List.set_cons_zero, List.set_cons_succ]
       refine road_next (i := 8) (o := { dst := none, op := Op.store 3 (Operand.tmp 72) (Operand.tmp 71), type := 0, pos := "outright.go:44", after := #[{ on := 7, ground := Ground.data }, { on := 6, ground := Ground.data }, { on := 4, ground := Ground.chain }, { on := 0, ground := Ground.phase }, { on := 1, ground := Ground.phase }, { on := 2, ground := Ground.phase }, { on := 3, ground := Ground.phase }, { on := 4, ground := Ground.phase }, { on := 5, ground := Ground.phase }, { on := 6, ground := Ground.phase }], guard := none }) (by kernel_rfl) rfl (fun K hK => ?_)
       go_simp
       refine hK.out _ _ (Or.inl rfl) ?_
       clear hK K
       (try simp only [List.setIfInBounds_toArray, List.set_cons_zero, List.set_cons_succ])
       refine road_done (by kernel_rfl) ?_
       (try simp only [wp1, wp2])
       clear wp1 wp2 HBr p0 p1 ct cb fb hHeld
       have w3z' : Hid (Oz w (w2.setCell ⟨zb, 0, none⟩ (.int .i64 (x0 + 8 * (px : Int)))).drew z2 zo p m (x0, y0, w0, h0) v vp L L C zb { b0 with x := x0 + 8 * (px : Int) }) := (w2z.out.sw (Sw.set _ zb 0 _) (w2z.out.ob.fx _)).to (below_drew (Below.refl _ _))
       go_upto_region 14 with fail
       generalize (w2.setCell ⟨zb, 0, none⟩ (.int .i64 (x0 + 8 * (px : Int)))).drew = w3 at *
       have w3z := w3z'
       clear w3z' w2z
       obtain ⟨b1, hb1⟩ : ∃ b1, { b0 with x := x0 + 8 * (px : Int) } = b1 := ⟨_, rfl⟩
       have B1 : Hid (b1.x = x0 + 8 * (px : Int)) := by show _ = _; rw [← hb1]
       rw [hb1] at w3z
       clear hb1
       obtain ⟨ct0, ct1, ct2, ct3⟩ := w3z.out.os.ts
       have ct : w3.cell? ⟨z2, 1, none⟩ = some (.int .i64 y0) := ct1
       clear ct0 ct1 ct2 ct3
       have cb : w3.cell? ⟨zb, 1, none⟩ = some (.int .i64 b1.y) := w3z.out.ob.c 1 _ rfl
       have fb : w3.frozen? ⟨zb, 1, none⟩ = false := w3z.out.ob.thaw 1
       have hBr : ∀ u, Calls Try.prog 16 #[.int .i64 b1.y, .int .i64 18] u fun e w' => e = .returned (.int .i64 (b1.y % 18)) ∧ u = w' := fun u => bring_any (by omega) (by omega)
       obtain ⟨py, hpy⟩ : ∃ py : Nat, b1.y % 18 = (py : Int) := ⟨(b1.y % 18).toNat, by omega⟩
       have Hpy : Hid (py < 18) := by show _ < _; omega
       rw [hpy] at hBr
       have HBr : Hid _ := hBr
       have p0 : (0 : Int) ≤ (py : Int) := by omega
       have p1 : (py : Int) < 18 := by omega
       clear hBr hpy
       generalize b1.y = bv at *
       have wp1 : IntKind.i64.wrap (8 * (py : Int)) = 8 * (py : Int) := wrapk_id (by omega) (by omega)
       have wp2 : IntKind.i64.wrap (y0 + 8 * (py : Int)) = y0 + 8 * (py : Int) := wrapk_id (by omega) (by omega)
       refine road_start (S := fun t => t.cell? ⟨z2, 1, none⟩ = some (.int .i64 y0) ∧ t.cell? ⟨zb, 1, none⟩ = some (.int .i64 bv)) (z := 8) (by kernel_rfl) ?_
       change Road _ _ _ _ _ 9 #[false, false, false, false, false, false, false, false, false] _ _
       have hHeld : w3.drew.cell? ⟨z2, 1, none⟩ = some (.int .i64 y0) ∧ w3.drew.cell? ⟨zb, 1, none⟩ = some (.int .i64 bv) := ⟨ct, cb⟩
       refine road_take (i := 0) (o := { dst := some 73, op := Op.fieldAddr 23 (Operand.tmp 2) 1, type := 0, pos := "outright.go:45", after := #[], guard := none }) (v := ?_) rfl (by kernel_rfl) (by kernel_rfl) (by kernel_rfl) (fun _ _ _ h => h) (by kernel_rfl) (Or.inl ⟨by rfl, ?hy⟩) (by assumption) ?_
       case hy =>
         intro wz hSw
         (try dsimp only at hSw)
         (try obtain ⟨hs0, hs1⟩ := hSw)
         first | (go_simp; done) | (go_simp; with_reducible rfl)
       simp only [Act.put, List.setIfInBounds_toArray, List.set_cons_zero, List.set_cons_succ]
       refine road_take (i := 1) (o := { dst := some 74, op := Op.load 3 (Operand.tmp 73), type := 3, pos := "outright.go:45", after := #[{ on := 0, ground := Ground.data }], guard := none }) (v := ?_) rfl (by kernel_rfl) (by kernel_rfl) (by kernel_rfl) (fun _ _ _ h => h) (by kernel_rfl) (Or.inl ⟨by rfl, ?hy⟩) (by assumption) ?_
       case hy =>
         intro wz hSw
         (try dsimp only at hSw)
         (try obtain ⟨hs0, hs1⟩ := hSw)
         first | (go_simp; done) | (go_simp; with_reducible rfl)
       simp only [Act.put, List.setIfInBounds_toArray, List.set_cons_zero, List.set_cons_succ]
       refine road_take (i := 2) (o := { dst := some 75, op := Op.fieldAddr 40 (Operand.tmp 10) 1, type := 0, pos := "outright.go:45", after := #[], guard := none }) (v := ?_) rfl (by kernel_rfl) (by kernel_rfl) (by kernel_rfl) (fun _ _ _ h => h) (by kernel_rfl) (Or.inl ⟨by rfl, ?hy⟩) (by assumption) ?_
       case hy =>
         intro wz hSw
         (try dsimp only at hSw)
         (try obtain ⟨hs0, hs1⟩ := hSw)
         first | (go_simp; done) | (go_simp; with_reducible rfl)
       simp only [Act.put, List.setIfInBounds_toArray, List.set_cons_zero, List.set_cons_succ]
       refine road_take (i := 3) (o := { dst := some 76, op := Op.load 3 (Operand.tmp 75), type := 3, pos := "outright.go:45", after := #[{ on := 2, ground := Ground.data }], guard := none }) (v := ?_) rfl (by kernel_rfl) (by kernel_rfl) (by kernel_rfl) (fun _ _ _ h => h) (by kernel_rfl) (Or.inl ⟨by rfl, ?hy⟩) (by assumption) ?_
       case hy =>
         intro wz hSw
         (try dsimp only at hSw)
         (try obtain ⟨hs0, hs1⟩ := hSw)
         first | (go_simp; done) | (go_simp; with_reducible rfl)
       simp only [Act.put, List.setIfInBounds_toArray, List.set_cons_zero, List.set_cons_succ]
       refine road_next (i := 4) (o := { dst := some 77, op := Op.call { callee := Callee.value (Operand.func 16), args := #[Operand.tmp 76, Operand.const (Value.int IntKind.i64 18)], argTypes := #[3, 3] }, type := 3, pos := "outright.go:45", after := #[{ on := 3, ground := Ground.data }], guard := none }) (by kernel_rfl) rfl (fun K hK => ?_)
       go_simp
       refine (HBr.out _).mono ?_
       rintro e w5 ⟨rfl, rfl⟩
       (try go_wp2_with fail)
       refine hK.out _ _ (Or.inr hHeld) ?_
       clear hK K
       (try simp only [List.setIfInBounds_toArray, List.set_cons_zero, List.set_cons_succ])
       refine road_take (i := 5) (o := { dst := some 78, op := Op.binOp BinOp.mul 3 (Operand.const (Value.int IntKind.i64 8)) (Operand.tmp 77) 3, type := 3, pos := "outright.go:45", after := #[{ on := 4, ground := Ground.data }], guard := none }) (v := ?_) rfl (by kernel_rfl) (by kernel_rfl) (by kernel_rfl) (fun _ _ _ h => h) (by kernel_rfl) (Or.inl ⟨by rfl, ?hy⟩) (by assumption) ?_
       case hy =>
         intro wz hSw
         (try dsimp only at hSw)
         (try obtain ⟨hs0, hs1⟩ := hSw)
         first | (go_simp; done) | (go_simp; with_reducible rfl)
       simp only [Act.put, List.setIfInBounds_toArray, List.set_cons_zero, List.set_cons_succ]
       refine road_take (i := 6) (o := { dst := some 79, op := Op.binOp BinOp.add 3 (Operand.tmp 74) (Operand.tmp 78) 3, type := 3, pos := "outright.go:45", after := #[{ on := 1, ground := Ground.data }, { on := 5, ground := Ground.data }], guard := none }) (v := ?_) rfl (by kernel_rfl) (by kernel_rfl) (by kernel_rfl) (fun _ _ _ h => h) (by kernel_rfl) (Or.inl ⟨by rfl, ?hy⟩) (by assumption) ?_
       case hy =>
         intro wz hSw
         (try dsimp only at hSw)
         (try obtain ⟨hs0, hs1⟩ := hSw)
         first | (go_simp; done) | (go_simp; with_reducible rfl)
       simp only [Act.put, List.setIfInBounds_toArray, List.set_cons_zero, List.set_cons_succ]
       refine road_take (i := 7) (o := { dst := some 80, op := Op.fieldAddr 40 (Operand.tmp 10) 1, type := 0, pos := "outright.go:45", after := #[{ on := 0, ground := Ground.phase }, { on := 1, ground := Ground.phase }, { on := 2, ground := Ground.phase }, { on := 3, ground := Ground.phase }, { on := 4, ground := Ground.phase }, { on := 5, ground := Ground.phase }, { on := 6, ground := Ground.phase }], guard := none }) (v := ?_) rfl (by kernel_rfl) (by kernel_rfl) (by kernel_rfl) (fun _ _ _ h => h) (by kernel_rfl) (Or.inl ⟨by rfl, ?hy⟩) (by assumption) ?_
       case hy =>
         intro wz hSw
         (try dsimp only at hSw)
         (try obtain ⟨hs0, hs1⟩ := hSw)
         first | (go_simp; done) | (go_simp; with_reducible rfl)
       simp only [Act.put, List.setIfInBounds_toArray, List.set_cons_zero, List.set_cons_succ]
       refine road_next (i := 8) (o := { dst := none, op := Op.store 3 (Operand.tmp 80) (Operand.tmp 79), type := 0, pos := "outright.go:45", after := #[{ on := 7, ground := Ground.data }, { on := 6, ground := Ground.data }, { on := 4, ground := Ground.chain }, { on := 0, ground := Ground.phase }, { on := 1, ground := Ground.phase }, { on := 2, ground := Ground.phase }, { on := 3, ground := Ground.phase }, { on := 4, ground := Ground.phase }, { on := 5, ground := Ground.phase }, { on := 6, ground := Ground.phase }], guard := none }) (by kernel_rfl) rfl (fun K hK => ?_)
       go_simp
       refine hK.out _ _ (Or.inl rfl) ?_
       clear hK K
       (try simp only [List.setIfInBounds_toArray, List.set_cons_zero, List.set_cons_succ])
       refine road_done (by kernel_rfl) ?_
       (try simp only [wp1, wp2])
       clear wp1 wp2 HBr p0 p1 ct cb fb hHeld
       have w4z' : Hid (Oz w (w3.setCell ⟨zb, 1, none⟩ (.int .i64 (y0 + 8 * (py : Int)))).drew z2 zo p m (x0, y0, w0, h0) v vp L L C zb { b1 with y := y0 + 8 * (py : Int) }) := (w3z.out.sw (Sw.set _ zb 1 _) (w3z.out.ob.fy _)).to (below_drew (Below.refl _ _))
       go_upto_region 15 with fail
       generalize (w3.setCell ⟨zb, 1, none⟩ (.int .i64 (y0 + 8 * (py : Int)))).drew = w4 at *
       have w4z := w4z'
       clear w4z' w3z
       obtain ⟨b2, hb2⟩ : ∃ b2, { b1 with y := y0 + 8 * (py : Int) } = b2 := ⟨_, rfl⟩
       have B2 : Hid (b2.x = x0 + 8 * (px : Int) ∧ b2.y = y0 + 8 * (py : Int)) := by show _ ∧ _; rw [← hb2]; exact ⟨B1.out, rfl⟩
       rw [hb2] at w4z
       clear hb2 B1
       have w4c : w4.cell? ⟨zb, 2, none⟩ = some (.int .i64 b2.w) := w4z.out.ob.c 2 _ rfl
       have w4f : w4.frozen? ⟨zb, 2, none⟩ = false := w4z.out.ob.thaw 2
       have hBr : ∀ u, Calls Try.prog 16 #[.int .i64 b2.w, .int .i64 4] u fun e w' => e = .returned (.int .i64 (b2.w % 4)) ∧ u = w' := fun u => bring_any (by omega) (by omega)
       have hsh : b2.w % 4 = 0 ∨ b2.w % 4 = 1 ∨ b2.w % 4 = 2 ∨ b2.w % 4 = 3 := by omega
       have HSt : Hid (∀ x : Int, Oz w (w4.setCell ⟨zb, 2, none⟩ (.int .i64 x)) z2 zo p m (x0, y0, w0, h0) v vp L L C zb { b2 with w := x }) := fun x => w4z.out.sw (Sw.set _ zb 2 _) (w4z.out.ob.fw x)
       go_cut [84] from 51 to 209 (fun _ U => ∃ r : Nat, (r = 1 ∨ r = 2 ∨ r = 4 ∨ r = 8) ∧ Oz w U z2 zo p m (x0, y0, w0, h0) v vp L L C zb { b2 with w := 8 * (r : Int) })
       case first =>
         generalize b2.w % 4 = sh at *
         have HBr : Hid _ := hBr
         clear hBr
         rcases hsh with rfl | rfl | rfl | rfl
         · go_wp2_with fail
           refine (HBr.out _).mono ?_
           rintro e w5 ⟨rfl, rfl⟩
           go_wp2_with fail
           go_meet
           exact ⟨1, by omega, by first | exact HSt.out 8 | simpa using HSt.out 8⟩
         · go_wp2_with fail
           refine (HBr.out _).mono ?_
           rintro e w5 ⟨rfl, rfl⟩
           go_wp2_with fail
           go_meet
           exact ⟨2, by omega, by first | exact HSt.out 16 | simpa using HSt.out 16⟩
         · go_wp2_with fail
           refine (HBr.out _).mono ?_
           rintro e w5 ⟨rfl, rfl⟩
           go_wp2_with fail
           go_meet
           exact ⟨4, by omega, by first | exact HSt.out 32 | simpa using HSt.out 32⟩
         · go_wp2_with fail
           refine (HBr.out _).mono ?_
           rintro e w5 ⟨rfl, rfl⟩
           go_wp2_with fail
           go_meet
           exact ⟨8, by omega, by first | exact HSt.out 64 | simpa using HSt.out 64⟩
       obtain ⟨r, hr, hoz⟩ := hcut
       clear w4c w4f hBr hsh HSt w4z
       have Hr : Hid (r = 1 ∨ r = 2 ∨ r = 4 ∨ r = 8) := hr
       clear hr
       rename World => rw
       have rwz : Hid (Oz w rw z2 zo p m (x0, y0, w0, h0) v vp L L C zb { b2 with w := 8 * (r : Int) }) := hoz
       clear hoz
       obtain ⟨b3, hb3⟩ : ∃ b3, { b2 with w := 8 * (r : Int) } = b3 := ⟨_, rfl⟩
       have B3 : Hid (b3.x = x0 + 8 * (px : Int) ∧ b3.y = y0 + 8 * (py : Int) ∧ b3.w = 8 * (r : Int)) := by show _ ∧ _; rw [← hb3]; exact ⟨B2.out.1, B2.out.2, rfl⟩
       rw [hb3] at rwz
       clear hb3 B2
       go_upto_region 16 with fail
       have rwc : rw.cell? ⟨zb, 3, none⟩ = some (.int .i64 b3.h) := rwz.out.ob.c 3 _ rfl
       have rwf : rw.frozen? ⟨zb, 3, none⟩ = false := rwz.out.ob.thaw 3
       have hBr : ∀ u, Calls Try.prog 16 #[.int .i64 b3.h, .int .i64 4] u fun e w' => e = .returned (.int .i64 (b3.h % 4)) ∧ u = w' := fun u => bring_any (by omega) (by omega)
       have hsh : b3.h % 4 = 0 ∨ b3.h % 4 = 1 ∨ b3.h % 4 = 2 ∨ b3.h % 4 = 3 := by omega
       have HSt : Hid (∀ x : Int, Oz w (rw.setCell ⟨zb, 3, none⟩ (.int .i64 x)) z2 zo p m (x0, y0, w0, h0) v vp L L C zb { b3 with h := x }) := fun x => rwz.out.sw (Sw.set _ zb 3 _) (rwz.out.ob.fh x)
       go_cut [89] from 51 to 209 (fun _ U => ∃ s' : Nat, (s' = 1 ∨ s' = 2 ∨ s' = 4 ∨ s' = 8) ∧ Oz w U z2 zo p m (x0, y0, w0, h0) v vp L L C zb { b3 with h := 8 * (s' : Int) })
       case first =>
         generalize b3.h % 4 = sh at *
         have HBr : Hid _ := hBr
         clear hBr
         rcases hsh with rfl | rfl | rfl | rfl
         · go_wp2_with fail
           refine (HBr.out _).mono ?_
           rintro e w5 ⟨rfl, rfl⟩
           go_wp2_with fail
           go_meet
           exact ⟨1, by omega, by first | exact HSt.out 8 | simpa using HSt.out 8⟩
         · go_wp2_with fail
           refine (HBr.out _).mono ?_
           rintro e w5 ⟨rfl, rfl⟩
           go_wp2_with fail
           go_meet
           exact ⟨2, by omega, by first | exact HSt.out 16 | simpa using HSt.out 16⟩
         · go_wp2_with fail
           refine (HBr.out _).mono ?_
           rintro e w5 ⟨rfl, rfl⟩
           go_wp2_with fail
           go_meet
           exact ⟨4, by omega, by first | exact HSt.out 32 | simpa using HSt.out 32⟩
         · go_wp2_with fail
           refine (HBr.out _).mono ?_
           rintro e w5 ⟨rfl, rfl⟩
           go_wp2_with fail
           go_meet
           exact ⟨8, by omega, by first | exact HSt.out 64 | simpa using HSt.out 64⟩
       obtain ⟨s', hs, hoz⟩ := hcut
       clear rwc rwf hBr hsh HSt rwz
       have Hs : Hid (s' = 1 ∨ s' = 2 ∨ s' = 4 ∨ s' = 8) := hs
       clear hs
       rename World => sw
       have swz : Hid (Oz w sw z2 zo p m (x0, y0, w0, h0) v vp L L C zb { b3 with h := 8 * (s' : Int) }) := hoz
       clear hoz
       obtain ⟨b, hb⟩ : ∃ b, { b3 with h := 8 * (s' : Int) } = b := ⟨_, rfl⟩
       have HFo : Hid (Fo (x0, y0, w0, h0) b px py r s') := by
         have h3 := B3.out
         show Fo _ _ _ _ _ _
         rw [← hb]
         exact ⟨h3.1, h3.2.1, h3.2.2, rfl, Hpx.out, Hpy.out, Hr.out, Hs.out⟩
       rw [hb] at swz
       clear hb B3 Hpx Hpy Hr Hs
       have HZo : Hid (Oz w sw z2 zo p m (x0, y0, w0, h0) v vp L L C zb b) := swz.out
       clear swz
       have hfo := HFo.out
       have hbd : b.x = x0 + 8 * (px : Int) ∧ b.y = y0 + 8 * (py : Int) ∧ b.w = 8 * (r : Int) ∧ b.h = 8 * (s' : Int) := ⟨hfo.x, hfo.y, hfo.w, hfo.h⟩
       have hpq := And.intro hfo.pb hfo.qb
       have hrs := And.intro hfo.rb hfo.sb
       have p0 : (0 : Int) ≤ (px : Int) := by omega
       have p1 : (px : Int) < 18 := by omega
       have q0 : (0 : Int) ≤ (py : Int) := by omega
       have q1 : (py : Int) < 18 := by omega
       have r0 : (1 : Int) ≤ (r : Int) := by omega
       have r1 : (r : Int) ≤ 8 := by omega
       have s0 : (1 : Int) ≤ (s' : Int) := by omega
       have s1 : (s' : Int) ≤ 8 := by omega
       have HFi : Hid (∀ q : Prop, (x0 + 8 * (px : Int) + 8 * (r : Int) ≤ x0 + w0 ∧ y0 + 8 * (py : Int) + 8 * (s' : Int) ≤ y0 + h0 ↔ q) → (Fi (x0, y0, w0, h0) px py r s' ↔ q)) := fun q h => by
         rw [← h]
         unfold Fi
         simp only
         omega
       have HCl : Hid (∀ u : World, Bc u zb 0 b → u.cell? ⟨zb, 0, none⟩ = some (.int .i64 (x0 + 8 * (px : Int))) ∧ u.cell? ⟨zb, 1, none⟩ = some (.int .i64 (y0 + 8 * (py : Int))) ∧ u.cell? ⟨zb, 2, none⟩ = some (.int .i64 (8 * (r : Int))) ∧ u.cell? ⟨zb, 3, none⟩ = some (.int .i64 (8 * (s' : Int)))) := fun u h => by
         have k0 := h.at 0 _ rfl
         have k1 := h.at 1 _ rfl
         have k2 := h.at 2 _ rfl
         have k3 := h.at 3 _ rfl
         rw [hbd.1] at k0
         rw [hbd.2.1] at k1
         rw [hbd.2.2.1] at k2
         rw [hbd.2.2.2] at k3
         exact ⟨by simpa using k0, by simpa using k1, by simpa using k2, by simpa using k3⟩
       clear hfo hbd hpq hrs
       as_aux_lemma =>
        go_upto_region 17 with fail
        obtain ⟨g0, g1, g2, g3⟩ := HCl.out _ HZo.out.ob.bc
        have hts := HZo.out.os.ts
        simp only at hts
        obtain ⟨t0, t1, t2, t3⟩ := hts
        go_cut [11] from 51 to 209 (fun s U => ∃ q : Bool, s = .bool q ∧ (q = true ↔ Fi (x0, y0, w0, h0) px py r s') ∧ sw = U)
        case first =>
          by_cases i0 : x0 + 8 * (px : Int) + 8 * (r : Int) ≤ x0 + w0
          · by_cases i1 : y0 + 8 * (py : Int) + 8 * (s' : Int) ≤ y0 + h0
            · go_wp2_with fail
              go_meet
              exact ⟨true, rfl, ((HFi.out True ⟨fun _ => trivial, fun _ => ⟨i0, i1⟩⟩).trans (by simp)).symm, rfl⟩
            · go_wp2_with fail
              go_meet
              exact ⟨false, rfl, ((HFi.out False ⟨fun h => by have := h.2; omega, fun h => h.elim⟩).trans (by simp)).symm, rfl⟩
          · go_wp2_with fail
            go_meet
            exact ⟨false, rfl, ((HFi.out False ⟨fun h => by have := h.1; omega, fun h => h.elim⟩).trans (by simp)).symm, rfl⟩
        obtain ⟨q, rfl, hq, rfl⟩ := hcut
        have HQ : Hid (q = true ↔ Fi (x0, y0, w0, h0) px py r s') := hq
        clear hq HFi
        clear g0 g1 g2 g3 t0 t1 t2 t3
        as_aux_lemma =>
         go_wp2_with fail
         go_loopw [11, 12] (fun mv y wx => ∃ (j : Nat) (q : Bool), j ≤ s' ∧ y = .int .i64 (j : Int) ∧ mv = .bool q ∧ (q = true ↔ Fi (x0, y0, w0, h0) px py r s' ∧ Fr (x0, y0, w0, h0) L px py r j 0) ∧ Oz w wx z2 zo p m (x0, y0, w0, h0) v vp L L C zb b) (fun _ y _ => s' - (intOf y).toNat)
         case atStart => exact ⟨0, q, by omega, by simp, rfl, ⟨fun e => ⟨HQ.out.1 e, Fr.zero⟩, fun e => HQ.out.2 e.1⟩, HZo.out⟩
         case round =>
           clear HQ q HZo
           obtain ⟨j, q, hj, rfl, rfl, hq, hoz⟩ := hrel
           have HQ : Hid (q = true ↔ Fi (x0, y0, w0, h0) px py r s' ∧ Fr (x0, y0, w0, h0) L px py r j 0) := hq
           have HZo : Hid (Oz w wr z2 zo p m (x0, y0, w0, h0) v vp L L C zb b) := hoz
           clear hq hoz
           have j0 : (0 : Int) ≤ (j : Int) := by omega
           have hd1 : (8 * (s' : Int)).tdiv 8 = (s' : Int) := Int.mul_tdiv_cancel_left _ (by omega)
           have hd2 : 8 * (s' : Int) / 8 = (s' : Int) := by omega
           obtain ⟨g0, g1, g2, g3⟩ := HCl.out _ HZo.out.ob.bc
           by_cases hlt : j < s' ∧ q = true
           · as_aux_lemma =>
              obtain ⟨hjs, rfl⟩ := hlt
              have j1 : (j : Int) < (s' : Int) := by omega
              have HJ : Hid (j < s') := hjs
              have HFi : Hid (Fi (x0, y0, w0, h0) px py r s' ∧ Fr (x0, y0, w0, h0) L px py r j 0) := HQ.out.1 rfl
              clear HQ hj hjs
              go_wp2_with fail
              go_loopw [11, 13] (fun mv x wx => ∃ (c : Nat) (q : Bool), c ≤ r ∧ x = .int .i64 (c : Int) ∧ mv = .bool q ∧ (q = true ↔ Fr (x0, y0, w0, h0) L px py r j c) ∧ Oz w wx z2 zo p m (x0, y0, w0, h0) v vp L L C zb b) (fun _ x _ => r - (intOf x).toNat)
              case atStart => exact ⟨0, true, by omega, by simp, rfl, ⟨fun _ => HFi.out.2, fun _ => rfl⟩, HZo.out⟩
              case round =>
                clear HZo g0 g1 g2 g3
                obtain ⟨c, q, hc, rfl, rfl, hq, hoz⟩ := hrel
                have HQ : Hid (q = true ↔ Fr (x0, y0, w0, h0) L px py r j c) := hq
                have HZo : Hid (Oz w wr z2 zo p m (x0, y0, w0, h0) v vp L L C zb b) := hoz
                clear hq hoz
                have c0 : (0 : Int) ≤ (c : Int) := by omega
                have hd3 : (8 * (r : Int)).tdiv 8 = (r : Int) := Int.mul_tdiv_cancel_left _ (by omega)
                have hd4 : 8 * (r : Int) / 8 = (r : Int) := by omega
                obtain ⟨g0, g1, g2, g3⟩ := HCl.out _ HZo.out.ob.bc
                have hts := HZo.out.os.ts
                simp only at hts
                obtain ⟨t0, t1, t2, t3⟩ := hts
                by_cases hcr : c < r
                · as_aux_lemma =>
                   have c1 : (c : Int) < (r : Int) := by omega
                   have HC : Hid (c < r) := hcr
                   have hbo : px + r ≤ 16 ∧ py + s' ≤ 16 := by
                     have h1 := HFi.out.1
                     unfold Fi at h1
                     simp only at h1
                     omega
                   have ho : wr.cell? ⟨zo, (py + j) * 16 + (px + c), none⟩ = some (.int .i64 (ov (x0, y0, w0, h0) L (px + c) (py + j))) := by
                     rw [← HWo.out.val (px + c) (py + j) (by omega) (by have := HJ.out; omega)]
                     exact HZo.out.os.ows.cell _ (by rw [HWo.out.len]; have := HJ.out; omega)
                   have HNx : Hid (∀ q' : Bool, (q' = true ↔ q = true ∧ ov (x0, y0, w0, h0) L (px + c) (py + j) = 0) → (q' = true ↔ Fr (x0, y0, w0, h0) L px py r j (c + 1))) := fun q' h => h.trans ((and_congr_left' HQ.out).trans Fr.cell.symm)
                   obtain ⟨xx, hxx⟩ : ∃ xx, px + c = xx := ⟨_, rfl⟩
                   obtain ⟨yy, hyy⟩ : ∃ yy, py + j = yy := ⟨_, rfl⟩
                   rw [hxx, hyy] at ho HNx
                   have wy : (py : Int) + (j : Int) = (yy : Int) := by omega
                   have wx : (px : Int) + (c : Int) = (xx : Int) := by omega
                   have wy2 : IntKind.i64.wrap ((py : Int) + (j : Int)) = (yy : Int) := by rw [wy]; exact wrapk_id (by omega) (by omega)
                   have wx2 : IntKind.i64.wrap ((px : Int) + (c : Int)) = (xx : Int) := by rw [wx]; exact wrapk_id (by omega) (by omega)
                   have y16 : (yy : Int) < 16 := by have := HJ.out; omega
                   have x16 : (xx : Int) < 16 := by omega
                   have y00 : (0 : Int) ≤ (yy : Int) := by omega
                   have x00 : (0 : Int) ≤ (xx : Int) := by omega
                   have ws1 : IntKind.i64.wrap (y0 + 8 * (py : Int) - y0) = 8 * (py : Int) := by rw [show y0 + 8 * (py : Int) - y0 = 8 * (py : Int) from by omega]; exact wrapk_id (by omega) (by omega)
                   have ws2 : IntKind.i64.wrap (x0 + 8 * (px : Int) - x0) = 8 * (px : Int) := by rw [show x0 + 8 * (px : Int) - x0 = 8 * (px : Int) from by omega]; exact wrapk_id (by omega) (by omega)
                   have hd5 : (8 * (py : Int)).tdiv 8 = (py : Int) := Int.mul_tdiv_cancel_left _ (by omega)
                   have hd6 : 8 * (py : Int) / 8 = (py : Int) := by omega
                   have hd7 : (8 * (px : Int)).tdiv 8 = (px : Int) := Int.mul_tdiv_cancel_left _ (by omega)
                   have hd8 : 8 * (px : Int) / 8 = (px : Int) := by omega
                   have wq1 : IntKind.i64.wrap (py : Int) = (py : Int) := wrapk_id (by omega) (by omega)
                   have wq2 : IntKind.i64.wrap (px : Int) = (px : Int) := wrapk_id (by omega) (by omega)
                   have wy3 : IntKind.i64.wrap (yy : Int) = (yy : Int) := wrapk_id (by omega) (by omega)
                   have wx3 : IntKind.i64.wrap (xx : Int) = (xx : Int) := wrapk_id (by omega) (by omega)
                   generalize ov (x0, y0, w0, h0) L xx yy = ovv at *
                   clear hcr hc hxx hyy hbo
                   go_upto_region 24 with fail
                   cases q
                   · have HQ' : Hid (false = true ↔ Fr (x0, y0, w0, h0) L px py r j (c + 1)) := HNx.out false (by simp)
                     clear HNx HQ
                     refine wp_region_held_drew (S := fun t => t.cell? ⟨z2, 1, none⟩ = some (.int .i64 y0)) (by kernel_rfl) t1 (fun hHeld => ?_)
                     change wpAnyH _ _ _ _ _ 24 #[false, false, false, false, false, false, false, false, false, false, false, false, false, false, false, false, false, false, false, false, false, false, false, false] _ _
                     refine wpAnyH_take (i := 0) (oi := { dst := some 132, op := Op.move (Operand.tmp 11), type := 4, pos := "outright.go:51", after := #[], guard := none }) (v := ?_) rfl (by kernel_rfl) (by kernel_rfl) (by kernel_rfl) (fun _ _ _ h => h) (Or.inl ⟨by rfl, ?hy⟩) (by assumption) ?_
                     case hy =>
                       intro wz hSw
                       (try dsimp only at hSw)
                       first | (go_simp; done) | (go_simp; with_reducible rfl)
                     simp only [Act.put, List.setIfInBounds_toArray, List.set_cons_zero, List.set_cons_succ]
                     refine wpAnyH_take (i := 1) (oi := { dst := some 133, op := Op.move (Operand.tmp 132), type := 4, pos := "outright.go:51", after := #[{ on := 0, ground := Ground.data }], guard := none }) (v := ?_) rfl (by kernel_rfl) (by kernel_rfl) (by kernel_rfl) (fun _ _ _ h => h) (Or.inl ⟨by rfl, ?hy⟩) (by assumption) ?_
                     case hy =>
                       intro wz hSw
                       (try dsimp only at hSw)
                       first | (go_simp; done) | (go_simp; with_reducible rfl)
                     simp only [Act.put, List.setIfInBounds_toArray, List.set_cons_zero, List.set_cons_succ]
                     refine wpAnyH_take (i := 2) (oi := { dst := some 134, op := Op.fieldAddr 40 (Operand.tmp 10) 1, type := 0, pos := "outright.go:51", after := #[{ on := 1, ground := Ground.guard }], guard := some (1, true) }) (v := undef) rfl (by kernel_rfl) (by kernel_rfl) (by kernel_rfl) (fun _ _ _ h => h) (Or.inr ⟨by rfl, rfl⟩) (by assumption) ?_
                     simp only [Act.put, List.setIfInBounds_toArray, List.set_cons_zero, List.set_cons_succ]
                     refine wpAnyH_take (i := 3) (oi := { dst := some 135, op := Op.load 3 (Operand.tmp 134), type := 3, pos := "outright.go:51", after := #[{ on := 2, ground := Ground.data }, { on := 1, ground := Ground.guard }], guard := some (1, true) }) (v := undef) rfl (by kernel_rfl) (by kernel_rfl) (by kernel_rfl) (fun _ _ _ h => h) (Or.inr ⟨by rfl, rfl⟩) (by assumption) ?_
                     simp only [Act.put, List.setIfInBounds_toArray, List.set_cons_zero, List.set_cons_succ]
                     refine wpAnyH_take (i := 4) (oi := { dst := some 136, op := Op.fieldAddr 23 (Operand.tmp 2) 1, type := 0, pos := "outright.go:51", after := #[{ on := 1, ground := Ground.guard }], guard := some (1, true) }) (v := undef) rfl (by kernel_rfl) (by kernel_rfl) (by kernel_rfl) (fun _ _ _ h => h) (Or.inr ⟨by rfl, rfl⟩) (by assumption) ?_
                     simp only [Act.put, List.setIfInBounds_toArray, List.set_cons_zero, List.set_cons_succ]
                     refine wpAnyH_take (i := 5) (oi := { dst := some 137, op := Op.load 3 (Operand.tmp 136), type := 3, pos := "outright.go:51", after := #[{ on := 4, ground := Ground.data }, { on := 1, ground := Ground.guard }], guard := some (1, true) }) (v := undef) rfl (by kernel_rfl) (by kernel_rfl) (by kernel_rfl) (fun _ _ _ h => h) (Or.inr ⟨by rfl, rfl⟩) (by assumption) ?_
                     simp only [Act.put, List.setIfInBounds_toArray, List.set_cons_zero, List.set_cons_succ]
                     refine wpAnyH_take (i := 6) (oi := { dst := some 138, op := Op.binOp BinOp.sub 3 (Operand.tmp 135) (Operand.tmp 137) 3, type := 3, pos := "outright.go:51", after := #[{ on := 3, ground := Ground.data }, { on := 5, ground := Ground.data }, { on := 1, ground := Ground.guard }], guard := some (1, true) }) (v := undef) rfl (by kernel_rfl) (by kernel_rfl) (by kernel_rfl) (fun _ _ _ h => h) (Or.inr ⟨by rfl, rfl⟩) (by assumption) ?_
                     simp only [Act.put, List.setIfInBounds_toArray, List.set_cons_zero, List.set_cons_succ]
                     refine wpAnyH_take (i := 7) (oi := { dst := some 139, op := Op.binOp BinOp.quo 3 (Operand.tmp 138) (Operand.const (Value.int IntKind.i64 8)) 3, type := 3, pos := "outright.go:51", after := #[{ on := 6, ground := Ground.data }, { on := 1, ground := Ground.guard }], guard := some (1, true) }) (v := undef) rfl (by kernel_rfl) (by kernel_rfl) (by kernel_rfl) (fun _ _ _ h => h) (Or.inr ⟨by rfl, rfl⟩) (by assumption) ?_
                     simp only [Act.put, List.setIfInBounds_toArray, List.set_cons_zero, List.set_cons_succ]
                     refine wpAnyH_take (i := 8) (oi := { dst := some 140, op := Op.move (Operand.tmp 12), type := 3, pos := "outright.go:51", after := #[{ on := 1, ground := Ground.guard }], guard := some (1, true) }) (v := undef) rfl (by kernel_rfl) (by kernel_rfl) (by kernel_rfl) (fun _ _ _ h => h) (Or.inr ⟨by rfl, rfl⟩) (by assumption) ?_
                     simp only [Act.put, List.setIfInBounds_toArray, List.set_cons_zero, List.set_cons_succ]
                     refine wpAnyH_take (i := 9) (oi := { dst := some 141, op := Op.binOp BinOp.add 3 (Operand.tmp 139) (Operand.tmp 140) 3, type := 3, pos := "outright.go:51", after := #[{ on := 7, ground := Ground.data }, { on := 8, ground := Ground.data }, { on := 1, ground := Ground.guard }], guard := some (1, true) }) (v := undef) rfl (by kernel_rfl) (by kernel_rfl) (by kernel_rfl) (fun _ _ _ h => h) (Or.inr ⟨by rfl, rfl⟩) (by assumption) ?_
                     simp only [Act.put, List.setIfInBounds_toArray, List.set_cons_zero, List.set_cons_succ]
                     refine wpAnyH_take (i := 10) (oi := { dst := some 142, op := Op.fieldAddr 40 (Operand.tmp 10) 0, type := 0, pos := "outright.go:51", after := #[{ on := 1, ground := Ground.guard }], guard := some (1, true) }) (v := undef) rfl (by kernel_rfl) (by kernel_rfl) (by kernel_rfl) (fun _ _ _ h => h) (Or.inr ⟨by rfl, rfl⟩) (by assumption) ?_
                     simp only [Act.put, List.setIfInBounds_toArray, List.set_cons_zero, List.set_cons_succ]
                     refine wpAnyH_take (i := 11) (oi := { dst := some 143, op := Op.load 3 (Operand.tmp 142), type := 3, pos := "outright.go:51", after := #[{ on := 10, ground := Ground.data }, { on := 1, ground := Ground.guard }], guard := some (1, true) }) (v := undef) rfl (by kernel_rfl) (by kernel_rfl) (by kernel_rfl) (fun _ _ _ h => h) (Or.inr ⟨by rfl, rfl⟩) (by assumption) ?_
                     simp only [Act.put, List.setIfInBounds_toArray, List.set_cons_zero, List.set_cons_succ]
                     refine wpAnyH_take (i := 12) (oi := { dst := some 144, op := Op.fieldAddr 23 (Operand.tmp 2) 0, type := 0, pos := "outright.go:51", after := #[{ on := 1, ground := Ground.guard }], guard := some (1, true) }) (v := undef) rfl (by kernel_rfl) (by kernel_rfl) (by kernel_rfl) (fun _ _ _ h => h) (Or.inr ⟨by rfl, rfl⟩) (by assumption) ?_
                     simp only [Act.put, List.setIfInBounds_toArray, List.set_cons_zero, List.set_cons_succ]
                     refine wpAnyH_take (i := 13) (oi := { dst := some 145, op := Op.load 3 (Operand.tmp 144), type := 3, pos := "outright.go:51", after := #[{ on := 12, ground := Ground.data }, { on := 1, ground := Ground.guard }], guard := some (1, true) }) (v := undef) rfl (by kernel_rfl) (by kernel_rfl) (by kernel_rfl) (fun _ _ _ h => h) (Or.inr ⟨by rfl, rfl⟩) (by assumption) ?_
                     simp only [Act.put, List.setIfInBounds_toArray, List.set_cons_zero, List.set_cons_succ]
                     refine wpAnyH_take (i := 14) (oi := { dst := some 146, op := Op.binOp BinOp.sub 3 (Operand.tmp 143) (Operand.tmp 145) 3, type := 3, pos := "outright.go:51", after := #[{ on := 11, ground := Ground.data }, { on := 13, ground := Ground.data }, { on := 1, ground := Ground.guard }], guard := some (1, true) }) (v := undef) rfl (by kernel_rfl) (by kernel_rfl) (by kernel_rfl) (fun _ _ _ h => h) (Or.inr ⟨by rfl, rfl⟩) (by assumption) ?_
                     simp only [Act.put, List.setIfInBounds_toArray, List.set_cons_zero, List.set_cons_succ]
                     refine wpAnyH_take (i := 15) (oi := { dst := some 147, op := Op.binOp BinOp.quo 3 (Operand.tmp 146) (Operand.const (Value.int IntKind.i64 8)) 3, type := 3, pos := "outright.go:51", after := #[{ on := 14, ground := Ground.data }, { on := 1, ground := Ground.guard }], guard := some (1, true) }) (v := undef) rfl (by kernel_rfl) (by kernel_rfl) (by kernel_rfl) (fun _ _ _ h => h) (Or.inr ⟨by rfl, rfl⟩) (by assumption) ?_
                     simp only [Act.put, List.setIfInBounds_toArray, List.set_cons_zero, List.set_cons_succ]
                     refine wpAnyH_take (i := 16) (oi := { dst := some 148, op := Op.move (Operand.tmp 13), type := 3, pos := "outright.go:51", after := #[{ on := 1, ground := Ground.guard }], guard := some (1, true) }) (v := undef) rfl (by kernel_rfl) (by kernel_rfl) (by kernel_rfl) (fun _ _ _ h => h) (Or.inr ⟨by rfl, rfl⟩) (by assumption) ?_
                     simp only [Act.put, List.setIfInBounds_toArray, List.set_cons_zero, List.set_cons_succ]
                     refine wpAnyH_take (i := 17) (oi := { dst := some 149, op := Op.binOp BinOp.add 3 (Operand.tmp 147) (Operand.tmp 148) 3, type := 3, pos := "outright.go:51", after := #[{ on := 15, ground := Ground.data }, { on := 16, ground := Ground.data }, { on := 1, ground := Ground.guard }], guard := some (1, true) }) (v := undef) rfl (by kernel_rfl) (by kernel_rfl) (by kernel_rfl) (fun _ _ _ h => h) (Or.inr ⟨by rfl, rfl⟩) (by assumption) ?_
                     simp only [Act.put, List.setIfInBounds_toArray, List.set_cons_zero, List.set_cons_succ]
                     refine wpAnyH_take (i := 18) (oi := { dst := some 150, op := Op.indexAddr 49 (Operand.tmp 7) (Operand.tmp 141), type := 0, pos := "outright.go:51", after := #[{ on := 9, ground := Ground.data }, { on := 1, ground := Ground.guard }], guard := some (1, true) }) (v := undef) rfl (by kernel_rfl) (by kernel_rfl) (by kernel_rfl) (fun _ _ _ h => h) (Or.inr ⟨by rfl, rfl⟩) (by assumption) ?_
                     simp only [Act.put, List.setIfInBounds_toArray, List.set_cons_zero, List.set_cons_succ]
                     refine wpAnyH_take (i := 19) (oi := { dst := some 151, op := Op.indexAddr 48 (Operand.tmp 150) (Operand.tmp 149), type := 0, pos := "outright.go:51", after := #[{ on := 18, ground := Ground.data }, { on := 17, ground := Ground.data }, { on := 1, ground := Ground.guard }], guard := some (1, true) }) (v := undef) rfl (by kernel_rfl) (by kernel_rfl) (by kernel_rfl) (fun _ _ _ h => h) (Or.inr ⟨by rfl, rfl⟩) (by assumption) ?_
                     simp only [Act.put, List.setIfInBounds_toArray, List.set_cons_zero, List.set_cons_succ]
                     refine wpAnyH_take (i := 20) (oi := { dst := some 152, op := Op.load 3 (Operand.tmp 151), type := 3, pos := "outright.go:51", after := #[{ on := 19, ground := Ground.data }, { on := 1, ground := Ground.guard }], guard := some (1, true) }) (v := undef) rfl (by kernel_rfl) (by kernel_rfl) (by kernel_rfl) (fun _ _ _ h => h) (Or.inr ⟨by rfl, rfl⟩) (by assumption) ?_
                     simp only [Act.put, List.setIfInBounds_toArray, List.set_cons_zero, List.set_cons_succ]
                     refine wpAnyH_take (i := 21) (oi := { dst := some 153, op := Op.binOp BinOp.eql 3 (Operand.tmp 152) (Operand.const (Value.int IntKind.i64 0)) 3, type := 4, pos := "outright.go:51", after := #[{ on := 20, ground := Ground.data }, { on := 1, ground := Ground.guard }], guard := some (1, true) }) (v := undef) rfl (by kernel_rfl) (by kernel_rfl) (by kernel_rfl) (fun _ _ _ h => h) (Or.inr ⟨by rfl, rfl⟩) (by assumption) ?_
                     simp only [Act.put, List.setIfInBounds_toArray, List.set_cons_zero, List.set_cons_succ]
                     refine wpAnyH_take (i := 22) (oi := { dst := some 154, op := Op.pick (Operand.tmp 133) (Operand.tmp 153) (Operand.const (Value.bool false)), type := 4, pos := "outright.go:51", after := #[{ on := 1, ground := Ground.data }, { on := 21, ground := Ground.data }], guard := none }) (v := ?_) rfl (by kernel_rfl) (by kernel_rfl) (by kernel_rfl) (fun _ _ _ h => h) (Or.inl ⟨by rfl, ?hy⟩) (by assumption) ?_
                     case hy =>
                       intro wz hSw
                       (try dsimp only at hSw)
                       first | (go_simp; done) | (go_simp; with_reducible rfl)
                     simp only [Act.put, List.setIfInBounds_toArray, List.set_cons_zero, List.set_cons_succ]
                     refine wpAnyH_take (i := 23) (oi := { dst := some 11, op := Op.assign (Operand.tmp 154), type := 4, pos := "outright.go:51", after := #[{ on := 22, ground := Ground.data }, { on := 1, ground := Ground.chain }, { on := 0, ground := Ground.phase }, { on := 1, ground := Ground.phase }, { on := 2, ground := Ground.phase }, { on := 3, ground := Ground.phase }, { on := 4, ground := Ground.phase }, { on := 5, ground := Ground.phase }, { on := 6, ground := Ground.phase }, { on := 7, ground := Ground.phase }, { on := 8, ground := Ground.phase }, { on := 9, ground := Ground.phase }, { on := 10, ground := Ground.phase }, { on := 11, ground := Ground.phase }, { on := 12, ground := Ground.phase }, { on := 13, ground := Ground.phase }, { on := 14, ground := Ground.phase }, { on := 15, ground := Ground.phase }, { on := 16, ground := Ground.phase }, { on := 17, ground := Ground.phase }, { on := 18, ground := Ground.phase }, { on := 19, ground := Ground.phase }, { on := 20, ground := Ground.phase }, { on := 21, ground := Ground.phase }, { on := 22, ground := Ground.phase }], guard := none }) (v := ?_) rfl (by kernel_rfl) (by kernel_rfl) (by kernel_rfl) (fun _ _ _ h => h) (Or.inl ⟨by rfl, ?hy⟩) (by assumption) ?_
                     case hy =>
                       intro wz hSw
                       (try dsimp only at hSw)
                       first | (go_simp; done) | (go_simp; with_reducible rfl)
                     simp only [Act.put, List.setIfInBounds_toArray, List.set_cons_zero, List.set_cons_succ]
                     refine wpAnyH_done (by kernel_rfl) ?_ _
                     go_wp2_with fail
                     go_roundw
                     case rel => exact ⟨c + 1, false, by have := HC.out; omega, by go_num, rfl, HQ'.out, HZo.out.to (below_drew (Below.refl _ _))⟩
                     case measure => have := HC.out; simp [intOf]; omega
                   · by_cases hz : ovv = 0
                     · have HQ' : Hid (true = true ↔ Fr (x0, y0, w0, h0) L px py r j (c + 1)) := HNx.out true (by simp [hz])
                       clear HNx HQ
                       refine wp_region_held_drew (S := fun t => t.cell? ⟨zb, 1, none⟩ = some (.int .i64 (y0 + 8 * (py : Int))) ∧ t.cell? ⟨z2, 1, none⟩ = some (.int .i64 y0) ∧ t.cell? ⟨zb, 0, none⟩ = some (.int .i64 (x0 + 8 * (px : Int))) ∧ t.cell? ⟨z2, 0, none⟩ = some (.int .i64 x0) ∧ t.cell? ⟨zo, yy * 16 + xx, none⟩ = some (.int .i64 ovv)) (by kernel_rfl) ⟨g1, t1, g0, t0, ho⟩ (fun hHeld => ?_)
                       change wpAnyH _ _ _ _ _ 24 #[false, false, false, false, false, false, false, false, false, false, false, false, false, false, false, false, false, false, false, false, false, false, false, false] _ _
                       refine wpAnyH_take (i := 0) (oi := { dst := some 132, op := Op.move (Operand.tmp 11), type := 4, pos := "outright.go:51", after := #[], guard := none }) (v := ?_) rfl (by kernel_rfl) (by kernel_rfl) (by kernel_rfl) (fun _ _ _ h => h) (Or.inl ⟨by rfl, ?hy⟩) (by assumption) ?_
                       case hy =>
                         intro wz hSw
                         (try dsimp only at hSw)
                         (try obtain ⟨hs0, hs1, hs2, hs3, hs4⟩ := hSw)
                         first | (go_simp; done) | (go_simp; with_reducible rfl)
                       simp only [Act.put, List.setIfInBounds_toArray, List.set_cons_zero, List.set_cons_succ]
                       refine wpAnyH_take (i := 1) (oi := { dst := some 133, op := Op.move (Operand.tmp 132), type := 4, pos := "outright.go:51", after := #[{ on := 0, ground := Ground.data }], guard := none }) (v := ?_) rfl (by kernel_rfl) (by kernel_rfl) (by kernel_rfl) (fun _ _ _ h => h) (Or.inl ⟨by rfl, ?hy⟩) (by assumption) ?_
                       case hy =>
                         intro wz hSw
                         (try dsimp only at hSw)
                         (try obtain ⟨hs0, hs1, hs2, hs3, hs4⟩ := hSw)
                         first | (go_simp; done) | (go_simp; with_reducible rfl)
                       simp only [Act.put, List.setIfInBounds_toArray, List.set_cons_zero, List.set_cons_succ]
                       refine wpAnyH_take (i := 2) (oi := { dst := some 134, op := Op.fieldAddr 40 (Operand.tmp 10) 1, type := 0, pos := "outright.go:51", after := #[{ on := 1, ground := Ground.guard }], guard := some (1, true) }) (v := ?_) rfl (by kernel_rfl) (by kernel_rfl) (by kernel_rfl) (fun _ _ _ h => h) (Or.inl ⟨by rfl, ?hy⟩) (by assumption) ?_
                       case hy =>
                         intro wz hSw
                         (try dsimp only at hSw)
                         (try obtain ⟨hs0, hs1, hs2, hs3, hs4⟩ := hSw)
                         first | (go_simp; done) | (go_simp; with_reducible rfl)
                       simp only [Act.put, List.setIfInBounds_toArray, List.set_cons_zero, List.set_cons_succ]
                       refine wpAnyH_take (i := 3) (oi := { dst := some 135, op := Op.load 3 (Operand.tmp 134), type := 3, pos := "outright.go:51", after := #[{ on := 2, ground := Ground.data }, { on := 1, ground := Ground.guard }], guard := some (1, true) }) (v := ?_) rfl (by kernel_rfl) (by kernel_rfl) (by kernel_rfl) (fun _ _ _ h => h) (Or.inl ⟨by rfl, ?hy⟩) (by assumption) ?_
                       case hy =>
                         intro wz hSw
                         (try dsimp only at hSw)
                         (try obtain ⟨hs0, hs1, hs2, hs3, hs4⟩ := hSw)
                         first | (go_simp; done) | (go_simp; with_reducible rfl)
                       simp only [Act.put, List.setIfInBounds_toArray, List.set_cons_zero, List.set_cons_succ]
                       refine wpAnyH_take (i := 4) (oi := { dst := some 136, op := Op.fieldAddr 23 (Operand.tmp 2) 1, type := 0, pos := "outright.go:51", after := #[{ on := 1, ground := Ground.guard }], guard := some (1, true) }) (v := ?_) rfl (by kernel_rfl) (by kernel_rfl) (by kernel_rfl) (fun _ _ _ h => h) (Or.inl ⟨by rfl, ?hy⟩) (by assumption) ?_
                       case hy =>
                         intro wz hSw
                         (try dsimp only at hSw)
                         (try obtain ⟨hs0, hs1, hs2, hs3, hs4⟩ := hSw)
                         first | (go_simp; done) | (go_simp; with_reducible rfl)
                       simp only [Act.put, List.setIfInBounds_toArray, List.set_cons_zero, List.set_cons_succ]
                       refine wpAnyH_take (i := 5) (oi := { dst := some 137, op := Op.load 3 (Operand.tmp 136), type := 3, pos := "outright.go:51", after := #[{ on := 4, ground := Ground.data }, { on := 1, ground := Ground.guard }], guard := some (1, true) }) (v := ?_) rfl (by kernel_rfl) (by kernel_rfl) (by kernel_rfl) (fun _ _ _ h => h) (Or.inl ⟨by rfl, ?hy⟩) (by assumption) ?_
                       case hy =>
                         intro wz hSw
                         (try dsimp only at hSw)
                         (try obtain ⟨hs0, hs1, hs2, hs3, hs4⟩ := hSw)
                         first | (go_simp; done) | (go_simp; with_reducible rfl)
                       simp only [Act.put, List.setIfInBounds_toArray, List.set_cons_zero, List.set_cons_succ]
                       refine wpAnyH_take (i := 6) (oi := { dst := some 138, op := Op.binOp BinOp.sub 3 (Operand.tmp 135) (Operand.tmp 137) 3, type := 3, pos := "outright.go:51", after := #[{ on := 3, ground := Ground.data }, { on := 5, ground := Ground.data }, { on := 1, ground := Ground.guard }], guard := some (1, true) }) (v := ?_) rfl (by kernel_rfl) (by kernel_rfl) (by kernel_rfl) (fun _ _ _ h => h) (Or.inl ⟨by rfl, ?hy⟩) (by assumption) ?_
                       case hy =>
                         intro wz hSw
                         (try dsimp only at hSw)
                         (try obtain ⟨hs0, hs1, hs2, hs3, hs4⟩ := hSw)
                         first | (go_simp; done) | (go_simp; with_reducible rfl)
                       simp only [Act.put, List.setIfInBounds_toArray, List.set_cons_zero, List.set_cons_succ]
                       refine wpAnyH_take (i := 7) (oi := { dst := some 139, op := Op.binOp BinOp.quo 3 (Operand.tmp 138) (Operand.const (Value.int IntKind.i64 8)) 3, type := 3, pos := "outright.go:51", after := #[{ on := 6, ground := Ground.data }, { on := 1, ground := Ground.guard }], guard := some (1, true) }) (v := ?_) rfl (by kernel_rfl) (by kernel_rfl) (by kernel_rfl) (fun _ _ _ h => h) (Or.inl ⟨by rfl, ?hy⟩) (by assumption) ?_
                       case hy =>
                         intro wz hSw
                         (try dsimp only at hSw)
                         (try obtain ⟨hs0, hs1, hs2, hs3, hs4⟩ := hSw)
                         first | (go_simp; done) | (go_simp; with_reducible rfl)
                       simp only [Act.put, List.setIfInBounds_toArray, List.set_cons_zero, List.set_cons_succ]
                       refine wpAnyH_take (i := 8) (oi := { dst := some 140, op := Op.move (Operand.tmp 12), type := 3, pos := "outright.go:51", after := #[{ on := 1, ground := Ground.guard }], guard := some (1, true) }) (v := ?_) rfl (by kernel_rfl) (by kernel_rfl) (by kernel_rfl) (fun _ _ _ h => h) (Or.inl ⟨by rfl, ?hy⟩) (by assumption) ?_
                       case hy =>
                         intro wz hSw
                         (try dsimp only at hSw)
                         (try obtain ⟨hs0, hs1, hs2, hs3, hs4⟩ := hSw)
                         first | (go_simp; done) | (go_simp; with_reducible rfl)
                       simp only [Act.put, List.setIfInBounds_toArray, List.set_cons_zero, List.set_cons_succ]
                       refine wpAnyH_take (i := 9) (oi := { dst := some 141, op := Op.binOp BinOp.add 3 (Operand.tmp 139) (Operand.tmp 140) 3, type := 3, pos := "outright.go:51", after := #[{ on := 7, ground := Ground.data }, { on := 8, ground := Ground.data }, { on := 1, ground := Ground.guard }], guard := some (1, true) }) (v := ?_) rfl (by kernel_rfl) (by kernel_rfl) (by kernel_rfl) (fun _ _ _ h => h) (Or.inl ⟨by rfl, ?hy⟩) (by assumption) ?_
                       case hy =>
                         intro wz hSw
                         (try dsimp only at hSw)
                         (try obtain ⟨hs0, hs1, hs2, hs3, hs4⟩ := hSw)
                         first | (go_simp; done) | (go_simp; with_reducible rfl)
                       simp only [Act.put, List.setIfInBounds_toArray, List.set_cons_zero, List.set_cons_succ]
                       refine wpAnyH_take (i := 10) (oi := { dst := some 142, op := Op.fieldAddr 40 (Operand.tmp 10) 0, type := 0, pos := "outright.go:51", after := #[{ on := 1, ground := Ground.guard }], guard := some (1, true) }) (v := ?_) rfl (by kernel_rfl) (by kernel_rfl) (by kernel_rfl) (fun _ _ _ h => h) (Or.inl ⟨by rfl, ?hy⟩) (by assumption) ?_
                       case hy =>
                         intro wz hSw
                         (try dsimp only at hSw)
                         (try obtain ⟨hs0, hs1, hs2, hs3, hs4⟩ := hSw)
                         first | (go_simp; done) | (go_simp; with_reducible rfl)
                       simp only [Act.put, List.setIfInBounds_toArray, List.set_cons_zero, List.set_cons_succ]
                       refine wpAnyH_take (i := 11) (oi := { dst := some 143, op := Op.load 3 (Operand.tmp 142), type := 3, pos := "outright.go:51", after := #[{ on := 10, ground := Ground.data }, { on := 1, ground := Ground.guard }], guard := some (1, true) }) (v := ?_) rfl (by kernel_rfl) (by kernel_rfl) (by kernel_rfl) (fun _ _ _ h => h) (Or.inl ⟨by rfl, ?hy⟩) (by assumption) ?_
                       case hy =>
                         intro wz hSw
                         (try dsimp only at hSw)
                         (try obtain ⟨hs0, hs1, hs2, hs3, hs4⟩ := hSw)
                         first | (go_simp; done) | (go_simp; with_reducible rfl)
                       simp only [Act.put, List.setIfInBounds_toArray, List.set_cons_zero, List.set_cons_succ]
                       refine wpAnyH_take (i := 12) (oi := { dst := some 144, op := Op.fieldAddr 23 (Operand.tmp 2) 0, type := 0, pos := "outright.go:51", after := #[{ on := 1, ground := Ground.guard }], guard := some (1, true) }) (v := ?_) rfl (by kernel_rfl) (by kernel_rfl) (by kernel_rfl) (fun _ _ _ h => h) (Or.inl ⟨by rfl, ?hy⟩) (by assumption) ?_
                       case hy =>
                         intro wz hSw
                         (try dsimp only at hSw)
                         (try obtain ⟨hs0, hs1, hs2, hs3, hs4⟩ := hSw)
                         first | (go_simp; done) | (go_simp; with_reducible rfl)
                       simp only [Act.put, List.setIfInBounds_toArray, List.set_cons_zero, List.set_cons_succ]
                       refine wpAnyH_take (i := 13) (oi := { dst := some 145, op := Op.load 3 (Operand.tmp 144), type := 3, pos := "outright.go:51", after := #[{ on := 12, ground := Ground.data }, { on := 1, ground := Ground.guard }], guard := some (1, true) }) (v := ?_) rfl (by kernel_rfl) (by kernel_rfl) (by kernel_rfl) (fun _ _ _ h => h) (Or.inl ⟨by rfl, ?hy⟩) (by assumption) ?_
                       case hy =>
                         intro wz hSw
                         (try dsimp only at hSw)
                         (try obtain ⟨hs0, hs1, hs2, hs3, hs4⟩ := hSw)
                         first | (go_simp; done) | (go_simp; with_reducible rfl)
                       simp only [Act.put, List.setIfInBounds_toArray, List.set_cons_zero, List.set_cons_succ]
                       refine wpAnyH_take (i := 14) (oi := { dst := some 146, op := Op.binOp BinOp.sub 3 (Operand.tmp 143) (Operand.tmp 145) 3, type := 3, pos := "outright.go:51", after := #[{ on := 11, ground := Ground.data }, { on := 13, ground := Ground.data }, { on := 1, ground := Ground.guard }], guard := some (1, true) }) (v := ?_) rfl (by kernel_rfl) (by kernel_rfl) (by kernel_rfl) (fun _ _ _ h => h) (Or.inl ⟨by rfl, ?hy⟩) (by assumption) ?_
                       case hy =>
                         intro wz hSw
                         (try dsimp only at hSw)
                         (try obtain ⟨hs0, hs1, hs2, hs3, hs4⟩ := hSw)
                         first | (go_simp; done) | (go_simp; with_reducible rfl)
                       simp only [Act.put, List.setIfInBounds_toArray, List.set_cons_zero, List.set_cons_succ]
                       refine wpAnyH_take (i := 15) (oi := { dst := some 147, op := Op.binOp BinOp.quo 3 (Operand.tmp 146) (Operand.const (Value.int IntKind.i64 8)) 3, type := 3, pos := "outright.go:51", after := #[{ on := 14, ground := Ground.data }, { on := 1, ground := Ground.guard }], guard := some (1, true) }) (v := ?_) rfl (by kernel_rfl) (by kernel_rfl) (by kernel_rfl) (fun _ _ _ h => h) (Or.inl ⟨by rfl, ?hy⟩) (by assumption) ?_
                       case hy =>
                         intro wz hSw
                         (try dsimp only at hSw)
                         (try obtain ⟨hs0, hs1, hs2, hs3, hs4⟩ := hSw)
                         first | (go_simp; done) | (go_simp; with_reducible rfl)
                       simp only [Act.put, List.setIfInBounds_toArray, List.set_cons_zero, List.set_cons_succ]
                       refine wpAnyH_take (i := 16) (oi := { dst := some 148, op := Op.move (Operand.tmp 13), type := 3, pos := "outright.go:51", after := #[{ on := 1, ground := Ground.guard }], guard := some (1, true) }) (v := ?_) rfl (by kernel_rfl) (by kernel_rfl) (by kernel_rfl) (fun _ _ _ h => h) (Or.inl ⟨by rfl, ?hy⟩) (by assumption) ?_
                       case hy =>
                         intro wz hSw
                         (try dsimp only at hSw)
                         (try obtain ⟨hs0, hs1, hs2, hs3, hs4⟩ := hSw)
                         first | (go_simp; done) | (go_simp; with_reducible rfl)
                       simp only [Act.put, List.setIfInBounds_toArray, List.set_cons_zero, List.set_cons_succ]
                       refine wpAnyH_take (i := 17) (oi := { dst := some 149, op := Op.binOp BinOp.add 3 (Operand.tmp 147) (Operand.tmp 148) 3, type := 3, pos := "outright.go:51", after := #[{ on := 15, ground := Ground.data }, { on := 16, ground := Ground.data }, { on := 1, ground := Ground.guard }], guard := some (1, true) }) (v := ?_) rfl (by kernel_rfl) (by kernel_rfl) (by kernel_rfl) (fun _ _ _ h => h) (Or.inl ⟨by rfl, ?hy⟩) (by assumption) ?_
                       case hy =>
                         intro wz hSw
                         (try dsimp only at hSw)
                         (try obtain ⟨hs0, hs1, hs2, hs3, hs4⟩ := hSw)
                         first | (go_simp; done) | (go_simp; with_reducible rfl)
                       simp only [Act.put, List.setIfInBounds_toArray, List.set_cons_zero, List.set_cons_succ]
                       refine wpAnyH_take (i := 18) (oi := { dst := some 150, op := Op.indexAddr 49 (Operand.tmp 7) (Operand.tmp 141), type := 0, pos := "outright.go:51", after := #[{ on := 9, ground := Ground.data }, { on := 1, ground := Ground.guard }], guard := some (1, true) }) (v := ?_) rfl (by kernel_rfl) (by kernel_rfl) (by kernel_rfl) (fun _ _ _ h => h) (Or.inl ⟨by rfl, ?hy⟩) (by assumption) ?_
                       case hy =>
                         intro wz hSw
                         (try dsimp only at hSw)
                         (try obtain ⟨hs0, hs1, hs2, hs3, hs4⟩ := hSw)
                         first | (go_simp; done) | (go_simp; with_reducible rfl)
                       simp only [Act.put, List.setIfInBounds_toArray, List.set_cons_zero, List.set_cons_succ]
                       refine wpAnyH_take (i := 19) (oi := { dst := some 151, op := Op.indexAddr 48 (Operand.tmp 150) (Operand.tmp 149), type := 0, pos := "outright.go:51", after := #[{ on := 18, ground := Ground.data }, { on := 17, ground := Ground.data }, { on := 1, ground := Ground.guard }], guard := some (1, true) }) (v := ?_) rfl (by kernel_rfl) (by kernel_rfl) (by kernel_rfl) (fun _ _ _ h => h) (Or.inl ⟨by rfl, ?hy⟩) (by assumption) ?_
                       case hy =>
                         intro wz hSw
                         (try dsimp only at hSw)
                         (try obtain ⟨hs0, hs1, hs2, hs3, hs4⟩ := hSw)
                         first | (go_simp; done) | (go_simp; with_reducible rfl)
                       simp only [Act.put, List.setIfInBounds_toArray, List.set_cons_zero, List.set_cons_succ]
                       refine wpAnyH_take (i := 20) (oi := { dst := some 152, op := Op.load 3 (Operand.tmp 151), type := 3, pos := "outright.go:51", after := #[{ on := 19, ground := Ground.data }, { on := 1, ground := Ground.guard }], guard := some (1, true) }) (v := ?_) rfl (by kernel_rfl) (by kernel_rfl) (by kernel_rfl) (fun _ _ _ h => h) (Or.inl ⟨by rfl, ?hy⟩) (by assumption) ?_
                       case hy =>
                         intro wz hSw
                         (try dsimp only at hSw)
                         (try obtain ⟨hs0, hs1, hs2, hs3, hs4⟩ := hSw)
                         first | (go_simp; done) | (go_simp; with_reducible rfl)
                       simp only [Act.put, List.setIfInBounds_toArray, List.set_cons_zero, List.set_cons_succ]
                       refine wpAnyH_take (i := 21) (oi := { dst := some 153, op := Op.binOp BinOp.eql 3 (Operand.tmp 152) (Operand.const (Value.int IntKind.i64 0)) 3, type := 4, pos := "outright.go:51", after := #[{ on := 20, ground := Ground.data }, { on := 1, ground := Ground.guard }], guard := some (1, true) }) (v := ?_) rfl (by kernel_rfl) (by kernel_rfl) (by kernel_rfl) (fun _ _ _ h => h) (Or.inl ⟨by rfl, ?hy⟩) (by assumption) ?_
                       case hy =>
                         intro wz hSw
                         (try dsimp only at hSw)
                         (try obtain ⟨hs0, hs1, hs2, hs3, hs4⟩ := hSw)
                         first | (go_simp; done) | (go_simp; with_reducible rfl)
                       simp only [Act.put, List.setIfInBounds_toArray, List.set_cons_zero, List.set_cons_succ]
                       refine wpAnyH_take (i := 22) (oi := { dst := some 154, op := Op.pick (Operand.tmp 133) (Operand.tmp 153) (Operand.const (Value.bool false)), type := 4, pos := "outright.go:51", after := #[{ on := 1, ground := Ground.data }, { on := 21, ground := Ground.data }], guard := none }) (v := ?_) rfl (by kernel_rfl) (by kernel_rfl) (by kernel_rfl) (fun _ _ _ h => h) (Or.inl ⟨by rfl, ?hy⟩) (by assumption) ?_
                       case hy =>
                         intro wz hSw
                         (try dsimp only at hSw)
                         (try obtain ⟨hs0, hs1, hs2, hs3, hs4⟩ := hSw)
                         first | (go_simp; done) | (go_simp; with_reducible rfl)
                       simp only [Act.put, List.setIfInBounds_toArray, List.set_cons_zero, List.set_cons_succ]
                       refine wpAnyH_take (i := 23) (oi := { dst := some 11, op := Op.assign (Operand.tmp 154), type := 4, pos := "outright.go:51", after := #[{ on := 22, ground := Ground.data }, { on := 1, ground := Ground.chain }, { on := 0, ground := Ground.phase }, { on := 1, ground := Ground.phase }, { on := 2, ground := Ground.phase }, { on := 3, ground := Ground.phase }, { on := 4, ground := Ground.phase }, { on := 5, ground := Ground.phase }, { on := 6, ground := Ground.phase }, { on := 7, ground := Ground.phase }, { on := 8, ground := Ground.phase }, { on := 9, ground := Ground.phase }, { on := 10, ground := Ground.phase }, { on := 11, ground := Ground.phase }, { on := 12, ground := Ground.phase }, { on := 13, ground := Ground.phase }, { on := 14, ground := Ground.phase }, { on := 15, ground := Ground.phase }, { on := 16, ground := Ground.phase }, { on := 17, ground := Ground.phase }, { on := 18, ground := Ground.phase }, { on := 19, ground := Ground.phase }, { on := 20, ground := Ground.phase }, { on := 21, ground := Ground.phase }, { on := 22, ground := Ground.phase }], guard := none }) (v := ?_) rfl (by kernel_rfl) (by kernel_rfl) (by kernel_rfl) (fun _ _ _ h => h) (Or.inl ⟨by rfl, ?hy⟩) (by assumption) ?_
                       case hy =>
                         intro wz hSw
                         (try dsimp only at hSw)
                         (try obtain ⟨hs0, hs1, hs2, hs3, hs4⟩ := hSw)
                         first | (go_simp; done) | (go_simp; with_reducible rfl)
                       simp only [Act.put, List.setIfInBounds_toArray, List.set_cons_zero, List.set_cons_succ]
                       refine wpAnyH_done (by kernel_rfl) ?_ _
                       go_wp2_with fail
                       go_roundw
                       case rel => exact ⟨c + 1, true, by have := HC.out; omega, by go_num, by first | rfl | simp [hz], HQ'.out, HZo.out.to (below_drew (Below.refl _ _))⟩
                       case measure => have := HC.out; simp [intOf]; omega
                     · have HQ' : Hid (false = true ↔ Fr (x0, y0, w0, h0) L px py r j (c + 1)) := HNx.out false (by simp [hz])
                       have hz2 : (ovv == 0) = false := by rw [beq_eq_false_iff_ne]; exact hz
                       clear HNx HQ
                       refine wp_region_held_drew (S := fun t => t.cell? ⟨zb, 1, none⟩ = some (.int .i64 (y0 + 8 * (py : Int))) ∧ t.cell? ⟨z2, 1, none⟩ = some (.int .i64 y0) ∧ t.cell? ⟨zb, 0, none⟩ = some (.int .i64 (x0 + 8 * (px : Int))) ∧ t.cell? ⟨z2, 0, none⟩ = some (.int .i64 x0) ∧ t.cell? ⟨zo, yy * 16 + xx, none⟩ = some (.int .i64 ovv)) (by kernel_rfl) ⟨g1, t1, g0, t0, ho⟩ (fun hHeld => ?_)
                       change wpAnyH _ _ _ _ _ 24 #[false, false, false, false, false, false, false, false, false, false, false, false, false, false, false, false, false, false, false, false, false, false, false, false] _ _
                       refine wpAnyH_take (i := 0) (oi := { dst := some 132, op := Op.move (Operand.tmp 11), type := 4, pos := "outright.go:51", after := #[], guard := none }) (v := ?_) rfl (by kernel_rfl) (by kernel_rfl) (by kernel_rfl) (fun _ _ _ h => h) (Or.inl ⟨by rfl, ?hy⟩) (by assumption) ?_
                       case hy =>
                         intro wz hSw
                         (try dsimp only at hSw)
                         (try obtain ⟨hs0, hs1, hs2, hs3, hs4⟩ := hSw)
                         first | (go_simp; done) | (go_simp; with_reducible rfl)
                       simp only [Act.put, List.setIfInBounds_toArray, List.set_cons_zero, List.set_cons_succ]
                       refine wpAnyH_take (i := 1) (oi := { dst := some 133, op := Op.move (Operand.tmp 132), type := 4, pos := "outright.go:51", after := #[{ on := 0, ground := Ground.data }], guard := none }) (v := ?_) rfl (by kernel_rfl) (by kernel_rfl) (by kernel_rfl) (fun _ _ _ h => h) (Or.inl ⟨by rfl, ?hy⟩) (by assumption) ?_
                       case hy =>
                         intro wz hSw
                         (try dsimp only at hSw)
                         (try obtain ⟨hs0, hs1, hs2, hs3, hs4⟩ := hSw)
                         first | (go_simp; done) | (go_simp; with_reducible rfl)
                       simp only [Act.put, List.setIfInBounds_toArray, List.set_cons_zero, List.set_cons_succ]
                       refine wpAnyH_take (i := 2) (oi := { dst := some 134, op := Op.fieldAddr 40 (Operand.tmp 10) 1, type := 0, pos := "outright.go:51", after := #[{ on := 1, ground := Ground.guard }], guard := some (1, true) }) (v := ?_) rfl (by kernel_rfl) (by kernel_rfl) (by kernel_rfl) (fun _ _ _ h => h) (Or.inl ⟨by rfl, ?hy⟩) (by assumption) ?_
                       case hy =>
                         intro wz hSw
                         (try dsimp only at hSw)
                         (try obtain ⟨hs0, hs1, hs2, hs3, hs4⟩ := hSw)
                         first | (go_simp; done) | (go_simp; with_reducible rfl)
                       simp only [Act.put, List.setIfInBounds_toArray, List.set_cons_zero, List.set_cons_succ]
                       refine wpAnyH_take (i := 3) (oi := { dst := some 135, op := Op.load 3 (Operand.tmp 134), type := 3, pos := "outright.go:51", after := #[{ on := 2, ground := Ground.data }, { on := 1, ground := Ground.guard }], guard := some (1, true) }) (v := ?_) rfl (by kernel_rfl) (by kernel_rfl) (by kernel_rfl) (fun _ _ _ h => h) (Or.inl ⟨by rfl, ?hy⟩) (by assumption) ?_
                       case hy =>
                         intro wz hSw
                         (try dsimp only at hSw)
                         (try obtain ⟨hs0, hs1, hs2, hs3, hs4⟩ := hSw)
                         first | (go_simp; done) | (go_simp; with_reducible rfl)
                       simp only [Act.put, List.setIfInBounds_toArray, List.set_cons_zero, List.set_cons_succ]
                       refine wpAnyH_take (i := 4) (oi := { dst := some 136, op := Op.fieldAddr 23 (Operand.tmp 2) 1, type := 0, pos := "outright.go:51", after := #[{ on := 1, ground := Ground.guard }], guard := some (1, true) }) (v := ?_) rfl (by kernel_rfl) (by kernel_rfl) (by kernel_rfl) (fun _ _ _ h => h) (Or.inl ⟨by rfl, ?hy⟩) (by assumption) ?_
                       case hy =>
                         intro wz hSw
                         (try dsimp only at hSw)
                         (try obtain ⟨hs0, hs1, hs2, hs3, hs4⟩ := hSw)
                         first | (go_simp; done) | (go_simp; with_reducible rfl)
                       simp only [Act.put, List.setIfInBounds_toArray, List.set_cons_zero, List.set_cons_succ]
                       refine wpAnyH_take (i := 5) (oi := { dst := some 137, op := Op.load 3 (Operand.tmp 136), type := 3, pos := "outright.go:51", after := #[{ on := 4, ground := Ground.data }, { on := 1, ground := Ground.guard }], guard := some (1, true) }) (v := ?_) rfl (by kernel_rfl) (by kernel_rfl) (by kernel_rfl) (fun _ _ _ h => h) (Or.inl ⟨by rfl, ?hy⟩) (by assumption) ?_
                       case hy =>
                         intro wz hSw
                         (try dsimp only at hSw)
                         (try obtain ⟨hs0, hs1, hs2, hs3, hs4⟩ := hSw)
                         first | (go_simp; done) | (go_simp; with_reducible rfl)
                       simp only [Act.put, List.setIfInBounds_toArray, List.set_cons_zero, List.set_cons_succ]
                       refine wpAnyH_take (i := 6) (oi := { dst := some 138, op := Op.binOp BinOp.sub 3 (Operand.tmp 135) (Operand.tmp 137) 3, type := 3, pos := "outright.go:51", after := #[{ on := 3, ground := Ground.data }, { on := 5, ground := Ground.data }, { on := 1, ground := Ground.guard }], guard := some (1, true) }) (v := ?_) rfl (by kernel_rfl) (by kernel_rfl) (by kernel_rfl) (fun _ _ _ h => h) (Or.inl ⟨by rfl, ?hy⟩) (by assumption) ?_
                       case hy =>
                         intro wz hSw
                         (try dsimp only at hSw)
                         (try obtain ⟨hs0, hs1, hs2, hs3, hs4⟩ := hSw)
                         first | (go_simp; done) | (go_simp; with_reducible rfl)
                       simp only [Act.put, List.setIfInBounds_toArray, List.set_cons_zero, List.set_cons_succ]
                       refine wpAnyH_take (i := 7) (oi := { dst := some 139, op := Op.binOp BinOp.quo 3 (Operand.tmp 138) (Operand.const (Value.int IntKind.i64 8)) 3, type := 3, pos := "outright.go:51", after := #[{ on := 6, ground := Ground.data }, { on := 1, ground := Ground.guard }], guard := some (1, true) }) (v := ?_) rfl (by kernel_rfl) (by kernel_rfl) (by kernel_rfl) (fun _ _ _ h => h) (Or.inl ⟨by rfl, ?hy⟩) (by assumption) ?_
                       case hy =>
                         intro wz hSw
                         (try dsimp only at hSw)
                         (try obtain ⟨hs0, hs1, hs2, hs3, hs4⟩ := hSw)
                         first | (go_simp; done) | (go_simp; with_reducible rfl)
                       simp only [Act.put, List.setIfInBounds_toArray, List.set_cons_zero, List.set_cons_succ]
                       refine wpAnyH_take (i := 8) (oi := { dst := some 140, op := Op.move (Operand.tmp 12), type := 3, pos := "outright.go:51", after := #[{ on := 1, ground := Ground.guard }], guard := some (1, true) }) (v := ?_) rfl (by kernel_rfl) (by kernel_rfl) (by kernel_rfl) (fun _ _ _ h => h) (Or.inl ⟨by rfl, ?hy⟩) (by assumption) ?_
                       case hy =>
                         intro wz hSw
                         (try dsimp only at hSw)
                         (try obtain ⟨hs0, hs1, hs2, hs3, hs4⟩ := hSw)
                         first | (go_simp; done) | (go_simp; with_reducible rfl)
                       simp only [Act.put, List.setIfInBounds_toArray, List.set_cons_zero, List.set_cons_succ]
                       refine wpAnyH_take (i := 9) (oi := { dst := some 141, op := Op.binOp BinOp.add 3 (Operand.tmp 139) (Operand.tmp 140) 3, type := 3, pos := "outright.go:51", after := #[{ on := 7, ground := Ground.data }, { on := 8, ground := Ground.data }, { on := 1, ground := Ground.guard }], guard := some (1, true) }) (v := ?_) rfl (by kernel_rfl) (by kernel_rfl) (by kernel_rfl) (fun _ _ _ h => h) (Or.inl ⟨by rfl, ?hy⟩) (by assumption) ?_
                       case hy =>
                         intro wz hSw
                         (try dsimp only at hSw)
                         (try obtain ⟨hs0, hs1, hs2, hs3, hs4⟩ := hSw)
                         first | (go_simp; done) | (go_simp; with_reducible rfl)
                       simp only [Act.put, List.setIfInBounds_toArray, List.set_cons_zero, List.set_cons_succ]
                       refine wpAnyH_take (i := 10) (oi := { dst := some 142, op := Op.fieldAddr 40 (Operand.tmp 10) 0, type := 0, pos := "outright.go:51", after := #[{ on := 1, ground := Ground.guard }], guard := some (1, true) }) (v := ?_) rfl (by kernel_rfl) (by kernel_rfl) (by kernel_rfl) (fun _ _ _ h => h) (Or.inl ⟨by rfl, ?hy⟩) (by assumption) ?_
                       case hy =>
                         intro wz hSw
                         (try dsimp only at hSw)
                         (try obtain ⟨hs0, hs1, hs2, hs3, hs4⟩ := hSw)
                         first | (go_simp; done) | (go_simp; with_reducible rfl)
                       simp only [Act.put, List.setIfInBounds_toArray, List.set_cons_zero, List.set_cons_succ]
                       refine wpAnyH_take (i := 11) (oi := { dst := some 143, op := Op.load 3 (Operand.tmp 142), type := 3, pos := "outright.go:51", after := #[{ on := 10, ground := Ground.data }, { on := 1, ground := Ground.guard }], guard := some (1, true) }) (v := ?_) rfl (by kernel_rfl) (by kernel_rfl) (by kernel_rfl) (fun _ _ _ h => h) (Or.inl ⟨by rfl, ?hy⟩) (by assumption) ?_
                       case hy =>
                         intro wz hSw
                         (try dsimp only at hSw)
                         (try obtain ⟨hs0, hs1, hs2, hs3, hs4⟩ := hSw)
                         first | (go_simp; done) | (go_simp; with_reducible rfl)
                       simp only [Act.put, List.setIfInBounds_toArray, List.set_cons_zero, List.set_cons_succ]
                       refine wpAnyH_take (i := 12) (oi := { dst := some 144, op := Op.fieldAddr 23 (Operand.tmp 2) 0, type := 0, pos := "outright.go:51", after := #[{ on := 1, ground := Ground.guard }], guard := some (1, true) }) (v := ?_) rfl (by kernel_rfl) (by kernel_rfl) (by kernel_rfl) (fun _ _ _ h => h) (Or.inl ⟨by rfl, ?hy⟩) (by assumption) ?_
                       case hy =>
                         intro wz hSw
                         (try dsimp only at hSw)
                         (try obtain ⟨hs0, hs1, hs2, hs3, hs4⟩ := hSw)
                         first | (go_simp; done) | (go_simp; with_reducible rfl)
                       simp only [Act.put, List.setIfInBounds_toArray, List.set_cons_zero, List.set_cons_succ]
                       refine wpAnyH_take (i := 13) (oi := { dst := some 145, op := Op.load 3 (Operand.tmp 144), type := 3, pos := "outright.go:51", after := #[{ on := 12, ground := Ground.data }, { on := 1, ground := Ground.guard }], guard := some (1, true) }) (v := ?_) rfl (by kernel_rfl) (by kernel_rfl) (by kernel_rfl) (fun _ _ _ h => h) (Or.inl ⟨by rfl, ?hy⟩) (by assumption) ?_
                       case hy =>
                         intro wz hSw
                         (try dsimp only at hSw)
                         (try obtain ⟨hs0, hs1, hs2, hs3, hs4⟩ := hSw)
                         first | (go_simp; done) | (go_simp; with_reducible rfl)
                       simp only [Act.put, List.setIfInBounds_toArray, List.set_cons_zero, List.set_cons_succ]
                       refine wpAnyH_take (i := 14) (oi := { dst := some 146, op := Op.binOp BinOp.sub 3 (Operand.tmp 143) (Operand.tmp 145) 3, type := 3, pos := "outright.go:51", after := #[{ on := 11, ground := Ground.data }, { on := 13, ground := Ground.data }, { on := 1, ground := Ground.guard }], guard := some (1, true) }) (v := ?_) rfl (by kernel_rfl) (by kernel_rfl) (by kernel_rfl) (fun _ _ _ h => h) (Or.inl ⟨by rfl, ?hy⟩) (by assumption) ?_
                       case hy =>
                         intro wz hSw
                         (try dsimp only at hSw)
                         (try obtain ⟨hs0, hs1, hs2, hs3, hs4⟩ := hSw)
                         first | (go_simp; done) | (go_simp; with_reducible rfl)
                       simp only [Act.put, List.setIfInBounds_toArray, List.set_cons_zero, List.set_cons_succ]
                       refine wpAnyH_take (i := 15) (oi := { dst := some 147, op := Op.binOp BinOp.quo 3 (Operand.tmp 146) (Operand.const (Value.int IntKind.i64 8)) 3, type := 3, pos := "outright.go:51", after := #[{ on := 14, ground := Ground.data }, { on := 1, ground := Ground.guard }], guard := some (1, true) }) (v := ?_) rfl (by kernel_rfl) (by kernel_rfl) (by kernel_rfl) (fun _ _ _ h => h) (Or.inl ⟨by rfl, ?hy⟩) (by assumption) ?_
                       case hy =>
                         intro wz hSw
                         (try dsimp only at hSw)
                         (try obtain ⟨hs0, hs1, hs2, hs3, hs4⟩ := hSw)
                         first | (go_simp; done) | (go_simp; with_reducible rfl)
                       simp only [Act.put, List.setIfInBounds_toArray, List.set_cons_zero, List.set_cons_succ]
                       refine wpAnyH_take (i := 16) (oi := { dst := some 148, op := Op.move (Operand.tmp 13), type := 3, pos := "outright.go:51", after := #[{ on := 1, ground := Ground.guard }], guard := some (1, true) }) (v := ?_) rfl (by kernel_rfl) (by kernel_rfl) (by kernel_rfl) (fun _ _ _ h => h) (Or.inl ⟨by rfl, ?hy⟩) (by assumption) ?_
                       case hy =>
                         intro wz hSw
                         (try dsimp only at hSw)
                         (try obtain ⟨hs0, hs1, hs2, hs3, hs4⟩ := hSw)
                         first | (go_simp; done) | (go_simp; with_reducible rfl)
                       simp only [Act.put, List.setIfInBounds_toArray, List.set_cons_zero, List.set_cons_succ]
                       refine wpAnyH_take (i := 17) (oi := { dst := some 149, op := Op.binOp BinOp.add 3 (Operand.tmp 147) (Operand.tmp 148) 3, type := 3, pos := "outright.go:51", after := #[{ on := 15, ground := Ground.data }, { on := 16, ground := Ground.data }, { on := 1, ground := Ground.guard }], guard := some (1, true) }) (v := ?_) rfl (by kernel_rfl) (by kernel_rfl) (by kernel_rfl) (fun _ _ _ h => h) (Or.inl ⟨by rfl, ?hy⟩) (by assumption) ?_
                       case hy =>
                         intro wz hSw
                         (try dsimp only at hSw)
                         (try obtain ⟨hs0, hs1, hs2, hs3, hs4⟩ := hSw)
                         first | (go_simp; done) | (go_simp; with_reducible rfl)
                       simp only [Act.put, List.setIfInBounds_toArray, List.set_cons_zero, List.set_cons_succ]
                       refine wpAnyH_take (i := 18) (oi := { dst := some 150, op := Op.indexAddr 49 (Operand.tmp 7) (Operand.tmp 141), type := 0, pos := "outright.go:51", after := #[{ on := 9, ground := Ground.data }, { on := 1, ground := Ground.guard }], guard := some (1, true) }) (v := ?_) rfl (by kernel_rfl) (by kernel_rfl) (by kernel_rfl) (fun _ _ _ h => h) (Or.inl ⟨by rfl, ?hy⟩) (by assumption) ?_
                       case hy =>
                         intro wz hSw
                         (try dsimp only at hSw)
                         (try obtain ⟨hs0, hs1, hs2, hs3, hs4⟩ := hSw)
                         first | (go_simp; done) | (go_simp; with_reducible rfl)
                       simp only [Act.put, List.setIfInBounds_toArray, List.set_cons_zero, List.set_cons_succ]
                       refine wpAnyH_take (i := 19) (oi := { dst := some 151, op := Op.indexAddr 48 (Operand.tmp 150) (Operand.tmp 149), type := 0, pos := "outright.go:51", after := #[{ on := 18, ground := Ground.data }, { on := 17, ground := Ground.data }, { on := 1, ground := Ground.guard }], guard := some (1, true) }) (v := ?_) rfl (by kernel_rfl) (by kernel_rfl) (by kernel_rfl) (fun _ _ _ h => h) (Or.inl ⟨by rfl, ?hy⟩) (by assumption) ?_
                       case hy =>
                         intro wz hSw
                         (try dsimp only at hSw)
                         (try obtain ⟨hs0, hs1, hs2, hs3, hs4⟩ := hSw)
                         first | (go_simp; done) | (go_simp; with_reducible rfl)
                       simp only [Act.put, List.setIfInBounds_toArray, List.set_cons_zero, List.set_cons_succ]
                       refine wpAnyH_take (i := 20) (oi := { dst := some 152, op := Op.load 3 (Operand.tmp 151), type := 3, pos := "outright.go:51", after := #[{ on := 19, ground := Ground.data }, { on := 1, ground := Ground.guard }], guard := some (1, true) }) (v := ?_) rfl (by kernel_rfl) (by kernel_rfl) (by kernel_rfl) (fun _ _ _ h => h) (Or.inl ⟨by rfl, ?hy⟩) (by assumption) ?_
                       case hy =>
                         intro wz hSw
                         (try dsimp only at hSw)
                         (try obtain ⟨hs0, hs1, hs2, hs3, hs4⟩ := hSw)
                         first | (go_simp; done) | (go_simp; with_reducible rfl)
                       simp only [Act.put, List.setIfInBounds_toArray, List.set_cons_zero, List.set_cons_succ]
                       refine wpAnyH_take (i := 21) (oi := { dst := some 153, op := Op.binOp BinOp.eql 3 (Operand.tmp 152) (Operand.const (Value.int IntKind.i64 0)) 3, type := 4, pos := "outright.go:51", after := #[{ on := 20, ground := Ground.data }, { on := 1, ground := Ground.guard }], guard := some (1, true) }) (v := ?_) rfl (by kernel_rfl) (by kernel_rfl) (by kernel_rfl) (fun _ _ _ h => h) (Or.inl ⟨by rfl, ?hy⟩) (by assumption) ?_
                       case hy =>
                         intro wz hSw
                         (try dsimp only at hSw)
                         (try obtain ⟨hs0, hs1, hs2, hs3, hs4⟩ := hSw)
                         first | (go_simp; done) | (go_simp; with_reducible rfl)
                       simp only [Act.put, List.setIfInBounds_toArray, List.set_cons_zero, List.set_cons_succ]
                       refine wpAnyH_take (i := 22) (oi := { dst := some 154, op := Op.pick (Operand.tmp 133) (Operand.tmp 153) (Operand.const (Value.bool false)), type := 4, pos := "outright.go:51", after := #[{ on := 1, ground := Ground.data }, { on := 21, ground := Ground.data }], guard := none }) (v := ?_) rfl (by kernel_rfl) (by kernel_rfl) (by kernel_rfl) (fun _ _ _ h => h) (Or.inl ⟨by rfl, ?hy⟩) (by assumption) ?_
                       case hy =>
                         intro wz hSw
                         (try dsimp only at hSw)
                         (try obtain ⟨hs0, hs1, hs2, hs3, hs4⟩ := hSw)
                         first | (go_simp; done) | (go_simp; with_reducible rfl)
                       simp only [Act.put, List.setIfInBounds_toArray, List.set_cons_zero, List.set_cons_succ]
                       refine wpAnyH_take (i := 23) (oi := { dst := some 11, op := Op.assign (Operand.tmp 154), type := 4, pos := "outright.go:51", after := #[{ on := 22, ground := Ground.data }, { on := 1, ground := Ground.chain }, { on := 0, ground := Ground.phase }, { on := 1, ground := Ground.phase }, { on := 2, ground := Ground.phase }, { on := 3, ground := Ground.phase }, { on := 4, ground := Ground.phase }, { on := 5, ground := Ground.phase }, { on := 6, ground := Ground.phase }, { on := 7, ground := Ground.phase }, { on := 8, ground := Ground.phase }, { on := 9, ground := Ground.phase }, { on := 10, ground := Ground.phase }, { on := 11, ground := Ground.phase }, { on := 12, ground := Ground.phase }, { on := 13, ground := Ground.phase }, { on := 14, ground := Ground.phase }, { on := 15, ground := Ground.phase }, { on := 16, ground := Ground.phase }, { on := 17, ground := Ground.phase }, { on := 18, ground := Ground.phase }, { on := 19, ground := Ground.phase }, { on := 20, ground := Ground.phase }, { on := 21, ground := Ground.phase }, { on := 22, ground := Ground.phase }], guard := none }) (v := ?_) rfl (by kernel_rfl) (by kernel_rfl) (by kernel_rfl) (fun _ _ _ h => h) (Or.inl ⟨by rfl, ?hy⟩) (by assumption) ?_
                       case hy =>
                         intro wz hSw
                         (try dsimp only at hSw)
                         (try obtain ⟨hs0, hs1, hs2, hs3, hs4⟩ := hSw)
                         first | (go_simp; done) | (go_simp; with_reducible rfl)
                       simp only [Act.put, List.setIfInBounds_toArray, List.set_cons_zero, List.set_cons_succ]
                       refine wpAnyH_done (by kernel_rfl) ?_ _
                       go_wp2_with fail
                       go_roundw
                       case rel => exact ⟨c + 1, false, by have := HC.out; omega, by go_num, by first | rfl | simp [hz], HQ'.out, HZo.out.to (below_drew (Below.refl _ _))⟩
                       case measure => have := HC.out; simp [intOf]; omega
                · obtain rfl : r = c := by omega
                  have HQ' : Hid (q = true ↔ Fi (x0, y0, w0, h0) px py r s' ∧ Fr (x0, y0, w0, h0) L px py r (j + 1) 0) := ⟨fun h => ⟨HFi.out.1, Fr.row.1 (HQ.out.1 h)⟩, fun h => HQ.out.2 (Fr.row.2 h.2)⟩
                  clear hcr hc HQ
                  go_wp2_with fail
                  go_roundw
                  case rel => exact ⟨j + 1, q, by have := HJ.out; omega, by go_num, rfl, HQ'.out, HZo.out⟩
                  case measure => have := HJ.out; simp [intOf]; omega
           · as_aux_lemma =>
              have HQf : Hid (q = true ↔ Fi (x0, y0, w0, h0) px py r s' ∧ Fr (x0, y0, w0, h0) L px py r s' 0) := by
                show _ ↔ _
                rw [HQ.out]
                refine and_congr_right fun hfi => ⟨fun h => ?_, fun h => ⟨fun y x hy hx => h.1 y x (by omega) hx, fun x hx => by omega⟩⟩
                have hqt : q = true := HQ.out.2 ⟨hfi, h⟩
                obtain rfl : j = s' := by
                  by_cases e : j < s'
                  · exact absurd ⟨e, hqt⟩ hlt
                  · omega
                exact h
              have HMp : Hid (mp (x0, y0, w0, h0) L b = q) := by
                show _ = _
                rw [Bool.eq_iff_iff, HFo.out.may HT2.out, HQf.out]
              go_upto_region 19 with fail
              go_cut [122] from 115 to 154 (fun s U => s = .bool false ∧ wr = U)
              case first =>
                by_cases h1 : j < s'
                · have j1 : (j : Int) < (s' : Int) := by omega
                  obtain rfl : q = false := by
                    cases q
                    · rfl
                    · exact absurd ⟨h1, rfl⟩ hlt
                  go_wp2_with fail
                  go_meet
                  exact ⟨rfl, rfl⟩
                · have j1 : ¬ (j : Int) < (s' : Int) := by omega
                  go_wp2_with fail
                  go_meet
                  exact ⟨rfl, rfl⟩
              obtain ⟨rfl, rfl⟩ := hcut
              clear HQ hj hlt j0 hd1 hd2 g0 g1 g2 g3
              go_wp2_with (refine wpList_load_block (by rfl) _ (by rfl) zb 0 (by rfl) b HZo.out.ob.bc ?_)
              cases q
              · as_aux_lemma =>
                 refine (put_no HZo.out.os.gd HMp.out).mono ?_
                 rintro e w6 ⟨rfl, hb⟩
                 have HZ6 : Hid (Oz w w6 z2 zo p m (x0, y0, w0, h0) v vp L L C zb b) := HZo.out.to hb
                 clear hb
                 go_wp2_with fail
                 go_roundw
                 case rel => exact ⟨k + 1, v, L, C, by have := HK.out; omega, by have := HK.out; omega, by go_num, HZ6.out.os, HWo.out, by have := HLk.out; omega⟩
                 case measure => have := HK.out; simp [intOf]; omega
              · as_aux_lemma =>
                 refine (put_ok HZo.out.os.gd HMp.out (by have := HLk.out; have := HK.out; omega)).mono ?_
                 rintro e w6 ⟨rfl, v', hgd, hgt⟩
                 have HZ6 : Hid (Oz w w6 z2 zo p m (x0, y0, w0, h0) v' vp (L ++ [b]) L C zb b) := HZo.out.put hgd hgt
                 have HFs : Hid (Fi (x0, y0, w0, h0) px py r s' ∧ Fr (x0, y0, w0, h0) L px py r s' 0) := HQf.out.1 rfl
                 clear hgd hgt HZo HQf HMp
                 go_upto_region 30 with (first | (refine wpList_load_block (by rfl) _ (by rfl) zb 0 (by rfl) b HZ6.out.ob.bc ?_) | (refine wpList_build_block (by rfl) _ (by rfl) b (by rfl) ?_) | (at_builtin; refine wpList_append_blocks _ (by rfl) _ _ (by rfl) w.heap.size vp L [b] w6.heap.size 0 1 (HZ6.out.os.pr.to (from_alloc _ _)) (by have := HZ6.out.os.bel.size; simp; omega) (fun k hk => by obtain rfl : k = 0 := (by simpa using hk); exact Bc.box w6 b) (by simp) (by have := HLk.out; have := HK.out; omega) (by simp) (by rfl) (by rfl) ?_; intro vq w7 h1 h2 h3; have HZ7 : Hid (Oz w w7 z2 zo p m (x0, y0, w0, h0) v' vq (L ++ [b]) (L ++ [b]) C zb b) := (HZ6.out.to (from_alloc _ _)).app h1 h2 h3; clear h1 h2 h3))
                 obtain ⟨aa, ca, rfl, -⟩ := HZ7.out.os.pr.cut
                 obtain ⟨nn, hnn⟩ : ∃ nn, (L ++ [b]).length = nn := ⟨_, rfl⟩
                 have HNn : Hid (nn = L.length + 1) := by show _ = _; rw [← hnn]; simp
                 rw [hnn] at HZ7
                 rw [hnn]
                 have n61 : (nn : Int) ≤ 61 := by have := HNn.out; have := HLk.out; have := HK.out; omega
                 clear hnn HZ6
                 go_wp2_with fail
                 go_loopw [15] (fun y wx => ∃ (j : Nat) (C' : List Int), j ≤ s' ∧ y = .int .i64 (j : Int) ∧ Oz w wx z2 zo p m (x0, y0, w0, h0) v' (.slice aa nn ca) (L ++ [b]) (L ++ [b]) C' zb b ∧ Wm (x0, y0, w0, h0) L px py r j 0 C') (fun y _ => s' - (intOf y).toNat)
                 case atStart => exact ⟨0, C, by omega, by simp, HZ7.out, HWo.out.begin⟩
                 case round =>
                   clear HZ7 HWo
                   obtain ⟨j, C', hj, rfl, hoz, hwm⟩ := hrel
                   have HZo : Hid (Oz w wr z2 zo p m (x0, y0, w0, h0) v' (.slice aa nn ca) (L ++ [b]) (L ++ [b]) C' zb b) := hoz
                   have HWm : Hid (Wm (x0, y0, w0, h0) L px py r j 0 C') := hwm
                   clear hoz hwm
                   have j0 : (0 : Int) ≤ (j : Int) := by omega
                   have hd1 : (8 * (s' : Int)).tdiv 8 = (s' : Int) := Int.mul_tdiv_cancel_left _ (by omega)
                   have hd2 : 8 * (s' : Int) / 8 = (s' : Int) := by omega
                   obtain ⟨g0, g1, g2, g3⟩ := HCl.out _ HZo.out.ob.bc
                   by_cases hjs : j < s'
                   · as_aux_lemma =>
                      have j1 : (j : Int) < (s' : Int) := by omega
                      have HJ : Hid (j < s') := hjs
                      clear hj hjs
                      go_wp2_with fail
                      go_loopw [16] (fun x wx => ∃ (c : Nat) (C' : List Int), c ≤ r ∧ x = .int .i64 (c : Int) ∧ Oz w wx z2 zo p m (x0, y0, w0, h0) v' (.slice aa nn ca) (L ++ [b]) (L ++ [b]) C' zb b ∧ Wm (x0, y0, w0, h0) L px py r j c C') (fun x _ => r - (intOf x).toNat)
                      case atStart => exact ⟨0, C', by omega, by simp, HZo.out, HWm.out⟩
                      case round =>
                        clear HZo HWm C' g0 g1 g2 g3
                        obtain ⟨c, C', hc, rfl, hoz, hwm⟩ := hrel
                        have HZo : Hid (Oz w wr z2 zo p m (x0, y0, w0, h0) v' (.slice aa nn ca) (L ++ [b]) (L ++ [b]) C' zb b) := hoz
                        have HWm : Hid (Wm (x0, y0, w0, h0) L px py r j c C') := hwm
                        clear hoz hwm
                        have c0 : (0 : Int) ≤ (c : Int) := by omega
                        have hd3 : (8 * (r : Int)).tdiv 8 = (r : Int) := Int.mul_tdiv_cancel_left _ (by omega)
                        have hd4 : 8 * (r : Int) / 8 = (r : Int) := by omega
                        obtain ⟨g0, g1, g2, g3⟩ := HCl.out _ HZo.out.ob.bc
                        have hts := HZo.out.os.ts
                        simp only at hts
                        obtain ⟨t0, t1, t2, t3⟩ := hts
                        by_cases hcr : c < r
                        · as_aux_lemma =>
                           have c1 : (c : Int) < (r : Int) := by omega
                           have HC : Hid (c < r) := hcr
                           have hbo : px + r ≤ 16 ∧ py + s' ≤ 16 := by
                             have h1 := HFs.out.1
                             unfold Fi at h1
                             simp only at h1
                             obtain ⟨ok, ⟨k1, k2, k3, k4⟩, ⟨k5, k6, k7, k8⟩, -, -⟩ := HT2.out
                             simp only at k4 k8
                             omega
                           have ho := HZo.out.os.ows.cell ((py + j) * 16 + (px + c)) (by rw [HWm.out.len]; have := HJ.out; omega)
                           have hf := HZo.out.os.ows.thaw ((py + j) * 16 + (px + c))
                           have HNx : Hid (∃ C2, Oz w (wr.setCell ⟨zo, (py + j) * 16 + (px + c), none⟩ (.int .i64 (nn : Int))).drew z2 zo p m (x0, y0, w0, h0) v' (.slice aa nn ca) (L ++ [b]) (L ++ [b]) C2 zb b ∧ Wm (x0, y0, w0, h0) L px py r j (c + 1) C2) := by
                             have h1 := HWm.out.cell hcr hbo.1 (by have := HJ.out; omega)
                             rw [show ((L.length : Nat) : Int) + 1 = (nn : Int) from by have := HNn.out; omega] at h1
                             exact ⟨_, (HZo.out.set _ _).to (below_drew (Below.refl _ _)), h1⟩
                           obtain ⟨xx, hxx⟩ : ∃ xx, px + c = xx := ⟨_, rfl⟩
                           obtain ⟨yy, hyy⟩ : ∃ yy, py + j = yy := ⟨_, rfl⟩
                           rw [hxx, hyy] at ho hf HNx
                           have wy : (py : Int) + (j : Int) = (yy : Int) := by omega
                           have wx : (px : Int) + (c : Int) = (xx : Int) := by omega
                           have wy2 : IntKind.i64.wrap ((py : Int) + (j : Int)) = (yy : Int) := by rw [wy]; exact wrapk_id (by omega) (by omega)
                           have wx2 : IntKind.i64.wrap ((px : Int) + (c : Int)) = (xx : Int) := by rw [wx]; exact wrapk_id (by omega) (by omega)
                           have y16 : (yy : Int) < 16 := by have := HJ.out; omega
                           have x16 : (xx : Int) < 16 := by omega
                           have y00 : (0 : Int) ≤ (yy : Int) := by omega
                           have x00 : (0 : Int) ≤ (xx : Int) := by omega
                           have ws1 : IntKind.i64.wrap (y0 + 8 * (py : Int) - y0) = 8 * (py : Int) := by rw [show y0 + 8 * (py : Int) - y0 = 8 * (py : Int) from by omega]; exact wrapk_id (by omega) (by omega)
                           have ws2 : IntKind.i64.wrap (x0 + 8 * (px : Int) - x0) = 8 * (px : Int) := by rw [show x0 + 8 * (px : Int) - x0 = 8 * (px : Int) from by omega]; exact wrapk_id (by omega) (by omega)
                           have hd5 : (8 * (py : Int)).tdiv 8 = (py : Int) := Int.mul_tdiv_cancel_left _ (by omega)
                           have hd6 : 8 * (py : Int) / 8 = (py : Int) := by omega
                           have hd7 : (8 * (px : Int)).tdiv 8 = (px : Int) := Int.mul_tdiv_cancel_left _ (by omega)
                           have hd8 : 8 * (px : Int) / 8 = (px : Int) := by omega
                           have wq1 : IntKind.i64.wrap (py : Int) = (py : Int) := wrapk_id (by omega) (by omega)
                           have wq2 : IntKind.i64.wrap (px : Int) = (px : Int) := wrapk_id (by omega) (by omega)
                           have wy3 : IntKind.i64.wrap (yy : Int) = (yy : Int) := wrapk_id (by omega) (by omega)
                           have wx3 : IntKind.i64.wrap (xx : Int) = (xx : Int) := wrapk_id (by omega) (by omega)
                           generalize C'.getD (yy * 16 + xx) 0 = ovv at *
                           clear hcr hc hxx hyy hbo
                           go_upto_region 36 with fail
                           refine road_start (S := fun t => t.cell? ⟨zb, 1, none⟩ = some (.int .i64 (y0 + 8 * (py : Int))) ∧ t.cell? ⟨z2, 1, none⟩ = some (.int .i64 y0) ∧ t.cell? ⟨zb, 0, none⟩ = some (.int .i64 (x0 + 8 * (px : Int))) ∧ t.cell? ⟨z2, 0, none⟩ = some (.int .i64 x0)) (z := 20) (by kernel_rfl) ?_
                           change Road _ _ _ _ _ 21 #[false, false, false, false, false, false, false, false, false, false, false, false, false, false, false, false, false, false, false, false, false] _ _
                           have hHeld : wr.drew.cell? ⟨zb, 1, none⟩ = some (.int .i64 (y0 + 8 * (py : Int))) ∧ wr.drew.cell? ⟨z2, 1, none⟩ = some (.int .i64 y0) ∧ wr.drew.cell? ⟨zb, 0, none⟩ = some (.int .i64 (x0 + 8 * (px : Int))) ∧ wr.drew.cell? ⟨z2, 0, none⟩ = some (.int .i64 x0) := ⟨g1, t1, g0, t0⟩
                           refine road_take (i := 0) (o := { dst := some 190, op := Op.fieldAddr 40 (Operand.tmp 10) 1, type := 0, pos := "outright.go:64", after := #[], guard := none }) (v := ?_) rfl (by kernel_rfl) (by kernel_rfl) (by kernel_rfl) (fun _ _ _ h => h) (by kernel_rfl) (Or.inl ⟨by rfl, ?hy⟩) (by assumption) ?_
                           case hy =>
                             intro wz hSw
                             (try dsimp only at hSw)
                             (try obtain ⟨hs0, hs1, hs2, hs3⟩ := hSw)
                             first | (go_simp; done) | (go_simp; with_reducible rfl)
                           simp only [Act.put, List.setIfInBounds_toArray, List.set_cons_zero, List.set_cons_succ]
                           refine road_take (i := 1) (o := { dst := some 191, op := Op.load 3 (Operand.tmp 190), type := 3, pos := "outright.go:64", after := #[{ on := 0, ground := Ground.data }], guard := none }) (v := ?_) rfl (by kernel_rfl) (by kernel_rfl) (by kernel_rfl) (fun _ _ _ h => h) (by kernel_rfl) (Or.inl ⟨by rfl, ?hy⟩) (by assumption) ?_
                           case hy =>
                             intro wz hSw
                             (try dsimp only at hSw)
                             (try obtain ⟨hs0, hs1, hs2, hs3⟩ := hSw)
                             first | (go_simp; done) | (go_simp; with_reducible rfl)
                           simp only [Act.put, List.setIfInBounds_toArray, List.set_cons_zero, List.set_cons_succ]
                           refine road_take (i := 2) (o := { dst := some 192, op := Op.fieldAddr 23 (Operand.tmp 2) 1, type := 0, pos := "outright.go:64", after := #[], guard := none }) (v := ?_) rfl (by kernel_rfl) (by kernel_rfl) (by kernel_rfl) (fun _ _ _ h => h) (by kernel_rfl) (Or.inl ⟨by rfl, ?hy⟩) (by assumption) ?_
                           case hy =>
                             intro wz hSw
                             (try dsimp only at hSw)
                             (try obtain ⟨hs0, hs1, hs2, hs3⟩ := hSw)
                             first | (go_simp; done) | (go_simp; with_reducible rfl)
                           simp only [Act.put, List.setIfInBounds_toArray, List.set_cons_zero, List.set_cons_succ]
                           refine road_take (i := 3) (o := { dst := some 193, op := Op.load 3 (Operand.tmp 192), type := 3, pos := "outright.go:64", after := #[{ on := 2, ground := Ground.data }], guard := none }) (v := ?_) rfl (by kernel_rfl) (by kernel_rfl) (by kernel_rfl) (fun _ _ _ h => h) (by kernel_rfl) (Or.inl ⟨by rfl, ?hy⟩) (by assumption) ?_
                           case hy =>
                             intro wz hSw
                             (try dsimp only at hSw)
                             (try obtain ⟨hs0, hs1, hs2, hs3⟩ := hSw)
                             first | (go_simp; done) | (go_simp; with_reducible rfl)
                           simp only [Act.put, List.setIfInBounds_toArray, List.set_cons_zero, List.set_cons_succ]
                           refine road_take (i := 4) (o := { dst := some 194, op := Op.binOp BinOp.sub 3 (Operand.tmp 191) (Operand.tmp 193) 3, type := 3, pos := "outright.go:64", after := #[{ on := 1, ground := Ground.data }, { on := 3, ground := Ground.data }], guard := none }) (v := ?_) rfl (by kernel_rfl) (by kernel_rfl) (by kernel_rfl) (fun _ _ _ h => h) (by kernel_rfl) (Or.inl ⟨by rfl, ?hy⟩) (by assumption) ?_
                           case hy =>
                             intro wz hSw
                             (try dsimp only at hSw)
                             (try obtain ⟨hs0, hs1, hs2, hs3⟩ := hSw)
                             first | (go_simp; done) | (go_simp; with_reducible rfl)
                           simp only [Act.put, List.setIfInBounds_toArray, List.set_cons_zero, List.set_cons_succ]
                           refine road_take (i := 5) (o := { dst := some 195, op := Op.binOp BinOp.quo 3 (Operand.tmp 194) (Operand.const (Value.int IntKind.i64 8)) 3, type := 3, pos := "outright.go:64", after := #[{ on := 4, ground := Ground.data }], guard := none }) (v := ?_) rfl (by kernel_rfl) (by kernel_rfl) (by kernel_rfl) (fun _ _ _ h => h) (by kernel_rfl) (Or.inl ⟨by rfl, ?hy⟩) (by assumption) ?_
                           case hy =>
                             intro wz hSw
                             (try dsimp only at hSw)
                             (try obtain ⟨hs0, hs1, hs2, hs3⟩ := hSw)
                             first | (go_simp; done) | (go_simp; with_reducible rfl)
                           simp only [Act.put, List.setIfInBounds_toArray, List.set_cons_zero, List.set_cons_succ]
                           refine road_take (i := 6) (o := { dst := some 196, op := Op.move (Operand.tmp 15), type := 3, pos := "outright.go:64", after := #[], guard := none }) (v := ?_) rfl (by kernel_rfl) (by kernel_rfl) (by kernel_rfl) (fun _ _ _ h => h) (by kernel_rfl) (Or.inl ⟨by rfl, ?hy⟩) (by assumption) ?_
                           case hy =>
                             intro wz hSw
                             (try dsimp only at hSw)
                             (try obtain ⟨hs0, hs1, hs2, hs3⟩ := hSw)
                             first | (go_simp; done) | (go_simp; with_reducible rfl)
                           simp only [Act.put, List.setIfInBounds_toArray, List.set_cons_zero, List.set_cons_succ]
                           refine road_take (i := 7) (o := { dst := some 197, op := Op.binOp BinOp.add 3 (Operand.tmp 195) (Operand.tmp 196) 3, type := 3, pos := "outright.go:64", after := #[{ on := 5, ground := Ground.data }, { on := 6, ground := Ground.data }], guard := none }) (v := ?_) rfl (by kernel_rfl) (by kernel_rfl) (by kernel_rfl) (fun _ _ _ h => h) (by kernel_rfl) (Or.inl ⟨by rfl, ?hy⟩) (by assumption) ?_
                           case hy =>
                             intro wz hSw
                             (try dsimp only at hSw)
                             (try obtain ⟨hs0, hs1, hs2, hs3⟩ := hSw)
                             first | (go_simp; done) | (go_simp; with_reducible rfl)
                           simp only [Act.put, List.setIfInBounds_toArray, List.set_cons_zero, List.set_cons_succ]
                           refine road_take (i := 8) (o := { dst := some 198, op := Op.fieldAddr 40 (Operand.tmp 10) 0, type := 0, pos := "outright.go:64", after := #[], guard := none }) (v := ?_) rfl (by kernel_rfl) (by kernel_rfl) (by kernel_rfl) (fun _ _ _ h => h) (by kernel_rfl) (Or.inl ⟨by rfl, ?hy⟩) (by assumption) ?_
                           case hy =>
                             intro wz hSw
                             (try dsimp only at hSw)
                             (try obtain ⟨hs0, hs1, hs2, hs3⟩ := hSw)
                             first | (go_simp; done) | (go_simp; with_reducible rfl)
                           simp only [Act.put, List.setIfInBounds_toArray, List.set_cons_zero, List.set_cons_succ]
                           refine road_take (i := 9) (o := { dst := some 199, op := Op.load 3 (Operand.tmp 198), type := 3, pos := "outright.go:64", after := #[{ on := 8, ground := Ground.data }], guard := none }) (v := ?_) rfl (by kernel_rfl) (by kernel_rfl) (by kernel_rfl) (fun _ _ _ h => h) (by kernel_rfl) (Or.inl ⟨by rfl, ?hy⟩) (by assumption) ?_
                           case hy =>
                             intro wz hSw
                             (try dsimp only at hSw)
                             (try obtain ⟨hs0, hs1, hs2, hs3⟩ := hSw)
                             first | (go_simp; done) | (go_simp; with_reducible rfl)
                           simp only [Act.put, List.setIfInBounds_toArray, List.set_cons_zero, List.set_cons_succ]
                           refine road_take (i := 10) (o := { dst := some 200, op := Op.fieldAddr 23 (Operand.tmp 2) 0, type := 0, pos := "outright.go:64", after := #[], guard := none }) (v := ?_) rfl (by kernel_rfl) (by kernel_rfl) (by kernel_rfl) (fun _ _ _ h => h) (by kernel_rfl) (Or.inl ⟨by rfl, ?hy⟩) (by assumption) ?_
                           case hy =>
                             intro wz hSw
                             (try dsimp only at hSw)
                             (try obtain ⟨hs0, hs1, hs2, hs3⟩ := hSw)
                             first | (go_simp; done) | (go_simp; with_reducible rfl)
                           simp only [Act.put, List.setIfInBounds_toArray, List.set_cons_zero, List.set_cons_succ]
                           refine road_take (i := 11) (o := { dst := some 201, op := Op.load 3 (Operand.tmp 200), type := 3, pos := "outright.go:64", after := #[{ on := 10, ground := Ground.data }], guard := none }) (v := ?_) rfl (by kernel_rfl) (by kernel_rfl) (by kernel_rfl) (fun _ _ _ h => h) (by kernel_rfl) (Or.inl ⟨by rfl, ?hy⟩) (by assumption) ?_
                           case hy =>
                             intro wz hSw
                             (try dsimp only at hSw)
                             (try obtain ⟨hs0, hs1, hs2, hs3⟩ := hSw)
                             first | (go_simp; done) | (go_simp; with_reducible rfl)
                           simp only [Act.put, List.setIfInBounds_toArray, List.set_cons_zero, List.set_cons_succ]
                           refine road_take (i := 12) (o := { dst := some 202, op := Op.binOp BinOp.sub 3 (Operand.tmp 199) (Operand.tmp 201) 3, type := 3, pos := "outright.go:64", after := #[{ on := 9, ground := Ground.data }, { on := 11, ground := Ground.data }], guard := none }) (v := ?_) rfl (by kernel_rfl) (by kernel_rfl) (by kernel_rfl) (fun _ _ _ h => h) (by kernel_rfl) (Or.inl ⟨by rfl, ?hy⟩) (by assumption) ?_
                           case hy =>
                             intro wz hSw
                             (try dsimp only at hSw)
                             (try obtain ⟨hs0, hs1, hs2, hs3⟩ := hSw)
                             first | (go_simp; done) | (go_simp; with_reducible rfl)
                           simp only [Act.put, List.setIfInBounds_toArray, List.set_cons_zero, List.set_cons_succ]
                           refine road_take (i := 13) (o := { dst := some 203, op := Op.binOp BinOp.quo 3 (Operand.tmp 202) (Operand.const (Value.int IntKind.i64 8)) 3, type := 3, pos := "outright.go:64", after := #[{ on := 12, ground := Ground.data }], guard := none }) (v := ?_) rfl (by kernel_rfl) (by kernel_rfl) (by kernel_rfl) (fun _ _ _ h => h) (by kernel_rfl) (Or.inl ⟨by rfl, ?hy⟩) (by assumption) ?_
                           case hy =>
                             intro wz hSw
                             (try dsimp only at hSw)
                             (try obtain ⟨hs0, hs1, hs2, hs3⟩ := hSw)
                             first | (go_simp; done) | (go_simp; with_reducible rfl)
                           simp only [Act.put, List.setIfInBounds_toArray, List.set_cons_zero, List.set_cons_succ]
                           refine road_take (i := 14) (o := { dst := some 204, op := Op.move (Operand.tmp 16), type := 3, pos := "outright.go:64", after := #[], guard := none }) (v := ?_) rfl (by kernel_rfl) (by kernel_rfl) (by kernel_rfl) (fun _ _ _ h => h) (by kernel_rfl) (Or.inl ⟨by rfl, ?hy⟩) (by assumption) ?_
                           case hy =>
                             intro wz hSw
                             (try dsimp only at hSw)
                             (try obtain ⟨hs0, hs1, hs2, hs3⟩ := hSw)
                             first | (go_simp; done) | (go_simp; with_reducible rfl)
                           simp only [Act.put, List.setIfInBounds_toArray, List.set_cons_zero, List.set_cons_succ]
                           refine road_take (i := 15) (o := { dst := some 205, op := Op.binOp BinOp.add 3 (Operand.tmp 203) (Operand.tmp 204) 3, type := 3, pos := "outright.go:64", after := #[{ on := 13, ground := Ground.data }, { on := 14, ground := Ground.data }], guard := none }) (v := ?_) rfl (by kernel_rfl) (by kernel_rfl) (by kernel_rfl) (fun _ _ _ h => h) (by kernel_rfl) (Or.inl ⟨by rfl, ?hy⟩) (by assumption) ?_
                           case hy =>
                             intro wz hSw
                             (try dsimp only at hSw)
                             (try obtain ⟨hs0, hs1, hs2, hs3⟩ := hSw)
                             first | (go_simp; done) | (go_simp; with_reducible rfl)
                           simp only [Act.put, List.setIfInBounds_toArray, List.set_cons_zero, List.set_cons_succ]
                           refine road_take (i := 16) (o := { dst := some 206, op := Op.move (Operand.tmp 8), type := 24, pos := "outright.go:64", after := #[], guard := none }) (v := ?_) rfl (by kernel_rfl) (by kernel_rfl) (by kernel_rfl) (fun _ _ _ h => h) (by kernel_rfl) (Or.inl ⟨by rfl, ?hy⟩) (by assumption) ?_
                           case hy =>
                             intro wz hSw
                             (try dsimp only at hSw)
                             (try obtain ⟨hs0, hs1, hs2, hs3⟩ := hSw)
                             first | (go_simp; done) | (go_simp; with_reducible rfl)
                           simp only [Act.put, List.setIfInBounds_toArray, List.set_cons_zero, List.set_cons_succ]
                           refine road_take (i := 17) (o := { dst := some 207, op := Op.call { callee := Callee.builtin Builtin.len, args := #[Operand.tmp 206], argTypes := #[24] }, type := 3, pos := "outright.go:64", after := #[{ on := 16, ground := Ground.data }], guard := none }) (v := ?_) rfl (by kernel_rfl) (by kernel_rfl) (by kernel_rfl) (fun _ _ _ h => h) (by kernel_rfl) (Or.inl ⟨by rfl, ?hy⟩) (by assumption) ?_
                           case hy =>
                             intro wz hSw
                             (try dsimp only at hSw)
                             (try obtain ⟨hs0, hs1, hs2, hs3⟩ := hSw)
                             first | (go_simp; done) | (go_simp; with_reducible rfl)
                           simp only [Act.put, List.setIfInBounds_toArray, List.set_cons_zero, List.set_cons_succ]
                           refine road_next (i := 18) (o := { dst := some 208, op := Op.indexAddr 49 (Operand.tmp 7) (Operand.tmp 197), type := 0, pos := "outright.go:64", after := #[{ on := 7, ground := Ground.data }], guard := none }) (by kernel_rfl) rfl (fun K hK => ?_)
                           go_simp
                           refine hK.out _ _ (Or.inr hHeld) ?_
                           clear hK K
                           (try simp only [List.setIfInBounds_toArray, List.set_cons_zero, List.set_cons_succ])
                           refine road_next (i := 19) (o := { dst := some 209, op := Op.indexAddr 48 (Operand.tmp 208) (Operand.tmp 205), type := 0, pos := "outright.go:64", after := #[{ on := 18, ground := Ground.data }, { on := 15, ground := Ground.data }, { on := 0, ground := Ground.phase }, { on := 1, ground := Ground.phase }, { on := 2, ground := Ground.phase }, { on := 3, ground := Ground.phase }, { on := 4, ground := Ground.phase }, { on := 5, ground := Ground.phase }, { on := 6, ground := Ground.phase }, { on := 7, ground := Ground.phase }, { on := 8, ground := Ground.phase }, { on := 9, ground := Ground.phase }, { on := 10, ground := Ground.phase }, { on := 11, ground := Ground.phase }, { on := 12, ground := Ground.phase }, { on := 13, ground := Ground.phase }, { on := 14, ground := Ground.phase }, { on := 15, ground := Ground.phase }, { on := 16, ground := Ground.phase }, { on := 17, ground := Ground.phase }], guard := none }) (by kernel_rfl) rfl (fun K hK => ?_)
                           go_simp
                           refine hK.out _ _ (Or.inr hHeld) ?_
                           clear hK K
                           (try simp only [List.setIfInBounds_toArray, List.set_cons_zero, List.set_cons_succ])
                           refine road_next (i := 20) (o := { dst := none, op := Op.store 3 (Operand.tmp 209) (Operand.tmp 207), type := 0, pos := "outright.go:64", after := #[{ on := 19, ground := Ground.data }, { on := 17, ground := Ground.data }, { on := 0, ground := Ground.phase }, { on := 1, ground := Ground.phase }, { on := 2, ground := Ground.phase }, { on := 3, ground := Ground.phase }, { on := 4, ground := Ground.phase }, { on := 5, ground := Ground.phase }, { on := 6, ground := Ground.phase }, { on := 7, ground := Ground.phase }, { on := 8, ground := Ground.phase }, { on := 9, ground := Ground.phase }, { on := 10, ground := Ground.phase }, { on := 11, ground := Ground.phase }, { on := 12, ground := Ground.phase }, { on := 13, ground := Ground.phase }, { on := 14, ground := Ground.phase }, { on := 15, ground := Ground.phase }, { on := 16, ground := Ground.phase }, { on := 17, ground := Ground.phase }], guard := none }) (by kernel_rfl) rfl (fun K hK => ?_)
                           go_simp
                           refine hK.out _ _ (Or.inl rfl) ?_
                           clear hK K
                           (try simp only [List.setIfInBounds_toArray, List.set_cons_zero, List.set_cons_succ])
                           refine road_done (by kernel_rfl) ?_
                           obtain ⟨C2, n1, n2⟩ := HNx.out
                           have N1 : Hid _ := n1
                           have N2 : Hid _ := n2
                           clear n1 n2 HNx
                           go_wp2_with fail
                           go_roundw
                           case rel => exact ⟨c + 1, C2, by have := HC.out; omega, by go_num, N1.out, N2.out⟩
                           case measure => have := HC.out; simp [intOf]; omega
                        · obtain rfl : r = c := by omega
                          clear hcr hc
                          go_wp2_with fail
                          go_roundw
                          case rel => exact ⟨j + 1, C', by have := HJ.out; omega, by go_num, HZo.out, HWm.out.row⟩
                          case measure => have := HJ.out; simp [intOf]; omega
                   · obtain rfl : s' = j := by omega
                     have HWe : Hid (Wo (x0, y0, w0, h0) (L ++ [b]) C') := HWm.out.end HFo.out HT2.out HFs.out.2
                     clear hj hjs
                     go_wp2_with fail
                     go_roundw
                     case rel => exact ⟨k + 1, v', L ++ [b], C', by have := HK.out; omega, by have := HK.out; omega, by go_num, HZo.out.os, HWe.out, by have := HLk.out; simp; omega⟩
                     case measure => have := HK.out; simp [intOf]; omega
    · as_aux_lemma =>
       obtain rfl : false = cv := by rw [← HCv.out]; exact (decide_eq_false hlt).symm
       have HL : Hid (L.length ≤ 60) := by show _ ≤ _; have := HLk.out; omega
       clear HCv hlt hk hk1 HLk
       obtain ⟨aa, ca, rfl, -⟩ := HOs.out.pr.cut
       have hTw := HT2.out.w
       have hTh := HT2.out.h
       simp only at hTw hTh
       obtain ⟨cw, cw1, cw2, hcw⟩ := hTw
       obtain ⟨ch, ch1, ch2, hch⟩ := hTh
       have l60 : (L.length : Int) ≤ 60 := by have := HL.out; omega
       have hw1 : w0.tdiv 8 = (cw : Int) := by rw [hcw]; exact Int.mul_tdiv_cancel_left _ (by omega)
       have hw2 : w0 / 8 = (cw : Int) := by omega
       have hh1 : h0.tdiv 8 = (ch : Int) := by rw [hch]; exact Int.mul_tdiv_cancel_left _ (by omega)
       have hh2 : h0 / 8 = (ch : Int) := by omega
       have cw3 : (cw : Int) ≤ 16 := by omega
       have ch3 : (ch : Int) ≤ 16 := by omega
       clear hcw hch cw2 ch2
       go_wp2_with fail
       clear HM
       go_loopw [17] (fun y wx => ∃ yn : Nat, yn ≤ ch ∧ y = .int .i64 (yn : Int) ∧ Os w wx z2 zo p m (x0, y0, w0, h0) v (.slice aa L.length ca) L L C) (fun y _ => ch - (intOf y).toNat)
       case atStart => exact ⟨0, by omega, by simp, HOs.out⟩
       case round =>
         clear HOs
         obtain ⟨yn, hy, rfl, hos⟩ := hrel
         have HOs : Hid (Os w wr z2 zo p m (x0, y0, w0, h0) v (.slice aa L.length ca) L L C) := hos
         clear hos
         have y00 : (0 : Int) ≤ (yn : Int) := by omega
         have hts := HOs.out.ts
         simp only at hts
         obtain ⟨t0, t1, t2, t3⟩ := hts
         by_cases hyl : yn < ch
         · as_aux_lemma =>
            have y1 : (yn : Int) < (ch : Int) := by omega
            have HY : Hid (yn < ch) := hyl
            clear hy hyl
            go_wp2_with fail
            go_loopw [18] (fun x wx => ∃ xn : Nat, xn ≤ cw ∧ x = .int .i64 (xn : Int) ∧ Os w wx z2 zo p m (x0, y0, w0, h0) v (.slice aa L.length ca) L L C) (fun x _ => cw - (intOf x).toNat)
            case atStart => exact ⟨0, by omega, by simp, HOs.out⟩
            case round =>
              clear HOs t0 t1 t2 t3
              obtain ⟨xn, hx, rfl, hos⟩ := hrel
              have HOs : Hid (Os w wr z2 zo p m (x0, y0, w0, h0) v (.slice aa L.length ca) L L C) := hos
              clear hos
              have x00 : (0 : Int) ≤ (xn : Int) := by omega
              have hts := HOs.out.ts
              simp only at hts
              obtain ⟨t0, t1, t2, t3⟩ := hts
              by_cases hxl : xn < cw
              · as_aux_lemma =>
                 have x1 : (xn : Int) < (cw : Int) := by omega
                 have HX : Hid (xn < cw) := hxl
                 clear hx hxl
                 have y16 : (yn : Int) < 16 := by omega
                 have x16 : (xn : Int) < 16 := by omega
                 obtain ⟨dx, hdx⟩ : ∃ dx, ((xn : Int) + (yn : Int)) % 8 = dx := ⟨_, rfl⟩
                 obtain ⟨dy, hdy⟩ : ∃ dy, (yn : Int) % 8 = dy := ⟨_, rfl⟩
                 have hdx2 : ((xn : Int) + (yn : Int)).tmod 8 = dx := by rw [← hdx]; exact Int.tmod_eq_emod_of_nonneg (by omega)
                 have hdy2 : (yn : Int).tmod 8 = dy := by rw [← hdy]; exact Int.tmod_eq_emod_of_nonneg (by omega)
                 have dx0 : 0 ≤ dx := by omega
                 have dx1 : dx < 8 := by omega
                 have dy0 : 0 ≤ dy := by omega
                 have dy1 : dy < 8 := by omega
                 have hin := at_in HOs.out.gd.fit HT2.out xn yn dx0 dx1 dy0 dy1
                 simp only at hin
                 have hoc : wr.cell? ⟨zo, yn * 16 + xn, none⟩ = some (.int .i64 (ov (x0, y0, w0, h0) L xn yn)) := by
                   rw [← HWo.out.val xn yn (by omega) (by omega)]
                   exact HOs.out.ows.cell _ (by rw [HWo.out.len]; omega)
                 have hov := ov_le (T := (x0, y0, w0, h0)) (L := L) (x := xn) (y := yn)
                 have HAt : Hid (Calls Try.prog 17 #[.pointer (some ⟨p, 0, none⟩), .int .i64 (x0 + 8 * (xn : Int) + dx), .int .i64 (y0 + 8 * (yn : Int) + dy)] wr fun e w' => Aq wr w' e (atB L (x0 + 8 * (xn : Int) + dx) (y0 + 8 * (yn : Int) + dy)) (decide (0 < ov (x0, y0, w0, h0) L xn yn))) := by
                   show Calls _ _ _ _ _
                   rw [← hin.1]
                   exact at_any HOs.out.gd (by unfold I64; omega) (by unfold I64; omega) (by have := HL.out; omega)
                 have HIn : Hid (0 < ov (x0, y0, w0, h0) L xn yn → (ov (x0, y0, w0, h0) L xn yn - 1).toNat < L.length ∧ atB L (x0 + 8 * (xn : Int) + dx) (y0 + 8 * (yn : Int) + dy) = L.getD (ov (x0, y0, w0, h0) L xn yn - 1).toNat bz) := hin.2
                 clear hin
                 generalize atB L (x0 + 8 * (xn : Int) + dx) (y0 + 8 * (yn : Int) + dy) = bq at *
                 generalize ov (x0, y0, w0, h0) L xn yn = ovv at *
                 obtain ⟨ov0, ov1⟩ := hov
                 have HOc : Hid (∀ u, Below wr.heap.size wr u → u.cell? ⟨zo, yn * 16 + xn, none⟩ = some (.int .i64 ovv)) := fun u hu => by rw [newCell hu _ _ HOs.out.ows.lt]; exact hoc
                 clear hoc
                 go_wp2_with fail
                 refine HAt.out.mono ?_
                 rintro e w3 ⟨rfl, hb⟩
                 have HB3 : Hid (Below wr.heap.size wr w3) := hb
                 have HBx : Hid (∀ o, Below wr.heap.size wr (w3.alloc o)) := fun o => below_alloc hb (Nat.le_refl _) o
                 have HSz : Hid (wr.heap.size ≤ w3.heap.size) := hb.size
                 clear hb HAt t0 t1 t2 t3
                 have HOx : Hid (Ob (w3.alloc (.cells bz.cs.toArray 40)) w3.heap.size bz) := Ob.new w3 bz rfl
                 go_upto_region 44 with (refine wpList_store_block (by rfl) _ _ (by rfl) w3.heap.size bz bq HOx.out (by rfl) (by rfl) ?_; intro w4 hob hsw; have HO4 : Hid (Ob w4 w3.heap.size bq) := hob; have HB4 : Hid (Below wr.heap.size wr w4) := hsw.below (HBx.out _) HSz.out; clear hob hsw)
                 clear HOx HBx HSz HB3
                 generalize w3.heap.size = zq at *
                 have HO5 : Hid (Os w w4 z2 zo p m (x0, y0, w0, h0) v (.slice aa L.length ca) L L C) := HOs.out.to HB4.out
                 have ho := HOc.out _ HB4.out
                 clear HOs
                 by_cases hp : 0 < ovv
                 · obtain ⟨hi, hbq⟩ := HIn.out hp
                   obtain ⟨ii, hii⟩ : ∃ ii, (ovv - 1).toNat = ii := ⟨_, rfl⟩
                   rw [hii] at hi hbq
                   have hov2 : ovv = (ii : Int) + 1 := by omega
                   obtain ⟨a2, c2, hvv, -, hsb, -⟩ := HO5.out.pr.form
                   obtain ⟨rfl, -, rfl⟩ : aa = a2 ∧ L.length = L.length ∧ ca = c2 := by simpa using hvv
                   obtain ⟨gp, op, rfl, hgl, hgc⟩ := hsb.form (by omega)
                   have hgp := (hgc ii hi).rng
                   rw [← hbq] at hgp
                   have hq := HO4.out.bc.rng
                   have i0 : (0 : Int) ≤ (ii : Int) := by omega
                   have i1 : (ii : Int) < (L.length : Int) := by omega
                   subst hov2
                   have wi : IntKind.i64.wrap ((ii : Int) + 1 - 1) = (ii : Int) := by rw [show (ii : Int) + 1 - 1 = (ii : Int) from by omega]; exact wrapk_id (by omega) (by omega)
                   have wi2 : (ii : Int) + 1 - 1 = (ii : Int) := by omega
                   have wi3 : IntKind.i64.wrap (ii : Int) = (ii : Int) := wrapk_id (by omega) (by omega)
                   have hE := fun t => eqb_self bq t
                   (try simp only [decide_eq_true hp])
                   clear hvv hsb hgl hgc hi hbq hii HIn HOc
                   refine wp_region_held_drew (S := fun t => t.cell? ⟨zo, yn * 16 + xn, none⟩ = some (.int .i64 ((ii : Int) + 1)) ∧ t.rangeAt zq 0 bq.cs ∧ t.rangeAt gp (op + ii * 23) bq.cs) (by kernel_rfl) ⟨ho, hq, hgp⟩ (fun hHeld => ?_)
                   change wpAnyH _ _ _ _ _ 24 #[false, false, false, false, false, false, false, false, false, false, false, false, false, false, false, false, false, false, false, false, false, false, false, false] _ _
                   refine wpAnyH_take (i := 0) (oi := { dst := some 247, op := Op.move (Operand.tmp 20), type := 4, pos := "outright.go:71", after := #[], guard := none }) (v := ?_) rfl (by kernel_rfl) (by kernel_rfl) (by kernel_rfl) (fun _ _ _ h => h) (Or.inl ⟨by rfl, ?hy⟩) (by assumption) ?_
                   case hy =>
                     intro wz hSw
                     (try dsimp only at hSw)
                     (try obtain ⟨hs0, hs1, hs2⟩ := hSw)
                     first | (go_simp; done) | (go_simp; with_reducible rfl)
                   simp only [Act.put, List.setIfInBounds_toArray, List.set_cons_zero, List.set_cons_succ]
                   refine wpAnyH_take (i := 1) (oi := { dst := some 248, op := Op.move (Operand.tmp 17), type := 3, pos := "outright.go:71", after := #[], guard := none }) (v := ?_) rfl (by kernel_rfl) (by kernel_rfl) (by kernel_rfl) (fun _ _ _ h => h) (Or.inl ⟨by rfl, ?hy⟩) (by assumption) ?_
                   case hy =>
                     intro wz hSw
                     (try dsimp only at hSw)
                     (try obtain ⟨hs0, hs1, hs2⟩ := hSw)
                     first | (go_simp; done) | (go_simp; with_reducible rfl)
                   simp only [Act.put, List.setIfInBounds_toArray, List.set_cons_zero, List.set_cons_succ]
                   refine wpAnyH_take (i := 2) (oi := { dst := some 249, op := Op.move (Operand.tmp 18), type := 3, pos := "outright.go:71", after := #[], guard := none }) (v := ?_) rfl (by kernel_rfl) (by kernel_rfl) (by kernel_rfl) (fun _ _ _ h => h) (Or.inl ⟨by rfl, ?hy⟩) (by assumption) ?_
                   case hy =>
                     intro wz hSw
                     (try dsimp only at hSw)
                     (try obtain ⟨hs0, hs1, hs2⟩ := hSw)
                     first | (go_simp; done) | (go_simp; with_reducible rfl)
                   simp only [Act.put, List.setIfInBounds_toArray, List.set_cons_zero, List.set_cons_succ]
                   refine wpAnyH_take (i := 3) (oi := { dst := some 250, op := Op.indexAddr 49 (Operand.tmp 7) (Operand.tmp 248), type := 0, pos := "outright.go:71", after := #[{ on := 1, ground := Ground.data }], guard := none }) (v := ?_) rfl (by kernel_rfl) (by kernel_rfl) (by kernel_rfl) (fun _ _ _ h => h) (Or.inl ⟨by rfl, ?hy⟩) (by assumption) ?_
                   case hy =>
                     intro wz hSw
                     (try dsimp only at hSw)
                     (try obtain ⟨hs0, hs1, hs2⟩ := hSw)
                     first | (go_simp; done) | (go_simp; with_reducible rfl)
                   simp only [Act.put, List.setIfInBounds_toArray, List.set_cons_zero, List.set_cons_succ]
                   refine wpAnyH_take (i := 4) (oi := { dst := some 251, op := Op.indexAddr 48 (Operand.tmp 250) (Operand.tmp 249), type := 0, pos := "outright.go:71", after := #[{ on := 3, ground := Ground.data }, { on := 2, ground := Ground.data }], guard := none }) (v := ?_) rfl (by kernel_rfl) (by kernel_rfl) (by kernel_rfl) (fun _ _ _ h => h) (Or.inl ⟨by rfl, ?hy⟩) (by assumption) ?_
                   case hy =>
                     intro wz hSw
                     (try dsimp only at hSw)
                     (try obtain ⟨hs0, hs1, hs2⟩ := hSw)
                     first | (go_simp; done) | (go_simp; with_reducible rfl)
                   simp only [Act.put, List.setIfInBounds_toArray, List.set_cons_zero, List.set_cons_succ]
                   refine wpAnyH_take (i := 5) (oi := { dst := some 252, op := Op.load 3 (Operand.tmp 251), type := 3, pos := "outright.go:71", after := #[{ on := 4, ground := Ground.data }], guard := none }) (v := ?_) rfl (by kernel_rfl) (by kernel_rfl) (by kernel_rfl) (fun _ _ _ h => h) (Or.inl ⟨by rfl, ?hy⟩) (by assumption) ?_
                   case hy =>
                     intro wz hSw
                     (try dsimp only at hSw)
                     (try obtain ⟨hs0, hs1, hs2⟩ := hSw)
                     first | (go_simp; done) | (go_simp; with_reducible rfl)
                   simp only [Act.put, List.setIfInBounds_toArray, List.set_cons_zero, List.set_cons_succ]
                   refine wpAnyH_take (i := 6) (oi := { dst := some 253, op := Op.binOp BinOp.gtr 3 (Operand.tmp 252) (Operand.const (Value.int IntKind.i64 0)) 3, type := 4, pos := "outright.go:71", after := #[{ on := 5, ground := Ground.data }], guard := none }) (v := ?_) rfl (by kernel_rfl) (by kernel_rfl) (by kernel_rfl) (fun _ _ _ h => h) (Or.inl ⟨by rfl, ?hy⟩) (by assumption) ?_
                   case hy =>
                     intro wz hSw
                     (try dsimp only at hSw)
                     (try obtain ⟨hs0, hs1, hs2⟩ := hSw)
                     first | (go_simp; done) | (go_simp; with_reducible rfl)
                   simp only [Act.put, List.setIfInBounds_toArray, List.set_cons_zero, List.set_cons_succ]
                   refine wpAnyH_take (i := 7) (oi := { dst := some 254, op := Op.binOp BinOp.neq 4 (Operand.tmp 247) (Operand.tmp 253) 4, type := 4, pos := "outright.go:71", after := #[{ on := 0, ground := Ground.data }, { on := 6, ground := Ground.data }], guard := none }) (v := ?_) rfl (by kernel_rfl) (by kernel_rfl) (by kernel_rfl) (fun _ _ _ h => h) (Or.inl ⟨by rfl, ?hy⟩) (by assumption) ?_
                   case hy =>
                     intro wz hSw
                     (try dsimp only at hSw)
                     (try obtain ⟨hs0, hs1, hs2⟩ := hSw)
                     first | (go_simp; done) | (go_simp; with_reducible rfl)
                   simp only [Act.put, List.setIfInBounds_toArray, List.set_cons_zero, List.set_cons_succ]
                   refine wpAnyH_take (i := 8) (oi := { dst := some 255, op := Op.move (Operand.tmp 254), type := 4, pos := "outright.go:71", after := #[{ on := 7, ground := Ground.data }], guard := none }) (v := ?_) rfl (by kernel_rfl) (by kernel_rfl) (by kernel_rfl) (fun _ _ _ h => h) (Or.inl ⟨by rfl, ?hy⟩) (by assumption) ?_
                   case hy =>
                     intro wz hSw
                     (try dsimp only at hSw)
                     (try obtain ⟨hs0, hs1, hs2⟩ := hSw)
                     first | (go_simp; done) | (go_simp; with_reducible rfl)
                   simp only [Act.put, List.setIfInBounds_toArray, List.set_cons_zero, List.set_cons_succ]
                   refine wpAnyH_take (i := 9) (oi := { dst := some 256, op := Op.move (Operand.tmp 20), type := 4, pos := "outright.go:71", after := #[{ on := 8, ground := Ground.guard }], guard := some (8, false) }) (v := ?_) rfl (by kernel_rfl) (by kernel_rfl) (by kernel_rfl) (fun _ _ _ h => h) (Or.inl ⟨by rfl, ?hy⟩) (by assumption) ?_
                   case hy =>
                     intro wz hSw
                     (try dsimp only at hSw)
                     (try obtain ⟨hs0, hs1, hs2⟩ := hSw)
                     first | (go_simp; done) | (go_simp; with_reducible rfl)
                   simp only [Act.put, List.setIfInBounds_toArray, List.set_cons_zero, List.set_cons_succ]
                   refine wpAnyH_take (i := 10) (oi := { dst := some 257, op := Op.move (Operand.tmp 256), type := 4, pos := "outright.go:71", after := #[{ on := 9, ground := Ground.data }, { on := 8, ground := Ground.chain }, { on := 8, ground := Ground.guard }], guard := some (8, false) }) (v := ?_) rfl (by kernel_rfl) (by kernel_rfl) (by kernel_rfl) (fun _ _ _ h => h) (Or.inl ⟨by rfl, ?hy⟩) (by assumption) ?_
                   case hy =>
                     intro wz hSw
                     (try dsimp only at hSw)
                     (try obtain ⟨hs0, hs1, hs2⟩ := hSw)
                     first | (go_simp; done) | (go_simp; with_reducible rfl)
                   simp only [Act.put, List.setIfInBounds_toArray, List.set_cons_zero, List.set_cons_succ]
                   refine wpAnyH_take (i := 11) (oi := { dst := some 258, op := Op.load 40 (Operand.tmp 19), type := 40, pos := "outright.go:71", after := #[{ on := 10, ground := Ground.guard }], guard := some (10, true) }) (v := .agg bq.cs.toArray) rfl (by kernel_rfl) (by kernel_rfl) (by kernel_rfl) (fun _ _ _ h => h) (yieldsIf_load_mid (by rfl) 40 (Operand.tmp 19) rfl zq 0 (by rfl) bq.cs _ (fun _ hS => hS.2.1) Try.underlying40 rfl (by rw [Try.info40, Bl.cs_length])) (by assumption) ?_
                   simp only [Act.put, List.setIfInBounds_toArray, List.set_cons_zero, List.set_cons_succ]
                   refine wpAnyH_take (i := 12) (oi := { dst := some 259, op := Op.move (Operand.tmp 8), type := 24, pos := "outright.go:71", after := #[{ on := 10, ground := Ground.guard }], guard := some (10, true) }) (v := ?_) rfl (by kernel_rfl) (by kernel_rfl) (by kernel_rfl) (fun _ _ _ h => h) (Or.inl ⟨by rfl, ?hy⟩) (by assumption) ?_
                   case hy =>
                     intro wz hSw
                     (try dsimp only at hSw)
                     (try obtain ⟨hs0, hs1, hs2⟩ := hSw)
                     first | (go_simp; done) | (go_simp; with_reducible rfl)
                   simp only [Act.put, List.setIfInBounds_toArray, List.set_cons_zero, List.set_cons_succ]
                   refine wpAnyH_take (i := 13) (oi := { dst := some 260, op := Op.move (Operand.tmp 17), type := 3, pos := "outright.go:71", after := #[{ on := 10, ground := Ground.guard }], guard := some (10, true) }) (v := ?_) rfl (by kernel_rfl) (by kernel_rfl) (by kernel_rfl) (fun _ _ _ h => h) (Or.inl ⟨by rfl, ?hy⟩) (by assumption) ?_
                   case hy =>
                     intro wz hSw
                     (try dsimp only at hSw)
                     (try obtain ⟨hs0, hs1, hs2⟩ := hSw)
                     first | (go_simp; done) | (go_simp; with_reducible rfl)
                   simp only [Act.put, List.setIfInBounds_toArray, List.set_cons_zero, List.set_cons_succ]
                   refine wpAnyH_take (i := 14) (oi := { dst := some 261, op := Op.move (Operand.tmp 18), type := 3, pos := "outright.go:71", after := #[{ on := 10, ground := Ground.guard }], guard := some (10, true) }) (v := ?_) rfl (by kernel_rfl) (by kernel_rfl) (by kernel_rfl) (fun _ _ _ h => h) (Or.inl ⟨by rfl, ?hy⟩) (by assumption) ?_
                   case hy =>
                     intro wz hSw
                     (try dsimp only at hSw)
                     (try obtain ⟨hs0, hs1, hs2⟩ := hSw)
                     first | (go_simp; done) | (go_simp; with_reducible rfl)
                   simp only [Act.put, List.setIfInBounds_toArray, List.set_cons_zero, List.set_cons_succ]
                   refine wpAnyH_take (i := 15) (oi := { dst := some 262, op := Op.indexAddr 49 (Operand.tmp 7) (Operand.tmp 260), type := 0, pos := "outright.go:71", after := #[{ on := 13, ground := Ground.data }, { on := 10, ground := Ground.guard }], guard := some (10, true) }) (v := ?_) rfl (by kernel_rfl) (by kernel_rfl) (by kernel_rfl) (fun _ _ _ h => h) (Or.inl ⟨by rfl, ?hy⟩) (by assumption) ?_
                   case hy =>
                     intro wz hSw
                     (try dsimp only at hSw)
                     (try obtain ⟨hs0, hs1, hs2⟩ := hSw)
                     first | (go_simp; done) | (go_simp; with_reducible rfl)
                   simp only [Act.put, List.setIfInBounds_toArray, List.set_cons_zero, List.set_cons_succ]
                   refine wpAnyH_take (i := 16) (oi := { dst := some 263, op := Op.indexAddr 48 (Operand.tmp 262) (Operand.tmp 261), type := 0, pos := "outright.go:71", after := #[{ on := 15, ground := Ground.data }, { on := 14, ground := Ground.data }, { on := 10, ground := Ground.guard }], guard := some (10, true) }) (v := ?_) rfl (by kernel_rfl) (by kernel_rfl) (by kernel_rfl) (fun _ _ _ h => h) (Or.inl ⟨by rfl, ?hy⟩) (by assumption) ?_
                   case hy =>
                     intro wz hSw
                     (try dsimp only at hSw)
                     (try obtain ⟨hs0, hs1, hs2⟩ := hSw)
                     first | (go_simp; done) | (go_simp; with_reducible rfl)
                   simp only [Act.put, List.setIfInBounds_toArray, List.set_cons_zero, List.set_cons_succ]
                   refine wpAnyH_take (i := 17) (oi := { dst := some 264, op := Op.load 3 (Operand.tmp 263), type := 3, pos := "outright.go:71", after := #[{ on := 16, ground := Ground.data }, { on := 10, ground := Ground.guard }], guard := some (10, true) }) (v := ?_) rfl (by kernel_rfl) (by kernel_rfl) (by kernel_rfl) (fun _ _ _ h => h) (Or.inl ⟨by rfl, ?hy⟩) (by assumption) ?_
                   case hy =>
                     intro wz hSw
                     (try dsimp only at hSw)
                     (try obtain ⟨hs0, hs1, hs2⟩ := hSw)
                     first | (go_simp; done) | (go_simp; with_reducible rfl)
                   simp only [Act.put, List.setIfInBounds_toArray, List.set_cons_zero, List.set_cons_succ]
                   refine wpAnyH_take (i := 18) (oi := { dst := some 265, op := Op.binOp BinOp.sub 3 (Operand.tmp 264) (Operand.const (Value.int IntKind.i64 1)) 3, type := 3, pos := "outright.go:71", after := #[{ on := 17, ground := Ground.data }, { on := 10, ground := Ground.guard }], guard := some (10, true) }) (v := ?_) rfl (by kernel_rfl) (by kernel_rfl) (by kernel_rfl) (fun _ _ _ h => h) (Or.inl ⟨by rfl, ?hy⟩) (by assumption) ?_
                   case hy =>
                     intro wz hSw
                     (try dsimp only at hSw)
                     (try obtain ⟨hs0, hs1, hs2⟩ := hSw)
                     first | (go_simp; done) | (go_simp; with_reducible rfl)
                   simp only [Act.put, List.setIfInBounds_toArray, List.set_cons_zero, List.set_cons_succ]
                   refine wpAnyH_take (i := 19) (oi := { dst := some 266, op := Op.indexAddr 24 (Operand.tmp 259) (Operand.tmp 265), type := 0, pos := "outright.go:71", after := #[{ on := 12, ground := Ground.data }, { on := 18, ground := Ground.data }, { on := 10, ground := Ground.guard }], guard := some (10, true) }) (v := ?_) rfl (by kernel_rfl) (by kernel_rfl) (by kernel_rfl) (fun _ _ _ h => h) (Or.inl ⟨by rfl, ?hy⟩) (by assumption) ?_
                   case hy =>
                     intro wz hSw
                     (try dsimp only at hSw)
                     (try obtain ⟨hs0, hs1, hs2⟩ := hSw)
                     first | (go_simp; done) | (go_simp; with_reducible rfl)
                   simp only [Act.put, List.setIfInBounds_toArray, List.set_cons_zero, List.set_cons_succ]
                   refine wpAnyH_take (i := 20) (oi := { dst := some 267, op := Op.load 40 (Operand.tmp 266), type := 40, pos := "outright.go:71", after := #[{ on := 19, ground := Ground.data }, { on := 10, ground := Ground.guard }], guard := some (10, true) }) (v := .agg bq.cs.toArray) rfl (by kernel_rfl) (by kernel_rfl) (by kernel_rfl) (fun _ _ _ h => h) (yieldsIf_load_mid (by rfl) 40 (Operand.tmp 266) rfl gp (op + ii * 23) (by rfl) bq.cs _ (fun _ hS => hS.2.2) Try.underlying40 rfl (by rw [Try.info40, Bl.cs_length])) (by assumption) ?_
                   simp only [Act.put, List.setIfInBounds_toArray, List.set_cons_zero, List.set_cons_succ]
                   refine wpAnyH_take (i := 21) (oi := { dst := some 268, op := Op.binOp BinOp.neq 40 (Operand.tmp 258) (Operand.tmp 267) 40, type := 4, pos := "outright.go:71", after := #[{ on := 11, ground := Ground.data }, { on := 20, ground := Ground.data }, { on := 10, ground := Ground.guard }], guard := some (10, true) }) (v := ?_) rfl (by kernel_rfl) (by kernel_rfl) (by kernel_rfl) (fun _ _ _ h => h) (Or.inl ⟨by rfl, ?hy⟩) (by assumption) ?_
                   case hy =>
                     intro wz hSw
                     (try dsimp only at hSw)
                     (try obtain ⟨hs0, hs1, hs2⟩ := hSw)
                     first | (go_simp; done) | (go_simp; with_reducible rfl)
                   simp only [Act.put, List.setIfInBounds_toArray, List.set_cons_zero, List.set_cons_succ]
                   refine wpAnyH_take (i := 22) (oi := { dst := some 269, op := Op.pick (Operand.tmp 257) (Operand.tmp 268) (Operand.const (Value.bool false)), type := 4, pos := "outright.go:71", after := #[{ on := 10, ground := Ground.data }, { on := 21, ground := Ground.data }, { on := 8, ground := Ground.guard }], guard := some (8, false) }) (v := ?_) rfl (by kernel_rfl) (by kernel_rfl) (by kernel_rfl) (fun _ _ _ h => h) (Or.inl ⟨by rfl, ?hy⟩) (by assumption) ?_
                   case hy =>
                     intro wz hSw
                     (try dsimp only at hSw)
                     (try obtain ⟨hs0, hs1, hs2⟩ := hSw)
                     first | (go_simp; done) | (go_simp; with_reducible rfl)
                   simp only [Act.put, List.setIfInBounds_toArray, List.set_cons_zero, List.set_cons_succ]
                   refine wpAnyH_take (i := 23) (oi := { dst := some 270, op := Op.pick (Operand.tmp 255) (Operand.const (Value.bool true)) (Operand.tmp 269), type := 4, pos := "outright.go:71", after := #[{ on := 8, ground := Ground.data }, { on := 22, ground := Ground.data }], guard := none }) (v := ?_) rfl (by kernel_rfl) (by kernel_rfl) (by kernel_rfl) (fun _ _ _ h => h) (Or.inl ⟨by rfl, ?hy⟩) (by assumption) ?_
                   case hy =>
                     intro wz hSw
                     (try dsimp only at hSw)
                     (try obtain ⟨hs0, hs1, hs2⟩ := hSw)
                     first | (go_simp; done) | (go_simp; with_reducible rfl)
                   simp only [Act.put, List.setIfInBounds_toArray, List.set_cons_zero, List.set_cons_succ]
                   refine wpAnyH_done (by kernel_rfl) ?_ _
                   go_wp2_with fail
                   go_roundw
                   case rel => exact ⟨xn + 1, by have := HX.out; omega, by go_num, HO5.out.to (below_drew (Below.refl _ _))⟩
                   case measure => have := HX.out; simp [intOf]; omega
                 · obtain rfl : ovv = 0 := by omega
                   (try simp only [decide_eq_false hp])
                   clear HIn HOc hp
                   refine wp_region_held_drew (S := fun t => t.cell? ⟨zo, yn * 16 + xn, none⟩ = some (.int .i64 0)) (by kernel_rfl) ho (fun hHeld => ?_)
                   change wpAnyH _ _ _ _ _ 24 #[false, false, false, false, false, false, false, false, false, false, false, false, false, false, false, false, false, false, false, false, false, false, false, false] _ _
                   refine wpAnyH_take (i := 0) (oi := { dst := some 247, op := Op.move (Operand.tmp 20), type := 4, pos := "outright.go:71", after := #[], guard := none }) (v := ?_) rfl (by kernel_rfl) (by kernel_rfl) (by kernel_rfl) (fun _ _ _ h => h) (Or.inl ⟨by rfl, ?hy⟩) (by assumption) ?_
                   case hy =>
                     intro wz hSw
                     (try dsimp only at hSw)
                     first | (go_simp; done) | (go_simp; with_reducible rfl)
                   simp only [Act.put, List.setIfInBounds_toArray, List.set_cons_zero, List.set_cons_succ]
                   refine wpAnyH_take (i := 1) (oi := { dst := some 248, op := Op.move (Operand.tmp 17), type := 3, pos := "outright.go:71", after := #[], guard := none }) (v := ?_) rfl (by kernel_rfl) (by kernel_rfl) (by kernel_rfl) (fun _ _ _ h => h) (Or.inl ⟨by rfl, ?hy⟩) (by assumption) ?_
                   case hy =>
                     intro wz hSw
                     (try dsimp only at hSw)
                     first | (go_simp; done) | (go_simp; with_reducible rfl)
                   simp only [Act.put, List.setIfInBounds_toArray, List.set_cons_zero, List.set_cons_succ]
                   refine wpAnyH_take (i := 2) (oi := { dst := some 249, op := Op.move (Operand.tmp 18), type := 3, pos := "outright.go:71", after := #[], guard := none }) (v := ?_) rfl (by kernel_rfl) (by kernel_rfl) (by kernel_rfl) (fun _ _ _ h => h) (Or.inl ⟨by rfl, ?hy⟩) (by assumption) ?_
                   case hy =>
                     intro wz hSw
                     (try dsimp only at hSw)
                     first | (go_simp; done) | (go_simp; with_reducible rfl)
                   simp only [Act.put, List.setIfInBounds_toArray, List.set_cons_zero, List.set_cons_succ]
                   refine wpAnyH_take (i := 3) (oi := { dst := some 250, op := Op.indexAddr 49 (Operand.tmp 7) (Operand.tmp 248), type := 0, pos := "outright.go:71", after := #[{ on := 1, ground := Ground.data }], guard := none }) (v := ?_) rfl (by kernel_rfl) (by kernel_rfl) (by kernel_rfl) (fun _ _ _ h => h) (Or.inl ⟨by rfl, ?hy⟩) (by assumption) ?_
                   case hy =>
                     intro wz hSw
                     (try dsimp only at hSw)
                     first | (go_simp; done) | (go_simp; with_reducible rfl)
                   simp only [Act.put, List.setIfInBounds_toArray, List.set_cons_zero, List.set_cons_succ]
                   refine wpAnyH_take (i := 4) (oi := { dst := some 251, op := Op.indexAddr 48 (Operand.tmp 250) (Operand.tmp 249), type := 0, pos := "outright.go:71", after := #[{ on := 3, ground := Ground.data }, { on := 2, ground := Ground.data }], guard := none }) (v := ?_) rfl (by kernel_rfl) (by kernel_rfl) (by kernel_rfl) (fun _ _ _ h => h) (Or.inl ⟨by rfl, ?hy⟩) (by assumption) ?_
                   case hy =>
                     intro wz hSw
                     (try dsimp only at hSw)
                     first | (go_simp; done) | (go_simp; with_reducible rfl)
                   simp only [Act.put, List.setIfInBounds_toArray, List.set_cons_zero, List.set_cons_succ]
                   refine wpAnyH_take (i := 5) (oi := { dst := some 252, op := Op.load 3 (Operand.tmp 251), type := 3, pos := "outright.go:71", after := #[{ on := 4, ground := Ground.data }], guard := none }) (v := ?_) rfl (by kernel_rfl) (by kernel_rfl) (by kernel_rfl) (fun _ _ _ h => h) (Or.inl ⟨by rfl, ?hy⟩) (by assumption) ?_
                   case hy =>
                     intro wz hSw
                     (try dsimp only at hSw)
                     first | (go_simp; done) | (go_simp; with_reducible rfl)
                   simp only [Act.put, List.setIfInBounds_toArray, List.set_cons_zero, List.set_cons_succ]
                   refine wpAnyH_take (i := 6) (oi := { dst := some 253, op := Op.binOp BinOp.gtr 3 (Operand.tmp 252) (Operand.const (Value.int IntKind.i64 0)) 3, type := 4, pos := "outright.go:71", after := #[{ on := 5, ground := Ground.data }], guard := none }) (v := ?_) rfl (by kernel_rfl) (by kernel_rfl) (by kernel_rfl) (fun _ _ _ h => h) (Or.inl ⟨by rfl, ?hy⟩) (by assumption) ?_
                   case hy =>
                     intro wz hSw
                     (try dsimp only at hSw)
                     first | (go_simp; done) | (go_simp; with_reducible rfl)
                   simp only [Act.put, List.setIfInBounds_toArray, List.set_cons_zero, List.set_cons_succ]
                   refine wpAnyH_take (i := 7) (oi := { dst := some 254, op := Op.binOp BinOp.neq 4 (Operand.tmp 247) (Operand.tmp 253) 4, type := 4, pos := "outright.go:71", after := #[{ on := 0, ground := Ground.data }, { on := 6, ground := Ground.data }], guard := none }) (v := ?_) rfl (by kernel_rfl) (by kernel_rfl) (by kernel_rfl) (fun _ _ _ h => h) (Or.inl ⟨by rfl, ?hy⟩) (by assumption) ?_
                   case hy =>
                     intro wz hSw
                     (try dsimp only at hSw)
                     first | (go_simp; done) | (go_simp; with_reducible rfl)
                   simp only [Act.put, List.setIfInBounds_toArray, List.set_cons_zero, List.set_cons_succ]
                   refine wpAnyH_take (i := 8) (oi := { dst := some 255, op := Op.move (Operand.tmp 254), type := 4, pos := "outright.go:71", after := #[{ on := 7, ground := Ground.data }], guard := none }) (v := ?_) rfl (by kernel_rfl) (by kernel_rfl) (by kernel_rfl) (fun _ _ _ h => h) (Or.inl ⟨by rfl, ?hy⟩) (by assumption) ?_
                   case hy =>
                     intro wz hSw
                     (try dsimp only at hSw)
                     first | (go_simp; done) | (go_simp; with_reducible rfl)
                   simp only [Act.put, List.setIfInBounds_toArray, List.set_cons_zero, List.set_cons_succ]
                   refine wpAnyH_take (i := 9) (oi := { dst := some 256, op := Op.move (Operand.tmp 20), type := 4, pos := "outright.go:71", after := #[{ on := 8, ground := Ground.guard }], guard := some (8, false) }) (v := ?_) rfl (by kernel_rfl) (by kernel_rfl) (by kernel_rfl) (fun _ _ _ h => h) (Or.inl ⟨by rfl, ?hy⟩) (by assumption) ?_
                   case hy =>
                     intro wz hSw
                     (try dsimp only at hSw)
                     first | (go_simp; done) | (go_simp; with_reducible rfl)
                   simp only [Act.put, List.setIfInBounds_toArray, List.set_cons_zero, List.set_cons_succ]
                   refine wpAnyH_take (i := 10) (oi := { dst := some 257, op := Op.move (Operand.tmp 256), type := 4, pos := "outright.go:71", after := #[{ on := 9, ground := Ground.data }, { on := 8, ground := Ground.chain }, { on := 8, ground := Ground.guard }], guard := some (8, false) }) (v := ?_) rfl (by kernel_rfl) (by kernel_rfl) (by kernel_rfl) (fun _ _ _ h => h) (Or.inl ⟨by rfl, ?hy⟩) (by assumption) ?_
                   case hy =>
                     intro wz hSw
                     (try dsimp only at hSw)
                     first | (go_simp; done) | (go_simp; with_reducible rfl)
                   simp only [Act.put, List.setIfInBounds_toArray, List.set_cons_zero, List.set_cons_succ]
                   refine wpAnyH_take (i := 11) (oi := { dst := some 258, op := Op.load 40 (Operand.tmp 19), type := 40, pos := "outright.go:71", after := #[{ on := 10, ground := Ground.guard }], guard := some (10, true) }) (v := undef) rfl (by kernel_rfl) (by kernel_rfl) (by kernel_rfl) (fun _ _ _ h => h) (Or.inr ⟨by rfl, rfl⟩) (by assumption) ?_
                   simp only [Act.put, List.setIfInBounds_toArray, List.set_cons_zero, List.set_cons_succ]
                   refine wpAnyH_take (i := 12) (oi := { dst := some 259, op := Op.move (Operand.tmp 8), type := 24, pos := "outright.go:71", after := #[{ on := 10, ground := Ground.guard }], guard := some (10, true) }) (v := undef) rfl (by kernel_rfl) (by kernel_rfl) (by kernel_rfl) (fun _ _ _ h => h) (Or.inr ⟨by rfl, rfl⟩) (by assumption) ?_
                   simp only [Act.put, List.setIfInBounds_toArray, List.set_cons_zero, List.set_cons_succ]
                   refine wpAnyH_take (i := 13) (oi := { dst := some 260, op := Op.move (Operand.tmp 17), type := 3, pos := "outright.go:71", after := #[{ on := 10, ground := Ground.guard }], guard := some (10, true) }) (v := undef) rfl (by kernel_rfl) (by kernel_rfl) (by kernel_rfl) (fun _ _ _ h => h) (Or.inr ⟨by rfl, rfl⟩) (by assumption) ?_
                   simp only [Act.put, List.setIfInBounds_toArray, List.set_cons_zero, List.set_cons_succ]
                   refine wpAnyH_take (i := 14) (oi := { dst := some 261, op := Op.move (Operand.tmp 18), type := 3, pos := "outright.go:71", after := #[{ on := 10, ground := Ground.guard }], guard := some (10, true) }) (v := undef) rfl (by kernel_rfl) (by kernel_rfl) (by kernel_rfl) (fun _ _ _ h => h) (Or.inr ⟨by rfl, rfl⟩) (by assumption) ?_
                   simp only [Act.put, List.setIfInBounds_toArray, List.set_cons_zero, List.set_cons_succ]
                   refine wpAnyH_take (i := 15) (oi := { dst := some 262, op := Op.indexAddr 49 (Operand.tmp 7) (Operand.tmp 260), type := 0, pos := "outright.go:71", after := #[{ on := 13, ground := Ground.data }, { on := 10, ground := Ground.guard }], guard := some (10, true) }) (v := undef) rfl (by kernel_rfl) (by kernel_rfl) (by kernel_rfl) (fun _ _ _ h => h) (Or.inr ⟨by rfl, rfl⟩) (by assumption) ?_
                   simp only [Act.put, List.setIfInBounds_toArray, List.set_cons_zero, List.set_cons_succ]
                   refine wpAnyH_take (i := 16) (oi := { dst := some 263, op := Op.indexAddr 48 (Operand.tmp 262) (Operand.tmp 261), type := 0, pos := "outright.go:71", after := #[{ on := 15, ground := Ground.data }, { on := 14, ground := Ground.data }, { on := 10, ground := Ground.guard }], guard := some (10, true) }) (v := undef) rfl (by kernel_rfl) (by kernel_rfl) (by kernel_rfl) (fun _ _ _ h => h) (Or.inr ⟨by rfl, rfl⟩) (by assumption) ?_
                   simp only [Act.put, List.setIfInBounds_toArray, List.set_cons_zero, List.set_cons_succ]
                   refine wpAnyH_take (i := 17) (oi := { dst := some 264, op := Op.load 3 (Operand.tmp 263), type := 3, pos := "outright.go:71", after := #[{ on := 16, ground := Ground.data }, { on := 10, ground := Ground.guard }], guard := some (10, true) }) (v := undef) rfl (by kernel_rfl) (by kernel_rfl) (by kernel_rfl) (fun _ _ _ h => h) (Or.inr ⟨by rfl, rfl⟩) (by assumption) ?_
                   simp only [Act.put, List.setIfInBounds_toArray, List.set_cons_zero, List.set_cons_succ]
                   refine wpAnyH_take (i := 18) (oi := { dst := some 265, op := Op.binOp BinOp.sub 3 (Operand.tmp 264) (Operand.const (Value.int IntKind.i64 1)) 3, type := 3, pos := "outright.go:71", after := #[{ on := 17, ground := Ground.data }, { on := 10, ground := Ground.guard }], guard := some (10, true) }) (v := undef) rfl (by kernel_rfl) (by kernel_rfl) (by kernel_rfl) (fun _ _ _ h => h) (Or.inr ⟨by rfl, rfl⟩) (by assumption) ?_
                   simp only [Act.put, List.setIfInBounds_toArray, List.set_cons_zero, List.set_cons_succ]
                   refine wpAnyH_take (i := 19) (oi := { dst := some 266, op := Op.indexAddr 24 (Operand.tmp 259) (Operand.tmp 265), type := 0, pos := "outright.go:71", after := #[{ on := 12, ground := Ground.data }, { on := 18, ground := Ground.data }, { on := 10, ground := Ground.guard }], guard := some (10, true) }) (v := undef) rfl (by kernel_rfl) (by kernel_rfl) (by kernel_rfl) (fun _ _ _ h => h) (Or.inr ⟨by rfl, rfl⟩) (by assumption) ?_
                   simp only [Act.put, List.setIfInBounds_toArray, List.set_cons_zero, List.set_cons_succ]
                   refine wpAnyH_take (i := 20) (oi := { dst := some 267, op := Op.load 40 (Operand.tmp 266), type := 40, pos := "outright.go:71", after := #[{ on := 19, ground := Ground.data }, { on := 10, ground := Ground.guard }], guard := some (10, true) }) (v := undef) rfl (by kernel_rfl) (by kernel_rfl) (by kernel_rfl) (fun _ _ _ h => h) (Or.inr ⟨by rfl, rfl⟩) (by assumption) ?_
                   simp only [Act.put, List.setIfInBounds_toArray, List.set_cons_zero, List.set_cons_succ]
                   refine wpAnyH_take (i := 21) (oi := { dst := some 268, op := Op.binOp BinOp.neq 40 (Operand.tmp 258) (Operand.tmp 267) 40, type := 4, pos := "outright.go:71", after := #[{ on := 11, ground := Ground.data }, { on := 20, ground := Ground.data }, { on := 10, ground := Ground.guard }], guard := some (10, true) }) (v := undef) rfl (by kernel_rfl) (by kernel_rfl) (by kernel_rfl) (fun _ _ _ h => h) (Or.inr ⟨by rfl, rfl⟩) (by assumption) ?_
                   simp only [Act.put, List.setIfInBounds_toArray, List.set_cons_zero, List.set_cons_succ]
                   refine wpAnyH_take (i := 22) (oi := { dst := some 269, op := Op.pick (Operand.tmp 257) (Operand.tmp 268) (Operand.const (Value.bool false)), type := 4, pos := "outright.go:71", after := #[{ on := 10, ground := Ground.data }, { on := 21, ground := Ground.data }, { on := 8, ground := Ground.guard }], guard := some (8, false) }) (v := ?_) rfl (by kernel_rfl) (by kernel_rfl) (by kernel_rfl) (fun _ _ _ h => h) (Or.inl ⟨by rfl, ?hy⟩) (by assumption) ?_
                   case hy =>
                     intro wz hSw
                     (try dsimp only at hSw)
                     first | (go_simp; done) | (go_simp; with_reducible rfl)
                   simp only [Act.put, List.setIfInBounds_toArray, List.set_cons_zero, List.set_cons_succ]
                   refine wpAnyH_take (i := 23) (oi := { dst := some 270, op := Op.pick (Operand.tmp 255) (Operand.const (Value.bool true)) (Operand.tmp 269), type := 4, pos := "outright.go:71", after := #[{ on := 8, ground := Ground.data }, { on := 22, ground := Ground.data }], guard := none }) (v := ?_) rfl (by kernel_rfl) (by kernel_rfl) (by kernel_rfl) (fun _ _ _ h => h) (Or.inl ⟨by rfl, ?hy⟩) (by assumption) ?_
                   case hy =>
                     intro wz hSw
                     (try dsimp only at hSw)
                     first | (go_simp; done) | (go_simp; with_reducible rfl)
                   simp only [Act.put, List.setIfInBounds_toArray, List.set_cons_zero, List.set_cons_succ]
                   refine wpAnyH_done (by kernel_rfl) ?_ _
                   go_wp2_with fail
                   go_roundw
                   case rel => exact ⟨xn + 1, by have := HX.out; omega, by go_num, HO5.out.to (below_drew (Below.refl _ _))⟩
                   case measure => have := HX.out; simp [intOf]; omega
              · obtain rfl : cw = xn := by omega
                clear hx hxl
                go_wp2_with fail
                go_roundw
                case rel => exact ⟨yn + 1, by have := HY.out; omega, by go_num, HOs.out⟩
                case measure => have := HY.out; simp [intOf]; omega
         · obtain rfl : ch = yn := by omega
           clear hy hyl
           as_aux_lemma =>
            have HAt : Hid (Calls Try.prog 17 #[.pointer (some ⟨p, 0, none⟩), .int .i64 (x0 + w0), .int .i64 y0] wr fun e w' => Aq wr w' e (atB L (x0 + w0) y0) false) := by
              have h := at_any (X := x0 + w0) (Y := y0) HOs.out.gd (by unfold I64; omega) (by unfold I64; omega) (by have := HL.out; omega)
              have h2 := at_out (T := (x0, y0, w0, h0)) HOs.out.gd.fit
              simp only at h2
              rw [h2] at h
              exact h
            generalize atB L (x0 + w0) y0 = bq at *
            go_wp2_with fail
            refine HAt.out.mono ?_
            rintro e w3 ⟨rfl, hb⟩
            have HBx : Hid (∀ o, Below wr.heap.size wr (w3.alloc o)) := fun o => below_alloc hb (Nat.le_refl _) o
            have HSz : Hid (wr.heap.size ≤ w3.heap.size) := hb.size
            clear hb HAt t0 t1 t2 t3
            have HOx : Hid (Ob (w3.alloc (.cells bz.cs.toArray 40)) w3.heap.size bz) := Ob.new w3 bz rfl
            go_upto_region 47 with (refine wpList_store_block (by rfl) _ _ (by rfl) w3.heap.size bz bq HOx.out (by rfl) (by rfl) ?_; intro w4 hob hsw; have HB4 : Hid (Below wr.heap.size wr w4) := hsw.below (HBx.out _) HSz.out; clear hob hsw)
            have HO5 : Hid (Os w w4 z2 zo p m (x0, y0, w0, h0) v (.slice aa L.length ca) L L C) := HOs.out.to HB4.out
            clear HOx HBx HSz HOs HB4
            go_wp2_with fail
            refine (blocks_any HO5.out.gd (by have := HL.out; omega)).mono ?_
            rintro e w5 ⟨xd, rfl, ho, hb⟩
            obtain ⟨ad, cd, rfl, -⟩ := ho.cut
            have HO6 : Hid (Os w w5 z2 zo p m (x0, y0, w0, h0) v (.slice aa L.length ca) L L C) := HO5.out.to hb
            clear ho hb HO5
            go_wp2_with fail
            go_ret
            exact ⟨rfl, HO6.out.bel⟩
end Go.Proofs.Ytppofodijlofdaa
