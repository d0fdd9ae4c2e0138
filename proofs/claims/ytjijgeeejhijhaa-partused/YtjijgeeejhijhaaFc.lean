/- DERIVED. brought. -/
import Derived.Test.YtjijgeeejhijhaaDb
namespace Go.Proofs.Ytjijgeeejhijhaa
open Go.RowKit

theorem fr_off {w : World} {b : Nat} {x y a c : Int} (h : Fr w b x y a c) {p o : Nat} (hp : b ≠ p) (v : Value) : Fr (w.setCell ⟨p, o, none⟩ v) b x y a c := by
  refine ⟨?_, ?_, ?_, ?_⟩ <;> rw [World.cell?_setCell_other _ _ _ _ (fun e => hp (by simpa using (congrArg Addr.block e).symm))]
  · exact h.r0
  · exact h.r1
  · exact h.r2
  · exact h.r3
theorem Fr.set4 {w : World} {b : Nat} {x y a c : Int} (h : Fr w b x y a c) (x' y' a' c' : Int) : Fr ((((w.setCell ⟨b, 0, none⟩ (.int .i64 x')).setCell ⟨b, 1, none⟩ (.int .i64 y')).setCell ⟨b, 2, none⟩ (.int .i64 a')).setCell ⟨b, 3, none⟩ (.int .i64 c')) b x' y' a' c' := by
  refine ⟨?_, ?_, ?_, ?_⟩
  · rw [cell_off (by omega), cell_off (by omega), cell_off (by omega)]; exact World.cell?_setCell_same _ _ _ h.r0
  · rw [cell_off (by omega), cell_off (by omega)]; exact World.cell?_setCell_same _ _ _ (by rw [cell_off (by omega)]; exact h.r1)
  · rw [cell_off (by omega)]; exact World.cell?_setCell_same _ _ _ (by rw [cell_off (by omega), cell_off (by omega)]; exact h.r2)
  · exact World.cell?_setCell_same _ _ _ (by rw [cell_off (by omega), cell_off (by omega), cell_off (by omega)]; exact h.r3)
theorem emod_in (i n : Int) (h : 0 < n) : 0 ≤ i % n ∧ i % n < n := ⟨Int.emod_nonneg _ (by omega), Int.emod_lt_of_pos _ h⟩
/-- what brought answers -/
def brS (x y : Int) : Rc := (8 * (x % 129), 8 * (y % 129), 64, 64)
def brA (x y a b : Int) : Rc := (8 * (x % 129), 8 * (y % 129), 8 + 8 * (a % 128), 8 + 8 * (b % 128))
theorem below_at {B : Nat} {u v w : World} (h : Below B u v) (hb : B ≤ u.heap.size) (k : Below v.heap.size v w) : Below B u w := h.trans (k.mono (Nat.le_trans hb h.size))
set_option maxRecDepth 100000 in
set_option maxHeartbeats 8000000 in
theorem brought_any {W : World} {x y s s' X Y A B : Int} : Calls Try.prog 19 #[.agg #[.int .i64 x, .int .i64 y, .int .i64 s, .int .i64 s'], .agg #[.int .i64 X, .int .i64 Y, .int .i64 A, .int .i64 B]] W fun e w' => e = .returned (.tuple #[.agg #[.int .i64 (brS x y).1, .int .i64 (brS x y).2.1, .int .i64 64, .int .i64 64], .agg #[.int .i64 (brA X Y A B).1, .int .i64 (brA X Y A B).2.1, .int .i64 (brA X Y A B).2.2.1, .int .i64 (brA X Y A B).2.2.2]]) ∧ Below W.heap.size W w' := by
  unfold brS brA
  have H0 : Hid (∀ t, Calls Try.prog 21 #[.int .i64 x, .int .i64 129] t fun e w' => e = .returned (.int .i64 (x % 129)) ∧ t = w') := fun t => bring_any (by omega) (by omega)
  have H1 : Hid (∀ t, Calls Try.prog 21 #[.int .i64 y, .int .i64 129] t fun e w' => e = .returned (.int .i64 (y % 129)) ∧ t = w') := fun t => bring_any (by omega) (by omega)
  have H2 : Hid (∀ t, Calls Try.prog 21 #[.int .i64 X, .int .i64 129] t fun e w' => e = .returned (.int .i64 (X % 129)) ∧ t = w') := fun t => bring_any (by omega) (by omega)
  have H3 : Hid (∀ t, Calls Try.prog 21 #[.int .i64 Y, .int .i64 129] t fun e w' => e = .returned (.int .i64 (Y % 129)) ∧ t = w') := fun t => bring_any (by omega) (by omega)
  have H4 : Hid (∀ t, Calls Try.prog 21 #[.int .i64 A, .int .i64 128] t fun e w' => e = .returned (.int .i64 (A % 128)) ∧ t = w') := fun t => bring_any (by omega) (by omega)
  have H5 : Hid (∀ t, Calls Try.prog 21 #[.int .i64 B, .int .i64 128] t fun e w' => e = .returned (.int .i64 (B % 128)) ∧ t = w') := fun t => bring_any (by omega) (by omega)
  obtain ⟨i0, i0'⟩ := emod_in x 129 (by omega)
  obtain ⟨i1, i1'⟩ := emod_in y 129 (by omega)
  obtain ⟨i2, i2'⟩ := emod_in X 129 (by omega)
  obtain ⟨i3, i3'⟩ := emod_in Y 129 (by omega)
  obtain ⟨i4, i4'⟩ := emod_in A 128 (by omega)
  obtain ⟨i5, i5'⟩ := emod_in B 128 (by omega)
  generalize x % 129 = n0 at *
  generalize y % 129 = n1 at *
  generalize X % 129 = n2 at *
  generalize Y % 129 = n3 at *
  generalize A % 128 = n4 at *
  generalize B % 128 = n5 at *
  go_enter Try.func19, Try.ntmps19
  go_upto_region 1 with fail
  have K2 : Fr ((((W.alloc (.cells #[.int .i64 x, .int .i64 y, .int .i64 s, .int .i64 s'] 23)).alloc (.cells #[.int .i64 X, .int .i64 Y, .int .i64 A, .int .i64 B] 23)).alloc (.cells #[.int .i64 0, .int .i64 0, .int .i64 0, .int .i64 0] 23)).alloc (.cells #[.int .i64 0, .int .i64 0, .int .i64 0, .int .i64 0] 23)) W.heap.size x y s s' := ⟨by simp [go_sem], by simp [go_sem], by simp [go_sem], by simp [go_sem]⟩
  have K3 : Fr ((((W.alloc (.cells #[.int .i64 x, .int .i64 y, .int .i64 s, .int .i64 s'] 23)).alloc (.cells #[.int .i64 X, .int .i64 Y, .int .i64 A, .int .i64 B] 23)).alloc (.cells #[.int .i64 0, .int .i64 0, .int .i64 0, .int .i64 0] 23)).alloc (.cells #[.int .i64 0, .int .i64 0, .int .i64 0, .int .i64 0] 23)) (W.heap.size + 1) X Y A B := ⟨by simp [go_sem], by simp [go_sem], by simp [go_sem], by simp [go_sem]⟩
  have K4 : Fr ((((W.alloc (.cells #[.int .i64 x, .int .i64 y, .int .i64 s, .int .i64 s'] 23)).alloc (.cells #[.int .i64 X, .int .i64 Y, .int .i64 A, .int .i64 B] 23)).alloc (.cells #[.int .i64 0, .int .i64 0, .int .i64 0, .int .i64 0] 23)).alloc (.cells #[.int .i64 0, .int .i64 0, .int .i64 0, .int .i64 0] 23)) (W.heap.size + 1 + 1) 0 0 0 0 := ⟨by simp [go_sem], by simp [go_sem], by simp [go_sem], by simp [go_sem]⟩
  have K5 : Fr ((((W.alloc (.cells #[.int .i64 x, .int .i64 y, .int .i64 s, .int .i64 s'] 23)).alloc (.cells #[.int .i64 X, .int .i64 Y, .int .i64 A, .int .i64 B] 23)).alloc (.cells #[.int .i64 0, .int .i64 0, .int .i64 0, .int .i64 0] 23)).alloc (.cells #[.int .i64 0, .int .i64 0, .int .i64 0, .int .i64 0] 23)) (W.heap.size + 1 + 1 + 1) 0 0 0 0 := ⟨by simp [go_sem], by simp [go_sem], by simp [go_sem], by simp [go_sem]⟩
  have F4 : ∀ j, ((((W.alloc (.cells #[.int .i64 x, .int .i64 y, .int .i64 s, .int .i64 s'] 23)).alloc (.cells #[.int .i64 X, .int .i64 Y, .int .i64 A, .int .i64 B] 23)).alloc (.cells #[.int .i64 0, .int .i64 0, .int .i64 0, .int .i64 0] 23)).alloc (.cells #[.int .i64 0, .int .i64 0, .int .i64 0, .int .i64 0] 23)).frozen? ⟨W.heap.size + 1 + 1, j, none⟩ = false := fun j => by first | (simp [go_sem]; done) | (simp [World.frozen?, go_sem]; done)
  have F5 : ∀ j, ((((W.alloc (.cells #[.int .i64 x, .int .i64 y, .int .i64 s, .int .i64 s'] 23)).alloc (.cells #[.int .i64 X, .int .i64 Y, .int .i64 A, .int .i64 B] 23)).alloc (.cells #[.int .i64 0, .int .i64 0, .int .i64 0, .int .i64 0] 23)).alloc (.cells #[.int .i64 0, .int .i64 0, .int .i64 0, .int .i64 0] 23)).frozen? ⟨W.heap.size + 1 + 1 + 1, j, none⟩ = false := fun j => by first | (simp [go_sem]; done) | (simp [World.frozen?, go_sem]; done)
  have KB : Hid (Below W.heap.size W ((((W.alloc (.cells #[.int .i64 x, .int .i64 y, .int .i64 s, .int .i64 s'] 23)).alloc (.cells #[.int .i64 X, .int .i64 Y, .int .i64 A, .int .i64 B] 23)).alloc (.cells #[.int .i64 0, .int .i64 0, .int .i64 0, .int .i64 0] 23)).alloc (.cells #[.int .i64 0, .int .i64 0, .int .i64 0, .int .i64 0] 23))) := to_alloc (to_alloc (to_alloc (from_alloc _ _) _) _) _
  have KZ : ((((W.alloc (.cells #[.int .i64 x, .int .i64 y, .int .i64 s, .int .i64 s'] 23)).alloc (.cells #[.int .i64 X, .int .i64 Y, .int .i64 A, .int .i64 B] 23)).alloc (.cells #[.int .i64 0, .int .i64 0, .int .i64 0, .int .i64 0] 23)).alloc (.cells #[.int .i64 0, .int .i64 0, .int .i64 0, .int .i64 0] 23)).heap.size = W.heap.size + 4 := by simp
  generalize ((((W.alloc (.cells #[.int .i64 x, .int .i64 y, .int .i64 s, .int .i64 s'] 23)).alloc (.cells #[.int .i64 X, .int .i64 Y, .int .i64 A, .int .i64 B] 23)).alloc (.cells #[.int .i64 0, .int .i64 0, .int .i64 0, .int .i64 0] 23)).alloc (.cells #[.int .i64 0, .int .i64 0, .int .i64 0, .int .i64 0] 23)) = V0 at *
  have HK : Hid (∀ t : World, Below (W.heap.size + 2) V0 t → t.cell? ⟨W.heap.size, 0, none⟩ = some (.int .i64 x) ∧ t.cell? ⟨W.heap.size, 1, none⟩ = some (.int .i64 y) ∧ t.cell? ⟨W.heap.size + 1, 0, none⟩ = some (.int .i64 X) ∧ t.cell? ⟨W.heap.size + 1, 1, none⟩ = some (.int .i64 Y) ∧ t.cell? ⟨W.heap.size + 1, 2, none⟩ = some (.int .i64 A) ∧ t.cell? ⟨W.heap.size + 1, 3, none⟩ = some (.int .i64 B)) := fun t ht => by
    have a := K2.below ht (by omega)
    have b := K3.below ht (by omega)
    exact ⟨a.r0, a.r1, b.r0, b.r1, b.r2, b.r3⟩
  have HR : Hid (∀ t : World, Below V0.heap.size V0 t → (Fr t (W.heap.size + 1 + 1) 0 0 0 0 ∧ Fr t (W.heap.size + 1 + 1 + 1) 0 0 0 0) ∧ (∀ j, t.frozen? ⟨W.heap.size + 1 + 1, j, none⟩ = false) ∧ (∀ j, t.frozen? ⟨W.heap.size + 1 + 1 + 1, j, none⟩ = false)) := fun t ht =>
    ⟨⟨K4.below ht (by omega), K5.below ht (by omega)⟩, fun j => by rw [newFrozen ht _ _ (by omega)]; exact F4 j, fun j => by rw [newFrozen ht _ _ (by omega)]; exact F5 j⟩
  have HD : Hid (Below V0.heap.size V0 V0.drew) := below_drew (Below.refl _ _)
  have HM : Hid (∀ t, Below V0.heap.size V0 t → Below (W.heap.size + 2) V0 t) := fun t ht => ht.mono (by omega)
  clear K2 K3 K4 K5 F4 F5 KZ
  go_region_held3 (fun t => t.cell? ⟨W.heap.size, 0, none⟩ = some (.int .i64 x) ∧ t.cell? ⟨W.heap.size, 1, none⟩ = some (.int .i64 y) ∧ t.cell? ⟨W.heap.size + 1, 0, none⟩ = some (.int .i64 X) ∧ t.cell? ⟨W.heap.size + 1, 1, none⟩ = some (.int .i64 Y) ∧ t.cell? ⟨W.heap.size + 1, 2, none⟩ = some (.int .i64 A) ∧ t.cell? ⟨W.heap.size + 1, 3, none⟩ = some (.int .i64 B))
    ((exact HK.out _ (by (repeat (refine below_set ?_ (by first | (simp; done) | (simp; omega)) _)); first | exact HM.out _ HD.out | exact HM.out _ hbX | exact below_drew (HM.out _ hbX) | assumption)))
    ((first
      | (go_at_call 21; first | ((with_reducible refine (H0.out _).mono ?_); rintro e w5 ⟨rfl, rfl⟩) | ((with_reducible refine (H1.out _).mono ?_); rintro e w5 ⟨rfl, rfl⟩) | ((with_reducible refine (H2.out _).mono ?_); rintro e w5 ⟨rfl, rfl⟩) | ((with_reducible refine (H3.out _).mono ?_); rintro e w5 ⟨rfl, rfl⟩) | ((with_reducible refine (H4.out _).mono ?_); rintro e w5 ⟨rfl, rfl⟩) | ((with_reducible refine (H5.out _).mono ?_); rintro e w5 ⟨rfl, rfl⟩))
      | (go_at_call 22; (with_reducible refine rect_any.mono ?_); rintro e wx ⟨rfl, hbx⟩; have hbX := (by first | exact below_to hbX hbx | exact below_to HD.out hbx : Below V0.heap.size V0 wx); obtain ⟨⟨⟨z0, z1, z2, z3⟩, ⟨y0, y1, y2, y3⟩⟩, hf4, hf5⟩ := HR.out _ hbX; have f40 := hf4 0; have f41 := hf4 1; have f42 := hf4 2; have f43 := hf4 3; have f50 := hf5 0; have f51 := hf5 1; have f52 := hf5 2; have f53 := hf5 3; clear hf4 hf5; have z0' : wx.drew.cell? _ = _ := z0; have z1' : wx.drew.cell? _ = _ := z1; have z2' : wx.drew.cell? _ = _ := z2; have z3' : wx.drew.cell? _ = _ := z3; have y0' : wx.drew.cell? _ = _ := y0; have y1' : wx.drew.cell? _ = _ := y1; have y2' : wx.drew.cell? _ = _ := y2; have y3' : wx.drew.cell? _ = _ := y3; have g40 : wx.drew.frozen? _ = _ := f40; have g41 : wx.drew.frozen? _ = _ := f41; have g42 : wx.drew.frozen? _ = _ := f42; have g43 : wx.drew.frozen? _ = _ := f43; have g50 : wx.drew.frozen? _ = _ := f50; have g51 : wx.drew.frozen? _ = _ := f51; have g52 : wx.drew.frozen? _ = _ := f52; have g53 : wx.drew.frozen? _ = _ := f53)))
  have w0 : IntKind.i64.wrap (8 * n0) = 8 * n0 := by rw [IntKind.wrap_i64]; omega
  have w1 : IntKind.i64.wrap (8 * n1) = 8 * n1 := by rw [IntKind.wrap_i64]; omega
  have w2 : IntKind.i64.wrap (8 * n2) = 8 * n2 := by rw [IntKind.wrap_i64]; omega
  have w3 : IntKind.i64.wrap (8 * n3) = 8 * n3 := by rw [IntKind.wrap_i64]; omega
  have w4 : IntKind.i64.wrap (8 + IntKind.i64.wrap (8 * n4)) = 8 + 8 * n4 := by rw [IntKind.wrap_i64, IntKind.wrap_i64]; omega
  have w5 : IntKind.i64.wrap (8 + IntKind.i64.wrap (8 * n5)) = 8 + 8 * n5 := by rw [IntKind.wrap_i64, IntKind.wrap_i64]; omega
  rw [w0, w1, w2, w3, w4, w5]
  have hR := HR.out _ hbX
  have a4 := fr_off (p := W.heap.size + 1 + 1 + 1) (o := 3) (fr_off (p := W.heap.size + 1 + 1 + 1) (o := 2) (fr_off (p := W.heap.size + 1 + 1 + 1) (o := 1) (fr_off (p := W.heap.size + 1 + 1 + 1) (o := 0) (hR.1.1.set4 (8 * n0) (8 * n1) 64 64) (by omega) (.int .i64 (8 * n2))) (by omega) (.int .i64 (8 * n3))) (by omega) (.int .i64 (8 + 8 * n4))) (by omega) (.int .i64 (8 + 8 * n5))
  have a5 := (fr_off (p := W.heap.size + 1 + 1) (o := 3) (fr_off (p := W.heap.size + 1 + 1) (o := 2) (fr_off (p := W.heap.size + 1 + 1) (o := 1) (fr_off (p := W.heap.size + 1 + 1) (o := 0) hR.1.2 (by omega) (.int .i64 (8 * n0))) (by omega) (.int .i64 (8 * n1))) (by omega) (.int .i64 64)) (by omega) (.int .i64 64)).set4 (8 * n2) (8 * n3) (8 + 8 * n4) (8 + 8 * n5)
  have hB0 : Below (W.heap.size + 2) V0 wx := HM.out _ hbX
  have hB := KB.out.trans (((below_set (below_set (below_set (below_set (below_set (below_set (below_set (below_set hB0 (a := ⟨W.heap.size + 1 + 1, 0, none⟩) (by simp) (.int .i64 (8 * n0))) (a := ⟨W.heap.size + 1 + 1, 1, none⟩) (by simp) (.int .i64 (8 * n1))) (a := ⟨W.heap.size + 1 + 1, 2, none⟩) (by simp) (.int .i64 64)) (a := ⟨W.heap.size + 1 + 1, 3, none⟩) (by simp) (.int .i64 64)) (a := ⟨W.heap.size + 1 + 1 + 1, 0, none⟩) (by simp) (.int .i64 (8 * n2))) (a := ⟨W.heap.size + 1 + 1 + 1, 1, none⟩) (by simp) (.int .i64 (8 * n3))) (a := ⟨W.heap.size + 1 + 1 + 1, 2, none⟩) (by simp) (.int .i64 (8 + 8 * n4))) (a := ⟨W.heap.size + 1 + 1 + 1, 3, none⟩) (by simp) (.int .i64 (8 + 8 * n5)))).mono (by omega))
  generalize ((((((((wx.setCell ⟨W.heap.size + 1 + 1, 0, none⟩ (.int .i64 (8 * n0))).setCell ⟨W.heap.size + 1 + 1, 1, none⟩ (.int .i64 (8 * n1))).setCell ⟨W.heap.size + 1 + 1, 2, none⟩ (.int .i64 64)).setCell ⟨W.heap.size + 1 + 1, 3, none⟩ (.int .i64 64)).setCell ⟨W.heap.size + 1 + 1 + 1, 0, none⟩ (.int .i64 (8 * n2))).setCell ⟨W.heap.size + 1 + 1 + 1, 1, none⟩ (.int .i64 (8 * n3))).setCell ⟨W.heap.size + 1 + 1 + 1, 2, none⟩ (.int .i64 (8 + 8 * n4))).setCell ⟨W.heap.size + 1 + 1 + 1, 3, none⟩ (.int .i64 (8 + 8 * n5))) = WE at *
  obtain ⟨z0, z1, z2, z3⟩ := a4
  obtain ⟨y0, y1, y2, y3⟩ := a5
  go_wp2_with fail
  refine bodyPost_ret (v := .tuple #[.agg #[.int .i64 (8 * n0), .int .i64 (8 * n1), .int .i64 64, .int .i64 64], .agg #[.int .i64 (8 * n2), .int .i64 (8 * n3), .int .i64 (8 + 8 * n4), .int .i64 (8 + 8 * n5)]]) (by simp [results, Try.results19, go_sem, z0, z1, z2, z3, y0, y1, y2, y3]) rfl ?_
  exact ⟨rfl, hB⟩
end Go.Proofs.Ytjijgeeejhijhaa
