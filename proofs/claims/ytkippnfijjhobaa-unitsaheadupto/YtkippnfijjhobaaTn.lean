/- DERIVED. spoil. -/
import Derived.Test.YtkippnfijjhobaaTm
import Derived.BigRegion
namespace Go.Proofs.Ytkippnfijjhobaa
open Go.RowKit

/-- bytes and types may have been written over; nothing else has turned -/
structure Spo (B : Nat) (w w' : World) : Prop where
  os : w'.os = w.os
  tape : w'.tape = w.tape
  output : w'.output = w.output
  size : w'.heap.size = w.heap.size
  low : ∀ k, k < B → w'.heap[k]? = w.heap[k]?
  frz : ∀ g o, w'.frozen? ⟨g, o, none⟩ = w.frozen? ⟨g, o, none⟩
  cell : ∀ g o, w'.cell? ⟨g, o, none⟩ = w.cell? ⟨g, o, none⟩ ∨ (∃ x y : Nat, y < 256 ∧ w.cell? ⟨g, o, none⟩ = some (.int .u8 (x : Int)) ∧ w'.cell? ⟨g, o, none⟩ = some (.int .u8 (y : Int))) ∨ ∃ x y : Int, w.cell? ⟨g, o, none⟩ = some (.int .i64 x) ∧ w'.cell? ⟨g, o, none⟩ = some (.int .i64 y)
theorem Spo.refl (B : Nat) (w : World) : Spo B w w := ⟨rfl, rfl, rfl, rfl, fun _ _ => rfl, fun _ _ => rfl, fun _ _ => Or.inl rfl⟩
theorem Spo.trans {B : Nat} {a b c : World} (h : Spo B a b) (k : Spo B b c) : Spo B a c := by
  refine ⟨k.os.trans h.os, k.tape.trans h.tape, k.output.trans h.output, k.size.trans h.size, fun i hi => (k.low i hi).trans (h.low i hi), fun g o => (k.frz g o).trans (h.frz g o), fun g o => ?_⟩
  rcases k.cell g o with e | ⟨x, y, hy, e1, e2⟩ | ⟨x, y, e1, e2⟩
  · rw [e]; exact h.cell g o
  · rcases h.cell g o with e | ⟨x', y', _, e3, e4⟩ | ⟨x', y', e3, e4⟩
    · exact Or.inr (Or.inl ⟨x, y, hy, by rw [← e]; exact e1, e2⟩)
    · exact Or.inr (Or.inl ⟨x', y, hy, e3, e2⟩)
    · rw [e1] at e4; simp at e4
  · rcases h.cell g o with e | ⟨x', y', _, e3, e4⟩ | ⟨x', y', e3, e4⟩
    · exact Or.inr (Or.inr ⟨x, y, by rw [← e]; exact e1, e2⟩)
    · rw [e1] at e4; simp at e4
    · exact Or.inr (Or.inr ⟨x', y, e3, e2⟩)
theorem Spo.below {B : Nat} {w w' : World} (h : Spo B w w') : Below B w w' := ⟨h.os, h.tape, h.output, Nat.le_of_eq h.size.symm, h.low⟩
theorem Spo.drew {B : Nat} {w w' : World} (h : Spo B w w') : Spo B w w'.drew := ⟨h.os, h.tape, h.output, h.size, h.low, h.frz, h.cell⟩
theorem Spo.u8 {B g o x y : Nat} {w : World} {Y : Int} (hY : Y = (y : Int)) (hy : y < 256) (hg : B ≤ g) (hc : w.cell? ⟨g, o, none⟩ = some (.int .u8 (x : Int))) : Spo B w (w.setCell ⟨g, o, none⟩ (.int .u8 Y)) := by
  subst hY
  refine ⟨rfl, rfl, rfl, by simp [World.setCell], fun k hk => Below.heap_setCell _ _ _ _ (by simp; omega), fun g' o' => by rw [World.frozen?_setCell], fun g' o' => ?_⟩
  by_cases e : (⟨g', o', none⟩ : Addr) = ⟨g, o, none⟩
  · rw [e]
    exact Or.inr (Or.inl ⟨x, y, hy, hc, World.cell?_setCell_same _ _ _ hc⟩)
  · exact Or.inl (World.cell?_setCell_other _ _ _ _ (Ne.symm e))
theorem Spo.i64 {B g o : Nat} {x y : Int} {w : World} (hg : B ≤ g) (hc : w.cell? ⟨g, o, none⟩ = some (.int .i64 x)) : Spo B w (w.setCell ⟨g, o, none⟩ (.int .i64 y)) := by
  refine ⟨rfl, rfl, rfl, by simp [World.setCell], fun k hk => Below.heap_setCell _ _ _ _ (by simp; omega), fun g' o' => by rw [World.frozen?_setCell], fun g' o' => ?_⟩
  by_cases e : (⟨g', o', none⟩ : Addr) = ⟨g, o, none⟩
  · rw [e]
    exact Or.inr (Or.inr ⟨x, y, hc, World.cell?_setCell_same _ _ _ hc⟩)
  · exact Or.inl (World.cell?_setCell_other _ _ _ _ (Ne.symm e))
theorem Spo.isU8 {B g o : Nat} {w w' : World} (h : Spo B w w') (hc : ∃ x : Nat, x < 256 ∧ w.cell? ⟨g, o, none⟩ = some (.int .u8 (x : Int))) : ∃ x : Nat, x < 256 ∧ w'.cell? ⟨g, o, none⟩ = some (.int .u8 (x : Int)) := by
  obtain ⟨x, hx, hc⟩ := hc
  rcases h.cell g o with e | ⟨_, y, hy, _, e2⟩ | ⟨_, y, e1, _⟩
  · exact ⟨x, hx, by rw [e]; exact hc⟩
  · exact ⟨y, hy, e2⟩
  · rw [hc] at e1; simp at e1
theorem Spo.isInt {B g o : Nat} {w w' : World} (h : Spo B w w') (hc : ∃ x : Int, w.cell? ⟨g, o, none⟩ = some (.int .i64 x)) : ∃ x : Int, w'.cell? ⟨g, o, none⟩ = some (.int .i64 x) := by
  obtain ⟨x, hc⟩ := hc
  rcases h.cell g o with e | ⟨_, y, hy, e1, _⟩ | ⟨_, y, _, e2⟩
  · exact ⟨x, by rw [e]; exact hc⟩
  · rw [hc] at e1; simp at e1
  · exact ⟨y, e2⟩
theorem Spo.isSl {B g o n c : Nat} {a : Option Addr} {w w' : World} (h : Spo B w w') (hc : w.cell? ⟨g, o, none⟩ = some (.slice a n c)) : w'.cell? ⟨g, o, none⟩ = some (.slice a n c) := by
  rcases h.cell g o with e | ⟨_, y, hy, e1, _⟩ | ⟨_, y, e1, _⟩
  · rw [e]; exact hc
  · rw [hc] at e1; simp at e1
  · rw [hc] at e1; simp at e1
/-- a body that may be written over -/
def Wb8 (w : World) (B : Nat) (a : Option Addr) (m : Nat) : Prop := m = 0 ∨ ∃ g, a = some ⟨g, 0, none⟩ ∧ B ≤ g ∧ (∀ o, w.frozen? ⟨g, o, none⟩ = false) ∧ ∀ i, i < m → ∃ x : Nat, x < 256 ∧ w.cell? ⟨g, i, none⟩ = some (.int .u8 (x : Int))
/-- a list of pieces that may be written over -/
def Wl (w : World) (B : Nat) (v : Value) : Prop := ∃ a n c, v = .slice a n c ∧ (n = 0 ∨ ∃ g, a = some ⟨g, 0, none⟩ ∧ B ≤ g ∧ (∀ o, w.frozen? ⟨g, o, none⟩ = false) ∧ ∀ j, j < n → (∃ x : Int, w.cell? ⟨g, j * 2, none⟩ = some (.int .i64 x)) ∧ ∃ a' m c', w.cell? ⟨g, j * 2 + 1, none⟩ = some (.slice a' m c') ∧ m ≤ 140737488355328 ∧ Wb8 w B a' m) ∧ n ≤ 4398046511104
theorem Wb8.spo {B m : Nat} {w w' : World} {a : Option Addr} (h : Wb8 w B a m) (hs : Spo B w w') : Wb8 w' B a m := by
  rcases h with h | ⟨g, h1, h2, h3, h4⟩
  · exact Or.inl h
  · exact Or.inr ⟨g, h1, h2, fun o => by rw [hs.frz]; exact h3 o, fun i hi => hs.isU8 (h4 i hi)⟩
theorem Wl.spo {B : Nat} {w w' : World} {v : Value} (h : Wl w B v) (hs : Spo B w w') : Wl w' B v := by
  obtain ⟨a, n, c, rfl, h, hn⟩ := h
  refine ⟨a, n, c, rfl, ?_, hn⟩
  rcases h with h | ⟨g, h1, h2, h3, h4⟩
  · exact Or.inl h
  · refine Or.inr ⟨g, h1, h2, fun o => by rw [hs.frz]; exact h3 o, fun j hj => ?_⟩
    obtain ⟨k1, a', m, c', k2, k3, k4⟩ := h4 j hj
    exact ⟨hs.isInt k1, a', m, c', hs.isSl k2, k3, k4.spo hs⟩
theorem Ol.wl {B : Nat} {w : World} {v : Value} {P : List Pc} (h : Ol w B v P) (hP : P.length ≤ 4398046511104) : Wl w B v := by
  obtain ⟨L, h1, h2⟩ := h
  obtain ⟨a, c, rfl, hc⟩ := h1.sl
  have hl := h2.len
  refine ⟨a, L.length, c, rfl, ?_, by omega⟩
  obtain ⟨_, _, h3⟩ := own_form h1.own
  rcases h3 with ⟨_, h0, _⟩ | ⟨g, rfl, h4, h5⟩
  · exact Or.inl h0
  · refine Or.inr ⟨g, rfl, h4, own_thaw h1.own, fun j hj => ?_⟩
    obtain ⟨e1, e2⟩ := oc_at L j hj
    obtain ⟨k1, k2, k3, k4, k5⟩ := h2.at' j (by omega)
    refine ⟨⟨_, by rw [h1.own.cellAt _ (by omega)]; exact e1⟩, _, _, _, by rw [h1.own.cellAt _ (by omega)]; exact e2, by rw [k2]; exact k5, ?_⟩
    unfold Oh.body at k3
    rw [k2] at k3 ⊢
    obtain ⟨_, _, h6⟩ := own_form k3
    rcases h6 with ⟨_, h0, _⟩ | ⟨g', hg', h7, h8⟩
    · exact Or.inl h0
    · rw [hg'] at k3 ⊢
      refine Or.inr ⟨g', rfl, h7, own_thaw k3, fun i hi => ⟨_, k4 i, ?_⟩⟩
      rw [k3.cellAt i (by omega)]
      exact bs_get _ i hi
theorem u8_xor255 : ∀ z : Nat, z < 256 → bits .xor .u8 (z : Int) 255 = ((255 - z : Nat) : Int) := by decide +kernel

set_option maxHeartbeats 4000000 in
set_option maxRecDepth 100000 in
theorem spoil_any {w : World} {B : Nat} {v : Value} (h : Wl w B v) : Calls Try.prog 13 #[v] w fun e w' => e = .returned (.tuple #[]) ∧ Spo B w w' := by
  have HW : Hid (Wl w B v) := h
  obtain ⟨a, n, c, rfl, hh, hn⟩ := h
  clear hh
  go_enter Try.func13, Try.ntmps13
  go_wp2_with fail
  go_loopw [2] (fun i wr => ∃ j : Nat, j ≤ n ∧ i = .int .i64 j ∧ Spo B w wr) (fun i _ => n - (intOf i).toNat)
  case atStart => exact ⟨0, by omega, rfl, Spo.refl _ _⟩
  case round =>
    obtain ⟨j, hj, rfl, hs⟩ := hrel
    by_cases hlt : j < n
    · obtain ⟨a', n', c', e, hh, _⟩ := HW.out.spo hs
      simp only [Value.slice.injEq] at e
      obtain ⟨rfl, rfl, rfl⟩ := e
      obtain ⟨g, rfl, hgB, hfz, hcl⟩ := hh.resolve_left (by omega)
      obtain ⟨⟨x, hx⟩, ab, m, cb, hb, hm, hwb⟩ := hcl j hlt
      have HS : Hid (Spo B w wr) := hs
      have HB : Hid (Wb8 wr B ab m) := hwb
      have HX : Hid (wr.cell? ⟨g, j * 2, none⟩ = some (.int .i64 x)) := hx
      have HBC : Hid (wr.cell? ⟨g, j * 2 + 1, none⟩ = some (.slice ab m cb)) := hb
      have hi1 : (0 : Int) ≤ (j : Int) := by omega
      have hi2 : (j : Int) < (n : Int) := by omega
      have hz0 := hfz (j * 2)
      have HZ : Hid (∀ o, wr.frozen? ⟨g, o, none⟩ = false) := hfz
      clear hs hh hcl hwb hfz hx hb
      go_wp2_with fail
      generalize hw1 : wr = w1 at *
      clear hw1
      go_loopw [3] (fun i wr => ∃ k : Nat, k ≤ m ∧ i = .int .i64 k ∧ Spo B w1 wr) (fun i _ => m - (intOf i).toNat)
      case atStart => exact ⟨0, by omega, rfl, Spo.refl _ _⟩
      case round =>
        obtain ⟨k, hk, rfl, hs⟩ := hrel
        have hb2 := hs.isSl HBC.out
        by_cases hkm : k < m
        · obtain ⟨g', rfl, hgB', hfz', hu8⟩ := (HB.out.spo hs).resolve_left (by omega)
          obtain ⟨y, hy, hyc⟩ := hu8 k hkm
          have hyz := hfz' k
          have hj1 : (0 : Int) ≤ (k : Int) := by omega
          have hj2 : (k : Int) < (m : Int) := by omega
          have hxr := u8_xor255 y hy
          have HXR : Hid (bits .xor .u8 (y : Int) 255 = ((255 - y : Nat) : Int)) := hxr
          have HS2 : Hid (Spo B w1 wr) := hs
          have HYC : Hid (wr.cell? ⟨g', k, none⟩ = some (.int .u8 (y : Int))) := hyc
          clear hs hfz' hu8 hxr
          go_wp2_with fail
          go_region
          all_goals
            go_wp2_with fail
            go_roundw
            case rel => exact ⟨k + 1, by omega, by go_num, by first | exact HS2.out.trans (Spo.u8 HXR.out (by omega) hgB' HYC.out) | exact (HS2.out.trans (Spo.u8 HXR.out (by omega) hgB' HYC.out)).drew⟩
            case measure => simp [intOf]; omega
        · have hx2 := hs.isInt ⟨x, HX.out⟩
          obtain ⟨x2, hx2⟩ := hx2
          have hz2 : wr.frozen? ⟨g, j * 2, none⟩ = false := by rw [hs.frz]; exact hz0
          have HS2 : Hid (Spo B w1 wr) := hs
          clear hs
          go_wp2_with fail
          go_roundw
          case rel => exact ⟨j + 1, by omega, by go_num, HS.out.trans (HS2.out.trans (Spo.i64 hgB hx2))⟩
          case measure => simp [intOf]; omega
    · go_wp2_with fail
      go_end0
      exact ⟨rfl, hs⟩
end Go.Proofs.Ytkippnfijjhobaa
