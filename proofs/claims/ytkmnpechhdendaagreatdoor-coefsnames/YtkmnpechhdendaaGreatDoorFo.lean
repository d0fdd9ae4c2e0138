/- DERIVED. Coders that are none; blocks of the chapter's examples, and what they count. -/
import Derived.Test.YtkmnpechhdendaaGreatDoorFl
import Derived.Test.YtkmnpechhdendaaGreatDoorFn
namespace Go.Proofs.YtkmnpechhdendaaGreatDoor
open Go.RowKit L3

/-- a coder that is none: nil, or a zero one -/
def Zc (w : World) (p : Value) : Prop := p = .pointer none ∨ ∃ x, p = .pointer (some ⟨x, 0, none⟩) ∧ w.cell? ⟨x, 0, none⟩ = some (.pointer none) ∧ w.cell? ⟨x, 1, none⟩ = some (.pointer none)

set_option maxHeartbeats 1000000 in
theorem none_z {w : World} {p : Value} (h : Zc w p) : Calls Tryz.prog 55 #[p] w fun e w' => e = .returned (.bool true) ∧ w = w' := by
  rcases h with rfl | ⟨x, rfl, h0, h1⟩
  · go_enter Tryz.func55, Tryz.ntmps55
    go_wp2_with fail
    go_ret
    exact ⟨rfl, rfl⟩
  · go_enter Tryz.func55, Tryz.ntmps55
    go_wp2_with fail
    go_ret
    exact ⟨rfl, rfl⟩
set_option maxHeartbeats 1000000 in
theorem bits_z {w : World} {p : Value} {a b : Int} (h : Zc w p) : Calls Tryz.prog 38 #[p, .int .i64 a, .int .i64 b] w fun e w' => e = .returned (.tuple #[.int .i64 0, .int .i64 1]) ∧ w = w' := by
  have H : Hid _ := h
  clear h
  go_enter Tryz.func38, Tryz.ntmps38
  go_wp2_with fail
  refine (none_z H.out).mono ?_
  rintro e w1 ⟨rfl, rfl⟩
  go_wp2_with fail
  go_returns
  exact ⟨rfl, rfl⟩
set_option maxHeartbeats 1000000 in
theorem kcode_z {w : World} {p : Value} {a b c : Int} {la : Option Addr} {len lc : Nat} (h : Zc w p) : Calls Tryz.prog 11 #[p, .int .i64 a, .int .i64 b, .int .i64 c, .slice la len lc] w fun e w' => e = .returned (.tuple #[.slice none 0 0, .int .i64 1]) ∧ w = w' := by
  have H : Hid _ := h
  clear h
  go_enter Tryz.func11, Tryz.ntmps11
  go_wp2_with fail
  refine (bits_z H.out).mono ?_
  rintro e w1 ⟨rfl, rfl⟩
  go_wp2_with fail
  exact bodyPost_ret (v := .tuple #[.slice none 0 0, .int .i64 1]) (by simp [results, Tryz.results11, go_sem]) rfl ⟨rfl, rfl⟩
def zL : List Int := List.replicate 16 0
def thL : List Int := 3 :: List.replicate 15 0
def grL : List Int := List.replicate 15 0 ++ [1048577]
def moL : List Int := [0, 0, 0, 1048576, 0, 0, 0, 0, 0, 0, 0, 0, 0, 0, 0, -1048576]
theorem lv_of {L : List Int} (hl : L.length = 16) (h : ∀ p, p < 16 → -1048576 ≤ L.getD p 0 ∧ L.getD p 0 ≤ 1048576) : Lv 4 L := ⟨hl, fun p => by
  by_cases hp : p < 16
  · exact h p hp
  · rw [List.getD_eq_getElem?_getD, List.getElem?_eq_none (by omega)]; simp⟩
theorem z_lv : Lv 4 zL := lv_of rfl (by decide +kernel)
theorem th_lv : Lv 4 thL := lv_of rfl (by decide +kernel)
theorem z_count : (cw 4 4 0 0 zL).wc = 1 := by decide +kernel
theorem th_count : (cw 4 4 0 0 thL).wc = 5 := by decide +kernel
/-- what a writer makes of a block of size 4 -/
structure Rn (s : Cs) (L : List Int) (m : Nat) : Prop where
  one : ((cw 4 4 0 0 L).run s).1 = some L
  n : ((cw 4 4 0 0 L).run s).2.n = s.n + m
  w : ((cw 4 4 0 0 L).run s).2.W = true
  so : SOk ((cw 4 4 0 0 L).run s).2
theorem rn_of {s : Cs} (hs : SOk s) (hW : s.W = true) (hn : s.n ≤ 1000) {L : List Int} (hL : Lv 4 L) {m : Nat} (hm : (cw 4 4 0 0 L).wc = m) : Rn s L m := by
  have r := cw_ran hs (by omega) wk_sz (col := 0) (sg := 0) (by omega) (by omega) (fun _ => hL)
  obtain ⟨a, h1, h2⟩ := r.wri hW
  exact ⟨by rw [h1, h2], by rw [Prg.run_wc _ _ hW, hm], r.w.trans hW, r.so⟩

end Go.Proofs.YtkmnpechhdendaaGreatDoor
