/- DERIVED. What both sides make of a set that may be, or may not: Copy, Writer, Average. -/
import Derived.Test.YtppanogpeengnaaDoorZs
import Derived.Test.YtppanogpeengnaaDoorWJ
import Derived.Test.YtppanogpeengnaaDoorWQ
import Derived.Test.YtppanogpeengnaaDoorMC
namespace Go.Proofs.YtppanogpeengnaaDoor
open Go.RowKit L3

theorem Hu.ry {w : World} {lo bt : Nat} {B : Nat → Prop} {S : Sx} (h : Hu w lo bt B S) : Ry w (some ⟨bt, 0, none⟩) 32 S ∧ okX S := by
  obtain ⟨q, K, h1, h2, _, h4, _⟩ := h
  obtain rfl : pX K = S := h4
  exact ⟨h1.sw.ry (okk_smk h2) h2.1, okk_okx h2⟩
/-- a set of which writers can be made -/
def Wk (w : World) (a : Option Addr) (Y : List (List Px)) : Prop := ∃ lo bt B, a = some ⟨bt, 0, none⟩ ∧ Hu w lo bt B Y
theorem Wk.to {w w' : World} {a : Option Addr} {Y : List (List Px)} (h : Wk w a Y) (hb : Below w.heap.size w w') : Wk w' a Y := by
  obtain ⟨lo, bt, B, h1, h2⟩ := h; exact ⟨lo, bt, B, h1, h2.to hb⟩
/-- a set, whether it may be or not -/
structure Yy (w : World) (a : Option Addr) (n : Nat) (Y : List (List Px)) : Prop where
  ry : Ry w a n Y
  wk : okX Y → Wk w a Y
theorem Yy.to {w w' : World} {a : Option Addr} {n : Nat} {Y : List (List Px)} (h : Yy w a n Y) (hb : Below w.heap.size w w') : Yy w' a n Y := ⟨h.ry.to hb, fun e => (h.wk e).to hb⟩
theorem Hu.yy {w : World} {lo bt : Nat} {B : Nat → Prop} {S : Sx} (h : Hu w lo bt B S) : Yy w (some ⟨bt, 0, none⟩) 32 S := ⟨h.ry.1, fun _ => ⟨lo, bt, B, rfl, h⟩⟩
theorem Yy.n32 {w : World} {a : Option Addr} {n : Nat} {Y : List (List Px)} (h : Yy w a n Y) (ho : okX Y) : n = 32 := by rw [← h.ry.len]; exact ho.1
/-- a copy is answered -/
def CpY (w w' : World) (e : Ending) (n : Nat) (Y : List (List Px)) : Prop := ∃ a c, e = .returned (.agg #[.slice a n c]) ∧ Yy w' a n Y ∧ Below w.heap.size w w'
theorem rcopy_y {w : World} {a : Option Addr} {n c : Nat} {Y : List (List Px)} (h : Yy w a n Y) : Calls Tryd.prog 10 #[.agg #[.slice a n c]] w fun e w' => CpY w w' e n Y := by
  by_cases ho : okX Y
  · obtain ⟨lo, bt, B, rfl, hu⟩ := h.wk ho
    obtain rfl := h.n32 ho
    obtain ⟨q, K, h1, h2, _, rfl, _⟩ := hu
    refine (rcopy_z h1 h2).mono ?_
    rintro e w' ⟨bt', cT, B', rfl, hz, hb, _⟩
    exact ⟨_, _, rfl, hz.hu.yy, hb⟩
  · refine (rcopy_g h.ry.gv h.ry.len h.ry.sm h.ry.ps).mono ?_
    rintro e w' ⟨a', c', rfl, hg, hb⟩
    exact ⟨a', c', rfl, ⟨⟨hg, h.ry.len, h.ry.sm, h.ry.ps⟩, fun e => absurd e ho⟩, hb⟩
/-- a writer, or none -/
def WrY (w w' : World) (e : Ending) (Y : List (List Px)) : Prop := ∃ p, e = .returned (.tuple #[.pointer p, .int .i64 (ckX Y)]) ∧ Below w.heap.size w w'
theorem swriter_y {w : World} {a : Option Addr} {n c : Nat} {Y : List (List Px)} (hsh : Sh w) (h : Yy w a n Y) : Calls Tryd.prog 11 #[.agg #[.slice a n c], .bool true] w fun e w' => WrY w w' e Y := by
  by_cases ho : okX Y
  · obtain ⟨lo, bt, B, rfl, hu⟩ := h.wk ho
    obtain rfl := h.n32 ho
    obtain ⟨q, K, h1, h2, _, rfl, _⟩ := hu
    refine (writer_u hsh h1 h2).mono ?_
    rintro e w' ⟨x, bt2, L, xe, rfl, k1, k2, k3⟩
    exact ⟨_, by rw [ckX_ok ho], k3⟩
  · refine (swriter_no hsh h.ry.gv h.ry.len h.ry.sm ho).mono ?_
    rintro e w' ⟨rfl, hb⟩
    exact ⟨_, by rw [ckX_no ho], hb⟩
theorem rwriter_y {w : World} {a : Option Addr} {n c : Nat} {Y : List (List Px)} (h : Yy w a n Y) : Calls Tryd.prog 12 #[.agg #[.slice a n c], .bool true] w fun e w' => WrY w w' e Y := by
  by_cases ho : okX Y
  · obtain ⟨lo, bt, B, rfl, hu⟩ := h.wk ho
    obtain rfl := h.n32 ho
    refine (rwriter_u hu).mono ?_
    rintro e w' ⟨x, O, rfl, _, hb⟩
    exact ⟨_, by rw [ckX_ok ho], hb⟩
  · refine (rwriter_no h.ry.gv h.ry.len h.ry.sm ho).mono ?_
    rintro e w' ⟨rfl, hb⟩
    exact ⟨_, by rw [ckX_no ho], hb⟩
/-- the average of x, y and x again -/
noncomputable def Zr (X Y : List (List Px)) : List (List Px) := open Classical in if okX Y then Y3 X Y else []
theorem Zr_ok {X Y : List (List Px)} (h : okX Y) : Zr X Y = Y3 X Y := by unfold Zr; rw [if_pos h]
theorem Zr_no {X Y : List (List Px)} (h : ¬ okX Y) : Zr X Y = [] := by unfold Zr; rw [if_neg h]
theorem Zr_sml (X Y : List (List Px)) : Sml (Zr X Y) := by
  by_cases h : okX Y
  · rw [Zr_ok h]
    refine ⟨by simp [Y3], fun R hR => ?_, fun R hR t ht => ?_⟩
    · obtain ⟨k, hk, rfl⟩ := List.mem_map.1 hR
      have := sC_le k (by simpa using hk)
      simp; omega
    · obtain ⟨k, hk, rfl⟩ := List.mem_map.1 hR
      obtain ⟨c, _, rfl⟩ := List.mem_map.1 ht
      have := sV_le k (by simpa using hk)
      show (F3 X Y k c).length ≤ 16
      rw [F3, av_len]; omega
  · rw [Zr_no h]
    exact ⟨by simp, fun R hR => by simp at hR, fun R hR => by simp at hR⟩
def AvR (w w' : World) (e : Ending) (X Y : List (List Px)) : Prop := ∃ a c, e = .returned (.tuple #[.agg #[.slice a (Zr X Y).length c], .int .i64 (ckX Y)]) ∧ Gv w' a (Zr X Y) ∧ Below w.heap.size w w'
theorem avr_yes {w w' : World} {e : Ending} {X Y : List (List Px)} (ho : okX Y) (h : AvYes w w' e (Y3 X Y)) : AvR w w' e X Y := by
  obtain ⟨a, c, rfl, h2, h3⟩ := h
  exact ⟨a, c, by rw [Zr_ok ho, ckX_ok ho]; simp [Y3], by rw [Zr_ok ho]; exact h2, h3⟩
theorem avr_no {w w' : World} {e : Ending} {X Y : List (List Px)} (ho : ¬ okX Y) (h : AvNo w w' e) : AvR w w' e X Y := by
  obtain ⟨rfl, h3⟩ := h
  exact ⟨none, 0, by rw [Zr_no ho, ckX_no ho]; rfl, by rw [Zr_no ho]; exact Or.inl rfl, h3⟩
theorem savg_y {w : World} {b xn xc yn yc cl : Nat} {xa ya : Option Addr} {X Y : List (List Px)} (hsh : Sh w) (hb : b < w.heap.size) (c0 : w.cell? ⟨b, 0, none⟩ = some (.slice xa xn xc)) (c1 : w.cell? ⟨b, 1, none⟩ = some (.slice ya yn yc)) (c2 : w.cell? ⟨b, 2, none⟩ = some (.slice xa xn xc)) (hX : Ry w xa xn X) (hx : okX X) (hY : Ry w ya yn Y) :
    Calls Tryd.prog 30 #[.slice (some ⟨b, 0, none⟩) 3 cl] w fun e w' => AvR w w' e X Y := by
  by_cases ho : okX Y
  · exact (savg_ok hsh ⟨hb, c0, c1, c2, hX.gv, hY.gv, hX.len, hY.len, hX.sm, hY.sm, hx, ho⟩).mono (fun _ _ h => avr_yes ho h)
  · exact (savg_no hsh hb c0 c1 hX.gv hX.len hX.sm hx hY.gv hY.len hY.sm ho).mono (fun _ _ h => avr_no ho h)
theorem ravg_y {w : World} {b xn xc yn yc cl : Nat} {xa ya : Option Addr} {X Y : List (List Px)} (hb : b < w.heap.size) (c0 : w.cell? ⟨b, 0, none⟩ = some (.slice xa xn xc)) (c1 : w.cell? ⟨b, 1, none⟩ = some (.slice ya yn yc)) (c2 : w.cell? ⟨b, 2, none⟩ = some (.slice xa xn xc)) (hX : Ry w xa xn X) (hx : okX X) (hY : Ry w ya yn Y) :
    Calls Tryd.prog 31 #[.slice (some ⟨b, 0, none⟩) 3 cl] w fun e w' => AvR w w' e X Y := by
  by_cases ho : okX Y
  · exact (ravg_ok ⟨hb, c0, c1, c2, hX.gv, hY.gv, hX.len, hY.len, hX.sm, hY.sm, hx, ho⟩).mono (fun _ _ h => avr_yes ho h)
  · exact (ravg_no hb c0 c1 hX.gv hX.len hX.sm hx hY.gv hY.len hY.sm ho).mono (fun _ _ h => avr_no ho h)

end Go.Proofs.YtppanogpeengnaaDoor
