/- DERIVED. Several texts in one: Both Averages refuse a list in which a set may not be. Both Writers refuse a set that may not be. The walk of filled with Average's closure. The walk of middle: the tables of one place in several sets, averaged. The walk of middle and of Average's closure. The program's Average of three sets that may be. The walk of the program's Average on three sets that may be. -/
import Derived.Test.YtppanogpeengnaaDoorWA
import Derived.Test.YtppanogpeengnaaDoorWB
import Derived.Test.YtppanogpeengnaaDoorS1
import Derived.Test.YtppanogpeengnaaDoorWD
namespace Go.Proofs.YtppanogpeengnaaDoor
open Go.RowKit L3

/-- the result's cell of a call; r: its block -/
structure Av (w : World) (r : Nat) (wr : World) : Prop where
  lt : r < wr.heap.size
  ge : w.heap.size ≤ r
  bel : Below w.heap.size w wr
  res : wr.cell? ⟨r, 0, none⟩ = some (.slice none 0 0)
  rth : wr.frozen? ⟨r, 0, none⟩ = false
theorem Av.to {w wr wr' : World} {r : Nat} (h : Av w r wr) (hb : Below wr.heap.size wr wr') : Av w r wr' := ⟨Nat.lt_of_lt_of_le h.lt hb.size, h.ge, below_to h.bel hb, by rw [newCell hb _ _ h.lt]; exact h.res, by rw [newFrozen hb _ _ h.lt]; exact h.rth⟩
/-- what is answered where a set may not be -/
def AvNo (w w' : World) (e : Ending) : Prop := e = .returned (.tuple #[.agg #[.slice none 0 0], .int .i64 2]) ∧ Below w.heap.size w w'
theorem Av.no {w wr : World} {r : Nat} (h : Av w r wr) : AvNo w (wr.setCell ⟨r, 0, none⟩ (.slice none 0 0)) (.returned (.tuple #[.agg #[.slice none 0 0], .int .i64 2])) := ⟨rfl, below_set h.bel h.ge _⟩

set_option maxRecDepth 100000 in
set_option maxHeartbeats 4000000 in
theorem savg_no {w : World} {b xn xc yn yc cl : Nat} {xa ya : Option Addr} {X Y : List (List Px)} (hsh : Sh w) (hb : b < w.heap.size) (c0 : w.cell? ⟨b, 0, none⟩ = some (.slice xa xn xc)) (c1 : w.cell? ⟨b, 1, none⟩ = some (.slice ya yn yc)) (hX : Gv w xa X) (hXn : X.length = xn) (hXs : Sml X) (hx : okX X) (hY : Gv w ya Y) (hYn : Y.length = yn) (hYs : Sml Y) (hy : ¬ okX Y) :
    Calls Tryd.prog 30 #[.slice (some ⟨b, 0, none⟩) 3 cl] w fun e w' => AvNo w w' e := by
  have HCX : Hid (∀ u, Below w.heap.size w u → Calls Tryd.prog 27 #[.agg #[.slice xa xn xc]] u fun e u' => e = .returned (.int .i64 0) ∧ Below u.heap.size u u') := fun u hu => by
    have h := scheck_g (cT := xc) (hsh.to hu) (hX.to hu) hXn hXs
    rwa [ckX_ok hx] at h
  have HCY : Hid (∀ u, Below w.heap.size w u → Calls Tryd.prog 27 #[.agg #[.slice ya yn yc]] u fun e u' => e = .returned (.int .i64 2) ∧ Below u.heap.size u u') := fun u hu => by
    have h := scheck_g (cT := yc) (hsh.to hu) (hY.to hu) hYn hYs
    rwa [ckX_no hy] at h
  have HRd : Hid (∀ u, Below w.heap.size w u → u.cell? ⟨b, 0, none⟩ = some (.slice xa xn xc) ∧ u.cell? ⟨b, 1, none⟩ = some (.slice ya yn yc)) := fun u hu => ⟨by rw [newCell hu _ _ hb]; exact c0, by rw [newCell hu _ _ hb]; exact c1⟩
  have HA : Hid (Av w (w.heap.size + 1) ((w.alloc (.cells #[.slice (some ⟨b, 0, none⟩) 3 cl] 67)).alloc (.cells #[.slice none 0 0] 25))) := by
    have e1 : (w.alloc (.cells #[.slice (some ⟨b, 0, none⟩) 3 cl] 67)).heap.size = w.heap.size + 1 := by simp
    exact ⟨by simp, by omega, to_alloc (from_alloc _ _) _, by rw [← e1]; simp [go_sem], by rw [← e1]; simp [go_sem]⟩
  have z0 : ((w.alloc (.cells #[.slice (some ⟨b, 0, none⟩) 3 cl] 67)).alloc (.cells #[.slice none 0 0] 25)).cell? ⟨w.heap.size, 0, none⟩ = some (.slice (some ⟨b, 0, none⟩) 3 cl) := by
    rw [newCell (from_alloc (w.alloc (.cells #[.slice (some ⟨b, 0, none⟩) 3 cl] 67)) _) _ _ (by simp)]; simp [go_sem]
  clear hsh hb c0 c1 hX hXn hXs hx hY hYn hYs hy
  go_enter Tryd.func30, Tryd.ntmps30
  go_wp2_with fail
  generalize ((w.alloc (.cells #[.slice (some ⟨b, 0, none⟩) 3 cl] 67)).alloc (.cells #[.slice none 0 0] 25)) = W at *
  clear z0
  go_loopw [13] (fun iv wr => (iv = .int .i64 0 ∨ iv = .int .i64 1) ∧ Av w (w.heap.size + 1) wr) (fun iv _ => 3 - (intOf iv).toNat)
  case atStart => exact ⟨Or.inl rfl, HA.out⟩
  case round =>
    clear HA
    obtain ⟨hiv, hav⟩ := hrel
    have HV : Hid (Av w (w.heap.size + 1) wr) := hav
    clear hav
    obtain ⟨y0, y1⟩ := HRd.out _ HV.out.bel
    rcases hiv with rfl | rfl
    · have HB : Hid (Below wr.heap.size wr (wr.alloc (.cells #[.slice xa xn xc] 25))) := from_alloc _ _
      have HC : Hid (Calls Tryd.prog 27 #[.agg #[.slice xa xn xc]] (wr.alloc (.cells #[.slice xa xn xc] 25)) fun e u' => e = .returned (.int .i64 0) ∧ Av w (w.heap.size + 1) u') := (HCX.out _ (below_to HV.out.bel HB.out)).mono fun e u' h => ⟨h.1, (HV.out.to HB.out).to h.2⟩
      go_wp2_with (go_at_call 27; refine HC.out.mono ?_; rintro e w3 ⟨rfl, hav3⟩)
      go_roundw
      case rel => exact ⟨Or.inr rfl, hav3⟩
      case measure => simp [intOf]
    · have HB : Hid (Below wr.heap.size wr (wr.alloc (.cells #[.slice ya yn yc] 25))) := from_alloc _ _
      have HC : Hid (Calls Tryd.prog 27 #[.agg #[.slice ya yn yc]] (wr.alloc (.cells #[.slice ya yn yc] 25)) fun e u' => e = .returned (.int .i64 2) ∧ Av w (w.heap.size + 1) u') := (HCY.out _ (below_to HV.out.bel HB.out)).mono fun e u' h => ⟨h.1, (HV.out.to HB.out).to h.2⟩
      go_wp2_with (go_at_call 27; refine HC.out.mono ?_; rintro e w3 ⟨rfl, hav3⟩; have HF : Hid (Av w (w.heap.size + 1) w3) := hav3; obtain ⟨-, -, -, x2, x3⟩ := hav3)
      refine bodyPost_ret (v := .tuple #[.agg #[.slice none 0 0], .int .i64 2]) (by simp [results, Tryd.results30, go_sem, x2]) rfl HF.out.no

set_option maxRecDepth 100000 in
set_option maxHeartbeats 4000000 in
theorem ravg_no {w : World} {b xn xc yn yc cl : Nat} {xa ya : Option Addr} {X Y : List (List Px)} (hb : b < w.heap.size) (c0 : w.cell? ⟨b, 0, none⟩ = some (.slice xa xn xc)) (c1 : w.cell? ⟨b, 1, none⟩ = some (.slice ya yn yc)) (hX : Gv w xa X) (hXn : X.length = xn) (hXs : Sml X) (hx : okX X) (hY : Gv w ya Y) (hYn : Y.length = yn) (hYs : Sml Y) (hy : ¬ okX Y) :
    Calls Tryd.prog 31 #[.slice (some ⟨b, 0, none⟩) 3 cl] w fun e w' => AvNo w w' e := by
  have HCX : Hid (∀ u, Below w.heap.size w u → Calls Tryd.prog 28 #[.agg #[.slice xa xn xc]] u fun e u' => e = .returned (.int .i64 0) ∧ Below u.heap.size u u') := fun u hu => by
    have h := rscheck_g (cT := xc) (hX.to hu) hXn hXs
    rwa [ckX_ok hx] at h
  have HCY : Hid (∀ u, Below w.heap.size w u → Calls Tryd.prog 28 #[.agg #[.slice ya yn yc]] u fun e u' => e = .returned (.int .i64 2) ∧ Below u.heap.size u u') := fun u hu => by
    have h := rscheck_g (cT := yc) (hY.to hu) hYn hYs
    rwa [ckX_no hy] at h
  have HRd : Hid (∀ u, Below w.heap.size w u → u.cell? ⟨b, 0, none⟩ = some (.slice xa xn xc) ∧ u.cell? ⟨b, 1, none⟩ = some (.slice ya yn yc)) := fun u hu => ⟨by rw [newCell hu _ _ hb]; exact c0, by rw [newCell hu _ _ hb]; exact c1⟩
  have HA : Hid (Av w w.heap.size (w.alloc (.cells #[.slice none 0 0] 25))) := ⟨by simp, Nat.le_refl _, from_alloc _ _, by simp [go_sem], by simp [go_sem]⟩
  clear hb c0 c1 hX hXn hXs hx hY hYn hYs hy
  go_enter Tryd.func31, Tryd.ntmps31
  go_wp2_with fail
  generalize (w.alloc (.cells #[.slice none 0 0] 25)) = W at *
  go_loopw [4] (fun iv wr => (iv = .int .i64 0 ∨ iv = .int .i64 1) ∧ Av w w.heap.size wr) (fun iv _ => 3 - (intOf iv).toNat)
  case atStart => exact ⟨Or.inl rfl, HA.out⟩
  case round =>
    clear HA
    obtain ⟨hiv, hav⟩ := hrel
    have HV : Hid (Av w w.heap.size wr) := hav
    clear hav
    obtain ⟨y0, y1⟩ := HRd.out _ HV.out.bel
    rcases hiv with rfl | rfl
    · have HC : Hid (Calls Tryd.prog 28 #[.agg #[.slice xa xn xc]] wr fun e u' => e = .returned (.int .i64 0) ∧ Av w w.heap.size u') := (HCX.out _ HV.out.bel).mono fun e u' h => ⟨h.1, HV.out.to h.2⟩
      go_wp2_with (go_at_call 28; refine HC.out.mono ?_; rintro e w3 ⟨rfl, hav3⟩)
      go_roundw
      case rel => exact ⟨Or.inr rfl, hav3⟩
      case measure => simp [intOf]
    · have HC : Hid (Calls Tryd.prog 28 #[.agg #[.slice ya yn yc]] wr fun e u' => e = .returned (.int .i64 2) ∧ Av w w.heap.size u') := (HCY.out _ HV.out.bel).mono fun e u' h => ⟨h.1, HV.out.to h.2⟩
      go_wp2_with (go_at_call 28; refine HC.out.mono ?_; rintro e w3 ⟨rfl, hav3⟩; have HF : Hid (Av w w.heap.size w3) := hav3; obtain ⟨-, -, -, x2, x3⟩ := hav3)
      refine bodyPost_ret (v := .tuple #[.agg #[.slice none 0 0], .int .i64 2]) (by simp [results, Tryd.results31, go_sem, x2]) rfl HF.out.no

end Go.Proofs.YtppanogpeengnaaDoor

namespace Go.Proofs.YtppanogpeengnaaDoor
open Go.RowKit L3

set_option maxHeartbeats 1000000 in
theorem swriter_no {w : World} {a : Option Addr} {cT n : Nat} {ad : Bool} {X : List (List Px)} (hsh : Sh w) (h : Gv w a X) (hn : X.length = n) (hs : Sml X) (hx : ¬ okX X) :
    Calls Tryd.prog 11 #[.agg #[.slice a n cT], .bool ad] w fun e w' => e = .returned (.tuple #[.pointer none, .int .i64 2]) ∧ Below w.heap.size w w' := by
  have HC : Hid (∀ u, Below w.heap.size w u → Calls Tryd.prog 27 #[.agg #[.slice a n cT]] u fun e u' => e = .returned (.int .i64 2) ∧ Below w.heap.size w u') := fun u hu => by
    have h := scheck_g (cT := cT) (hsh.to hu) (h.to hu) hn hs
    rw [ckX_no hx] at h
    exact h.mono fun e u' h => ⟨h.1, below_to hu h.2⟩
  have HA : Hid (∀ o, Below w.heap.size w (w.alloc o)) := fun o => (Below.refl _ _).alloc (Nat.le_refl _) _
  clear hsh h hn hs hx
  go_enter Tryd.func11, Tryd.ntmps11
  go_wp2_with fail
  refine (HC.out _ (HA.out _)).mono ?_
  rintro e w1 ⟨rfl, hb⟩
  have HB : Hid (Below w.heap.size w w1) := hb
  clear hb
  go_wp2_with fail
  go_returns
  exact ⟨rfl, HB.out⟩
set_option maxHeartbeats 1000000 in
theorem rwriter_no {w : World} {a : Option Addr} {cT n : Nat} {ad : Bool} {X : List (List Px)} (h : Gv w a X) (hn : X.length = n) (hs : Sml X) (hx : ¬ okX X) :
    Calls Tryd.prog 12 #[.agg #[.slice a n cT], .bool ad] w fun e w' => e = .returned (.tuple #[.pointer none, .int .i64 2]) ∧ Below w.heap.size w w' := by
  have HC : Hid (∀ u, Below w.heap.size w u → Calls Tryd.prog 28 #[.agg #[.slice a n cT]] u fun e u' => e = .returned (.int .i64 2) ∧ Below w.heap.size w u') := fun u hu => by
    have h := rscheck_g (cT := cT) (h.to hu) hn hs
    rw [ckX_no hx] at h
    exact h.mono fun e u' h => ⟨h.1, below_to hu h.2⟩
  have HA : Hid (∀ o, Below w.heap.size w (w.alloc o)) := fun o => (Below.refl _ _).alloc (Nat.le_refl _) _
  clear h hn hs hx
  go_enter Tryd.func12, Tryd.ntmps12
  go_wp2_with fail
  refine (HC.out _ (HA.out _)).mono ?_
  rintro e w1 ⟨rfl, hb⟩
  have HB : Hid (Below w.heap.size w w1) := hb
  clear hb
  go_wp2_with fail
  go_returns
  exact ⟨rfl, HB.out⟩

end Go.Proofs.YtppanogpeengnaaDoor

namespace Go.Proofs.YtppanogpeengnaaDoor
open Go.RowKit L3

/-- the tables of a kind, by a function -/
def Fq (F : Nat → Nat → List Nat) (j : Nat) (p : Nat × List Tb) : Prop := p.2.length = sC j ∧ ∀ (i : Nat) t, p.2[i]? = some t → t.C = F j i ∧ t.n = 0
def FIg (F : Nat → Nat → List Nat) (W : World) (lo bt : Nat) (iv : Value) (wr : World) : Prop :=
  ∃ (k : Nat) (K : List (Nat × List Tb)), k ≤ 32 ∧ iv = .int .i64 k ∧ K.length = k ∧ St wr lo bt K ∧ Dk W.heap.size K ∧ (∀ (j : Nat) p, K[j]? = some p → Fq F j p) ∧ Kr bt W wr
def FJg (F : Nat → Nat → List Nat) (W : World) (lo bt k : Nat) (iv : Value) (wr : World) : Prop :=
  ∃ (c : Nat) (K : List (Nat × List Tb)) (p : Nat × List Tb), c ≤ sC k ∧ iv = .int .i64 c ∧ K.length = k + 1 ∧ K[k]? = some p ∧ p.2.length = sC k ∧ St wr lo bt K ∧ Dk W.heap.size K ∧ (∀ (j : Nat) q, j < k → K[j]? = some q → Fq F j q) ∧ (∀ (i : Nat) t, i < c → p.2[i]? = some t → t.C = F k i ∧ t.n = 0) ∧ Kr bt W wr
/-- a set by a function is answered, in new memory -/
def Fset (w w' : World) (e : Ending) (F : Nat → Nat → List Nat) : Prop := ∃ bt K, e = .returned (.agg #[.slice (some ⟨bt, 0, none⟩) 32 32]) ∧ St w' w.heap.size bt K ∧ K.length = 32 ∧ (∀ (j : Nat) p, K[j]? = some p → Fq F j p) ∧ Dk w.heap.size K ∧ Below w.heap.size w w'

set_option maxRecDepth 100000 in
set_option maxHeartbeats 4000000 in
theorem filled_avg {w : World} {x : Nat} {F : Nat → Nat → List Nat} (h : Sh w) (hF : ∀ (u : World) (k c : Nat), Below w.heap.size w u → k < 32 → c < sC k → Calls Tryd.prog 56 #[.int .i64 k, .int .i64 c, .pointer (some ⟨x, 0, none⟩)] u fun e u' => T1 u u' e (F k c) 0) :
    Calls Tryd.prog 55 #[.func (.func 56) #[] #[.pointer (some ⟨x, 0, none⟩)]] w fun e w' => Fset w w' e F := by
  have HF : Hid (∀ (u : World) (k c : Nat), Below w.heap.size w u → k < 32 → c < sC k → Calls Tryd.prog 56 #[.int .i64 k, .int .i64 c, .pointer (some ⟨x, 0, none⟩)] u fun e u' => T1 u u' e (F k c) 0) := hF
  clear hF
  obtain ⟨i, hi, hz0, hz1, hz2⟩ := info_parts Tryd.inf60
  obtain ⟨i3, hi3, hy0, hy1, hy2⟩ := info_parts Tryd.inf63
  have hmk : ∀ u : World, (Instr.makeSlice 23 (.int .i64 32) (.int .i64 32)).run Tryd.prog u = .ok (.slice (some ⟨u.heap.size, 0, none⟩) 32 32) (u.alloc (.cells (madeCells #[.slice none 0 0] 32) 60)) := fun u => by
    have h := run_make (P := Tryd.prog) u 23 60 i (.slice none 0 0) Tryd.underlying23 hi hz0 .i64 .i64 32 32 (by omega) (Int.le_refl _) (by rw [hz2]; omega) (by omega)
    simpa [hz1, Value.cells] using h
  have HMK : Hid (∀ (n : Nat), n ≤ 14 → ∀ u : World, (Instr.makeSlice 60 (.int .i64 n) (.int .i64 n)).run Tryd.prog u = .ok (.slice (some ⟨u.heap.size, 0, none⟩) n n) (u.alloc (.cells (madeCells #[.slice none 0 0, .int .i64 0] (n * 2)) 63))) := fun n hn u => by
    have h := run_make (P := Tryd.prog) u 60 63 i3 (.agg #[.slice none 0 0, .int .i64 0]) Tryd.underlying60 hi3 hy0 .i64 .i64 n n (by omega) (Int.le_refl _) (by rw [hy2]; omega) (by omega)
    simpa [hy1, Value.cells] using h
  have HSHw : Hid (Sh w) := h
  clear h
  go_enter Tryd.func55, Tryd.ntmps55
  go_wp2_with fail
  have HS0 : Hid (St (((w.alloc (.cells #[.slice none 0 0] 25)).alloc (.cells (madeCells #[.slice none 0 0] 32) 60)).alloc (.cells #[.slice (some ⟨w.heap.size + 1, 0, none⟩) 32 32] 25)) w.heap.size (w.heap.size + 1) []) := by
    have h1 : (w.alloc (.cells #[.slice none 0 0] 25)).heap.size = w.heap.size + 1 := by simp
    have := (St.start (w := w.alloc (.cells #[.slice none 0 0] 25)) (lo := w.heap.size) (by rw [h1]; omega)).to (from_alloc _ (.cells #[.slice (some ⟨w.heap.size + 1, 0, none⟩) 32 32] 25))
    rw [h1] at this
    exact this
  have HSH : Hid (Sh (((w.alloc (.cells #[.slice none 0 0] 25)).alloc (.cells (madeCells #[.slice none 0 0] 32) 60)).alloc (.cells #[.slice (some ⟨w.heap.size + 1, 0, none⟩) 32 32] 25))) := ((HSHw.out.to (from_alloc _ _)).to (from_alloc _ _)).to (from_alloc _ _)
  have HWs : Hid ((((w.alloc (.cells #[.slice none 0 0] 25)).alloc (.cells (madeCells #[.slice none 0 0] 32) 60)).alloc (.cells #[.slice (some ⟨w.heap.size + 1, 0, none⟩) 32 32] 25)).heap.size = w.heap.size + 3) := by unfold Hid; simp
  have HBW : Hid (Below w.heap.size w (((w.alloc (.cells #[.slice none 0 0] 25)).alloc (.cells (madeCells #[.slice none 0 0] 32) 60)).alloc (.cells #[.slice (some ⟨w.heap.size + 1, 0, none⟩) 32 32] 25))) := to_alloc (to_alloc (from_alloc _ _) _) _
  have HX3 : Hid ((((w.alloc (.cells #[.slice none 0 0] 25)).alloc (.cells (madeCells #[.slice none 0 0] 32) 60)).alloc (.cells #[.slice (some ⟨w.heap.size + 1, 0, none⟩) 32 32] 25)).cell? ⟨w.heap.size + 2, 0, none⟩ = some (.slice (some ⟨w.heap.size + 1, 0, none⟩) 32 32)) := by
    have h1 : ((w.alloc (.cells #[.slice none 0 0] 25)).alloc (.cells (madeCells #[.slice none 0 0] 32) 60)).heap.size = w.heap.size + 2 := by simp
    unfold Hid; rw [← h1, new_get]; rfl
  have HX2 : Hid ((((w.alloc (.cells #[.slice none 0 0] 25)).alloc (.cells (madeCells #[.slice none 0 0] 32) 60)).alloc (.cells #[.slice (some ⟨w.heap.size + 1, 0, none⟩) 32 32] 25)).cell? ⟨w.heap.size, 0, none⟩ = some (.slice none 0 0) ∧ (((w.alloc (.cells #[.slice none 0 0] 25)).alloc (.cells (madeCells #[.slice none 0 0] 32) 60)).alloc (.cells #[.slice (some ⟨w.heap.size + 1, 0, none⟩) 32 32] 25)).frozen? ⟨w.heap.size, 0, none⟩ = false) := by
    have h1 : w.heap.size < (w.alloc (.cells #[.slice none 0 0] 25)).heap.size := by simp
    have hb : Below (w.alloc (.cells #[.slice none 0 0] 25)).heap.size (w.alloc (.cells #[.slice none 0 0] 25)) (((w.alloc (.cells #[.slice none 0 0] 25)).alloc (.cells (madeCells #[.slice none 0 0] 32) 60)).alloc (.cells #[.slice (some ⟨w.heap.size + 1, 0, none⟩) 32 32] 25)) := to_alloc (from_alloc _ _) _
    refine ⟨?_, ?_⟩
    · rw [newCell hb _ _ h1]; simp
    · rw [newFrozen hb _ _ h1]; simp
  have HLO : Hid (0 < w.heap.size) := HSHw.out.low
  clear HSHw
  generalize (((w.alloc (.cells #[.slice none 0 0] 25)).alloc (.cells (madeCells #[.slice none 0 0] 32) 60)).alloc (.cells #[.slice (some ⟨w.heap.size + 1, 0, none⟩) 32 32] 25)) = W at *
  rw [show w.heap.size + 1 + 1 = w.heap.size + 2 from rfl]
  go_loopw [8] (fun iv wr => FIg F W w.heap.size (w.heap.size + 1) iv wr) (fun iv _ => 32 - (intOf iv).toNat)
  case atStart => exact ⟨0, [], by omega, rfl, rfl, HS0.out, fun p hp => by simp at hp, fun j p hp => by simp at hp, Kr.refl _ _⟩
  case round =>
    obtain ⟨k, K, hk, rfl, hKl, hst, hdk, hdq, hkr⟩ := hrel
    clear HS0
    have HST : Hid _ := hst
    have HDK : Hid (Dk W.heap.size K) := hdk
    have HDQ : Hid (∀ (j : Nat) p, K[j]? = some p → Fq F j p) := hdq
    have HKR : Hid (Kr (w.heap.size + 1) W wr) := hkr
    have HKL : Hid (K.length = k) := hKl
    have hks := hkr.size
    rw [HWs.out] at hks
    have HSHr : Hid (Sh wr) := HSH.out.below (hkr.below (B := w.heap.size) (by omega) (by rw [HWs.out]; omega)) HLO.out
    have x3 : wr.cell? ⟨w.heap.size + 2, 0, none⟩ = some (.slice (some ⟨w.heap.size + 1, 0, none⟩) 32 32) := by rw [hkr.cell _ _ (by rw [HWs.out]; omega) (by omega)]; exact HX3.out
    have x2 : wr.cell? ⟨w.heap.size, 0, none⟩ = some (.slice none 0 0) := by rw [hkr.cell _ _ (by rw [HWs.out]; omega) (by omega)]; exact HX2.out.1
    have x2f : wr.frozen? ⟨w.heap.size, 0, none⟩ = false := by rw [hkr.frozen _ _ (by rw [HWs.out]; omega) (by omega)]; exact HX2.out.2
    clear hst hdk hdq hkr hKl
    by_cases hlt : k < 32
    · have b0 : 0 ≤ (k : Int) := by omega
      have b1 : (k : Int) < 32 := by omega
      have cc := HSHr.out.c k hlt
      have tlk := HST.out.tl k (by rw [HKL.out]; exact Nat.le_refl _) hlt
      have thk := HST.out.bth k
      have mk := HMK.out (sC k) (sC_le k hlt).2
      have hc14 := (sC_le k hlt).2
      have hba : Below wr.heap.size wr (wr.alloc (.cells (madeCells #[.slice none 0 0, .int .i64 0] (sC k * 2)) 63)) := from_alloc _ _
      have y3 : (wr.alloc (.cells (madeCells #[.slice none 0 0, .int .i64 0] (sC k * 2)) 63)).cell? ⟨w.heap.size + 2, 0, none⟩ = some (.slice (some ⟨w.heap.size + 1, 0, none⟩) 32 32) := by rw [newCell hba _ _ (by omega)]; exact x3
      have ycc : (wr.alloc (.cells (madeCells #[.slice none 0 0, .int .i64 0] (sC k * 2)) 63)).cell? ⟨0, k * 3, none⟩ = some (.int .i64 (sC k : Nat)) := by rw [newCell hba _ _ (by have := HLO.out; omega)]; exact cc
      have ytl : (wr.alloc (.cells (madeCells #[.slice none 0 0, .int .i64 0] (sC k * 2)) 63)).cell? ⟨w.heap.size + 1, k, none⟩ = some (.slice none 0 0) := by rw [newCell hba _ _ (by omega)]; exact tlk
      have yth : (wr.alloc (.cells (madeCells #[.slice none 0 0, .int .i64 0] (sC k * 2)) 63)).frozen? ⟨w.heap.size + 1, k, none⟩ = false := by rw [newFrozen hba _ _ (by omega)]; exact thk
      clear x2 x2f hba
      go_wp2_with fail
      go_region
      have HKR2 : Hid (Kr (w.heap.size + 1) W ((wr.alloc (.cells (madeCells #[.slice none 0 0, .int .i64 0] (sC k * 2)) 63)).setCell ⟨w.heap.size + 1, k, none⟩ (.slice (some ⟨wr.heap.size, 0, none⟩) (sC k) (sC k))).drew) := ((HKR.out.to (from_alloc wr (.cells (madeCells #[.slice none 0 0, .int .i64 0] (sC k * 2)) 63))).set ⟨w.heap.size + 1, k, none⟩ (.slice (some ⟨wr.heap.size, 0, none⟩) (sC k) (sC k)) (Or.inl rfl)).to (below_drew (Below.refl _ _))
      have HST2 : Hid (St ((wr.alloc (.cells (madeCells #[.slice none 0 0, .int .i64 0] (sC k * 2)) 63)).setCell ⟨w.heap.size + 1, k, none⟩ (.slice (some ⟨wr.heap.size, 0, none⟩) (sC k) (sC k))).drew w.heap.size (w.heap.size + 1) (K ++ [(wr.heap.size, List.replicate (sC k) zT)])) := by
        have := (HST.out.add (by omega) (by rw [HKL.out]; exact hlt) (sC k)).to (below_drew (Below.refl _ _))
        rw [HKL.out] at this
        exact this
      have HV1 : Hid (wr.heap.size < ((wr.alloc (.cells (madeCells #[.slice none 0 0, .int .i64 0] (sC k * 2)) 63)).setCell ⟨w.heap.size + 1, k, none⟩ (.slice (some ⟨wr.heap.size, 0, none⟩) (sC k) (sC k))).drew.heap.size) := by
        unfold Hid
        have : ((wr.alloc (.cells (madeCells #[.slice none 0 0, .int .i64 0] (sC k * 2)) 63)).setCell ⟨w.heap.size + 1, k, none⟩ (.slice (some ⟨wr.heap.size, 0, none⟩) (sC k) (sC k))).drew.heap.size = wr.heap.size + 1 := by
          show ((wr.alloc (.cells (madeCells #[.slice none 0 0, .int .i64 0] (sC k * 2)) 63)).setCell _ _).heap.size = _
          rw [setCell_size]; simp
        rw [this]; exact Nat.lt_succ_self _
      have HWR : Hid (W.heap.size ≤ wr.heap.size) := HKR.out.size
      clear HKR HST HSHr x3 cc tlk thk mk y3 ycc ytl yth
      generalize ((wr.alloc (.cells (madeCells #[.slice none 0 0, .int .i64 0] (sC k * 2)) 63)).setCell ⟨w.heap.size + 1, k, none⟩ (.slice (some ⟨wr.heap.size, 0, none⟩) (sC k) (sC k))).drew = V at *
      have HSHV : Hid (Sh V) := HSH.out.below (HKR2.out.below (B := w.heap.size) (by omega) (by rw [HWs.out]; omega)) HLO.out
      have cc := HSHV.out.c k hlt
      go_wp2_with fail
      go_loopw [24] (fun iv wr => FJg F W w.heap.size (w.heap.size + 1) k iv wr) (fun iv _ => sC k - (intOf iv).toNat)
      case atStart =>
        refine ⟨0, _, (wr.heap.size, List.replicate (sC k) zT), by omega, rfl, by rw [List.length_append, HKL.out]; rfl, by rw [List.getElem?_append_right (by rw [HKL.out]; exact Nat.le_refl _), HKL.out]; simp, by simp, HST2.out, fun p hp => ?_, fun j q hj hq => ?_, fun i t hi => by omega, HKR2.out⟩
        · rcases List.mem_append.1 hp with e | e
          · exact HDK.out p e
          · simp at e; subst e
            refine ⟨HWR.out, fun t ht b o h1 h2 => ?_⟩
            have : t = zT := List.eq_of_mem_replicate ht
            subst this; exact absurd rfl h2
        · rw [List.getElem?_append_left (by rw [HKL.out]; exact hj)] at hq
          exact HDQ.out j q hq
      case round =>
        clear HST2 HKR2 HDK HDQ HKL HSHV cc HV1 HWR
        generalize hwo : wr = wo at *
        clear hwo
        obtain ⟨c, K2, p, hc, rfl, hK2, hKk, hpl, hst, hdk, hdq, hdc, hkr⟩ := hrel
        have HST : Hid _ := hst
        have HDK : Hid (Dk W.heap.size K2) := hdk
        have HDQ : Hid (∀ (j : Nat) q, j < k → K2[j]? = some q → Fq F j q) := hdq
        have HDC : Hid (∀ (i : Nat) t, i < c → p.2[i]? = some t → t.C = F k i ∧ t.n = 0) := hdc
        have HKR : Hid _ := hkr
        have HKK : Hid (K2[k]? = some p) := hKk
        have HK2 : Hid (K2.length = k + 1) := hK2
        have HPL : Hid (p.2.length = sC k) := hpl
        clear hst hdk hdq hdc hkr hKk hK2 hpl
        by_cases hcl : c < sC k
        · have a0 : 0 ≤ (k : Int) := by omega
          have a1 : (k : Int) < 32 := by omega
          have a2 : 0 ≤ (c : Int) := by omega
          have a3 : (c : Int) < (sC k : Int) := by omega
          have hks := HKR.out.size
          rw [HWs.out] at hks
          have hpK : p ∈ K2 := List.mem_of_getElem? HKK.out
          have hlie := HST.out.lie p hpK
          have hbig := (HDK.out p hpK).1
          rw [HWs.out] at hbig
          have x3 : wo.cell? ⟨w.heap.size + 2, 0, none⟩ = some (.slice (some ⟨w.heap.size + 1, 0, none⟩) 32 32) := by rw [HKR.out.cell _ _ (by rw [HWs.out]; omega) (by omega)]; exact HX3.out
          have xb : wo.cell? ⟨w.heap.size + 1, k, none⟩ = some (.slice (some ⟨p.1, 0, none⟩) (sC k) (sC k)) := by have := HST.out.hd k p HKK.out; rw [HPL.out] at this; exact this
          obtain ⟨t0, ht0⟩ : ∃ t0, p.2[c]? = some t0 := ⟨p.2[c]'(by rw [HPL.out]; exact hcl), List.getElem?_eq_getElem _⟩
          have z0 := HST.out.c0 p hpK c t0 ht0
          have z1 := HST.out.c1 p hpK c t0 ht0
          have zf0 := HST.out.th p hpK (c * 2)
          have zf1 := HST.out.th p hpK (c * 2 + 1)
          have HSHo : Hid (Sh wo) := HSH.out.below (HKR.out.below (B := w.heap.size) (by omega) (by rw [HWs.out]; omega)) HLO.out
          obtain ⟨pb, pt⟩ := p
          simp only at hlie hbig xb z0 z1 zf0 zf1 HPL HDC
          have HBo : Hid (Below w.heap.size w wo) := HBW.out.trans (HKR.out.below (B := w.heap.size) (by omega) (by rw [HWs.out]; omega))
          have HFk : Hid (∀ u, Below wo.heap.size wo u → Calls Tryd.prog 56 #[.int .i64 k, .int .i64 c, .pointer (some ⟨x, 0, none⟩)] u fun e u' => T1 u u' e (F k c) 0) := fun u hu => HF.out u k c (below_to HBo.out hu) hlt hcl
          have HDC2 : Hid (∀ C', C' = F k c → ∀ (i : Nat) (t : Tb), i < c + 1 → (pt.set c ⟨none, 0, C', 0⟩)[i]? = some t → True) := fun _ _ _ _ _ _ => trivial
          generalize hfc : F k c = FC at *
          have HFC : Hid (F k c = FC) := hfc
          clear hfc HDC2
          have HBG : Hid (∀ u, Below wo.heap.size wo u → Calls Tryd.prog 56 #[.int .i64 k, .int .i64 c, .pointer (some ⟨x, 0, none⟩)] u fun e u' => ∃ g c', e = .returned (.agg #[.slice (some ⟨g, 0, none⟩) FC.length c', .int .i64 0]) ∧ Ow u' u.heap.size g FC.length c' FC ∧ Below u.heap.size u u' ∧ Below wo.heap.size wo u' ∧ u'.cell? ⟨w.heap.size + 2, 0, none⟩ = some (.slice (some ⟨w.heap.size + 1, 0, none⟩) 32 32) ∧ u'.cell? ⟨w.heap.size + 1, k, none⟩ = some (.slice (some ⟨pb, 0, none⟩) (sC k) (sC k)) ∧ u'.cell? ⟨pb, c * 2, none⟩ = some (.slice t0.a t0.C.length t0.c) ∧ u'.cell? ⟨pb, c * 2 + 1, none⟩ = some (.int .i64 t0.n) ∧ u'.frozen? ⟨pb, c * 2, none⟩ = false ∧ u'.frozen? ⟨pb, c * 2 + 1, none⟩ = false) := fun u hu => by
            refine (HFk.out u hu).mono fun e u' h => ?_
            obtain ⟨g, c', h1, h2, h3⟩ := h
            have hb := below_to hu h3
            exact ⟨g, c', h1, h2, h3, hb, by rw [newCell hb _ _ (by omega)]; exact x3, by rw [newCell hb _ _ (by omega)]; exact xb, by rw [newCell hb _ _ (by omega)]; exact z0, by rw [newCell hb _ _ (by omega)]; exact z1, by rw [newFrozen hb _ _ (by omega)]; exact zf0, by rw [newFrozen hb _ _ (by omega)]; exact zf1⟩
          have hbd : Below wo.heap.size wo wo.drew := below_drew (Below.refl _ _)
          have d3 : wo.drew.cell? ⟨w.heap.size + 2, 0, none⟩ = some (.slice (some ⟨w.heap.size + 1, 0, none⟩) 32 32) := x3
          have db : wo.drew.cell? ⟨w.heap.size + 1, k, none⟩ = some (.slice (some ⟨pb, 0, none⟩) (sC k) (sC k)) := xb
          have n1 : w.heap.size + 2 ≠ pb := by omega
          have n2 : w.heap.size + 1 ≠ pb := by omega
          clear z0 z1 zf0 zf1 x3 xb
          go_wp2_with fail
          go_region_held3 (fun u => u.cell? ⟨w.heap.size + 2, 0, none⟩ = some (.slice (some ⟨w.heap.size + 1, 0, none⟩) 32 32) ∧ u.cell? ⟨w.heap.size + 1, k, none⟩ = some (.slice (some ⟨pb, 0, none⟩) (sC k) (sC k)) ∧ Below wo.heap.size wo wo) (((try dsimp only); first | assumption | (refine ⟨?_, ?_, ?_⟩ <;> first | assumption | exact Below.refl _ _ | go_keep) | go_keep)) ((go_at_call 56; refine (HBG.out _ (by (repeat (first | with_reducible assumption | with_reducible refine below_drew ?_ | with_reducible refine below_alloc ?_ ?_ _ | with_reducible refine below_set ?_ ?_ _ | exact Nat.le_refl _ | exact Below.size (by assumption))))).mono ?_; rintro e w3 ⟨g, c', rfl, ho, hb, hbw, q3, qb, z0, z1, zf0, zf1⟩; have y3 : ((w3.setCell ⟨pb, c * 2, none⟩ (.slice (some ⟨g, 0, none⟩) FC.length c')).setCell ⟨pb, c * 2 + 1, none⟩ (.int .i64 0)).cell? ⟨w.heap.size + 2, 0, none⟩ = some (.slice (some ⟨w.heap.size + 1, 0, none⟩) 32 32) := far2 n1 q3; have yb : ((w3.setCell ⟨pb, c * 2, none⟩ (.slice (some ⟨g, 0, none⟩) FC.length c')).setCell ⟨pb, c * 2 + 1, none⟩ (.int .i64 0)).cell? ⟨w.heap.size + 1, k, none⟩ = some (.slice (some ⟨pb, 0, none⟩) (sC k) (sC k)) := far2 n2 qb))
          have hgl : wo.heap.size ≤ g := ho.lies.1
          have hgap : ∀ b o, (some ⟨g, 0, none⟩ : Option Addr) = some ⟨b, o, none⟩ → FC ≠ [] → b ≠ w.heap.size + 1 ∧ ∀ q ∈ K2, b ≠ q.1 := fun b o h1 _ => by
            simp only [Option.some.injEq, Addr.mk.injEq, and_true] at h1
            exact ⟨by omega, fun q hq => by have := (HST.out.lie q hq).2.1; omega⟩
          have HPUT : Hid _ := (HST.out.to hbw).put HKK.out (by rw [HPL.out]; exact hcl) ⟨some ⟨g, 0, none⟩, c', FC, 0⟩ ho.sl hgap
          have HKR3 : Hid _ := ((HKR.out.to hbw).set ⟨pb, c * 2, none⟩ (.slice (some ⟨g, 0, none⟩) FC.length c') (Or.inr (by rw [HWs.out]; exact hbig))).set ⟨pb, c * 2 + 1, none⟩ (.int .i64 0) (Or.inr (by rw [HWs.out]; exact hbig))
          have HDK3 : Hid (Dk W.heap.size (K2.set k (pb, pt.set c ⟨some ⟨g, 0, none⟩, c', FC, 0⟩))) := fun r hr => by
            rcases St.mem_set HKK.out hr with e | e
            · subst e
              refine ⟨by rw [HWs.out]; exact hbig, fun t ht b o h1 h2 => ?_⟩
              rcases List.mem_or_eq_of_mem_set ht with e2 | e2
              · exact (HDK.out _ hpK).2 t e2 b o h1 h2
              · subst e2
                simp only [Option.some.injEq, Addr.mk.injEq, and_true] at h1
                rw [HWs.out]; omega
            · exact HDK.out r e
          clear ho hb hbw q3 qb z0 z1 zf0 zf1 y3 yb
          go_wp2_with fail
          go_roundw
          case rel =>
            refine ⟨c + 1, _, (pb, pt.set c ⟨some ⟨g, 0, none⟩, c', FC, 0⟩), by omega, by go_num, by rw [List.length_set]; exact HK2.out, by rw [List.getElem?_set_self (by rw [HK2.out]; omega)], by simp only [List.length_set]; exact HPL.out, HPUT.out, HDK3.out, fun j q hj hq => ?_, fun m t hm ht => ?_, HKR3.out⟩
            · rw [List.getElem?_set_ne (by omega)] at hq
              exact HDQ.out j q hj hq
            · simp only at ht
              rw [List.getElem?_set] at ht
              by_cases e : c = m
              · subst e
                rw [if_pos rfl, if_pos (by rw [HPL.out]; exact hcl)] at ht
                simp at ht; subst ht; exact ⟨HFC.out.symm, rfl⟩
              · rw [if_neg e] at ht
                exact HDC.out m t (by omega) ht
          case measure => simp [intOf]; omega
        · have a3 : ¬ (c : Int) < (sC k : Int) := by omega
          have hcs : c = sC k := by omega
          go_wp2_with fail
          go_roundw
          case rel =>
            refine ⟨k + 1, K2, by omega, by go_num, HK2.out, HST.out, HDK.out, fun j q hq => ?_, HKR.out⟩
            by_cases hj : j < k
            · exact HDQ.out j q hj hq
            · have hjk : j = k := by
                have := (List.getElem?_eq_some_iff.1 hq).1
                rw [HK2.out] at this
                omega
              subst hjk
              rw [HKK.out] at hq
              simp only [Option.some.injEq] at hq
              subst hq
              refine ⟨HPL.out, fun m t hm => ?_⟩
              have := (List.getElem?_eq_some_iff.1 hm).1
              exact HDC.out m t (by rw [HPL.out] at this; omega) hm
          case measure => simp [intOf]; omega
    · have hk' : k = 32 := by omega
      subst hk'
      have b1 : ¬ ((32 : Nat) : Int) < 32 := by omega
      go_wp2_with fail
      refine bodyPost_ret (v := .agg #[.slice (some ⟨w.heap.size + 1, 0, none⟩) 32 32]) (by simp [results, Tryd.results55, go_sem, x2]) rfl ⟨w.heap.size + 1, K, rfl, ?_, HKL.out, HDQ.out, HDK.out.mono (by rw [HWs.out]; omega), ?_⟩
      · refine HST.out.far _ _ (by simp) (fun p hp e => ?_) (fun p hp t ht b o h1 h2 e => ?_)
        · have := (HDK.out p hp).1; rw [HWs.out] at this; simp at e; omega
        · have := (HDK.out p hp).2 t ht b o h1 h2; rw [HWs.out] at this; simp at e; omega
      · exact below_set (HBW.out.trans (HKR.out.below (B := w.heap.size) (by omega) (by rw [HWs.out]; omega))) (by simp) _


end Go.Proofs.YtppanogpeengnaaDoor

namespace Go.Proofs.YtppanogpeengnaaDoor
open Go.RowKit L3

/-- the table at row k, place c of the set that lies in cell j of block b -/
def Src (w : World) (b k c j : Nat) (t : Tb) : Prop := ∃ bt xn xc pb rl rc, w.cell? ⟨b, j, none⟩ = some (.slice (some ⟨bt, 0, none⟩) xn xc) ∧ b < w.heap.size ∧ bt < w.heap.size ∧ k < xn ∧ w.cell? ⟨bt, k, none⟩ = some (.slice (some ⟨pb, 0, none⟩) rl rc) ∧ pb < w.heap.size ∧ c < rl ∧ w.cell? ⟨pb, c * 2, none⟩ = some (.slice t.a t.C.length t.c) ∧ w.cell? ⟨pb, c * 2 + 1, none⟩ = some (.int .i64 t.n) ∧ t.In w
theorem Src.to {w w' : World} {b k c j : Nat} {t : Tb} (h : Src w b k c j t) (hb : Below w.heap.size w w') : Src w' b k c j t := by
  obtain ⟨bt, xn, xc, pb, rl, rc, h1, h2, h3, h4, h5, h6, h7, h8, h9, h10⟩ := h
  have := hb.size
  exact ⟨bt, xn, xc, pb, rl, rc, by rw [newCell hb _ _ h2]; exact h1, by omega, by omega, h4, by rw [newCell hb _ _ h3]; exact h5, by omega, h7, by rw [newCell hb _ _ h6]; exact h8, by rw [newCell hb _ _ h6]; exact h9, h10.to hb⟩
/-- the row of tables that is gathered, ahead of set i -/
structure Mi (w : World) (N m : Nat) (L : List Tb) (i : Nat) (wr : World) : Prop where
  hN : w.heap.size = N
  size : N + 2 ≤ wr.heap.size
  bel : Below N w wr
  r0 : wr.cell? ⟨N, 0, none⟩ = some (.slice none 0 0)
  r1 : wr.cell? ⟨N, 1, none⟩ = some (.int .i64 0)
  rf : ∀ j, wr.frozen? ⟨N, j, none⟩ = false
  th : ∀ j, wr.frozen? ⟨N + 1, j, none⟩ = false
  done : ∀ (j : Nat) t, j < i → L[j]? = some t → wr.cell? ⟨N + 1, j * 2, none⟩ = some (.slice t.a t.C.length t.c) ∧ wr.cell? ⟨N + 1, j * 2 + 1, none⟩ = some (.int .i64 t.n)
  blank : ∀ j, i ≤ j → j < m → wr.cell? ⟨N + 1, j * 2, none⟩ = some (.slice none 0 0) ∧ wr.cell? ⟨N + 1, j * 2 + 1, none⟩ = some (.int .i64 0)
theorem Mi.start {w : World} {N m : Nat} {L : List Tb} (hN : w.heap.size = N) : Mi w N m L 0 ((w.alloc (.cells #[.slice none 0 0, .int .i64 0] 63)).alloc (.cells (madeCells #[.slice none 0 0, .int .i64 0] (m * 2)) 63)) := by
  subst hN
  obtain ⟨v1, hv1⟩ : ∃ v, w.alloc (.cells #[.slice none 0 0, .int .i64 0] 63) = v := ⟨_, rfl⟩
  have s1 : v1.heap.size = w.heap.size + 1 := by rw [← hv1]; simp
  have b1 : Below w.heap.size w v1 := by rw [← hv1]; exact from_alloc _ _
  have q1 : v1.heap[w.heap.size]? = some (.cells #[.slice none 0 0, .int .i64 0] 63 (0, 0)) := by rw [← hv1]; exact heap_alloc_new w _
  rw [hv1]
  obtain ⟨v2, hv2⟩ : ∃ v, v1.alloc (.cells (madeCells #[.slice none 0 0, .int .i64 0] (m * 2)) 63) = v := ⟨_, rfl⟩
  have s2 : v2.heap.size = w.heap.size + 2 := by rw [← hv2]; simp [s1]
  have b2 : Below v1.heap.size v1 v2 := by rw [← hv2]; exact from_alloc _ _
  have q2 : v2.heap[w.heap.size + 1]? = some (.cells (madeCells #[.slice none 0 0, .int .i64 0] (m * 2)) 63 (0, 0)) := by rw [← hv2, ← s1]; exact heap_alloc_new v1 _
  rw [hv2]
  have q1' : v2.heap[w.heap.size]? = some (.cells #[.slice none 0 0, .int .i64 0] 63 (0, 0)) := by rw [b2.block _ (by omega)]; exact q1
  have fz : ∀ (b o : Nat) (cs : Array Value) (ty : Nat), v2.heap[b]? = some (.cells cs ty (0, 0)) → v2.frozen? ⟨b, o, none⟩ = false := fun b o cs ty hh => by
    unfold World.frozen?
    rw [show (⟨b, o, none⟩ : Addr).block = b from rfl, hh]; simp
  have hmade : ∀ i, i < m * 2 → (madeCells #[Value.slice none 0 0, Value.int .i64 0] (m * 2))[i]? = some (#[Value.slice none 0 0, Value.int .i64 0][i % 2]!) := fun i hi => by simp [madeCells, hi]
  refine { hN := rfl, size := by omega, bel := below_to b1 b2, r0 := by simp only [World.cell?, q1']; simp, r1 := by simp only [World.cell?, q1']; simp, rf := fun j => fz _ _ _ _ q1', th := fun j => fz _ _ _ _ q2, done := fun j t hj => by omega, blank := fun j _ hj => ?_ }
  have m0 := hmade (j * 2) (by omega)
  have m1 := hmade (j * 2 + 1) (by omega)
  rw [show j * 2 % 2 = 0 by omega] at m0
  rw [show (j * 2 + 1) % 2 = 1 by omega] at m1
  exact ⟨by simp only [World.cell?, q2]; simpa using m0, by simp only [World.cell?, q2]; simpa using m1⟩
theorem Mi.to {w wr wr' : World} {N m i : Nat} {L : List Tb} (h : Mi w N m L i wr) (hb : Below wr.heap.size wr wr') : Mi w N m L i wr' := by
  have hz := h.size
  have hs := hb.size
  exact { hN := h.hN, size := by omega, bel := h.bel.trans (hb.mono (by omega)), r0 := by rw [newCell hb _ _ (by omega)]; exact h.r0, r1 := by rw [newCell hb _ _ (by omega)]; exact h.r1, rf := fun j => by rw [newFrozen hb _ _ (by omega)]; exact h.rf j, th := fun j => by rw [newFrozen hb _ _ (by omega)]; exact h.th j, done := fun j t hj ht => by rw [newCell hb _ _ (by omega), newCell hb _ _ (by omega)]; exact h.done j t hj ht, blank := fun j hj hm => by rw [newCell hb _ _ (by omega), newCell hb _ _ (by omega)]; exact h.blank j hj hm }
theorem Mi.step {w wr : World} {N m i : Nat} {L : List Tb} {t : Tb} (h : Mi w N m L i wr) (hi : i < m) (ht : L[i]? = some t) : Mi w N m L (i + 1) ((wr.setCell ⟨N + 1, i * 2, none⟩ (.slice t.a t.C.length t.c)).setCell ⟨N + 1, i * 2 + 1, none⟩ (.int .i64 t.n)) := by
  have hz := h.size
  obtain ⟨z0, z1⟩ := h.blank i (Nat.le_refl _) hi
  have hoth : ∀ j, j ≠ i * 2 → j ≠ i * 2 + 1 → ((wr.setCell ⟨N + 1, i * 2, none⟩ (.slice t.a t.C.length t.c)).setCell ⟨N + 1, i * 2 + 1, none⟩ (.int .i64 t.n)).cell? ⟨N + 1, j, none⟩ = wr.cell? ⟨N + 1, j, none⟩ := fun j h1 h2 => by
    rw [World.cell?_setCell_other _ _ _ _ (by simp <;> omega), World.cell?_setCell_other _ _ _ _ (by simp <;> omega)]
  refine { hN := h.hN, size := by rw [setCell_size, setCell_size]; exact hz, bel := below_set (below_set h.bel (by simp) _) (by simp) _, r0 := far2 (by omega) h.r0, r1 := far2 (by omega) h.r1, rf := fun j => by rw [World.frozen?_setCell, World.frozen?_setCell]; exact h.rf j, th := fun j => by rw [World.frozen?_setCell, World.frozen?_setCell]; exact h.th j, done := fun j u hj hu => ?_, blank := fun j hj hm => ?_ }
  · by_cases e : j = i
    · subst e
      rw [ht] at hu
      obtain rfl : t = u := Option.some.inj hu
      refine ⟨?_, World.cell?_setCell_same _ _ _ (show (wr.setCell ⟨N + 1, j * 2, none⟩ (.slice t.a t.C.length t.c)).cell? ⟨N + 1, j * 2 + 1, none⟩ = some (.int .i64 0) from by rw [World.cell?_setCell_other _ _ _ _ (by simp)]; exact z1)⟩
      rw [World.cell?_setCell_other _ _ _ _ (by simp)]
      exact World.cell?_setCell_same _ _ _ z0
    · rw [hoth _ (by omega) (by omega), hoth _ (by omega) (by omega)]
      exact h.done j u (by omega) hu
  · rw [hoth _ (by omega) (by omega), hoth _ (by omega) (by omega)]
    exact h.blank j (by omega) hm
theorem Mi.ts {w wr : World} {N m : Nat} {L : List Tb} (h : Mi w N m L m wr) (hm : L.length = m) (hin : ∀ t ∈ L, t.In w) : Ts wr (N + 1) 0 L := by
  have hz := h.size
  have hb : Below w.heap.size w wr := by rw [h.hN]; exact h.bel
  refine ⟨by omega, fun j t ht => ?_, fun j t ht => ?_, fun t ht => (hin t ht).to hb⟩
  · rw [Nat.zero_add]; exact (h.done j t (by rw [← hm]; exact (List.getElem?_eq_some_iff.1 ht).1) ht).1
  · rw [Nat.zero_add]; exact (h.done j t (by rw [← hm]; exact (List.getElem?_eq_some_iff.1 ht).1) ht).2

end Go.Proofs.YtppanogpeengnaaDoor

namespace Go.Proofs.YtppanogpeengnaaDoor
open Go.RowKit L3

set_option maxRecDepth 100000 in
set_option maxHeartbeats 4000000 in
theorem mid_g {w : World} {b k c m cl V : Nat} {L : List Tb} (hm : L.length = m) (h0 : 0 < m) (h16 : m ≤ 16) (hL : ∀ (j : Nat) t, L[j]? = some t → Src w b k c j t) (hk : k < 32) (hc : c < 16) (hv : ∀ t ∈ L, TOk t.C t.n ∧ t.C.length = V) :
    Calls Tryd.prog 57 #[.int .i64 k, .int .i64 c, .slice (some ⟨b, 0, none⟩) m cl] w fun e w' => T1 w w' e (av V (L.map Tb.C)) 0 := by
  obtain ⟨i3, hi3, hy0, hy1, hy2⟩ := info_parts Tryd.inf63
  have hmk : ∀ u : World, (Instr.makeSlice 60 (.int .i64 (m : Int)) (.int .i64 (m : Int))).run Tryd.prog u = .ok (.slice (some ⟨u.heap.size, 0, none⟩) m m) (u.alloc (.cells (madeCells #[.slice none 0 0, .int .i64 0] (m * 2)) 63)) := fun u => by
    have h := run_make (P := Tryd.prog) u 60 63 i3 (.agg #[.slice none 0 0, .int .i64 0]) Tryd.underlying60 hi3 hy0 .i64 .i64 m m (by omega) (Int.le_refl _) (by rw [hy2]; omega) (by omega)
    simpa [hy1, Value.cells] using h
  obtain ⟨N, hNN⟩ : ∃ N, w.heap.size = N := ⟨_, rfl⟩
  have HM0 : Hid (Mi w N m L 0 ((w.alloc (.cells #[.slice none 0 0, .int .i64 0] 63)).alloc (.cells (madeCells #[.slice none 0 0, .int .i64 0] (m * 2)) 63))) := Mi.start hNN
  have HNN : Hid (w.heap.size = N) := hNN
  have HL : Hid (∀ (j : Nat) t, L[j]? = some t → Src w b k c j t) := hL
  have HLm : Hid (L.length = m) := hm
  have HV : Hid (∀ t ∈ L, TOk t.C t.n ∧ t.C.length = V) := hv
  obtain ⟨AV, hAV⟩ : ∃ AV, av V (L.map Tb.C) = AV := ⟨_, rfl⟩
  rw [hAV]
  have HAV : Hid (av V (L.map Tb.C) = AV) := hAV
  have m16 : (m : Int) ≤ 16 := by omega
  have HK : Hid (k < 32 ∧ c < 16) := ⟨hk, hc⟩
  have b0 : 0 ≤ (k : Int) := by omega
  have d0 : 0 ≤ (c : Int) := by omega
  clear hL hm hv hi3 hy0 hy1 hy2 hAV
  go_enter Tryd.func57, Tryd.ntmps57
  go_wp2_with fail
  generalize ((w.alloc (.cells #[.slice none 0 0, .int .i64 0] 63)).alloc (.cells (madeCells #[.slice none 0 0, .int .i64 0] (m * 2)) 63)) = W at *
  clear hmk
  go_loopw [17] (fun iv wr => ∃ i : Nat, i ≤ m ∧ iv = .int .i64 i ∧ Mi w N m L i wr) (fun iv _ => m - (intOf iv).toNat)
  case atStart => exact ⟨0, by omega, rfl, HM0.out⟩
  case round =>
    clear HM0
    obtain ⟨i, hi, rfl, hmi⟩ := hrel
    have HMi : Hid (Mi w N m L i wr) := hmi
    clear hmi
    have a0 : 0 ≤ (i : Int) := by omega
    by_cases hlt : i < m
    · have a1 : (i : Int) < (m : Int) := by omega
      have hgt : L[i]? = some (L[i]'(by rw [HLm.out]; exact hlt)) := List.getElem?_eq_getElem _
      generalize L[i]'(by rw [HLm.out]; exact hlt) = t at *
      have HGt : Hid (L[i]? = some t) := hgt
      have hbw : Below w.heap.size w wr := by rw [HNN.out]; exact HMi.out.bel
      obtain ⟨bt, xn, xc, pb, rl, rc, s1, s2, s3, s4, s5, s6, s7, s8, s9, -⟩ := (HL.out i t hgt).to hbw
      have HNx : Hid (Mi w N m L (i + 1) (((wr.alloc (.cells #[.slice (some ⟨bt, 0, none⟩) xn xc] 25)).setCell ⟨N + 1, i * 2, none⟩ (.slice t.a t.C.length t.c)).setCell ⟨N + 1, i * 2 + 1, none⟩ (.int .i64 t.n))) := (HMi.out.to (from_alloc _ _)).step hlt HGt.out
      have hba : Below wr.heap.size wr (wr.alloc (.cells #[.slice (some ⟨bt, 0, none⟩) xn xc] 25)) := from_alloc _ _
      have hMa := HMi.out.to hba
      have k1 : (k : Int) < (xn : Int) := by omega
      have e1 : (c : Int) < (rl : Int) := by omega
      have v5 : (wr.alloc (.cells #[.slice (some ⟨bt, 0, none⟩) xn xc] 25)).cell? ⟨bt, k, none⟩ = some (.slice (some ⟨pb, 0, none⟩) rl rc) := by rw [newCell hba _ _ s3]; exact s5
      have v8 : (wr.alloc (.cells #[.slice (some ⟨bt, 0, none⟩) xn xc] 25)).cell? ⟨pb, c * 2, none⟩ = some (.slice t.a t.C.length t.c) := by rw [newCell hba _ _ s6]; exact s8
      have v9 : (wr.alloc (.cells #[.slice (some ⟨bt, 0, none⟩) xn xc] 25)).cell? ⟨pb, c * 2 + 1, none⟩ = some (.int .i64 t.n) := by rw [newCell hba _ _ s6]; exact s9
      obtain ⟨z0, z1⟩ := hMa.blank i (Nat.le_refl _) hlt
      have f0 := hMa.th (i * 2)
      have f1 := hMa.th (i * 2 + 1)
      clear hgt hbw s2 s3 s4 s5 s6 s7 s8 s9 hba hMa HGt
      go_wp2_with fail
      go_roundw
      case rel => exact ⟨i + 1, by omega, by go_num, HNx.out⟩
      case measure => simp [intOf]; omega
    · obtain rfl : i = m := by omega
      have a1 : ¬ (i : Int) < (i : Int) := by omega
      obtain ⟨t0, hgt⟩ : ∃ t0, L[0]? = some t0 := ⟨_, List.getElem?_eq_getElem (by rw [HLm.out]; exact h0)⟩
      have hin : ∀ t ∈ L, t.In w := fun t ht => by
        obtain ⟨j, hj⟩ := List.getElem?_of_mem ht
        obtain ⟨_, _, _, _, _, _, _, _, _, _, _, _, _, _, _, h⟩ := HL.out j t hj
        exact h
      have hts := HMi.out.ts HLm.out hin
      have HC : Hid (Calls Tryd.prog 79 #[.slice (some ⟨N + 1, 0, none⟩) i i] wr fun e w' => Tn wr w' e AV 0) := by
        have h := average_some (c := i) hts hgt (by rw [HLm.out]; omega)
        rw [HLm.out, (HV.out _ (List.mem_of_getElem? hgt)).2, HAV.out] at h
        refine h.mono fun e w' h => ?_
        rcases h with h | h
        · exact h.2
        · exact absurd (fun t ht => HV.out t ht) h.1
      clear hgt hin hts
      have hzs := HMi.out.size
      go_wp2_with (go_at_call 79; refine HC.out.mono ?_; rintro e w3 ⟨g, c', rfl, ho, hb3⟩; have HO : Hid (Ow w3 wr.heap.size g AV.length c' AV) := ho; have HB : Hid (Below wr.heap.size wr w3) := hb3; have HM3 : Hid (Mi w N i L i w3) := HMi.out.to hb3; have q0 := HM3.out.r0; have q1 := HM3.out.r1; have qf0 := HM3.out.rf 0; have qf1 := HM3.out.rf 1; have p0 : (w3.alloc (.cells #[.slice (some ⟨g, 0, none⟩) AV.length c', .int .i64 0] 63)).cell? ⟨N, 0, none⟩ = some (.slice none 0 0) := (by rw [newCell (from_alloc w3 _) _ _ (by have := HM3.out.size; omega)]; exact q0); have p1 : (w3.alloc (.cells #[.slice (some ⟨g, 0, none⟩) AV.length c', .int .i64 0] 63)).cell? ⟨N, 1, none⟩ = some (.int .i64 0) := (by rw [newCell (from_alloc w3 _) _ _ (by have := HM3.out.size; omega)]; exact q1); have pf0 : (w3.alloc (.cells #[.slice (some ⟨g, 0, none⟩) AV.length c', .int .i64 0] 63)).frozen? ⟨N, 0, none⟩ = false := (by rw [newFrozen (from_alloc w3 _) _ _ (by have := HM3.out.size; omega)]; exact qf0); have pf1 : (w3.alloc (.cells #[.slice (some ⟨g, 0, none⟩) AV.length c', .int .i64 0] 63)).frozen? ⟨N, 1, none⟩ = false := (by rw [newFrozen (from_alloc w3 _) _ _ (by have := HM3.out.size; omega)]; exact qf1); clear ho hb3)
      refine bodyPost_ret (v := .agg #[.slice (some ⟨g, 0, none⟩) AV.length c', .int .i64 0]) (by simp [results, Tryd.results57, go_sem, p0, p1]) rfl ⟨g, c', rfl, ?_, ?_⟩
      · have hgl := HO.out.lies.1
        have h4 : Ow (w3.alloc (.cells #[.slice (some ⟨g, 0, none⟩) AV.length c', .int .i64 0] 63)) w.heap.size g AV.length c' AV := ⟨(HO.out.mono (by have := HNN.out; omega)).own.alloc _⟩
        exact (h4.far (by simp; omega) _).far (by simp; omega) _
      · have h5 : Below w.heap.size w (w3.alloc (.cells #[.slice (some ⟨g, 0, none⟩) AV.length c', .int .i64 0] 63)) := to_alloc (by rw [HNN.out]; exact HM3.out.bel) _
        exact below_set (below_set h5 (by have := HNN.out; simp; omega) _) (by have := HNN.out; simp; omega) _

end Go.Proofs.YtppanogpeengnaaDoor

namespace Go.Proofs.YtppanogpeengnaaDoor
open Go.RowKit L3

/-- a table of a set, by its place -/
def tX (X : List (List Px)) (k c : Nat) : Px := (X.getD k []).getD c ([], 0)
theorem src_of {w : World} {b j k c xn xc : Nat} {a : Option Addr} {X : List (List Px)} (hb : b < w.heap.size) (hc : w.cell? ⟨b, j, none⟩ = some (.slice a xn xc)) (hG : Gv w a X) (hn : X.length = xn) (hx : okX X) (hk : k < 32) (hcc : c < sC k) : ∃ t : Tb, Src w b k c j t ∧ t.C = (tX X k c).1 ∧ TOk t.C t.n ∧ t.C.length = sV k := by
  have hkl : k < X.length := by rw [hx.1]; exact hk
  have hget : X[k]? = some (X[k]'hkl) := List.getElem?_eq_getElem _
  have hok := hx.2 k _ hget
  have hX : X.getD k [] = X[k]'hkl := by rw [List.getD_eq_getElem?_getD, hget]; rfl
  unfold tX
  rw [hX]
  generalize X[k]'hkl = R at *
  have hcl : c < R.length := by rw [hok.1]; exact hcc
  have hgt : R[c]? = some (R[c]'hcl) := List.getElem?_eq_getElem _
  have hR : R.getD c ([], 0) = R[c]'hcl := by rw [List.getD_eq_getElem?_getD, hgt]; rfl
  rw [hR]
  have htk := hok.2 _ (List.getElem_mem hcl)
  generalize R[c]'hcl = t at *
  obtain ⟨bt, ra, rc, rfl, hbl, g1, g2⟩ := hG.row hget
  obtain ⟨pb, ta, tc, rfl, hpl, u0, u1, us⟩ := g2.tab hgt
  refine ⟨⟨ta, tc, t.1, t.2⟩, ⟨bt, xn, xc, pb, _, rc, hc, hb, hbl, by omega, g1, hpl, hcl, u0, u1, ⟨us, ?_, fun i => ?_⟩⟩, rfl, htk.2, htk.1⟩
  · have := htk.2.hi; show t.1.length ≤ _; omega
  · have := htk.2.le i; show t.1.getD i 0 < _; omega
/-- the averages of three sets, the third of which is the first -/
def F3 (X Y : List (List Px)) (k c : Nat) : List Nat := av (sV k) [(tX X k c).1, (tX Y k c).1, (tX X k c).1]
def Y3 (X Y : List (List Px)) : List (List Px) := (List.range 32).map fun k => (List.range (sC k)).map fun c => (F3 X Y k c, 0)
/-- three sets in a row, all of which may be -/
structure Tri (w : World) (b : Nat) (xa ya : Option Addr) (xn xc yn yc : Nat) (X Y : List (List Px)) : Prop where
  lt : b < w.heap.size
  c0 : w.cell? ⟨b, 0, none⟩ = some (.slice xa xn xc)
  c1 : w.cell? ⟨b, 1, none⟩ = some (.slice ya yn yc)
  c2 : w.cell? ⟨b, 2, none⟩ = some (.slice xa xn xc)
  gx : Gv w xa X
  gy : Gv w ya Y
  nx : X.length = xn
  ny : Y.length = yn
  sx : Sml X
  sy : Sml Y
  ox : okX X
  oy : okX Y
theorem Tri.to {w w' : World} {b xn xc yn yc : Nat} {xa ya : Option Addr} {X Y : List (List Px)} (h : Tri w b xa ya xn xc yn yc X Y) (hb : Below w.heap.size w w') : Tri w' b xa ya xn xc yn yc X Y :=
  ⟨Nat.lt_of_lt_of_le h.lt hb.size, by rw [newCell hb _ _ h.lt]; exact h.c0, by rw [newCell hb _ _ h.lt]; exact h.c1, by rw [newCell hb _ _ h.lt]; exact h.c2, h.gx.to hb, h.gy.to hb, h.nx, h.ny, h.sx, h.sy, h.ox, h.oy⟩
theorem mid3 {w : World} {b xn xc yn yc k c cl : Nat} {xa ya : Option Addr} {X Y : List (List Px)} (h : Tri w b xa ya xn xc yn yc X Y) (hk : k < 32) (hc : c < sC k) : Calls Tryd.prog 57 #[.int .i64 k, .int .i64 c, .slice (some ⟨b, 0, none⟩) 3 cl] w fun e w' => T1 w w' e (F3 X Y k c) 0 := by
  obtain ⟨t0, h0, e0, k0, v0⟩ := src_of h.lt h.c0 h.gx h.nx h.ox hk hc
  obtain ⟨t1, h1, e1, k1, v1⟩ := src_of h.lt h.c1 h.gy h.ny h.oy hk hc
  obtain ⟨t2, h2, e2, k2, v2⟩ := src_of h.lt h.c2 h.gx h.nx h.ox hk hc
  have hm := mid_g (cl := cl) (V := sV k) (L := [t0, t1, t2]) (m := 3) (b := b) (k := k) (c := c) rfl (by omega) (by omega) (fun j t ht => by
    match j, ht with
    | 0, ht => obtain rfl : t0 = t := by simpa using ht
               exact h0
    | 1, ht => obtain rfl : t1 = t := by simpa using ht
               exact h1
    | 2, ht => obtain rfl : t2 = t := by simpa using ht
               exact h2
    | j + 3, ht => simp at ht) hk (by have := (sC_le k hk).2; omega) (fun t ht => by
    simp only [List.mem_cons, List.not_mem_nil, or_false] at ht
    rcases ht with rfl | rfl | rfl
    · exact ⟨k0, v0⟩
    · exact ⟨k1, v1⟩
    · exact ⟨k2, v2⟩)
  simp only [List.map_cons, List.map_nil, e0, e1, e2] at hm
  exact hm

set_option maxRecDepth 100000 in
set_option maxHeartbeats 2000000 in
theorem clos3 {w : World} {x b xn xc yn yc k c cl : Nat} {xa ya : Option Addr} {X Y : List (List Px)} (h : Tri w b xa ya xn xc yn yc X Y) (hx : w.cell? ⟨x, 0, none⟩ = some (.slice (some ⟨b, 0, none⟩) 3 cl)) (hxl : x < w.heap.size) (hk : k < 32) (hc : c < sC k) : Calls Tryd.prog 56 #[.int .i64 k, .int .i64 c, .pointer (some ⟨x, 0, none⟩)] w fun e w' => T1 w w' e (F3 X Y k c) 0 := by
  have HBW : Hid (Below w.heap.size w (w.alloc (.cells #[.slice none 0 0, .int .i64 0] 63))) := from_alloc _ _
  have HZ : Hid ((w.alloc (.cells #[.slice none 0 0, .int .i64 0] 63)).cell? ⟨w.heap.size, 0, none⟩ = some (.slice none 0 0) ∧ (w.alloc (.cells #[.slice none 0 0, .int .i64 0] 63)).cell? ⟨w.heap.size, 1, none⟩ = some (.int .i64 0) ∧ (w.alloc (.cells #[.slice none 0 0, .int .i64 0] 63)).frozen? ⟨w.heap.size, 0, none⟩ = false ∧ (w.alloc (.cells #[.slice none 0 0, .int .i64 0] 63)).frozen? ⟨w.heap.size, 1, none⟩ = false) := by unfold Hid; simp
  have HWs : Hid ((w.alloc (.cells #[.slice none 0 0, .int .i64 0] 63)).heap.size = w.heap.size + 1) := by unfold Hid; simp
  have hx' : (w.alloc (.cells #[.slice none 0 0, .int .i64 0] 63)).cell? ⟨x, 0, none⟩ = some (.slice (some ⟨b, 0, none⟩) 3 cl) := by rw [newCell HBW.out _ _ hxl]; exact hx
  have HFA : Hid (Calls Tryd.prog 57 #[.int .i64 k, .int .i64 c, .slice (some ⟨b, 0, none⟩) 3 cl] (w.alloc (.cells #[.slice none 0 0, .int .i64 0] 63)) fun e w' => T1 (w.alloc (.cells #[.slice none 0 0, .int .i64 0] 63)) w' e (F3 X Y k c) 0) := mid3 (h.to HBW.out) hk hc
  generalize F3 X Y k c = DC at *
  clear h hx hxl hk hc
  go_enter Tryd.func56, Tryd.ntmps56
  go_wp2_with fail
  generalize w.alloc (.cells #[.slice none 0 0, .int .i64 0] 63) = W at *
  refine HFA.out.mono ?_
  rintro e w1 ⟨g, c', rfl, ho, hb⟩
  have HB1 : Hid (Below W.heap.size W w1) := hb
  have HO1 : Hid (Ow w1 W.heap.size g DC.length c' DC) := ho
  have d0 : w1.cell? ⟨w.heap.size, 0, none⟩ = some (.slice none 0 0) := by rw [newCell HB1.out _ _ (by rw [HWs.out]; omega)]; exact HZ.out.1
  have d1 : w1.cell? ⟨w.heap.size, 1, none⟩ = some (.int .i64 0) := by rw [newCell HB1.out _ _ (by rw [HWs.out]; omega)]; exact HZ.out.2.1
  have f0 : w1.frozen? ⟨w.heap.size, 0, none⟩ = false := by rw [newFrozen HB1.out _ _ (by rw [HWs.out]; omega)]; exact HZ.out.2.2.1
  have f1 : w1.frozen? ⟨w.heap.size, 1, none⟩ = false := by rw [newFrozen HB1.out _ _ (by rw [HWs.out]; omega)]; exact HZ.out.2.2.2
  clear ho hb
  go_wp2_with fail
  refine bodyPost_ret (v := .agg #[.slice (some ⟨g, 0, none⟩) DC.length c', .int .i64 0]) (by simp [results, Tryd.results56, go_sem, d0, d1]) rfl ⟨g, c', rfl, ?_, ?_⟩
  · have := HO1.out.lies.1
    exact ((HO1.out.far (by rw [HWs.out] at this; simp; omega) _).far (by rw [HWs.out] at this; simp; omega) _).mono (by rw [HWs.out]; omega)
  · exact below_set (below_set (HBW.out.trans (HB1.out.mono (by rw [HWs.out]; omega))) (by simp) _) (by simp) _

/-- the average is answered -/
def AvYes (w w' : World) (e : Ending) (Z : List (List Px)) : Prop := ∃ a c, e = .returned (.tuple #[.agg #[.slice a 32 c], .int .i64 0]) ∧ Gv w' a Z ∧ Below w.heap.size w w'
theorem fset_gv {w : World} {lo bt : Nat} {K : List (Nat × List Tb)} {X Y : List (List Px)} (h : St w lo bt K) (hK : K.length = 32) (hq : ∀ (j : Nat) p, K[j]? = some p → Fq (F3 X Y) j p) : Gv w (some ⟨bt, 0, none⟩) (Y3 X Y) := by
  refine Or.inr ⟨bt, rfl, h.blt, fun k R hR => ?_⟩
  have hk : k < 32 := by have := (List.getElem?_eq_some_iff.1 hR).1; simpa [Y3] using this
  have hget : K[k]? = some (K[k]'(by rw [hK]; exact hk)) := List.getElem?_eq_getElem _
  generalize K[k]'(by rw [hK]; exact hk) = p at *
  have hp := List.mem_of_getElem? hget
  obtain ⟨hl, ht⟩ := hq k p hget
  obtain rfl : (List.range (sC k)).map (fun c => (F3 X Y k c, (0 : Int))) = R := by
    rw [Y3, List.getElem?_map, List.getElem?_range hk] at hR
    simpa using hR
  refine ⟨_, h.hd k p hget, some ⟨p.1, 0, none⟩, p.2.length, by simp [hl], Or.inr ⟨p.1, rfl, (h.lie p hp).2.1, fun j t htj => ?_⟩⟩
  have hj : j < sC k := by have := (List.getElem?_eq_some_iff.1 htj).1; simpa using this
  rw [List.getElem?_map, List.getElem?_range hj] at htj
  have hgj : p.2[j]? = some (p.2[j]'(by rw [hl]; exact hj)) := List.getElem?_eq_getElem _
  generalize p.2[j]'(by rw [hl]; exact hj) = u at *
  obtain ⟨e1, e2⟩ := ht j u hgj
  obtain rfl : (F3 X Y k j, (0 : Int)) = t := by simpa using htj
  refine ⟨_, _, h.c0 p hp j u hgj, h.c1 p hp j u hgj, u.a, u.c, by rw [e1], by rw [e2], ?_⟩
  have := h.sl p hp u (List.mem_of_getElem? hgj)
  rw [e1] at this
  exact this

end Go.Proofs.YtppanogpeengnaaDoor

namespace Go.Proofs.YtppanogpeengnaaDoor
open Go.RowKit L3

structure Aw (w : World) (b cl : Nat) (wr : World) : Prop where
  av : Av w (w.heap.size + 1) wr
  bx : wr.cell? ⟨w.heap.size, 0, none⟩ = some (.slice (some ⟨b, 0, none⟩) 3 cl)
theorem Aw.to {w wr wr' : World} {b cl : Nat} (h : Aw w b cl wr) (hb : Below wr.heap.size wr wr') : Aw w b cl wr' := ⟨h.av.to hb, by rw [newCell hb _ _ (by have := h.av.lt; omega)]; exact h.bx⟩

set_option maxRecDepth 100000 in
set_option maxHeartbeats 4000000 in
theorem savg_ok {w : World} {b xn xc yn yc cl : Nat} {xa ya : Option Addr} {X Y : List (List Px)} (hsh : Sh w) (h : Tri w b xa ya xn xc yn yc X Y) :
    Calls Tryd.prog 30 #[.slice (some ⟨b, 0, none⟩) 3 cl] w fun e w' => AvYes w w' e (Y3 X Y) := by
  have HT : Hid (Tri w b xa ya xn xc yn yc X Y) := h
  have HSH : Hid (Sh w) := hsh
  have HCX : Hid (∀ u, Below w.heap.size w u → Calls Tryd.prog 27 #[.agg #[.slice xa xn xc]] u fun e u' => e = .returned (.int .i64 0) ∧ Below u.heap.size u u') := fun u hu => by
    have h := scheck_g (cT := xc) (HSH.out.to hu) (HT.out.gx.to hu) HT.out.nx HT.out.sx
    rwa [ckX_ok HT.out.ox] at h
  have HCY : Hid (∀ u, Below w.heap.size w u → Calls Tryd.prog 27 #[.agg #[.slice ya yn yc]] u fun e u' => e = .returned (.int .i64 0) ∧ Below u.heap.size u u') := fun u hu => by
    have h := scheck_g (cT := yc) (HSH.out.to hu) (HT.out.gy.to hu) HT.out.ny HT.out.sy
    rwa [ckX_ok HT.out.oy] at h
  have HRd : Hid (∀ u, Below w.heap.size w u → u.cell? ⟨b, 0, none⟩ = some (.slice xa xn xc) ∧ u.cell? ⟨b, 1, none⟩ = some (.slice ya yn yc) ∧ u.cell? ⟨b, 2, none⟩ = some (.slice xa xn xc)) := fun u hu => ⟨(HT.out.to hu).c0, (HT.out.to hu).c1, (HT.out.to hu).c2⟩
  have z0 : ((w.alloc (.cells #[.slice (some ⟨b, 0, none⟩) 3 cl] 67)).alloc (.cells #[.slice none 0 0] 25)).cell? ⟨w.heap.size, 0, none⟩ = some (.slice (some ⟨b, 0, none⟩) 3 cl) := by
    rw [newCell (from_alloc (w.alloc (.cells #[.slice (some ⟨b, 0, none⟩) 3 cl] 67)) _) _ _ (by simp)]; simp [go_sem]
  have HA : Hid (Aw w b cl ((w.alloc (.cells #[.slice (some ⟨b, 0, none⟩) 3 cl] 67)).alloc (.cells #[.slice none 0 0] 25))) := by
    have e1 : (w.alloc (.cells #[.slice (some ⟨b, 0, none⟩) 3 cl] 67)).heap.size = w.heap.size + 1 := by simp
    exact ⟨⟨by simp, by omega, to_alloc (from_alloc _ _) _, by rw [← e1]; simp [go_sem], by rw [← e1]; simp [go_sem]⟩, z0⟩
  clear hsh h
  go_enter Tryd.func30, Tryd.ntmps30
  go_wp2_with fail
  generalize ((w.alloc (.cells #[.slice (some ⟨b, 0, none⟩) 3 cl] 67)).alloc (.cells #[.slice none 0 0] 25)) = W at *
  clear z0
  go_loopw [13] (fun iv wr => (iv = .int .i64 0 ∨ iv = .int .i64 1 ∨ iv = .int .i64 2 ∨ iv = .int .i64 3) ∧ Aw w b cl wr) (fun iv _ => 3 - (intOf iv).toNat)
  case atStart => exact ⟨Or.inl rfl, HA.out⟩
  case round =>
    clear HA
    obtain ⟨hiv, hav⟩ := hrel
    have HV : Hid (Aw w b cl wr) := hav
    clear hav
    obtain ⟨y0, y1, y2⟩ := HRd.out _ HV.out.av.bel
    have HX : Hid (∀ u, Below wr.heap.size wr u → Calls Tryd.prog 27 #[.agg #[.slice xa xn xc]] u fun e u' => e = .returned (.int .i64 0) ∧ Aw w b cl u') := fun u hu => (HCX.out _ (below_to HV.out.av.bel hu)).mono fun e u' h => ⟨h.1, (HV.out.to hu).to h.2⟩
    have HY : Hid (∀ u, Below wr.heap.size wr u → Calls Tryd.prog 27 #[.agg #[.slice ya yn yc]] u fun e u' => e = .returned (.int .i64 0) ∧ Aw w b cl u') := fun u hu => (HCY.out _ (below_to HV.out.av.bel hu)).mono fun e u' h => ⟨h.1, (HV.out.to hu).to h.2⟩
    rcases hiv with rfl | rfl | rfl | rfl
    · go_wp2_with (go_at_call 27; refine (HX.out _ (from_alloc _ _)).mono ?_; rintro e w3 ⟨rfl, hav3⟩)
      go_roundw
      case rel => exact ⟨Or.inr (Or.inl rfl), hav3⟩
      case measure => simp [intOf]
    · go_wp2_with (go_at_call 27; refine (HY.out _ (from_alloc _ _)).mono ?_; rintro e w3 ⟨rfl, hav3⟩)
      go_roundw
      case rel => exact ⟨Or.inr (Or.inr (Or.inl rfl)), hav3⟩
      case measure => simp [intOf]
    · go_wp2_with (go_at_call 27; refine (HX.out _ (from_alloc _ _)).mono ?_; rintro e w3 ⟨rfl, hav3⟩)
      go_roundw
      case rel => exact ⟨Or.inr (Or.inr (Or.inr rfl)), hav3⟩
      case measure => simp [intOf]
    · have HFl : Hid (Calls Tryd.prog 55 #[.func (.func 56) #[] #[.pointer (some ⟨w.heap.size, 0, none⟩)]] wr fun e w' => Fset wr w' e (F3 X Y)) := filled_avg (HSH.out.to HV.out.av.bel) fun u k c hu hk hc => clos3 (HT.out.to (below_to HV.out.av.bel hu)) (HV.out.to hu).bx (by have := (HV.out.to hu).av.lt; omega) hk hc
      clear HX HY HCX HCY HRd y0 y1 y2
      go_wp2_with (go_at_call 55; refine HFl.out.mono ?_; rintro e w3 ⟨bt, K, rfl, hst, hK, hq, hdk, hb3⟩; have HF : Hid (Av w (w.heap.size + 1) w3) := HV.out.av.to hb3; have HS : Hid (St w3 wr.heap.size bt K ∧ K.length = 32 ∧ (∀ (j : Nat) p, K[j]? = some p → Fq (F3 X Y) j p) ∧ Dk wr.heap.size K) := ⟨hst, hK, hq, hdk⟩; have x2 := HF.out.res; have x3 := HF.out.rth; clear hst hK hq hdk hb3)
      refine bodyPost_ret (v := .tuple #[.agg #[.slice (some ⟨bt, 0, none⟩) 32 32], .int .i64 0]) (by simp [results, Tryd.results30, go_sem, x2]) rfl ⟨_, 32, rfl, ?_, below_set HF.out.bel HF.out.ge _⟩
      obtain ⟨hst, hK, hq, hdk⟩ := HS.out
      have hwl := HV.out.av.lt
      refine fset_gv (lo := wr.heap.size) (K := K) (hst.far _ _ (fun e => ?_) (fun p hp e => ?_) (fun p hp t ht b' o h1 h2 e => ?_)) hK hq
      · have := hst.blo; simp at e; omega
      · have := (hdk p hp).1; simp at e; omega
      · have := (hdk p hp).2 t ht b' o h1 h2; simp at e; omega

end Go.Proofs.YtppanogpeengnaaDoor
