/- DERIVED. What is laid is cut, in lists; the walk of the statements' own 'inside'. -/
import Derived.Test.YtlgfkkegehpllaaLa
namespace Go.Proofs.Ytlgfkkegehpllaa
open Go.RowKit

theorem cut_lay {x y X Y w h : Nat} {C B : List Nat} (hl : C.length = x * y) (hB : B.length = w * h) (hX : X + w ≤ x) (hY : Y + h ≤ y) : cutL x (layL x C X Y w B h) X Y w h = B := by
  refine list_eq_of_getD (by rw [cutL_len, hB]) fun j hj => ?_
  rw [cutL_len] at hj
  have hw : 0 < w := by
    rcases Nat.eq_zero_or_pos w with e | e
    · subst e; simp at hj
    · exact e
  unfold cutL
  rw [tab_get _ hj]
  unfold cutF
  have hd := div_of hj
  obtain ⟨p, hm⟩ := parts j w hw
  obtain ⟨e1, e2⟩ := dm_of (y := Y + j / w) (w := x) (r := X + j % w) (by omega)
  have hk : (Y + j / w) * x + (X + j % w) < C.length := by rw [hl]; exact at_lt (by omega) (by omega)
  rw [layL_get hk]
  unfold layF
  rw [e1, e2]
  clear hk e1 e2
  generalize j / w = d at *
  generalize j % w = m at *
  rw [if_pos (by omega), show Y + d - Y = d from by omega, show X + m - X = m from by omega, ← p]
theorem lay_back {x y X Y w h : Nat} {C B : List Nat} (hx : 1 ≤ x) (hl : C.length = x * y) : layL x (layL x C X Y w B h) X Y w (cutL x C X Y w h) h = C := by
  refine list_eq_of_getD (by rw [layL_len, layL_len]) fun j hj => ?_
  rw [layL_len, layL_len] at hj
  rw [layL_get (by rw [layL_len]; exact hj)]
  unfold layF
  obtain ⟨p, hm⟩ := parts j x (by omega)
  have hd := div_of (w := x) (h := y) (i := j) (by omega)
  by_cases hin : X ≤ j % x ∧ j % x < X + w ∧ Y ≤ j / x ∧ j / x < Y + h
  · rw [if_pos hin]
    obtain ⟨e1, e2⟩ := dm_of (y := j / x - Y) (w := w) (r := j % x - X) (by omega)
    have hk : (j / x - Y) * w + (j % x - X) < w * h := at_lt (by omega) (by omega)
    unfold cutL
    rw [tab_get _ hk]
    unfold cutF
    rw [e1, e2]
    clear hk e1 e2
    generalize j / x = d at *
    generalize j % x = m at *
    rw [show Y + (d - Y) = d from by omega, show X + (m - X) = m from by omega, ← p]
  · rw [if_neg hin, layL_get hj]
    unfold layF
    rw [if_neg hin]
theorem lay_out {x X Y w h i : Nat} {C B : List Nat} (hi : i < C.length) (hn : ¬ (X ≤ i % x ∧ i % x < X + w ∧ Y ≤ i / x ∧ i / x < Y + h)) : (layL x C X Y w B h).getD i 0 = C.getD i 0 := by
  rw [layL_get hi]; unfold layF; rw [if_neg hn]

/-- a rectangle within is answered -/
def Rin (u w' : World) (e : Ending) (x y : Nat) : Prop := ∃ X Y w h : Nat, e = .returned (.agg #[.int .i64 (X : Int), .int .i64 (Y : Int), .int .i64 (w : Int), .int .i64 (h : Int)]) ∧ 1 ≤ w ∧ 1 ≤ h ∧ X + w ≤ x ∧ Y + h ≤ y ∧ Below u.heap.size u w'

theorem bring_nat {i : Int} {n : Nat} (h : 1 ≤ n) (h1 : n ≤ 1000000) : ∃ k : Nat, k < n ∧ ∀ v : World, Calls Try.prog 30 #[.int .i64 i, .int .i64 (n : Int)] v fun e w' => e = .returned (.int .i64 (k : Int)) ∧ w' = v := by
  have hb := br_in (i := i) (n := (n : Int)) (by omega)
  refine ⟨(br i (n : Int)).toNat, by omega, fun v => ?_⟩
  have := bring_any (u := v) (i := i) (n := (n : Int)) (by omega)
  rwa [show br i (n : Int) = (((br i (n : Int)).toNat : Nat) : Int) from by omega] at this

set_option maxRecDepth 100000 in
set_option maxHeartbeats 2000000 in
theorem inside_ok {u : World} {a : Option Addr} {n c x y : Nat} {RX RY RW RH : Int} (hx0 : 1 ≤ x) (hx1 : x ≤ 512) (hy0 : 1 ≤ y) (hy1 : y ≤ 512) :
    Calls Try.prog 43 #[.agg #[.int .i64 (x : Int), .int .i64 (y : Int), .slice a n c], .agg #[.int .i64 RX, .int .i64 RY, .int .i64 RW, .int .i64 RH]] u fun e w' => Rin u w' e x y := by
  obtain ⟨k1, hk1, B1⟩ := bring_nat (i := RW) hx0 (by omega)
  obtain ⟨k2, hk2, B2⟩ := bring_nat (i := RH) hy0 (by omega)
  obtain ⟨w, hw⟩ : ∃ w, w = 1 + k1 := ⟨_, rfl⟩
  obtain ⟨h, hh⟩ : ∃ h, h = 1 + k2 := ⟨_, rfl⟩
  obtain ⟨d1, hd1⟩ : ∃ d, d = x - w := ⟨_, rfl⟩
  obtain ⟨d2, hd2⟩ : ∃ d, d = y - h := ⟨_, rfl⟩
  obtain ⟨n1, hn1⟩ : ∃ d, d = d1 + 1 := ⟨_, rfl⟩
  obtain ⟨n2, hn2⟩ : ∃ d, d = d2 + 1 := ⟨_, rfl⟩
  obtain ⟨X, hX, B3⟩ := bring_nat (i := RX) (n := n1) (by omega) (by omega)
  obtain ⟨Y, hY, B4⟩ := bring_nat (i := RY) (n := n2) (by omega) (by omega)
  have HB1 : Hid (∀ v : World, Calls Try.prog 30 #[.int .i64 RW, .int .i64 (x : Int)] v fun e w' => e = .returned (.int .i64 (k1 : Int)) ∧ w' = v) := B1
  have HB2 : Hid (∀ v : World, Calls Try.prog 30 #[.int .i64 RH, .int .i64 (y : Int)] v fun e w' => e = .returned (.int .i64 (k2 : Int)) ∧ w' = v) := B2
  have HB3 : Hid (∀ v : World, Calls Try.prog 30 #[.int .i64 RX, .int .i64 (n1 : Int)] v fun e w' => e = .returned (.int .i64 (X : Int)) ∧ w' = v) := B3
  have HB4 : Hid (∀ v : World, Calls Try.prog 30 #[.int .i64 RY, .int .i64 (n2 : Int)] v fun e w' => e = .returned (.int .i64 (Y : Int)) ∧ w' = v) := B4
  have e1 : IntKind.i64.wrap (1 + (k1 : Int)) = (w : Int) := by rw [IntKind.wrap_i64]; omega
  have e2 : IntKind.i64.wrap (1 + (k2 : Int)) = (h : Int) := by rw [IntKind.wrap_i64]; omega
  have e3 : IntKind.i64.wrap ((x : Int) - (w : Int)) = (d1 : Int) := by rw [IntKind.wrap_i64]; omega
  have e4 : IntKind.i64.wrap ((y : Int) - (h : Int)) = (d2 : Int) := by rw [IntKind.wrap_i64]; omega
  have e5 : IntKind.i64.wrap ((d1 : Int) + 1) = (n1 : Int) := by rw [IntKind.wrap_i64]; omega
  have e6 : IntKind.i64.wrap ((d2 : Int) + 1) = (n2 : Int) := by rw [IntKind.wrap_i64]; omega
  have HE : Hid (1 ≤ w ∧ 1 ≤ h ∧ X + w ≤ x ∧ Y + h ≤ y) := by unfold Hid; omega
  clear B1 B2 B3 B4 hw hh hd1 hd2 hn1 hn2 hX hY hk1 hk2
  have c0 : (((u.alloc (.cells #[.int .i64 (x : Int), .int .i64 (y : Int), .slice a n c] 24)).alloc (.cells #[.int .i64 RX, .int .i64 RY, .int .i64 RW, .int .i64 RH] 40)).alloc (.cells #[.int .i64 0, .int .i64 0, .int .i64 0, .int .i64 0] 40)).cell? ⟨u.heap.size, 0, none⟩ = some (.int .i64 (x : Int)) := by simp [go_sem]
  have c1 : (((u.alloc (.cells #[.int .i64 (x : Int), .int .i64 (y : Int), .slice a n c] 24)).alloc (.cells #[.int .i64 RX, .int .i64 RY, .int .i64 RW, .int .i64 RH] 40)).alloc (.cells #[.int .i64 0, .int .i64 0, .int .i64 0, .int .i64 0] 40)).cell? ⟨u.heap.size, 1, none⟩ = some (.int .i64 (y : Int)) := by simp [go_sem]
  have c2 : (((u.alloc (.cells #[.int .i64 (x : Int), .int .i64 (y : Int), .slice a n c] 24)).alloc (.cells #[.int .i64 RX, .int .i64 RY, .int .i64 RW, .int .i64 RH] 40)).alloc (.cells #[.int .i64 0, .int .i64 0, .int .i64 0, .int .i64 0] 40)).cell? ⟨u.heap.size + 1, 0, none⟩ = some (.int .i64 RX) := by simp [go_sem]
  have c3 : (((u.alloc (.cells #[.int .i64 (x : Int), .int .i64 (y : Int), .slice a n c] 24)).alloc (.cells #[.int .i64 RX, .int .i64 RY, .int .i64 RW, .int .i64 RH] 40)).alloc (.cells #[.int .i64 0, .int .i64 0, .int .i64 0, .int .i64 0] 40)).cell? ⟨u.heap.size + 1, 1, none⟩ = some (.int .i64 RY) := by simp [go_sem]
  have c4 : (((u.alloc (.cells #[.int .i64 (x : Int), .int .i64 (y : Int), .slice a n c] 24)).alloc (.cells #[.int .i64 RX, .int .i64 RY, .int .i64 RW, .int .i64 RH] 40)).alloc (.cells #[.int .i64 0, .int .i64 0, .int .i64 0, .int .i64 0] 40)).cell? ⟨u.heap.size + 1, 2, none⟩ = some (.int .i64 RW) := by simp [go_sem]
  have c5 : (((u.alloc (.cells #[.int .i64 (x : Int), .int .i64 (y : Int), .slice a n c] 24)).alloc (.cells #[.int .i64 RX, .int .i64 RY, .int .i64 RW, .int .i64 RH] 40)).alloc (.cells #[.int .i64 0, .int .i64 0, .int .i64 0, .int .i64 0] 40)).cell? ⟨u.heap.size + 1, 3, none⟩ = some (.int .i64 RH) := by simp [go_sem]
  have c6 : (((u.alloc (.cells #[.int .i64 (x : Int), .int .i64 (y : Int), .slice a n c] 24)).alloc (.cells #[.int .i64 RX, .int .i64 RY, .int .i64 RW, .int .i64 RH] 40)).alloc (.cells #[.int .i64 0, .int .i64 0, .int .i64 0, .int .i64 0] 40)).cell? ⟨u.heap.size + 1 + 1, 0, none⟩ = some (.int .i64 0) := by simp [go_sem]
  have c7 : (((u.alloc (.cells #[.int .i64 (x : Int), .int .i64 (y : Int), .slice a n c] 24)).alloc (.cells #[.int .i64 RX, .int .i64 RY, .int .i64 RW, .int .i64 RH] 40)).alloc (.cells #[.int .i64 0, .int .i64 0, .int .i64 0, .int .i64 0] 40)).cell? ⟨u.heap.size + 1 + 1, 1, none⟩ = some (.int .i64 0) := by simp [go_sem]
  have c8 : (((u.alloc (.cells #[.int .i64 (x : Int), .int .i64 (y : Int), .slice a n c] 24)).alloc (.cells #[.int .i64 RX, .int .i64 RY, .int .i64 RW, .int .i64 RH] 40)).alloc (.cells #[.int .i64 0, .int .i64 0, .int .i64 0, .int .i64 0] 40)).cell? ⟨u.heap.size + 1 + 1, 2, none⟩ = some (.int .i64 0) := by simp [go_sem]
  have c9 : (((u.alloc (.cells #[.int .i64 (x : Int), .int .i64 (y : Int), .slice a n c] 24)).alloc (.cells #[.int .i64 RX, .int .i64 RY, .int .i64 RW, .int .i64 RH] 40)).alloc (.cells #[.int .i64 0, .int .i64 0, .int .i64 0, .int .i64 0] 40)).cell? ⟨u.heap.size + 1 + 1, 3, none⟩ = some (.int .i64 0) := by simp [go_sem]
  have f0 : (((u.alloc (.cells #[.int .i64 (x : Int), .int .i64 (y : Int), .slice a n c] 24)).alloc (.cells #[.int .i64 RX, .int .i64 RY, .int .i64 RW, .int .i64 RH] 40)).alloc (.cells #[.int .i64 0, .int .i64 0, .int .i64 0, .int .i64 0] 40)).frozen? ⟨u.heap.size + 1 + 1, 0, none⟩ = false := by simp [go_sem]
  have f1 : (((u.alloc (.cells #[.int .i64 (x : Int), .int .i64 (y : Int), .slice a n c] 24)).alloc (.cells #[.int .i64 RX, .int .i64 RY, .int .i64 RW, .int .i64 RH] 40)).alloc (.cells #[.int .i64 0, .int .i64 0, .int .i64 0, .int .i64 0] 40)).frozen? ⟨u.heap.size + 1 + 1, 1, none⟩ = false := by simp [go_sem]
  have f2 : (((u.alloc (.cells #[.int .i64 (x : Int), .int .i64 (y : Int), .slice a n c] 24)).alloc (.cells #[.int .i64 RX, .int .i64 RY, .int .i64 RW, .int .i64 RH] 40)).alloc (.cells #[.int .i64 0, .int .i64 0, .int .i64 0, .int .i64 0] 40)).frozen? ⟨u.heap.size + 1 + 1, 2, none⟩ = false := by simp [go_sem]
  have f3 : (((u.alloc (.cells #[.int .i64 (x : Int), .int .i64 (y : Int), .slice a n c] 24)).alloc (.cells #[.int .i64 RX, .int .i64 RY, .int .i64 RW, .int .i64 RH] 40)).alloc (.cells #[.int .i64 0, .int .i64 0, .int .i64 0, .int .i64 0] 40)).frozen? ⟨u.heap.size + 1 + 1, 3, none⟩ = false := by simp [go_sem]
  have HBV : Hid (Below u.heap.size u (((u.alloc (.cells #[.int .i64 (x : Int), .int .i64 (y : Int), .slice a n c] 24)).alloc (.cells #[.int .i64 RX, .int .i64 RY, .int .i64 RW, .int .i64 RH] 40)).alloc (.cells #[.int .i64 0, .int .i64 0, .int .i64 0, .int .i64 0] 40))) := to_alloc (to_alloc (from_alloc _ _) _) _
  have hVz : u.heap.size + 1 + 1 < (((u.alloc (.cells #[.int .i64 (x : Int), .int .i64 (y : Int), .slice a n c] 24)).alloc (.cells #[.int .i64 RX, .int .i64 RY, .int .i64 RW, .int .i64 RH] 40)).alloc (.cells #[.int .i64 0, .int .i64 0, .int .i64 0, .int .i64 0] 40)).heap.size := by simp
  have HZ : Hid _ := hVz
  go_enter Try.func43, Try.ntmps43
  go_wp2_with fail
  generalize (((u.alloc (.cells #[.int .i64 (x : Int), .int .i64 (y : Int), .slice a n c] 24)).alloc (.cells #[.int .i64 RX, .int .i64 RY, .int .i64 RW, .int .i64 RH] 40)).alloc (.cells #[.int .i64 0, .int .i64 0, .int .i64 0, .int .i64 0] 40)) = V at *
  have HK : Hid (∀ t : World, Kf (u.heap.size + 1 + 1) V t → (t.cell? ⟨u.heap.size, 0, none⟩ = some (.int .i64 (x : Int)) ∧ t.cell? ⟨u.heap.size, 1, none⟩ = some (.int .i64 (y : Int)) ∧ t.cell? ⟨u.heap.size + 1, 0, none⟩ = some (.int .i64 RX) ∧ t.cell? ⟨u.heap.size + 1, 1, none⟩ = some (.int .i64 RY) ∧ Kf (u.heap.size + 1 + 1) V t)) := fun t ht => ⟨by rw [ht.cell _ _ (by omega) (by omega)]; exact c0, by rw [ht.cell _ _ (by omega) (by omega)]; exact c1, by rw [ht.cell _ _ (by omega) (by omega)]; exact c2, by rw [ht.cell _ _ (by omega) (by omega)]; exact c3, ht⟩
  have KD : Hid (∀ m, Kf (u.heap.size + 1 + 1) V (V.drewN m)) := fun m => (Kf.refl _ _).drewN m
  go_quiet ((first | (go_at_call 30; with_reducible exact Calls.quiet_of_same (HB1.out _)) | (go_at_call 30; with_reducible exact Calls.quiet_of_same (HB2.out _))))
  go_wp2_with fail
  go_region_held3 (fun t => t.cell? ⟨u.heap.size, 0, none⟩ = some (.int .i64 (x : Int)) ∧ t.cell? ⟨u.heap.size, 1, none⟩ = some (.int .i64 (y : Int)) ∧ t.cell? ⟨u.heap.size + 1, 0, none⟩ = some (.int .i64 RX) ∧ t.cell? ⟨u.heap.size + 1, 1, none⟩ = some (.int .i64 RY) ∧ Kf (u.heap.size + 1 + 1) V t)
    ((exact HK.out _ (by first | exact (KD.out _).drew | exact (((((KD.out _).drew).kb (Kb.setCell _ _ _ _)).kb (Kb.setCell _ _ _ _)).kb (Kb.setCell _ _ _ _)).kb (Kb.setCell _ _ _ _))))
    ((first | (go_at_call 30; (with_reducible refine (HB3.out _).mono ?_); rintro e w3 ⟨rfl, hw3⟩; replace hw3 := hw3.symm; subst hw3) | (go_at_call 30; (with_reducible refine (HB4.out _).mono ?_); rintro e w4 ⟨rfl, hw4⟩; replace hw4 := hw4.symm; subst hw4)))
  go_wp2_with fail
  refine bodyPost_ret (v := .agg #[.int .i64 (X : Int), .int .i64 (Y : Int), .int .i64 (w : Int), .int .i64 (h : Int)]) (by simp [results, Try.results43, go_sem, c6, c7, c8, c9]) rfl ?_
  obtain ⟨h1, h2, h3, h4⟩ := HE.out
  exact ⟨X, Y, w, h, rfl, h1, h2, h3, h4, below_set (below_set (below_set (below_set (below_drew (below_drewN HBV.out _)) (by simp; omega) _) (by simp; omega) _) (by simp; omega) _) (by simp; omega) _⟩

end Go.Proofs.Ytlgfkkegehpllaa
