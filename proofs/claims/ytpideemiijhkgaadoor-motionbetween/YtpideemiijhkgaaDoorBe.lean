/- DERIVED. What lies between; slices cut to a length; what blends answer. -/
import Derived.Test.YtpideemiijhkgaaDoorBl
namespace Go.Proofs.YtpideemiijhkgaaDoor
open Go.RowKit

set_option maxRecDepth 100000 in
theorem between_yes {w : World} {v a b : Nat} (_ : v < 256) (ha : a < 256) (hb : b < 256) (h : min a b ≤ v ∧ v ≤ max a b) :
    Calls Tryd.prog 30 #[.int .u8 (v : Int), .int .u8 (a : Int), .int .u8 (b : Int)] w fun e w' => e = .returned (.bool true) ∧ w' = w := by
  by_cases hab : a < b
  · have i0 : (a : Int) < (b : Int) := by omega
    have i1 : (a : Int) ≤ (v : Int) := by omega
    have i2 : (v : Int) ≤ (b : Int) := by omega
    clear h
    go_enter Tryd.func30, Tryd.ntmps30
    go_wp2_with fail
    go_ret
    exact ⟨rfl, rfl⟩
  · by_cases hba : b < a
    · have i0 : (b : Int) < (a : Int) := by omega
      have i1 : (b : Int) ≤ (v : Int) := by omega
      have i2 : (v : Int) ≤ (a : Int) := by omega
      clear h hab
      go_enter Tryd.func30, Tryd.ntmps30
      go_wp2_with fail
      go_ret
      exact ⟨rfl, rfl⟩
    · obtain rfl : a = b := by omega
      obtain rfl : v = a := by omega
      clear h hab hba
      go_enter Tryd.func30, Tryd.ntmps30
      go_wp2_with fail
      go_ret
      exact ⟨rfl, rfl⟩

/-- s[:n] -/
theorem cut_to {a : Option Addr} {len c n : Nat} (hn : n ≤ c) : ∃ a' : Option Addr, (∀ t : World, (Instr.sliceAt 22 (.slice a len c) none (some (.int .i64 (n : Int))) none).run Tryd.prog t = .ok (.slice a' n c) t) ∧ ∀ (w : World) (C : List Nat), Sl w .u8 a C → Sl w .u8 a' (C.take n) := by
  refine ⟨if c = 0 then a else a.map (·.add 0), fun t => ?_, fun w C h => ?_⟩
  · have hs : (sizeOf 5).run Tryd.prog t = .ok 1 t := by rfl
    simp only [Instr.sliceAt, Sem.run_bind, run_underlying Tryd.underlying22, Result.andThen]
    have h2 : (n : Int) ≤ (c : Int) := by omega
    simp [Instr.slice, run_underlying Tryd.underlying22, Instr.sliceBounds, run_sliceBound, h2]
  · by_cases h0 : C.length = 0
    · exact Or.inl (by rw [List.eq_nil_of_length_eq_zero h0]; simp)
    · obtain ⟨b, o, rfl, hl, hc⟩ := h.form (by omega)
      have e : (if c = 0 then some (⟨b, o, none⟩ : Addr) else (some (⟨b, o, none⟩ : Addr)).map (·.add 0)) = some ⟨b, o, none⟩ := by
        split
        · rfl
        · simp [addr_add]
      rw [e]
      refine Or.inr ⟨b, o, rfl, hl, fun j hj => ?_⟩
      rw [List.length_take] at hj
      rw [hc j (by omega), List.getD_eq_getElem?_getD, List.getD_eq_getElem?_getD, List.getElem?_take_of_lt (by omega)]
theorem take_byt {C : List Nat} (h : Byt C) (n : Nat) : Byt (C.take n) := fun j => by
  by_cases hj : j < n
  · rw [List.getD_eq_getElem?_getD, List.getElem?_take_of_lt hj, ← List.getD_eq_getElem?_getD]; exact h j
  · rw [List.getD_eq_getElem?_getD, List.getElem?_eq_none (by rw [List.length_take]; omega)]; exact Nat.zero_lt_succ _
theorem take_get {C : List Nat} {n j : Nat} (hj : j < n) : (C.take n).getD j 0 = C.getD j 0 := by rw [List.getD_eq_getElem?_getD, List.getElem?_take_of_lt hj, ← List.getD_eq_getElem?_getD]

/-- what is blended lies between both; beside the rectangle nothing is changed -/
structure Good (C D : List Nat) (bw X Y rw rh : Int) (L : List Nat) : Prop where
  len : L.length = C.length
  byt : Byt L
  ex : ∃ w' h' X' Y' rw' rh' : Nat, bw = (w' : Int) ∧ X = (X' : Int) ∧ Y = (Y' : Int) ∧ rw = (rw' : Int) ∧ rh = (rh' : Int) ∧ 1 ≤ w' ∧ w' ≤ 64 ∧ 1 ≤ h' ∧ h' ≤ 64 ∧ C.length = w' * h' ∧ 1 ≤ rw' ∧ 1 ≤ rh' ∧ X' + rw' ≤ w' ∧ Y' + rh' ≤ h' ∧ D.length = rw' * rh' ∧
    (∀ i, i < C.length → ¬ (X' ≤ i % w' ∧ i % w' < X' + rw' ∧ Y' ≤ i / w' ∧ i / w' < Y' + rh') → L.getD i 0 = C.getD i 0) ∧
    (∀ i, i < C.length → X' ≤ i % w' ∧ i % w' < X' + rw' ∧ Y' ≤ i / w' ∧ i / w' < Y' + rh' → (i / w' - Y') * rw' + (i % w' - X') < D.length ∧ min (C.getD i 0) (D.getD ((i / w' - Y') * rw' + (i % w' - X')) 0) ≤ L.getD i 0 ∧ L.getD i 0 ≤ max (C.getD i 0) (D.getD ((i / w' - Y') * rw' + (i % w' - X')) 0))
theorem mbL_good {C D : List Nat} (hC : Byt C) (hD : Byt D) {w h X Y rw rh : Nat} {kf : Nat → Nat → Nat} (hk : ∀ x y, x < rw → y < rh → kf x y ≤ 64) (k0 : 1 ≤ w) (k1 : w ≤ 64) (k2 : 1 ≤ h) (k3 : h ≤ 64) (k4 : C.length = w * h) (k5 : 1 ≤ rw) (k6 : 1 ≤ rh) (k7 : X + rw ≤ w) (k8 : Y + rh ≤ h) (k9 : D.length = rw * rh) :
    Good C D (w : Int) (X : Int) (Y : Int) (rw : Int) (rh : Int) (mbL w C X Y rw rh kf D) := by
  have out : ∀ i, i < C.length → ¬ (X ≤ i % w ∧ i % w < X + rw ∧ Y ≤ i / w ∧ i / w < Y + rh) → (mbL w C X Y rw rh kf D).getD i 0 = C.getD i 0 := fun i hi hn => by
    unfold mbL
    rw [layL_get hi]
    unfold layF
    rw [if_neg hn]
  have ins : ∀ i, i < C.length → X ≤ i % w ∧ i % w < X + rw ∧ Y ≤ i / w ∧ i / w < Y + rh → (i / w - Y) * rw + (i % w - X) < rw * rh ∧ (mbL w C X Y rw rh kf D).getD i 0 = bl (kf (i % w - X) (i / w - Y)) (C.getD i 0) (D.getD ((i / w - Y) * rw + (i % w - X)) 0) ∧ kf (i % w - X) (i / w - Y) ≤ 64 := fun i hi h1 => by
    obtain ⟨p1, p2⟩ := parts i w k0
    have hx : i % w - X < rw := by omega
    have hy : i / w - Y < rh := by omega
    have hlt : (i / w - Y) * rw + (i % w - X) < rw * rh := at_lt hy hx
    obtain ⟨e1, e2⟩ := ix_parts (y := i / w - Y) hx
    refine ⟨hlt, ?_, hk _ _ hx hy⟩
    unfold mbL
    rw [layL_get hi]
    unfold layF
    rw [if_pos h1]
    unfold blB
    rw [tab_get _ hlt, e1, e2]
    unfold cutF
    rw [e1, e2, show Y + (i / w - Y) = i / w from by omega, show X + (i % w - X) = i % w from by omega, ← p1]
  refine ⟨mbL_len _ _ _ _ _ _ _ _, fun i => ?_, w, h, X, Y, rw, rh, rfl, rfl, rfl, rfl, rfl, k0, k1, k2, k3, k4, k5, k6, k7, k8, k9, out, fun i hi h1 => ?_⟩
  · by_cases hi : i < C.length
    · by_cases h1 : X ≤ i % w ∧ i % w < X + rw ∧ Y ≤ i / w ∧ i / w < Y + rh
      · obtain ⟨_, e, hk'⟩ := ins i hi h1
        rw [e]
        exact bl_lt hk' (hC i) (hD _)
      · rw [out i hi h1]; exact hC i
    · rw [List.getD_eq_getElem?_getD, List.getElem?_eq_none (by rw [mbL_len]; omega)]; exact Nat.zero_lt_succ _
  · obtain ⟨hlt, e, hk'⟩ := ins i hi h1
    rw [e, k9]
    exact ⟨hlt, bl_mid hk'⟩
/-- what Above and Left answer -/
theorem above_any {C D : List Nat} (hC : Byt C) (hD : Byt D) (lC : C.length ≤ 140737488355328) (w X Y rw rh : Int) (bX : X ≤ 9223372036854775807) (bY : Y ≤ 9223372036854775807) : ∃ (L : List Nat) (er : Int), ((er = 2 ∧ L = []) ∨ (er = 0 ∧ Good C D w X Y rw rh L)) ∧
    (∀ (t : World) (a b : Option Addr) (c d : Nat), Sl t .u8 a C → Sl t .u8 b D → C.length ≤ c → Calls Tryd.prog 22 #[.slice a C.length c, .int .i64 w, .agg #[.int .i64 X, .int .i64 Y, .int .i64 rw, .int .i64 rh], .slice b D.length d] t fun e w' => Rs t w' e L er) := by
  by_cases h : (4 ≤ rh ∧ rh ≤ 32) ∧ BOk C w X Y rw rh D
  · obtain ⟨⟨d0, d1⟩, hb⟩ := h
    obtain ⟨w', h', X', Y', rw', rh', rfl, rfl, rfl, rfl, rfl, k0, k1, k2, k3, k4, k5, k6, k7, k8, k9⟩ := hb.nat
    exact ⟨mbL w' C X' Y' rw' rh' (fun _ y => wt rh' y) D, 0, Or.inr ⟨rfl, mbL_good hC hD (fun x y _ hy => by have := wt_in hy; omega) k0 k1 k2 k3 k4 k5 k6 k7 k8 k9⟩, fun t a b c d hs ht hc => (above_ok hs hC ht hD k0 k1 k2 k3 k4 hc k5 k6 k7 k8 k9 (by omega) (by omega)).mono fun _ _ k => k.rs⟩
  · exact ⟨[], 2, Or.inl ⟨rfl, rfl⟩, fun t a b c d hs _ hc => (above_no hs hc lC bX bY h).mono fun _ _ k => rs_no k⟩
theorem left_any {C D : List Nat} (hC : Byt C) (hD : Byt D) (lC : C.length ≤ 140737488355328) (w X Y rw rh : Int) (bX : X ≤ 9223372036854775807) (bY : Y ≤ 9223372036854775807) : ∃ (L : List Nat) (er : Int), ((er = 2 ∧ L = []) ∨ (er = 0 ∧ Good C D w X Y rw rh L)) ∧
    (∀ (t : World) (a b : Option Addr) (c d : Nat), Sl t .u8 a C → Sl t .u8 b D → C.length ≤ c → Calls Tryd.prog 24 #[.slice a C.length c, .int .i64 w, .agg #[.int .i64 X, .int .i64 Y, .int .i64 rw, .int .i64 rh], .slice b D.length d] t fun e w' => Rs t w' e L er) := by
  by_cases h : (4 ≤ rw ∧ rw ≤ 32) ∧ BOk C w X Y rw rh D
  · obtain ⟨⟨d0, d1⟩, hb⟩ := h
    obtain ⟨w', h', X', Y', rw', rh', rfl, rfl, rfl, rfl, rfl, k0, k1, k2, k3, k4, k5, k6, k7, k8, k9⟩ := hb.nat
    exact ⟨mbL w' C X' Y' rw' rh' (fun x _ => wt rw' x) D, 0, Or.inr ⟨rfl, mbL_good hC hD (fun x y hx _ => by have := wt_in hx; omega) k0 k1 k2 k3 k4 k5 k6 k7 k8 k9⟩, fun t a b c d hs ht hc => (left_ok hs hC ht hD k0 k1 k2 k3 k4 hc k5 k6 k7 k8 k9 (by omega) (by omega)).mono fun _ _ k => k.rs⟩
  · exact ⟨[], 2, Or.inl ⟨rfl, rfl⟩, fun t a b c d hs _ hc => (left_no hs hc lC bX bY h).mono fun _ _ k => rs_no k⟩

end Go.Proofs.YtpideemiijhkgaaDoor
