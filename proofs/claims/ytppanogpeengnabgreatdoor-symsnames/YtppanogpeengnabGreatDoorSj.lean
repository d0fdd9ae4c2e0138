/- DERIVED. A coder that writes: Symbol, bit, Bits, Bytes; Set and Count of any coder. -/
import Derived.Test.YtppanogpeengnabGreatDoorSi
namespace Go.Proofs.YtppanogpeengnabGreatDoor
open Go.RowKit L3
variable {Z : Nat → Option Obj}

/-- the table of a kind and context -/
theorem Co.at {w : World} {lo x bt : Nat} {po pi : Value} {K : List (Nat × List Tb)} {ad : Bool} {n : Int} {E : Nat → Prop} (h : Co Z w lo x po pi bt K ad n E) {kk c : Nat} (hk : kk < 32) (hc : c < sC kk) :
    ∃ p s, K[kk]? = some p ∧ p.2[c]? = some s ∧ p.2.length = sC kk ∧ s.C.length = sV kk ∧ TOk s.C s.n := by
  have hkl : kk < K.length := by rw [h.ok.1]; exact hk
  have hp := List.getElem?_eq_getElem hkl
  obtain ⟨h1, h2⟩ := h.ok.2 kk _ hp
  have hcl : c < K[kk].2.length := by rw [h1]; exact hc
  have hs := List.getElem?_eq_getElem hcl
  exact ⟨_, _, hp, hs, h1, (h2 _ (List.getElem_mem _)).1, (h2 _ (List.getElem_mem _)).2⟩
def SymW (Z : Nat → Option Obj) (w w' : World) (lo x bt : Nat) (K : List (Nat × List Tb)) (ad : Bool) (n : Int) (xe : Nat) (T g k kk c v a b : Nat) : Prop :=
  ∃ d' K', CW Z w' lo x bt K' ad (n + 1) xe d' (L2.ePut T g k a b).1 (L2.ePut T g k a b).2.1 (L2.ePut T g k a b).2.2 ∧ Adp K ad kk c v K' ∧ Below lo w w'
theorem CW.count {w : World} {lo x bt : Nat} {K : List (Nat × List Tb)} {ad : Bool} {n m : Int} {xe : Nat} {d : Value} {T g k : Nat} (h : CW Z w lo x bt K ad n xe d T g k) : CW Z (w.setCell ⟨x, 4, none⟩ (.int .i64 m)) lo x bt K ad m xe d T g k :=
  ⟨h.co.count, h.en.carry (Below.heap_setCell _ _ _ _ (fun e => h.co.ex (Or.inl e.symm))) (fun b hb => Below.heap_setCell _ _ _ _ (fun e => h.co.ex (Or.inr (by have e' : b = x := e; rw [← e']; exact hb)))) (by rw [setCell_size]; exact Nat.le_refl _), h.ev⟩

set_option maxRecDepth 100000 in
set_option maxHeartbeats 4000000 in
theorem symbol_w {w : World} {lo x bt : Nat} {K : List (Nat × List Tb)} {ad : Bool} {n : Int} {xe : Nat} {d : Value} {T g k : Nat} (h : CW Z w lo x bt K ad n xe d T g k) (hsh : Sh w) (hkb : k ≤ 1099511626000) (hn0 : 0 ≤ n) (hn1 : n ≤ 1152921504606846976) {kk c v : Nat} (hk : kk < 32) (hc : c < sC kk) (hv : v < sV kk) {p : Nat × List Tb} {s : Tb} (hp : K[kk]? = some p) (hs : p.2[c]? = some s) :
    Calls Tryz.prog 4 #[.pointer (some ⟨x, 0, none⟩), .int .i64 kk, .int .i64 c, .int .i64 v] w fun e w' => e = .returned (.tuple #[.int .i64 v, .int .i64 0]) ∧ SymW Z w w' lo x bt K ad n xe T g k kk c v (eb s.C v) (ee s.C v) := by
  have hlo : lo ≤ w.heap.size := Nat.le_trans h.co.xlo (Nat.le_of_lt h.co.low)
  have hsv : s.C.length = sV kk := ((h.co.ok.2 kk p hp).2 s (List.mem_of_getElem? hs)).1
  have HPL : Hid (p.2.length = sC kk) := (h.co.ok.2 kk p hp).1
  have HCW : Hid (CW Z w lo x bt K ad n xe d T g k) := h
  have HP : Hid (K[kk]? = some p) := hp
  have HS : Hid (p.2[c]? = some s) := hs
  have HSV : Hid (v < s.C.length) := by unfold Hid; rw [hsv]; exact hv
  have q0 := h.co.o
  have b0 : ¬ (c : Int) < 0 := by omega
  have b1 : ¬ (sC kk : Int) ≤ (c : Int) := by omega
  have b2 : ¬ (v : Int) < 0 := by omega
  have b3 : ¬ (sV kk : Int) ≤ (v : Int) := by omega
  have b4 : 0 ≤ (kk : Int) := by omega
  have b5 : (kk : Int) < 32 := by omega
  have b6 : 0 ≤ (c : Int) := by omega
  have b7 : (c : Int) < (sC kk : Int) := by omega
  clear h hp hs hsv
  go_enter Tryz.func4, Tryz.ntmps4
  go_wp2_with fail
  refine (none_w q0).mono ?_
  rintro e w1 ⟨rfl, rfl⟩
  go_wp2_with fail
  refine (shape_ok hsh hk).mono ?_
  rintro e w2 ⟨rfl, hb2⟩
  have HC2 : Hid (CW Z w2 lo x bt K ad n xe d T g k) := HCW.out.to hb2
  have HB2 : Hid (Below lo _ w2) := hb2.mono hlo
  have HS2 : Hid (lo ≤ w2.heap.size) := Nat.le_trans hlo hb2.size
  clear hb2 q0
  have q0 := HC2.out.co.o
  have q2 := HC2.out.co.t
  have qt : w2.cell? ⟨bt, kk, none⟩ = some (.slice (some ⟨p.1, 0, none⟩) (sC kk) (sC kk)) := by have := HC2.out.co.st.hd kk p HP.out; rw [HPL.out] at this; exact this
  go_wp2_with fail
  refine (writes_w q0).mono ?_
  rintro e w3 ⟨rfl, rfl⟩
  go_wp2_with fail
  refine (code_w HC2.out hkb HP.out HS.out HSV.out HS2.out).mono ?_
  rintro e w4 ⟨rfl, d', K', hc4, ha4, hb4⟩
  have HC4 : Hid (CW Z w4 lo x bt K' ad n xe d' (L2.ePut T g k (eb s.C v) (ee s.C v)).1 (L2.ePut T g k (eb s.C v) (ee s.C v)).2.1 (L2.ePut T g k (eb s.C v) (ee s.C v)).2.2) := hc4
  have HB4 : Hid (Below lo _ w4) := HB2.out.trans hb4
  have HF : Hid (SymW Z _ (w4.setCell ⟨x, 4, none⟩ (.int .i64 (n + 1))) lo x bt K ad n xe T g k kk c v (eb s.C v) (ee s.C v)) := ⟨d', K', hc4.count, ha4, below_set HB4.out hc4.co.xlo _⟩
  clear hc4 ha4 hb4 q0 q2 qt HC2 HB2 HB4
  have q4 := HC4.out.co.c
  have q5 := HC4.out.co.th
  go_wp2_with fail
  exact bodyPost_ret (v := .tuple #[.int .i64 v, .int .i64 0]) (by simp [results, Tryz.results4, go_sem]) rfl ⟨rfl, HF.out⟩

set_option maxRecDepth 100000 in
set_option maxHeartbeats 400000 in
theorem bit_w {w : World} {lo x bt : Nat} {K : List (Nat × List Tb)} {ad : Bool} {n : Int} {xe : Nat} {d : Value} {T g k : Nat} (h : CW Z w lo x bt K ad n xe d T g k) (hkb : k ≤ 1099511626000) {b pa pe : Nat} (hb : b < 2) (hpa : pa = 16384 * b) (hpe : pe = pa + 16384) :
    Calls Tryz.prog 21 #[.pointer (some ⟨x, 0, none⟩), .int .i64 b] w fun e w' => e = .returned (.int .i64 b) ∧ NarW Z w w' lo x bt K ad n xe T g k pa pe := by
  have HCW : Hid (CW Z w lo x bt K ad n xe d T g k) := h
  have q0 := h.co.o
  have HPA : Hid (pa = 16384 * b) := hpa
  have HPE : Hid (pe = pa + 16384) := hpe
  clear h hpa hpe
  go_enter Tryz.func21, Tryz.ntmps21
  go_wp2_with fail
  refine (writes_w q0).mono ?_
  rintro e w1 ⟨rfl, rfl⟩
  go_wp2_with fail
  rw [show (16384 : Int) * (b : Int) = (pa : Int) from by have := HPA.out; omega, show (pa : Int) + 16384 = (pe : Int) from by have := HPE.out; omega]
  refine (narrow_w HCW.out hkb pa pe (by have := HPE.out; omega) (by have := HPA.out; have := HPE.out; omega)).mono ?_
  rintro e w2 ⟨rfl, hn⟩
  have HN : Hid (NarW Z _ w2 lo x bt K ad n xe T g k pa pe) := hn
  clear hn
  go_wp2_with fail
  go_ret
  exact ⟨rfl, HN.out⟩

end Go.Proofs.YtppanogpeengnabGreatDoor
