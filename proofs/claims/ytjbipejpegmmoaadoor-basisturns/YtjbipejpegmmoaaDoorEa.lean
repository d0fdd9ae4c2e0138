/- DERIVED. The walk of BasisLossless. -/
import Derived.Test.YtjbipejpegmmoaaDoorDc
namespace Go.Proofs.YtjbipejpegmmoaaDoor
open Go.RowKit

theorem inv_to {w : World} {a : Option Addr} {n c : Nat} {k : Int} {C : List Int} (hq : Qt w) (hs : Si w a C) (hn : C.length = n) (hm : tkB (kL k) C = true) :
    Calls Tryd.prog 15 #[.int .i64 k, .slice a n c] w fun e w' => N2 w w' e (invR k C) := by
  subst hn; exact inv_yes hq hs hm
theorem fwd_to {w : World} {a : Option Addr} {n c : Nat} {k : Int} {C : List Int} (hq : Qt w) (hs : Si w a C) (hn : C.length = n) (hm : tkB (kL k) C = true) :
    Calls Tryd.prog 14 #[.int .i64 k, .slice a n c] w fun e w' => N2 w w' e (fwdR k C) := by
  subst hn; exact fwd_yes hq hs hm
theorem eq_to {w : World} {a b : Option Addr} {n m c d : Nat} {C D : List Int} (h1 : Si w a C) (h2 : Si w b D) (hn : C.length = n) (hm : D.length = m) (e : C = D) (hl : n ≤ 140737488355328) :
    Calls Tryd.prog 16 #[.slice a n c, .slice b m d] w fun e w' => e = .returned (.bool true) ∧ Below w.heap.size w w' := by
  subst e; subst hn; subst hm
  have := eqInts_any (c := c) (d := d) h1 h2 hl hl
  rwa [eqI_self] at this

theorem mst4 {a b c d M : Int} (h0 : -M ≤ a ∧ a ≤ M) (h1 : -M ≤ b ∧ b ≤ M) (h2 : -M ≤ c ∧ c ≤ M) (h3 : -M ≤ d ∧ d ≤ M) : Mst [a, b, c, d] M := by
  intro k hk
  have : k = 0 ∨ k = 1 ∨ k = 2 ∨ k = 3 := by simp at hk; omega
  rcases this with rfl | rfl | rfl | rfl
  · exact h0
  · exact h1
  · exact h2
  · exact h3
theorem four_of {C : List Int} (h : C.length = 4) : C = [C.getD 0 0, C.getD 1 0, C.getD 2 0, C.getD 3 0] := by
  match C, h with
  | [a, b, c, d], _ => rfl
theorem wht_back1 (a b c d : Int) : whtI ((whtF a b c d).getD 0 0) ((whtF a b c d).getD 1 0) ((whtF a b c d).getD 2 0) ((whtF a b c d).getD 3 0) = [a, b, c, d] := by
  simp only [whtI, whtF, List.getD_cons_zero, List.getD_cons_succ]
  congr 1; omega
  congr 1; omega
  congr 1; omega
  congr 1; omega
theorem wht_back2 (a b c d : Int) : whtF ((whtI a b c d).getD 0 0) ((whtI a b c d).getD 1 0) ((whtI a b c d).getD 2 0) ((whtI a b c d).getD 3 0) = [a, b, c, d] := by
  simp only [whtI, whtF, List.getD_cons_zero, List.getD_cons_succ]
  congr 1; omega
  congr 1; omega
  congr 1; omega
  congr 1; omega
theorem kL3 : kL 3 = 4 := rfl
theorem wht_ok {C : List Int} {M : Int} (hn : C.length = 4) (hC : Mst C M) (hM : M ≤ 1048576) : tkB (kL 3) C = true :=
  tkB_mk (by omega) (by rw [kL3]; omega) (by rw [hn]; rfl) (fun k hk => by have := hC k hk; omega)
theorem fwht_ok {C : List Int} (hn : C.length = 4) (hC : Mst C 262144) : tkB (kL 3) (fwdR 3 C) = true ∧ (fwdR 3 C).length = 4 ∧ invR 3 (fwdR 3 C) = C := by
  have b0 := hC 0 (by omega)
  have b1 := hC 1 (by omega)
  have b2 := hC 2 (by omega)
  have b3 := hC 3 (by omega)
  refine ⟨wht_ok (M := 1048576) rfl ?_ (by omega), rfl, ?_⟩
  · refine mst4 ?_ ?_ ?_ ?_ <;> omega
  · exact (wht_back1 _ _ _ _).trans (four_of hn).symm
theorem iwht_ok {C : List Int} (hn : C.length = 4) (hC : Mst C 262144) : tkB (kL 3) (invR 3 C) = true ∧ (invR 3 C).length = 4 ∧ fwdR 3 (invR 3 C) = C := by
  have b0 := hC 0 (by omega)
  have b1 := hC 1 (by omega)
  have b2 := hC 2 (by omega)
  have b3 := hC 3 (by omega)
  refine ⟨wht_ok (M := 1048576) rfl ?_ (by omega), rfl, ?_⟩
  · refine mst4 ?_ ?_ ?_ ?_ <;> omega
  · exact (wht_back2 _ _ _ _).trans (four_of hn).symm

set_option maxRecDepth 100000 in
set_option maxHeartbeats 2000000 in
theorem lossless_walk {w : World} {a : Option Addr} {c : Nat} {C : List Int} (hq : Qt w) (hs : Si w a C) (hl : C.length ≤ 140737488355328) :
    Calls Tryd.prog 5 #[.slice a C.length c] w fun e w' => e = .returned (.bool true) ∧ Below w.heap.size w w' := by
  have HQ : Hid (Qt w) := hq
  have HS : Hid (Si w a C) := hs
  clear hq hs
  go_enter Tryd.func5, Tryd.ntmps5
  go_wp2_with fail
  refine (works_any HQ.out).mono ?_
  rintro e w1 ⟨rfl, hb1⟩
  have HB1 : Hid (Below w.heap.size w w1) := hb1
  have HR : Hid (Calls Tryd.prog 13 #[.slice a C.length c, .int .i64 4, .int .i64 262144] w1 fun e w' => Rn w1 w' e 4 262144) := row_any (n := 4) (HS.out.to hb1) hl (by omega) (by omega) (by omega)
  have HQ1 : Hid (Qt w1) := HQ.out.to hb1
  clear hb1
  go_wp2_with fail
  refine HR.out.mono ?_
  rintro e w2 ⟨x, cx, D, rfl, hD, hM, hx, hb2⟩
  have HN : Hid (D.length = 4) := hD
  have HF := fwht_ok hD hM
  have HI := iwht_ok hD hM
  have HT : Hid (tkB (kL 3) D = true) := wht_ok hD hM (by omega)
  have F0 : Hid (tkB (kL 3) (fwdR 3 D) = true) := HF.1
  have F1 : Hid ((fwdR 3 D).length = 4) := HF.2.1
  have F2 : Hid (invR 3 (fwdR 3 D) = D) := HF.2.2
  have I0 : Hid (tkB (kL 3) (invR 3 D) = true) := HI.1
  have I1 : Hid ((invR 3 D).length = 4) := HI.2.1
  have I2 : Hid (fwdR 3 (invR 3 D) = D) := HI.2.2
  generalize hA : fwdR 3 D = A at *
  generalize hB : invR 3 D = B at *
  have E1 : Hid (fwdR 3 D = A) := hA
  have E2 : Hid (invR 3 D = B) := hB
  clear hA hB
  have HX : Hid (Si w2 x D) := hx
  have HB2 : Hid (Below w.heap.size w w2) := below_to HB1.out hb2
  have HQ2 : Hid (Qt w2) := HQ1.out.to hb2
  clear hD hM hx hb2 HF HI
  go_wp2_with fail
  refine (fwd_to (k := 3) HQ2.out HX.out HN.out HT.out).mono ?_
  rintro e w3 ⟨g3, rfl, -, hr3, hb3⟩
  rw [E1.out, F1.out]
  rw [E1.out] at hr3
  have HX3 : Hid (Si w3 x D) := HX.out.to hb3
  have HA3 : Hid (Ri 3 w3 g3 A) := hr3
  have HB3 : Hid (Below w.heap.size w w3) := below_to HB2.out hb3
  have HQ3 : Hid (Qt w3) := HQ2.out.to hb3
  clear hr3 hb3
  go_wp2_with fail
  refine (inv_to (k := 3) HQ3.out HA3.out.si F1.out F0.out).mono ?_
  rintro e w4 ⟨g4, rfl, -, hr4, hb4⟩
  rw [F2.out, HN.out]
  rw [F2.out] at hr4
  have HX4 : Hid (Si w4 x D) := HX3.out.to hb4
  have HD4 : Hid (Ri 3 w4 g4 D) := hr4
  have HB4 : Hid (Below w.heap.size w w4) := below_to HB3.out hb4
  have HQ4 : Hid (Qt w4) := HQ3.out.to hb4
  clear hr4 hb4
  go_wp2_with fail
  refine (inv_to (k := 3) HQ4.out HX4.out HN.out HT.out).mono ?_
  rintro e w5 ⟨g5, rfl, -, hr5, hb5⟩
  rw [E2.out, I1.out]
  rw [E2.out] at hr5
  have HX5 : Hid (Si w5 x D) := HX4.out.to hb5
  have HD5 : Hid (Ri 3 w5 g4 D) := HD4.out.to hb5
  have HB5b : Hid (Ri 3 w5 g5 B) := hr5
  have HB5 : Hid (Below w.heap.size w w5) := below_to HB4.out hb5
  have HQ5 : Hid (Qt w5) := HQ4.out.to hb5
  clear hr5 hb5
  go_wp2_with fail
  refine (fwd_to (k := 3) HQ5.out HB5b.out.si I1.out I0.out).mono ?_
  rintro e w6 ⟨g6, rfl, -, hr6, hb6⟩
  rw [I2.out, HN.out]
  rw [I2.out] at hr6
  have HX6 : Hid (Si w6 x D) := HX5.out.to hb6
  have HD6 : Hid (Ri 3 w6 g4 D) := HD5.out.to hb6
  have HE6 : Hid (Ri 3 w6 g6 D) := hr6
  have HB6 : Hid (Below w.heap.size w w6) := below_to HB5.out hb6
  clear hr6 hb6
  go_wp2_with fail
  refine (eq_to HD6.out.si HX6.out HN.out HN.out rfl (by decide)).mono ?_
  rintro e w7 ⟨rfl, hb7⟩
  have HX7 : Hid (Si w7 x D) := HX6.out.to hb7
  have HE7 : Hid (Ri 3 w7 g6 D) := HE6.out.to hb7
  have HB7 : Hid (Below w.heap.size w w7) := below_to HB6.out hb7
  clear hb7
  go_wp2_with fail
  refine (eq_to HE7.out.si HX7.out HN.out HN.out rfl (by decide)).mono ?_
  rintro e w8 ⟨rfl, hb8⟩
  have HB8 : Hid (Below w.heap.size w w8) := below_to HB7.out hb8
  clear hb8
  go_wp2_with fail
  go_ret
  exact ⟨rfl, HB8.out⟩

end Go.Proofs.YtjbipejpegmmoaaDoor
