/- DERIVED. UnitsAhead. -/
import Derived.Test.YtkippnfijjhobaaBp
namespace Go.Proofs.Ytkippnfijjhobaa
open Go.RowKit

theorem sz_take (P : List Pc) (k : Nat) : szP (P.take k) ≤ szP P := by
  have e : szP P = szP (P.take k) + szP (P.drop k) := by
    conv => lhs; rw [← List.take_append_drop k P]
    simp only [szP, List.map_append, List.sum_append]
  omega
theorem cutS_len2 : ∀ f b q, (cutS f b q).1.length ≤ f := by
  intro f
  induction f with
  | zero => intro b q; simp [cutS]
  | succ f ih =>
    intro b q
    rw [cutS]
    split
    · simp
    · split
      · simp
      · simp; exact ih _ _
theorem take_ok {P : List Pc} (h : ∀ p ∈ P, okP p) (k : Nat) : ∀ p ∈ P.take k, okP p := fun p hp => h p (List.mem_of_mem_take hp)
theorem By.app {w : World} {N B n c : Nat} {a : Option Addr} {C : List Nat} (hn : n = C.length) (h : w.ownsRow B 5 1 (.slice a n c) n (bs C)) (hb : ∀ i, C.getD i 0 < 256) (hl : C.length ≤ 140737488355328) (hN : w.heap.size = N) : By w N (.slice a n c) C := by subst hN; exact By.ofOwn hn h hb hl
theorem app_byt {A B : List Nat} (hA : ∀ i, A.getD i 0 < 256) (hB : ∀ i, B.getD i 0 < 256) : ∀ i, (A ++ B).getD i 0 < 256 := by
  intro i
  rcases Nat.lt_or_ge i A.length with hi | hi
  · rw [getD_app_l _ _ _ hi]; exact hA i
  · rw [List.getD_eq_getElem?_getD, List.getElem?_append_right hi, ← List.getD_eq_getElem?_getD]; exact hB _

set_option maxHeartbeats 4000000 in
set_option maxRecDepth 100000 in
theorem ahead_walk {W : World} {v u : Value} {P : List Pc} {b : List Nat} {x : Int} (h : Ob W W.heap.size v P) (hb : By W W.heap.size u b) (hz : szP P ≤ 4194304) (hL : b.length ≤ 1048576) : Calls Try.prog 7 #[v, u, .int .i64 x] W fun e w' => e = .returned (.bool true) ∧ Below W.heap.size W w' := by
  have hPl := len_sz P
  obtain ⟨a, c, rfl, _⟩ := h.sl
  obtain ⟨ab, cb, rfl, hcb, _⟩ := hb.ex
  have HP : Hid (Ob W W.heap.size (.slice a P.length c) P) := h
  have HB : Hid (By W W.heap.size (.slice ab b.length cb) b) := hb
  have HPl : Hid (P.length ≤ 4194304) := by show _ ≤ _; omega
  have HBl : Hid (b.length ≤ 1048576) := hL
  have HMs : Hid (szP (mayP P) ≤ 4194304) := by show _ ≤ _; have := mayP_sz P; omega
  clear h hb hz hPl hL hcb
  go_enter Try.func7, Try.ntmps7
  go_wp2_with fail
  refine (works_any _).mono ?_; rintro e w1 ⟨rfl, hb1⟩
  have HB1 : Hid (Below W.heap.size W w1) := hb1
  clear hb1
  go_wp2_with fail
  refine (may_any (HP.out.below HB1.out (Nat.le_refl _)) HB1.out.size (by have := HPl.out; omega)).mono ?_
  rintro e w2 ⟨v2, L2, rfl, hO2, hH2, hb2⟩
  have hMl := mayP_len P
  have hok := mayP_ok P
  have hMz := HMs.out
  generalize mayP P = M at *
  have HW2 : Hid (Below W.heap.size W w2) := below_to HB1.out hb2
  have hob2 : Ob w2 w2.heap.size v2 M := hO2.ob (hH2.mono HW2.out.size)
  have hSl := stream_len M hok
  have hSb := stream_byt hH2 hok
  obtain ⟨a2, c2, rfl, hc2⟩ := hob2.sl
  have HO2 : Hid (Ob w2 w2.heap.size (.slice a2 M.length c2) M) := hob2
  have HMZ : Hid (szP M ≤ 4194304) := hMz
  have HML : Hid (M.length ≤ 4194304) := by show _ ≤ _; rw [hMl]; exact HPl.out
  have HSL : Hid ((streamP M).length ≤ 4194304) := by show _ ≤ _; omega
  have HSB : Hid (∀ i, (streamP M).getD i 0 < 256) := hSb
  have hjs := join_stream M [] hok
  rw [List.nil_append] at hjs
  have HJS : Hid (joinP M [] = (streamP M, 0)) := hjs
  have HSA : Hid (splitP (streamP M ++ b) = (M ++ (splitP b).1, (streamP M).length + (splitP b).2.1, (splitP b).2.2)) := split_app M b hok
  have HCUT : Hid (∀ cut, cut ≤ (streamP M).length → ∃ k, k ≤ M.length ∧ (splitP ((streamP M).take cut)).1 = M.take k ∧ (splitP ((streamP M).take cut)).2.1 = (streamP (M.take k)).length ∧ ((splitP ((streamP M).take cut)).2.2 = 0 ∧ (streamP (M.take k)).length = cut ∨ (splitP ((streamP M).take cut)).2.2 = 3 ∧ (streamP (M.take k)).length ≠ cut) ∧ (k = M.length ∨ cut < (streamP (M.take (k + 1))).length)) := fun cut hc => split_cut M cut hok hc
  have HJT : Hid (∀ k, joinP (M.take k) [] = (streamP (M.take k), 0)) := fun k => by
    have := join_stream (M.take k) [] (take_ok hok k)
    rwa [List.nil_append] at this
  have HMC : Hid (M.length ≤ c2) := hc2
  clear hO2 hH2 hb2 hMl hok hMz hob2 hSl hSb hjs
  go_wp2_with fail
  refine (join_any HO2.out (Nat.le_refl _) (by have := HMZ.out; omega) (by have := HML.out; omega)).mono ?_
  rw [HJS.out]
  rintro e w3 ⟨a3, c3, rfl, ho3, hb3⟩
  simp only at *
  generalize streamP M = S at *
  have HO3 : Hid (w3.ownsRow w2.heap.size 5 1 (.slice a3 S.length c3) S.length (bs S)) := ho3
  have HB3 : Hid (Below w2.heap.size w2 w3) := hb3
  have HY3 : Hid (By w3 w3.heap.size (.slice a3 S.length c3) S) := By.ofOwn rfl ho3 HSB.out (by have := HSL.out; omega)
  have HW3 : Hid (Below W.heap.size W w3) := below_to HW2.out hb3
  clear ho3 hb3
  go_wp2_with fail
  refine (rcopy_any HY3.out).mono ?_; rintro e w4 ⟨a4, c4, rfl, ho4, hb4⟩
  have HB4 : Hid (Below w3.heap.size w3 w4) := hb4
  have HW4 : Hid (Below W.heap.size W w4) := below_to HW3.out hb4
  have hbb := HB.out.below HW4.out (Nat.le_refl _)
  have hs4 : w3.heap.size ≤ w4.heap.size := hb4.size
  have hl4 : S.length + b.length ≤ 1099511627776 := by have := HSL.out; have := HBl.out; omega
  clear hb4
  go_wp2_with (at_builtin; refine wpList_append_by _ (by rfl) _ _ (by rfl) w3.heap.size _ S.length S b _ _ rfl ho4 hbb hs4 hl4 (by rfl) (by rfl) ?_; intro a5 c5 w5 hO5 hg5 hb5)
  have HW5 : Hid (Below W.heap.size W w5) := HW4.out.trans (hb5.mono (by have := HW3.out.size; omega))
  have HB5 : Hid (Below w3.heap.size w3 w5) := HB4.out.trans hb5
  have hln : S.length + b.length = (S ++ b).length := by rw [List.length_append]
  have HY5 : Hid (By w5 w5.heap.size (.slice a5 (S ++ b).length c5) (S ++ b)) := by
    rw [hln] at hO5
    exact By.ofOwn rfl hO5 (app_byt HSB.out HB.out.byt) (by rw [← hln]; omega)
  have HLN : Hid ((S ++ b).length ≤ 1099511627776) := by show _ ≤ _; rw [← hln]; exact hl4
  rw [hln]
  clear ho4 hbb hs4 hl4 hg5 hb5 hO5 hln
  refine (split_any HY5.out (Nat.le_refl _) HLN.out).mono ?_
  rw [HSA.out]
  have hRl : (splitP b).1.length ≤ b.length := cutS_len2 _ _ _
  generalize hR : splitP b = R at *
  obtain ⟨N, q, er⟩ := R
  have HR : Hid (splitP b = (N, q, er)) := hR
  clear hR
  rintro e w6 ⟨v6, rfl, hl6, hb6⟩
  simp only at *
  have HO6 : Hid (Ol w6 w5.heap.size v6 (M ++ N)) := hl6
  have HB6 : Hid (Below w5.heap.size w5 w6) := hb6
  have HW6 : Hid (Below W.heap.size W w6) := below_to HW5.out hb6
  clear hl6 hb6
  go_wp2_with fail
  refine (split_any (HB.out.below HW6.out (Nat.le_refl _)) HW6.out.size (by have := HBl.out; omega)).mono ?_
  rw [HR.out]
  rintro e w7 ⟨v7, rfl, hl7, hb7⟩
  simp only at *
  have HO7 : Hid (Ol w7 w6.heap.size v7 N) := hl7
  have HB7 : Hid (Below w6.heap.size w6 w7) := hb7
  have HW7 : Hid (Below W.heap.size W w7) := below_to HW6.out hb7
  obtain ⟨a7, c7, rfl, _⟩ := hl7.sl
  have hob6 : Ob w7 w7.heap.size v6 (M ++ N) := (HO6.out.to hb7).ob
  obtain ⟨a6, c6, rfl, hc6⟩ := hob6.sl
  have hlMN : (M ++ N).length = M.length + N.length := List.length_append
  rw [hlMN] at hob6 hc6 ⊢
  have HSa : Hid (∀ t : World, Below w7.heap.size w7 t → Calls Try.prog 12 #[.slice (pa a6 c6 0 2) M.length c6, .slice a2 M.length c2] t fun e w' => e = .returned (.bool true) ∧ Below w7.heap.size w7 w') := fun t ht => by
    have h1 := (hob6.below ht (Nat.le_refl _)).part 0 M.length (by omega)
    rw [List.drop_zero, List.take_left, Nat.sub_zero] at h1
    have h2 := (HO2.out.below (HB3.out.trans ((HB5.out.trans ((below_to HB6.out HB7.out).mono HB5.out.size)).mono HB3.out.size)) (Nat.le_refl _)).below (ht.mono (by have := HB3.out.size; have := HB5.out.size; have := HB6.out.size; have := HB7.out.size; omega)) (Nat.le_refl _)
    refine (same_any h1 h2 (by have := HML.out; omega)).mono ?_
    rintro e w' ⟨rfl, k, rfl⟩
    exact ⟨by simp [sameP], below_drewN ht k⟩
  have HSb : Hid (∀ t : World, Below w7.heap.size w7 t → Calls Try.prog 12 #[.slice (pa a6 c6 M.length 2) N.length (c6 - M.length), .slice a7 N.length c7] t fun e w' => e = .returned (.bool true) ∧ Below w7.heap.size w7 w') := fun t ht => by
    have h1 := (hob6.below ht (Nat.le_refl _)).part M.length N.length (by rw [hlMN]; omega)
    rw [List.drop_left, List.take_of_length_le (Nat.le_refl _)] at h1
    refine (same_any h1 ((HO7.out.to ht).ob) (by have := hRl; have := HBl.out; omega)).mono ?_
    rintro e w' ⟨rfl, k, rfl⟩
    exact ⟨by simp [sameP], below_drewN ht k⟩
  have hcuta : ∀ t : World, (Instr.sliceAt 24 (.slice a6 (M.length + N.length) c6) none (some (.int .i64 (M.length : Int))) none).run Try.prog t = .ok (.slice (pa a6 c6 0 2) M.length c6) t := fun t => ocut_to rfl (by omega) t
  have hcutb : ∀ t : World, (Instr.sliceAt 24 (.slice a6 (M.length + N.length) c6) (some (.int .i64 (M.length : Int))) none none).run Try.prog t = .ok (.slice (pa a6 c6 M.length 2) N.length (c6 - M.length)) t := fun t => by
    have := ocut_from (a := a6) (n := M.length + N.length) (c := c6) (lo := M.length) (k := .i64) rfl (by omega) t
    rwa [Nat.add_sub_cancel_left] at this
  have hqS : S.length ≤ 4194304 := HSL.out
  have hqq : q ≤ 1048576 := by
    have := (split_back HB.out.byt).2.1
    rw [HR.out] at this
    have := HBl.out
    simp only at *
    omega
  have hMl' : M.length ≤ 4194304 := HML.out
  have hNl' : N.length ≤ 1048576 := by have := HBl.out; omega
  have hi1 : (0 : Int) ≤ (M.length : Int) := by omega
  have hi2 : (M.length : Int) ≤ (M.length : Int) + (N.length : Int) := by omega
  have HD7 : Hid (Below w7.heap.size w7 w7) := Below.refl _ _
  clear hob6 hc6 hl7 hb7 hRl hlMN
  generalize pa a6 c6 0 2 = A8 at *
  generalize pa a6 c6 M.length 2 = A9 at *
  generalize c6 - M.length = c9 at *
  go_wp2_with (first | (go_at_call 12; first | ((with_reducible refine (HSa.out _ HD7.out).mono ?_); rintro e w8 ⟨rfl, hb8⟩) | ((with_reducible refine (HSb.out _ hb8).mono ?_); rintro e w9 ⟨rfl, hb9⟩)) | fail)
  have HB9 : Hid (Below w7.heap.size w7 w9) := hb9
  have HW9 : Hid (Below W.heap.size W w9) := below_to HW7.out hb9
  obtain ⟨k, hk, hkS⟩ : ∃ k : Nat, x % ((S.length : Int) + 1) = (k : Int) ∧ k ≤ S.length := by
    have h1 := Int.emod_nonneg x (show ((S.length : Int) + 1) ≠ 0 by omega)
    have h2 := Int.emod_lt_of_pos x (show 0 < ((S.length : Int) + 1) by omega)
    exact ⟨(x % ((S.length : Int) + 1)).toNat, by omega, by omega⟩
  have HBR : Hid (∀ t : World, Calls Try.prog 22 #[.int .i64 x, .int .i64 ((S.length : Int) + 1)] t fun e w' => e = .returned (.int .i64 (k : Int)) ∧ t = w') := fun t => by
    have := bring_any (w := t) (i := x) (n := (S.length : Int) + 1) (by omega) (by omega)
    rw [hk] at this
    exact this
  obtain ⟨kk, hk1, hk2, hk3, hk4, hk5⟩ := HCUT.out k hkS
  have hSc : S.length ≤ c3 := HY3.out.ln.2
  have h39 : Below w3.heap.size w3 w9 := (HB5.out.trans ((below_to HB6.out HB7.out).mono HB5.out.size)).trans (hb9.mono (by have := HB5.out.size; have := HB6.out.size; have := HB7.out.size; omega))
  have h29 : Below w2.heap.size w2 w9 := HB3.out.trans (h39.mono HB3.out.size)
  have H29 : Hid (Below w2.heap.size w2 w9) := h29
  have hcut : ∀ t : World, (Instr.sliceAt 22 (.slice a3 S.length c3) none (some (.int .i64 (k : Int))) none).run Try.prog t = .ok (.slice (pa a3 c3 0 1) k c3) t := fun t => cut_to rfl (by omega) t
  have hyk : By w9 w9.heap.size (.slice (pa a3 c3 0 1) k c3) (S.take k) := by
    have := ((HY3.out.below h39 (Nat.le_refl _)).part 0 k (by omega)).mono h39.size
    rwa [List.drop_zero, Nat.sub_zero] at this
  have hkl : (S.take k).length = k := by rw [List.length_take]; omega
  have HYK : Hid (By w9 w9.heap.size (.slice (pa a3 c3 0 1) k c3) (S.take k)) := hyk
  have hTl : (M.take kk).length = kk := by rw [List.length_take]; omega
  have HTL : Hid ((M.take kk).length = kk) := hTl
  have HK5 : Hid (kk = M.length ∨ k < (streamP (M.take (kk + 1))).length) := hk5
  have HSP : Hid (∃ h : Nat, splitP (S.take k) = (M.take kk, (streamP (M.take kk)).length, h) ∧ (h = 0 ∧ (streamP (M.take kk)).length = k ∨ h = 3 ∧ (streamP (M.take kk)).length ≠ k)) := by
    exact ⟨(splitP (S.take k)).2.2, Prod.ext hk2 (Prod.ext hk3 rfl), hk4⟩
  have hen : (streamP (M.take kk)).length ≤ k := by
    have := (split_back (b := S.take k) hyk.byt).2.1
    rw [hk3, hkl] at this
    exact this
  have hk0 : (0 : Int) ≤ (k : Int) := by omega
  have hkI : (k : Int) ≤ (S.length : Int) := by omega
  have hkkI : (kk : Int) ≤ (M.length : Int) := by omega
  clear hb8 hb9 hk hk2 hk3 hk4 hk5 h39 h29 hyk hTl HSa HSb hcuta hcutb
  refine (HBR.out _).mono ?_; rintro e w10 ⟨rfl, rfl⟩
  generalize pa a3 c3 0 1 = A10 at *
  go_wp2_with fail
  have hspl := split_any HYK.out (Nat.le_refl _) (by rw [hkl]; omega)
  refine hspl.mono ?_
  obtain ⟨hh, hs1, hs2⟩ := HSP.out
  rw [hs1]
  rintro e w11 ⟨v11, rfl, hl11, hb11⟩
  simp only at *
  obtain ⟨a11, c11, rfl, _⟩ := hl11.sl
  rw [HTL.out]
  have HO11 : Hid (Ol w11 w9.heap.size (.slice a11 kk c11) (M.take kk)) := by
    have := hl11
    rw [HTL.out] at this
    exact this
  have HB11 : Hid (Below w9.heap.size w9 w11) := hb11
  have HW11 : Hid (Below W.heap.size W w11) := below_to HW9.out hb11
  have h211 : Below w2.heap.size w2 w11 := H29.out.trans (hb11.mono H29.out.size)
  have hM : Ob w11 w2.heap.size (.slice a2 M.length c2) M := HO2.out.below h211 (Nat.le_refl _)
  have hMc := HMC.out
  have hpt : ∀ n, n ≤ M.length → Ob w11 w2.heap.size (.slice (pa a2 c2 0 2) n c2) (M.take n) := fun n hn => by
    have := hM.part 0 n (by omega)
    rwa [List.drop_zero, Nat.sub_zero] at this
  have hcutk : ∀ t : World, (Instr.sliceAt 24 (.slice a2 M.length c2) none (some (.int .i64 (kk : Int))) none).run Try.prog t = .ok (.slice (pa a2 c2 0 2) kk c2) t := fun t => ocut_to rfl (by omega) t
  obtain ⟨k2, hk2⟩ : ∃ k2, k2 = min (kk + 1) M.length := ⟨_, rfl⟩
  have hcut2 : ∀ t : World, (Instr.sliceAt 24 (.slice a2 M.length c2) none (some (.int .i64 (min ((kk : Int) + 1) (M.length : Int)))) none).run Try.prog t = .ok (.slice (pa a2 c2 0 2) k2 c2) t := fun t => ocut_to (by omega) (by omega) t
  have HPK : Hid (Ob w11 w2.heap.size (.slice (pa a2 c2 0 2) kk c2) (M.take kk)) := hpt kk hk1
  have HPN : Hid (Ob w11 w2.heap.size (.slice (pa a2 c2 0 2) k2 c2) (M.take k2)) := hpt k2 (by omega)
  have HSS : Hid (Calls Try.prog 12 #[.slice a11 kk c11, .slice (pa a2 c2 0 2) kk c2] w11 fun e w' => e = .returned (.bool true) ∧ Below w11.heap.size w11 w') := by
    refine (same_any HO11.out.ob HPK.out (by rw [HTL.out]; omega)).mono ?_
    rintro e w' ⟨rfl, k, rfl⟩
    exact ⟨by simp [sameP], below_drewN (Below.refl _ _) k⟩
  have HJ1 : Hid (∀ t, Below w11.heap.size w11 t → Calls Try.prog 17 #[.slice (pa a2 c2 0 2) kk c2] t fun e w' => JnQ t.heap.size t (streamP (M.take kk), 0) e w') := fun t ht => by
    have := join_any (HPK.out.below ht h211.size) (Nat.le_trans h211.size ht.size) (by have := sz_take M kk; have := HMZ.out; omega) (by rw [HTL.out]; omega)
    rw [HJT.out kk] at this
    exact this
  have HJ2 : Hid (∀ t, Below w11.heap.size w11 t → Calls Try.prog 17 #[.slice (pa a2 c2 0 2) k2 c2] t fun e w' => JnQ t.heap.size t (streamP (M.take k2), 0) e w') := fun t ht => by
    have := join_any (HPN.out.below ht h211.size) (Nat.le_trans h211.size ht.size) (by have := sz_take M k2; have := HMZ.out; omega) (by rw [List.length_take]; omega)
    rw [HJT.out k2] at this
    exact this
  have HNX : Hid (kk = M.length ∨ k < (streamP (M.take k2)).length) := by
    rcases HK5.out with e | e
    · exact Or.inl e
    · rcases Nat.lt_or_ge kk M.length with h | h
      · refine Or.inr ?_
        rw [hk2, Nat.min_eq_left (by omega)]
        exact e
      · exact Or.inl (by omega)
  clear hl11 hb11 hspl hM hMc hpt hk2 h211
  generalize pa a2 c2 0 2 = A11 at *
  generalize (streamP (M.take kk)) = E1 at *
  generalize (streamP (M.take k2)) = E2 at *
  have HEND : Hid (∀ w12, Below w11.heap.size w11 w12 → Below W.heap.size W w12) := fun w12 h => below_to HW11.out h
  rcases hs2 with ⟨rfl, he⟩ | ⟨rfl, he⟩
  · have hee : ((E1.length : Int) == (k : Int)) = true := by simp [he]
    clear he
    go_wp2_with fail
    refine HSS.out.mono ?_; rintro e w12 ⟨rfl, hb12⟩
    go_wp2_with fail
    refine (HJ1.out _ hb12).mono ?_; rintro e w13 ⟨a13, c13, rfl, _, hb13⟩
    simp only
    go_wp2_with fail
    refine (HJ2.out _ (below_to hb12 hb13)).mono ?_; rintro e w14 ⟨a14, c14, rfl, _, hb14⟩
    simp only
    have HB14 : Hid (Below W.heap.size W w14) := HEND.out _ (below_to (below_to hb12 hb13) hb14)
    by_cases hkM : kk = M.length
    · have hq : ((kk : Int) == (M.length : Int)) = true := by simp [hkM]
      clear hkM
      go_wp2_with fail
      go_ret
      exact ⟨rfl, HB14.out⟩
    · have hq : ((kk : Int) == (M.length : Int)) = false := by simp; omega
      have hlt : (k : Int) < (E2.length : Int) := by have := HNX.out.resolve_left hkM; omega
      clear hkM
      go_wp2_with fail
      go_ret
      exact ⟨rfl, HB14.out⟩
  · have hee : ((E1.length : Int) == (k : Int)) = false := by simp; omega
    clear he
    go_wp2_with fail
    refine HSS.out.mono ?_; rintro e w12 ⟨rfl, hb12⟩
    go_wp2_with fail
    refine (HJ1.out _ hb12).mono ?_; rintro e w13 ⟨a13, c13, rfl, _, hb13⟩
    simp only
    go_wp2_with fail
    refine (HJ2.out _ (below_to hb12 hb13)).mono ?_; rintro e w14 ⟨a14, c14, rfl, _, hb14⟩
    simp only
    have HB14 : Hid (Below W.heap.size W w14) := HEND.out _ (below_to (below_to hb12 hb13) hb14)
    by_cases hkM : kk = M.length
    · have hq : ((kk : Int) == (M.length : Int)) = true := by simp [hkM]
      clear hkM
      go_wp2_with fail
      go_ret
      exact ⟨rfl, HB14.out⟩
    · have hq : ((kk : Int) == (M.length : Int)) = false := by simp; omega
      have hlt : (k : Int) < (E2.length : Int) := by have := HNX.out.resolve_left hkM; omega
      clear hkM
      go_wp2_with fail
      go_ret
      exact ⟨rfl, HB14.out⟩
end Go.Proofs.Ytkippnfijjhobaa
