/- DERIVED. UnitsBack. -/
import Derived.Test.YtkippnfijjhobaaPz
import Derived.Test.YtkippnfijjhobaaJp
import Derived.Test.YtkippnfijjhobaaTt
namespace Go.Proofs.Ytkippnfijjhobaa
open Go.RowKit

theorem mayP_ok (P : List Pc) : ∀ p ∈ mayP P, okP p := by
  intro p hp
  obtain ⟨q, _, rfl⟩ := List.mem_map.1 hp
  refine ⟨(tyB_iff _).2 ?_, ?_⟩
  · have h1 := Int.emod_nonneg q.1 (show (3 : Int) ≠ 0 by omega)
    have h2 := Int.emod_lt_of_pos q.1 (show (0 : Int) < 3 by omega)
    simp only
    omega
  · simp only [List.length_take]; omega
theorem mayP_sz (P : List Pc) : szP (mayP P) ≤ szP P := by
  induction P with
  | nil => simp [mayP]
  | cons p t ih =>
    have e1 : szP (p :: t) = p.2.length + 6 + szP t := by simp [szP]
    have e2 : szP (mayP (p :: t)) = (p.2.take 1048576).length + 6 + szP (mayP t) := by simp [szP, mayP]
    rw [e1, e2, List.length_take]
    omega
theorem stream_len (P : List Pc) (h : ∀ p ∈ P, okP p) : (streamP P).length ≤ szP P := by
  have := joinP_len P []
  rw [join_stream P [] h] at this
  simpa using this
theorem sz_stream (P : List Pc) : szP P ≤ 6 * (streamP P).length := by
  induction P with
  | nil => simp [szP]
  | cons p t ih =>
    have e1 : szP (p :: t) = p.2.length + 6 + szP t := by simp [szP]
    have e2 := lebB_len p.2.length
    rw [e1, stream_cons, List.length_append]
    simp only [pcB, List.length_cons, List.length_append]
    omega
theorem pcs_byt {w : World} {N : Nat} {L : List Oh} {P : List Pc} (h : Hs w N L P) : ∀ j, j < P.length → ∀ i, (P.getD j p0).2.getD i 0 < 256 := fun j hj => (h.at' j hj).by'.byt
theorem stream_byt {w : World} {N : Nat} {L : List Oh} {P : List Pc} (h : Hs w N L P) (ho : ∀ p ∈ P, okP p) : ∀ i, (streamP P).getD i 0 < 256 := by
  have := joinP_byt P [] (pcs_byt h) (by simp)
  rw [join_stream P [] ho] at this
  simpa using this
theorem len_sz (P : List Pc) : P.length ≤ szP P := by
  induction P with
  | nil => simp
  | cons p t ih =>
    have e1 : szP (p :: t) = p.2.length + 6 + szP t := by simp [szP]
    rw [e1, List.length_cons]; omega

set_option maxHeartbeats 4000000 in
set_option maxRecDepth 100000 in
theorem back_walk {W : World} {v u : Value} {P : List Pc} {b : List Nat} (h : Ob W W.heap.size v P) (hb : By W W.heap.size u b) (hz : szP P ≤ 4194304) (hL : b.length ≤ 1048576) : Calls Try.prog 6 #[v, u] W fun e w' => e = .returned (.bool true) ∧ Below W.heap.size W w' := by
  have hPl := len_sz P
  obtain ⟨a, c, rfl, _⟩ := h.sl
  obtain ⟨ab, cb, rfl, hcb, _⟩ := hb.ex
  have HP : Hid (Ob W W.heap.size (.slice a P.length c) P) := h
  have HB : Hid (By W W.heap.size (.slice ab b.length cb) b) := hb
  have HZ : Hid (szP P ≤ 4194304) := hz
  have HPl : Hid (P.length ≤ 4194304) := by show _ ≤ _; omega
  have HBl : Hid (b.length ≤ 1048576) := hL
  have HMs : Hid (szP (mayP P) ≤ 4194304) := by show _ ≤ _; have := mayP_sz P; omega
  clear h hb hz hPl hL
  go_enter Try.func6, Try.ntmps6
  go_wp2_with fail
  refine (works_any _).mono ?_; rintro e w1 ⟨rfl, hb1⟩
  have HB1 : Hid (Below W.heap.size W w1) := hb1
  clear hb1
  go_wp2_with fail
  refine (may_any (HP.out.below HB1.out (Nat.le_refl _)) HB1.out.size (by have := HPl.out; omega)).mono ?_
  rintro e w2 ⟨v2, L2, rfl, hO2, hH2, hb2⟩
  have hMl := mayP_len P
  have hok := mayP_ok P
  have hMz := HMs.out
  generalize mayP P = M at *
  have HW2 : Hid (Below W.heap.size W w2) := below_to HB1.out hb2
  have hob2 : Ob w2 w2.heap.size v2 M := hO2.ob (hH2.mono HW2.out.size)
  have hSl := stream_len M hok
  have hSb := stream_byt hH2 hok
  obtain ⟨a2, c2, rfl, hc2⟩ := hob2.sl
  have HO2 : Hid (Ob w2 w2.heap.size (.slice a2 M.length c2) M) := hob2
  have HMZ : Hid (szP M ≤ 4194304) := hMz
  have HML : Hid (M.length ≤ 4194304) := by show _ ≤ _; rw [hMl]; exact HPl.out
  have HSL : Hid ((streamP M).length ≤ 4194304) := by show _ ≤ _; omega
  have HSB : Hid (∀ i, (streamP M).getD i 0 < 256) := hSb
  have hjs := join_stream M [] hok
  have hss := split_stream M hok
  rw [List.nil_append] at hjs
  have HJS : Hid (joinP M [] = (streamP M, 0)) := hjs
  have HSS : Hid (splitP (streamP M) = (M, (streamP M).length, 0)) := hss
  clear hO2 hH2 hb2 hMl hok hMz hob2 hSl hSb hjs hss
  go_wp2_with fail
  refine (join_any HO2.out (Nat.le_refl _) (by have := HMZ.out; omega) (by have := HML.out; omega)).mono ?_
  rw [HJS.out]
  rintro e w3 ⟨a3, c3, rfl, ho3, hb3⟩
  simp only at *
  generalize streamP M = S at *
  have HO3 : Hid (w3.ownsRow w2.heap.size 5 1 (.slice a3 S.length c3) S.length (bs S)) := ho3
  have HB3 : Hid (Below w2.heap.size w2 w3) := hb3
  have HY3 : Hid (By w3 w3.heap.size (.slice a3 S.length c3) S) := By.ofOwn rfl ho3 HSB.out (by have := HSL.out; omega)
  clear ho3 hb3
  go_wp2_with fail
  refine (split_any HY3.out (Nat.le_refl _) (by have := HSL.out; omega)).mono ?_
  rw [HSS.out]
  rintro e w4 ⟨v4, rfl, hl4, hb4⟩
  simp only at *
  have HB4 : Hid (Below w3.heap.size w3 w4) := hb4
  have HO4 : Hid (Ol w4 w3.heap.size v4 M) := hl4
  clear hl4 hb4
  go_wp2_with fail
  refine (same_any HO4.out.ob (HO2.out.below (HB3.out.trans (HB4.out.mono HB3.out.size)) (Nat.le_refl _)) (by have := HML.out; omega)).mono ?_
  rw [show sameP M M = true from by simp [sameP]]
  rintro e w5 ⟨rfl, k5, rfl⟩
  have HW4 : Hid (Below W.heap.size W w4) := below_to HW2.out (below_to HB3.out HB4.out)
  have HW5 : Hid (Below W.heap.size W (w4.drewN k5)) := below_drewN HW4.out k5
  generalize w4.drewN k5 = w5 at *
  go_wp2_with fail
  refine (split_any (HB.out.below HW5.out (Nat.le_refl _)) HW5.out.size (by have := HBl.out; omega)).mono ?_
  obtain ⟨hn1, hn2, hn3, hn4⟩ := split_back HB.out.byt
  generalize hR : splitP b = R at *
  obtain ⟨N, q, er⟩ := R
  clear hR
  rintro e w6 ⟨v6, rfl, hl6, hb6⟩
  simp only at *
  have hst := sz_stream N
  rw [hn3, List.length_take] at hst
  have hNz : szP N ≤ 6291456 := by have := HBl.out; omega
  have hNl : N.length ≤ 6291456 := by have := len_sz N; omega
  have hjn := join_stream N [] hn1
  rw [List.nil_append, hn3] at hjn
  have HJN : Hid (joinP N [] = (b.take q, 0)) := hjn
  have HNZ : Hid (szP N ≤ 1099511627776) := by show _ ≤ _; omega
  have HNL : Hid (N.length ≤ 4398046511104) := by show _ ≤ _; omega
  have HO6 : Hid (Ol w6 w5.heap.size v6 N) := hl6
  have HB6 : Hid (Below w5.heap.size w5 w6) := hb6
  have HQ : Hid (er = 0 ↔ q = b.length) := hn4
  have hq0 : q ≤ b.length := hn2
  clear hst hNz hNl hjn hl6 hb6 hn1 hn2 hn3 hn4
  go_wp2_with fail
  refine (join_any HO6.out.ob (Nat.le_refl _) HNZ.out HNL.out).mono ?_
  rw [HJN.out]
  rintro e w7 ⟨a7, c7, rfl, ho7, hb7⟩
  simp only at *
  have hlt : (b.take q).length = q := by rw [List.length_take]; omega
  rw [hlt] at ho7 ⊢
  have HB7 : Hid (Below W.heap.size W w7) := below_to HW5.out (below_to HB6.out hb7)
  have hcut : ∀ t : World, (Instr.sliceAt 22 (.slice ab b.length cb) none (some (.int .i64 (q : Int))) none).run Try.prog t = .ok (.slice (pa ab cb 0 1) q cb) t := fun t => cut_to rfl (by omega) t
  have hyq : By w7 W.heap.size (.slice (pa ab cb 0 1) q cb) (b.take q) := by
    have := (HB.out.below HB7.out (Nat.le_refl _)).part 0 q (by omega)
    rwa [List.drop_zero, Nat.sub_zero] at this
  have hy7 : By w7 w7.heap.size (.slice a7 q c7) (b.take q) := By.ofOwn hlt.symm ho7 (by have := byt_part HB.out.byt 0 q; rwa [List.drop_zero] at this) (by rw [hlt]; have := HBl.out; omega)
  have HE : Hid (Calls Try.prog 14 #[.slice a7 q c7, .slice (pa ab cb 0 1) q cb] w7 fun e w' => e = .returned (.bool true) ∧ ∃ k, w' = w7.drewN k) := by
    refine (eqBytes_by hy7 hyq).mono ?_
    rintro e w' ⟨rfl, k, rfl⟩
    exact ⟨by simp, k, rfl⟩
  have hq1 : (0 : Int) ≤ (q : Int) := by omega
  have hq2 : (q : Int) ≤ (b.length : Int) := by omega
  clear hlt ho7 hb7 hyq hy7
  generalize pa ab cb 0 1 = A9 at *
  by_cases her : er = 0
  · have hql : ((q : Int) == (b.length : Int)) = true := by have := HQ.out.1 her; simp [this]
    subst her
    clear hq0
    go_wp2_with fail
    refine HE.out.mono ?_; rintro e w8 ⟨rfl, k8, rfl⟩
    go_wp2_with fail
    go_ret
    exact ⟨rfl, below_drewN HB7.out k8⟩
  · have hql : ((q : Int) == (b.length : Int)) = false := by
      have := mt HQ.out.2 her
      simp
      omega
    have he0 : ((er : Int) == 0) = false := by simp; omega
    clear hq0
    go_wp2_with fail
    refine HE.out.mono ?_; rintro e w8 ⟨rfl, k8, rfl⟩
    go_wp2_with fail
    go_ret
    exact ⟨rfl, below_drewN HB7.out k8⟩
end Go.Proofs.Ytkippnfijjhobaa
