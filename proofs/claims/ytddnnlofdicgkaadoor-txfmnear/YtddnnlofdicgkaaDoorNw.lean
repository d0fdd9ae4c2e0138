/- DERIVED. The walk of TxfmNear. -/
import Derived.Test.YtddnnlofdicgkaaDoorNa
import Derived.Test.YtddnnlofdicgkaaDoorEb
namespace Go.Proofs.YtddnnlofdicgkaaDoor
open Go.RowKit

theorem kin9 {n k : Nat} (hn : n ∈ [4, 8, 16]) (hk : k < 9) : (k : Int) ∈ tys (n : Int) := by
  simp only [List.mem_cons, List.not_mem_nil, or_false] at hn
  rcases hn with rfl | rfl | rfl
  · exact kin4 k (by omega)
  · exact List.mem_map.2 ⟨k, List.mem_range.2 (by omega), rfl⟩
  · exact List.mem_map.2 ⟨k, List.mem_range.2 (by omega), rfl⟩

set_option maxRecDepth 100000 in
set_option maxHeartbeats 2000000 in
theorem near_walk {w : World} {a : Option Addr} {c : Nat} {C : List Int} {which : Int} (hq : Qt w) (hs : Si w a C) (hl : C.length ≤ 17592186043904) :
    Calls Tryd.prog 8 #[.slice a C.length c, .int .i64 which] w fun e w' => e = .returned (.bool true) ∧ Below w.heap.size w w' := by
  have HQ : Hid (Qt w) := hq
  have HS : Hid (Si w a C) := hs
  clear hq hs
  obtain ⟨r, hr5, her⟩ : ∃ r : Nat, r < 3 ∧ which % 3 = (r : Int) := ⟨(which % 3).toNat, by omega, by omega⟩
  have HE5 : Hid (which % 3 = (r : Int)) := her
  clear her
  obtain ⟨n, hn, he⟩ : ∃ n : Nat, n ∈ [4, 8, 16] ∧ ([4, 8, 16] : List Int).getD r 0 = (n : Int) := by
    have : r = 0 ∨ r = 1 ∨ r = 2 := by omega
    rcases this with rfl | rfl | rfl
    · exact ⟨4, by decide, rfl⟩
    · exact ⟨8, by decide, rfl⟩
    · exact ⟨16, by decide, rfl⟩
  have hn4 : 4 ≤ n ∧ n ≤ 16 := by simp at hn; omega
  obtain ⟨L, hL⟩ : ∃ L, L = n * n := ⟨_, rfl⟩
  have h2 : n * n ≤ 16 * 16 := Nat.mul_le_mul hn4.2 hn4.2
  rw [← hL] at h2
  have n16 : (n : Int) ≤ 16 := by omega
  have n4 : (4 : Int) ≤ (n : Int) := by omega
  have L1 : (L : Int) ≤ 256 := by omega
  have L0 : (0 : Int) ≤ (L : Int) := by omega
  have r5 : (r : Int) < 3 := by omega
  have r0 : (0 : Int) ≤ (r : Int) := by omega
  have HL : Hid (L = n * n) := hL
  have HNn : Hid (n ∈ [4, 8, 16]) := hn
  have HSs : Hid (n = min n 32) := by show _ = _; omega
  have HL1 : Hid (L ≤ 256) := h2
  have HN : Hid (n ≤ 64) := by show _ ≤ _; omega
  have HRr : Hid (r < 3) := hr5
  have HEr : Hid (([4, 8, 16] : List Int).getD r 0 = (n : Int)) := he
  have xL : ((L : Int) != (L : Int)) = false := by simp
  have HW8 : Hid (IntKind.i64.wrap (8 * (n : Int)) = 8 * (n : Int)) := by show _ = _; rw [IntKind.wrap_i64]; omega
  clear hn he hn4 hL h2 hr5
  go_enter Tryd.func8, Tryd.ntmps8
  go_wp2_with fail
  refine (works_any HQ.out).mono ?_
  rintro e w1 ⟨rfl, hb1⟩
  have HB1 : Hid (Below w.heap.size w w1) := hb1
  clear hb1
  go_wp2_with fail
  have HB2 : Hid (Below w.heap.size w (w1.alloc (.cells #[.int .i64 4, .int .i64 8, .int .i64 16] 3))) := to_alloc HB1.out _
  have hR2 : Ri 3 (w1.alloc (.cells #[.int .i64 4, .int .i64 8, .int .i64 16] 3)) w1.heap.size [4, 8, 16] := Ri.built 3 w1 [4, 8, 16] rfl
  have c0 := hR2.cell r (by simpa using HRr.out)
  rw [HEr.out] at c0
  clear hR2
  generalize (w1.alloc (.cells #[.int .i64 4, .int .i64 8, .int .i64 16] 3)) = w2 at *
  generalize w1.heap.size = g0 at *
  refine (bring_any (by omega) (by omega)).mono ?_
  rintro e w2' ⟨rfl, rfl⟩
  rw [HE5.out]
  go_wp2_with fail
  clear c0
  refine (block_any (n := n) (L := L) (M := 255) (HS.out.to HB2.out) (by omega) HN.out HL.out (by omega) (by omega)).mono ?_
  rintro e w5 ⟨D, rfl, hD, hDm, hr5, hb5⟩
  have HDl : Hid (D.length = L) := hD
  have HDm : Hid (Mst D 255) := hDm
  have HG5 : Hid (Ri 3 w5 w2'.heap.size D) := hr5
  have HB5 : Hid (Below w.heap.size w w5) := below_to HB2.out hb5
  clear hD hDm hr5 hb5
  generalize w2'.heap.size = gg at *
  go_wp2_with fail
  go_loopw [7] (fun i wr => ∃ k : Nat, k ≤ 9 ∧ i = .int .i64 k ∧ Ri 3 wr gg D ∧ Below w.heap.size w wr) (fun i _ => 9 - (intOf i).toNat)
  case atStart => exact ⟨0, by omega, rfl, HG5.out, HB5.out⟩
  case round =>
    clear HG5 HB5
    obtain ⟨k, hk, rfl, hg, hb⟩ := hrel
    have k0 : (0 : Int) ≤ (k : Int) := by omega
    by_cases hk9 : k < 9
    · have k1 : (k : Int) < 9 := by omega
      have HK9 : Hid (k < 9) := hk9
      have HKk : Hid ((k : Int) ∈ tys (n : Int)) := kin9 HNn.out hk9
      have HG6 : Hid (Ri 3 wr gg D) := hg
      have HB6 : Hid (Below w.heap.size w wr) := hb
      have HQ6 : Hid (Qt wr) := HQ.out.to hb
      have HMA : Hid (Mst (tab n (fwdF n k D)) 1048576) := fwdF_mst HSs.out HKk.out HDm.out
      clear hk hg hb hk9
      go_wp2_with fail
      refine (tfwd_go (n := n) (k := k) (s := n) (M := L) (L := L) (R := tab n (fwdF n k D)) HQ6.out HG6.out.si HDl.out (Nat.le_refl _) HG6.out.lt HKk.out HSs.out HL.out HDm.out rfl HL.out).mono ?_
      rintro e w7 ⟨g7, c7, rfl, hl7, ho7, hb7⟩
      have HA7 : Hid (Oi w7 wr.heap.size (some ⟨g7, 0, none⟩) L c7 (tab n (fwdF n k D))) := ho7
      have HLn : Hid ((tab n (fwdF n k D)).length = L) := hl7
      have HG7 : Hid (Ri 3 w7 gg D) := HG6.out.to hb7
      have HB7 : Hid (Below w.heap.size w w7) := below_to HB6.out hb7
      have HQ7 : Hid (Qt w7) := HQ6.out.to hb7
      clear hl7 ho7 hb7
      go_wp2_with fail
      refine (tinv_go (n := n) (k := k) (s := n) (M := L) (L := L) (R := tab n (invF n n k (tab n (fwdF n k D)))) HQ7.out HA7.out.si HLn.out HA7.out.cap HA7.out.sil HKk.out HSs.out HL.out HMA.out rfl HL.out).mono ?_
      rintro e w8 ⟨g8, c8, rfl, hl8, ho8, hb8⟩
      have HNr : Hid (∀ j, j < L → -(8 * (n : Int)) ≤ (tab n (invF n n k (tab n (fwdF n k D)))).getD j 0 - D.getD j 0 ∧ (tab n (invF n n k (tab n (fwdF n k D)))).getD j 0 - D.getD j 0 ≤ 8 * (n : Int)) := fun j hj => by
        rw [HL.out] at hj
        have h1 := near_block HNn.out HK9.out HDm.out (dv_lt hj) (md_lt hj)
        rw [tab_get n _ j hj]
        unfold layF at h1
        rw [if_pos ⟨dv_lt hj, md_lt hj⟩, ix_of] at h1
        exact h1
      have HR8 : Hid (Si w8 (some ⟨g8, 0, none⟩) (tab n (invF n n k (tab n (fwdF n k D))))) := ho8.si
      have HRl : Hid ((tab n (invF n n k (tab n (fwdF n k D)))).length = L) := hl8
      have HG8 : Hid (Ri 3 w8 gg D) := HG7.out.to hb8
      have HB8 : Hid (Below w.heap.size w w8) := below_to HB7.out hb8
      clear hl8 ho8 hb8
      generalize tab n (invF n n k (tab n (fwdF n k D))) = RR at *
      go_wp2_with fail
      go_loopw [12] (fun i wv => ∃ t q : Nat, t ≤ L ∧ i = .int .i64 t ∧ wv = w8.drewN q) (fun i _ => L - (intOf i).toNat)
      case atStart => exact ⟨0, 0, by omega, rfl, rfl⟩
      case round =>
        obtain ⟨t, q, ht, rfl, rfl⟩ := hrel
        have t0 : (0 : Int) ≤ (t : Int) := by omega
        by_cases htL : t < L
        · have t1 : (t : Int) < (L : Int) := by omega
          obtain ⟨bA, oA, hA, hbA, hcA⟩ := HR8.out.form (by rw [HRl.out]; omega)
          simp only [Option.some.injEq, Addr.mk.injEq, and_true] at hA
          obtain ⟨rfl, rfl⟩ := hA
          have d0 : (w8.drewN q).cell? ⟨g8, t, none⟩ = some (.int .i64 (RR.getD t 0)) := by
            have := hcA t (by rw [HRl.out]; exact htL)
            rw [Nat.zero_add] at this
            exact this
          have d1 : (w8.drewN q).cell? ⟨gg, t, none⟩ = some (.int .i64 (D.getD t 0)) := HG8.out.cell t (by rw [HDl.out]; exact htL)
          obtain ⟨u0, u1⟩ := HNr.out t htL
          have hxd := HDm.out t (by rw [HDl.out]; exact htL)
          have HTL : Hid (t < L) := htL
          generalize hW : w8.drewN q = v at *
          have HW : Hid (w8.drewN q = v) := hW
          clear hW
          generalize RR.getD t 0 = rv at d0 u0 u1
          generalize D.getD t 0 = xv at d1 u0 u1 hxd
          have hab : ¬ (8 * (n : Int)) < ab (rv - xv) := by have := ab_le (M := 8 * (n : Int)) ⟨u0, u1⟩; omega
          have HBd : Hid (-4611686018427387904 ≤ rv - xv ∧ rv - xv ≤ 4611686018427387904) := ⟨by omega, by omega⟩
          have w1' : IntKind.i64.wrap (rv - xv) = rv - xv := by rw [IntKind.wrap_i64]; omega
          have w2'' : IntKind.i64.wrap (8 * (n : Int)) = 8 * (n : Int) := HW8.out
          have HAb : Hid (∀ u : World, Calls Tryd.prog 24 #[.int .i64 (rv - xv)] u fun e w' => e = .returned (.int .i64 (ab (rv - xv))) ∧ w' = u) := fun u => abs_any HBd.out
          clear hcA htL ht u0 u1 hxd
          go_wp2_with fail
          go_quiet ((go_at_call 24; exact Calls.quiet_of_same (HAb.out _)))
          go_wp2_with fail
          have htL := HTL.out
          go_roundw
          case rel => exact ⟨t + 1, q + nq, by omega, by go_num, by rw [← HW.out]; exact drewN_drewN _ _ _⟩
          case measure => simp [intOf]; omega
        · have t1 : ¬ (t : Int) < (L : Int) := by omega
          have HG9 : Hid (Ri 3 (w8.drewN q) gg D) := ⟨HG8.out.heap⟩
          have HB9 : Hid (Below w.heap.size w (w8.drewN q)) := below_drewN HB8.out q
          go_wp2_with fail
          have hk9 := HK9.out
          go_roundw
          case rel => exact ⟨k + 1, by omega, by go_num, HG9.out, HB9.out⟩
          case measure => simp [intOf]; omega
    · have HB6 : Hid (Below w.heap.size w wr) := hb
      obtain rfl : k = 9 := by omega
      clear hg hb
      go_wp2_with fail
      go_ret
      exact ⟨rfl, HB6.out⟩

end Go.Proofs.YtddnnlofdicgkaaDoor
