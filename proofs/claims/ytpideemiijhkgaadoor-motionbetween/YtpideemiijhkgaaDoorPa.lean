/- DERIVED. The walk of MotionPairs. -/
import Derived.Test.YtpideemiijhkgaaDoorQa
import Derived.Test.YtpideemiijhkgaaDoorTo
import Derived.Test.YtpideemiijhkgaaDoorMh
import Derived.Test.YtpideemiijhkgaaDoorOp
namespace Go.Proofs.YtpideemiijhkgaaDoor
open Go.RowKit

theorem Sq.rs {u w' : World} {e : Ending} {L : List Nat} (h : Sq u w' e L) : Rs u w' e L 0 := by
  obtain ⟨g, rfl, hg, hr, hb⟩ := h
  exact ⟨_, rfl, Or.inr ⟨g, rfl, hr, hg⟩, hb⟩
theorem both_pair {C D : List Nat} (hC : Byt C) (hD : Byt D) (lC : C.length ≤ 140737488355328) : ∃ (L : List Nat) (er : Int), L.length ≤ 140737488355328 ∧
    (∀ (t : World) (a b : Option Addr) (c d : Nat), Sl t .u8 a C → Sl t .u8 b D → Calls Tryd.prog 16 #[.slice a C.length c, .slice b D.length d] t fun e w' => Rs t w' e L er) ∧
    (∀ (t : World) (a b : Option Addr) (c d : Nat), Sl t .u8 a C → Sl t .u8 b D → Calls Tryd.prog 17 #[.slice a C.length c, .slice b D.length d] t fun e w' => Rr t w' e L er) := by
  by_cases h : C.length = D.length
  · exact ⟨prL C D, 0, by rw [prL_len]; exact lC, fun t a b c d hs ht => (pair_ok hs ht hC hD h lC).mono fun _ _ k => k.rs, fun t a b c d hs ht => (qpair_ok hs ht hC hD h lC).mono fun _ _ k => k⟩
  · exact ⟨[], 2, by simp, fun t a b c d _ _ => (pair_no h).mono fun _ _ k => rs_no ⟨k.1, by rw [← k.2]; exact Below.refl _ _⟩, fun t a b c d _ _ => (qpair_no h).mono fun _ _ k => rr_no ⟨k.1, by rw [← k.2]; exact Below.refl _ _⟩⟩
/-- numbers and an error are answered -/
def Ni (u w' : World) (e : Ending) (L : List Int) (er : Int) : Prop := ∃ a c, e = .returned (.tuple #[.slice a L.length c, .int .i64 er]) ∧ Si w' a L ∧ Below u.heap.size u w'
theorem both_weights (k : Int) : ∃ (L : List Int) (er : Int), L.length ≤ 32 ∧ (∀ t : World, Calls Tryd.prog 19 #[.int .i64 k] t fun e w' => Ni t w' e L er) ∧ (∀ t : World, Calls Tryd.prog 20 #[.int .i64 k] t fun e w' => Ni t w' e L er) := by
  by_cases h : 4 ≤ k ∧ k ≤ 32
  · obtain ⟨n, rfl⟩ : ∃ n : Nat, k = (n : Int) := ⟨k.toNat, by omega⟩
    refine ⟨wtL n, 0, by rw [wtL_len]; omega, fun t => ?_, fun t => ?_⟩
    · refine (weights_ok (n := n) (by omega) (by omega)).mono ?_
      rintro e w' ⟨rfl, hr, hb⟩
      exact ⟨_, n, by rw [wtL_len], hr.si, hb⟩
    · refine (qweights_ok (n := n) (by omega) (by omega)).mono ?_
      rintro e w' ⟨g, c, rfl, hc, hg, hb⟩
      exact ⟨_, c, by rw [wtL_len], Or.inr ⟨g, 0, rfl, hg, fun j hj => by rw [wtL_len] at hj; rw [Nat.zero_add, hc j hj, wtL_get hj]⟩, hb⟩
  · refine ⟨[], 2, by simp, fun t => (weights_no h).mono ?_, fun t => (qweights_no h).mono ?_⟩
    · rintro e w' ⟨rfl, rfl⟩
      exact ⟨none, 0, rfl, Or.inl rfl, Below.refl _ _⟩
    · rintro e w' ⟨rfl, rfl⟩
      exact ⟨none, 0, rfl, Or.inl rfl, Below.refl _ _⟩

set_option maxRecDepth 100000 in
set_option maxHeartbeats 4000000 in
theorem pairs_walk {u : World} {a b : Option Addr} {c d : Nat} {C D : List Nat} {n : Int} (hg : Gt u) (hs : Sl u .u8 a C) (hC : Byt C) (lC : C.length ≤ 140737488355328) (ht : Sl u .u8 b D) (hD : Byt D) (lD : D.length ≤ 140737488355328) :
    Calls Tryd.prog 4 #[.slice a C.length c, .slice b D.length d, .int .i64 n] u fun e w' => e = .returned (.bool true) ∧ Below u.heap.size u w' := by
  obtain ⟨L, er, lL, hP, hQ⟩ := both_pair hC hD lC
  have HP : Hid _ := hP
  have HQ : Hid _ := hQ
  have HL : Hid (L.length ≤ 140737488355328) := lL
  have HG : Hid (Gt u) := hg
  have HS : Hid (Sl u .u8 a C) := hs
  have HT : Hid (Sl u .u8 b D) := ht
  have HlC : Hid (C.length ≤ 140737488355328) := lC
  have HlD : Hid (D.length ≤ 140737488355328) := lD
  clear hP hQ hg hs ht hC hD lC lD lL
  go_enter Tryd.func4, Tryd.ntmps4
  go_wp2_with fail
  refine (copyBytes_any HS.out HlC.out).mono ?_
  rintro e v1 ⟨xa, xc, rfl, nx, hb1⟩
  have NX : Hid (Sl v1 .u8 xa C) := nx.sl
  have B1 : Hid (Below u.heap.size u v1) := hb1
  clear nx hb1
  go_wp2_with fail
  refine (copyBytes_any (HT.out.to B1.out) HlD.out).mono ?_
  rintro e v2 ⟨ya, yc, rfl, ny, hb2⟩
  have NX2 : Hid (Sl v2 .u8 xa C) := NX.out.to hb2
  have NY : Hid (Sl v2 .u8 ya D) := ny.sl
  have B2 : Hid (Below u.heap.size u v2) := below_to B1.out hb2
  clear ny hb2 NX B1
  go_wp2_with fail
  refine (HP.out _ _ _ _ _ NX2.out NY.out).mono ?_
  rintro e v3 ⟨ad, rfl, haw, hb3⟩
  have HA3 : Hid (Aw v2 v3 ad L) := haw
  have HB3 : Hid (Below v2.heap.size v2 v3) := hb3
  clear haw hb3 HP
  go_wp2_with fail
  refine (HQ.out _ _ _ _ _ (HS.out.to (below_to B2.out HB3.out)) (HT.out.to (below_to B2.out HB3.out))).mono ?_
  rintro e v4 ⟨bd, cc, rfl, hsl, hb4⟩
  have HB4 : Hid (Below v2.heap.size v2 v4) := below_to HB3.out hb4
  have HTo : Hid (Calls Tryd.prog 12 #[.slice ad L.length L.length, .int .i64 er, .slice bd L.length cc, .int .i64 er] v4 fun e w' => e = .returned (.bool true) ∧ Below v2.heap.size v4 w') := told_any (HA3.out.to hb4) hsl HB4.out.size HL.out
  clear hsl hb4 HA3 HB3 HQ
  go_wp2_with fail
  refine HTo.out.mono ?_
  rintro e v5 ⟨rfl, hb5⟩
  have HB5 : Hid (Below v2.heap.size v2 v5) := HB4.out.trans hb5
  clear hb5 HTo HB4
  go_wp2_with fail
  refine (eqBytes_same (C := C) (NX2.out.to HB5.out) (HS.out.to (below_to B2.out HB5.out)) rfl HlC.out).mono ?_
  rintro e v6 ⟨rfl, hb6⟩
  have HB6 : Hid (Below v2.heap.size v2 v6) := below_to HB5.out hb6
  clear hb6 HB5
  go_wp2_with fail
  refine (eqBytes_same (C := D) (NY.out.to HB6.out) (HT.out.to (below_to B2.out HB6.out)) rfl HlD.out).mono ?_
  rintro e v7 ⟨rfl, hb7⟩
  have HB7 : Hid (Below u.heap.size u v7) := below_to B2.out (below_to HB6.out hb7)
  clear hb7 HB6 NX2 NY B2
  go_wp2_with fail
  go_loopw [13] (fun i wr => ∃ z : Int, -1 ≤ z ∧ z ≤ 36 ∧ i = .int .i64 z ∧ Below u.heap.size u wr) (fun i _ => (36 - intOf i).toNat)
  case atStart => exact ⟨-1, by omega, by omega, rfl, HB7.out⟩
  case round =>
    clear HB7
    obtain ⟨z, z0, z1, rfl, hb⟩ := hrel
    have HB : Hid (Below u.heap.size u wr) := hb
    clear hb
    by_cases hlt : z < 36
    · obtain ⟨kz, hkz⟩ : ∃ kz : Int, kz = if z = 35 then n else z := ⟨_, rfl⟩
      obtain ⟨M, em, lM, hW, hV⟩ := both_weights kz
      have HW : Hid _ := hW
      have HV : Hid _ := hV
      have HM : Hid (M.length ≤ 32) := lM
      clear hW hV lM
      have hee : (em != em) = false := by simp
      by_cases h35 : z = 35
      · rw [if_pos h35] at hkz
        subst hkz h35
        go_wp2_with fail
        refine (HW.out _).mono ?_
        rintro e w1 ⟨a1, c1, rfl, s1, hb1⟩
        have S1 : Hid (Si w1 a1 M) := s1
        have B1 : Hid (Below u.heap.size u w1) := below_to HB.out hb1
        clear s1 hb1 HW
        go_wp2_with fail
        refine (HV.out _).mono ?_
        rintro e w2 ⟨a2, c2, rfl, s2, hb2⟩
        have S2 : Hid (Si w2 a2 M) := s2
        have S1b : Hid (Si w2 a1 M) := S1.out.to hb2
        have B2 : Hid (Below u.heap.size u w2) := below_to B1.out hb2
        clear s2 hb2 HV S1 B1
        have HE : Hid (Calls Tryd.prog 21 #[.slice a1 M.length c1, .slice a2 M.length c2] w2 fun e w' => e = .returned (.bool true) ∧ Below w2.heap.size w2 w') := by
          have hm := HM.out
          have := eqInts_at (c := c1) (d := c2) S1b.out S2.out rfl rfl (by omega) (by omega)
          rwa [eqI_self] at this
        go_wp2_with fail
        refine HE.out.mono ?_
        rintro e w3 ⟨rfl, hb3⟩
        have B3 : Hid (Below u.heap.size u w3) := below_to B2.out hb3
        clear hb3 HE
        go_wp2_with fail
        go_roundw
        case rel => exact ⟨35 + 1, by omega, by omega, by go_num, B3.out⟩
        case measure => simp [intOf]
      · rw [if_neg h35] at hkz
        subst hkz
        have hz : (kz == 35) = false := by simp [h35]
        go_wp2_with fail
        refine (HW.out _).mono ?_
        rintro e w1 ⟨a1, c1, rfl, s1, hb1⟩
        have S1 : Hid (Si w1 a1 M) := s1
        have B1 : Hid (Below u.heap.size u w1) := below_to HB.out hb1
        clear s1 hb1 HW
        go_wp2_with fail
        refine (HV.out _).mono ?_
        rintro e w2 ⟨a2, c2, rfl, s2, hb2⟩
        have S2 : Hid (Si w2 a2 M) := s2
        have S1b : Hid (Si w2 a1 M) := S1.out.to hb2
        have B2 : Hid (Below u.heap.size u w2) := below_to B1.out hb2
        clear s2 hb2 HV S1 B1
        have HE : Hid (Calls Tryd.prog 21 #[.slice a1 M.length c1, .slice a2 M.length c2] w2 fun e w' => e = .returned (.bool true) ∧ Below w2.heap.size w2 w') := by
          have hm := HM.out
          have := eqInts_at (c := c1) (d := c2) S1b.out S2.out rfl rfl (by omega) (by omega)
          rwa [eqI_self] at this
        go_wp2_with fail
        refine HE.out.mono ?_
        rintro e w3 ⟨rfl, hb3⟩
        have B3 : Hid (Below u.heap.size u w3) := below_to B2.out hb3
        clear hb3 HE
        go_wp2_with fail
        go_roundw
        case rel => exact ⟨kz + 1, by omega, by omega, by go_num, B3.out⟩
        case measure => simp [intOf]; omega
    · obtain rfl : z = 36 := by omega
      go_wp2_with fail
      refine (works_true (HG.out.to HB.out)).mono ?_
      rintro e w1 ⟨rfl, hb1⟩
      have B1 : Hid (Below u.heap.size u w1) := below_to HB.out hb1
      clear hb1
      go_wp2_with fail
      go_ret
      exact ⟨rfl, B1.out⟩

end Go.Proofs.YtpideemiijhkgaaDoor
