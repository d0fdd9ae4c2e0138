/- DERIVED. The document's Inverse refused; the walks of turned and TxfmInverts. -/
import Derived.Test.YtddnnlofdicgkaaDoorJc
import Derived.Test.YtddnnlofdicgkaaDoorIq
namespace Go.Proofs.YtddnnlofdicgkaaDoor
open Go.RowKit

set_option maxRecDepth 100000 in
set_option maxHeartbeats 400000 in
theorem rinv_bad {w : World} {a : Option Addr} {c : Nat} {n k : Int} {C : List Int} (hs : Si w a C) (hl : C.length ≤ 140737488355328) (hx : wrg n k C (sdN n).toNat 1048576 ≠ 0) :
    Calls Tryd.prog 17 #[.int .i64 n, .int .i64 k, .slice a C.length c] w fun e w' => N4 w w' e (wrg n k C (sdN n).toNat 1048576) := by
  have HSd : Hid (Calls Tryd.prog 11 #[.int .i64 n] w fun e w' => e = .returned (.tuple #[.int .i64 (sdN n), .int .i64 (sdE n)]) ∧ Below w.heap.size w w') := rside_any
  have HW : Hid (∀ v, Below w.heap.size w v → Calls Tryd.prog 30 #[.int .i64 n, .int .i64 k, .slice a C.length c, .int .i64 (sdN n), .int .i64 1048576] v fun e w' => e = .returned (.int .i64 (wrg n k C (sdN n).toNat 1048576)) ∧ Below v.heap.size v w') := fun v hv =>
    asked_any (hs.to hv) hl (by omega) (by omega) (fun h => by
      have := tys_size h
      refine ⟨(sdN n).toNat, ?_, ?_⟩ <;> unfold sdN <;> rw [if_neg h] <;> omega)
  have z : (wrg n k C (sdN n).toNat 1048576 != 0) = true := by rw [bne_iff_ne]; exact hx
  clear hs hx
  generalize wrg n k C (sdN n).toNat 1048576 = W at *
  go_enter Tryd.func17, Tryd.ntmps17
  go_wp2_with fail
  refine HSd.out.mono ?_
  rintro e w1 ⟨rfl, hb1⟩
  have HB1 : Hid (Below w.heap.size w w1) := hb1
  clear hb1
  generalize sdN n = sd at *
  go_wp2_with fail
  refine (HW.out _ HB1.out).mono ?_
  rintro e w2 ⟨rfl, hb2⟩
  have HB2 : Hid (Below w.heap.size w w2) := below_to HB1.out hb2
  clear hb2
  go_wp2_with fail
  go_ret2
  exact ⟨rfl, HB2.out⟩

set_option maxRecDepth 100000 in
set_option maxHeartbeats 1000000 in
theorem turned_any {w : World} {B ca cb ci cl : Nat} {a b i l : Option Addr} {x : Int} {R C : List Int} (ha : Oi w B a R.length ca R) (hB : B ≤ w.heap.size) (hb : Si w b R) (hi : Si w i C) (hl : Si w l C)
    (hRl : R.length ≤ 4096) (hCl : C.length ≤ 140737488355328) (hpi : C = [] ∨ ∀ g o, i = some ⟨g, o, none⟩ → g < B) (hpl : C = [] ∨ ∀ g o, l = some ⟨g, o, none⟩ → g < B) :
    Calls Tryd.prog 18 #[.slice a R.length ca, .int .i64 x, .slice b R.length cb, .int .i64 x, .slice i C.length ci, .slice l C.length cl] w fun e w' => e = .returned (.bool true) ∧ Below B w w' := by
  have HA : Hid (Oi w B a R.length ca R) := ha
  have HBB : Hid (B ≤ w.heap.size) := hB
  have HBs : Hid (Si w b R) := hb
  have HI : Hid (Si w i C) := hi
  have HL : Hid (Si w l C) := hl
  have HPi : Hid (C = [] ∨ ∀ g o, i = some ⟨g, o, none⟩ → g < B) := hpi
  have HPl : Hid (C = [] ∨ ∀ g o, l = some ⟨g, o, none⟩ → g < B) := hpl
  have xx : (x == x) = true := by simp
  have r1 : (R.length : Int) ≤ 4096 := by omega
  clear ha hB hb hi hl hpi hpl
  go_enter Tryd.func18, Tryd.ntmps18
  go_wp2_with fail
  refine (eq_yes (c := ca) (d := cb) HA.out.si HBs.out rfl rfl rfl (by omega)).mono ?_
  rintro e w1 ⟨rfl, hb1⟩
  have HA1 : Hid (Oi w1 B a R.length ca R) := HA.out.to hb1
  have HI1 : Hid (Si w1 i C) := HI.out.to hb1
  have HL1 : Hid (Si w1 l C) := HL.out.to hb1
  have HB1 : Hid (Below B w w1) := hb1.mono HBB.out
  clear hb1
  go_wp2_with fail
  go_loopw [14] (fun j wv => ∃ (k : Nat) (D : List Int), k ≤ R.length ∧ j = .int .i64 k ∧ Oi wv B a R.length ca D ∧ Si wv i C ∧ Si wv l C ∧ Below B w wv) (fun j _ => R.length - (intOf j).toNat)
  case atStart => exact ⟨0, R, by omega, rfl, HA1.out, HI1.out, HL1.out, HB1.out⟩
  case round =>
    clear HA1 HI1 HL1 HB1
    obtain ⟨k, D, hk, rfl, ho, hi, hl, hb⟩ := hrel
    have k0 : (0 : Int) ≤ (k : Int) := by omega
    by_cases hlt : k < R.length
    · have k1 : (k : Int) < (R.length : Int) := by omega
      obtain ⟨g2, cap2, hv2, hg2, hl2⟩ := ho.own.form (by omega)
      simp only [Value.slice.injEq] at hv2
      obtain ⟨ha2, _, _⟩ := hv2
      have HA2 : Hid (a = some ⟨g2, 0, none⟩) := ha2
      clear ha2
      rw [HA2.out] at ho
      have d0 := ho.cellAt k hlt
      have d1 : wr.frozen? ⟨g2, k, none⟩ = false := ho.own.frozenAt k
      have hgB := (ho.own.lt g2 rfl).1
      have HO8 : Hid (Oi (wr.setCell ⟨g2, k, none⟩ (.int .i64 (-1))) B (some ⟨g2, 0, none⟩) R.length ca (D.set k (-1))) := ho.set k (-1)
      have HI8 : Hid (Si (wr.setCell ⟨g2, k, none⟩ (.int .i64 (-1))) i C) := by
        rcases HPi.out with h | h
        · exact Or.inl h
        · exact hi.far (fun g3 o3 h3 => by have := h g3 o3 h3; omega) _
      have HL8 : Hid (Si (wr.setCell ⟨g2, k, none⟩ (.int .i64 (-1))) l C) := by
        rcases HPl.out with h | h
        · exact Or.inl h
        · exact hl.far (fun g3 o3 h3 => by have := h g3 o3 h3; omega) _
      have HB8 : Hid (Below B w (wr.setCell ⟨g2, k, none⟩ (.int .i64 (-1)))) := below_set hb (by simpa using hgB) _
      have HK : Hid (k < R.length) := hlt
      clear ho hi hl hb hlt hk hg2 hl2 hgB
      rw [HA2.out]
      go_wp2_with fail
      have hlt := HK.out
      go_roundw
      case rel => exact ⟨k + 1, D.set k (-1), by omega, by go_num, by first | exact HO8.out | (rw [HA2.out]; exact HO8.out), HI8.out, HL8.out, HB8.out⟩
      case measure => simp [intOf]; omega
    · obtain rfl : k = R.length := by omega
      have HI9 : Hid (Si wr i C) := hi
      have HL9 : Hid (Si wr l C) := hl
      have HB9 : Hid (Below B w wr) := hb
      clear ho hi hl hb
      go_wp2_with fail
      refine (eq_yes (c := ci) (d := cl) HI9.out HL9.out rfl rfl rfl hCl).mono ?_
      rintro e w2 ⟨rfl, hb2⟩
      have HB10 : Hid (Below B w w2) := HB9.out.trans (hb2.mono (Nat.le_trans HBB.out HB9.out.size))
      clear hb2
      go_wp2_with fail
      go_ret
      exact ⟨rfl, HB10.out⟩

theorem wrg_ok {n k : Int} {C : List Int} {s : Nat} {M : Int} (h : wrg n k C s M = 0) : k ∈ tys n ∧ C.length = s * s ∧ Mst C M := by
  unfold wrg at h
  split at h
  · exact absurd h (by decide)
  · split at h
    · split at h
      · split at h
        · rename_i h1 h2 h3 h4
          exact ⟨h2, h3, bdB_mst h4⟩
        · exact absurd h (by decide)
      · exact absurd h (by decide)
    · exact absurd h (by decide)

set_option maxRecDepth 100000 in
set_option maxHeartbeats 1000000 in
theorem inverts_walk {w : World} {a : Option Addr} {c : Nat} {n k : Int} {C : List Int} (hq : Qt w) (hs : Si w a C) (hl : C.length ≤ 17592186043904) :
    Calls Tryd.prog 4 #[.int .i64 n, .int .i64 k, .slice a C.length c] w fun e w' => e = .returned (.bool true) ∧ Below w.heap.size w w' := by
  have HQ : Hid (Qt w) := hq
  have HS : Hid (Si w a C) := hs
  clear hq hs
  go_enter Tryd.func4, Tryd.ntmps4
  go_wp2_with fail
  refine (copy_any HS.out hl).mono ?_
  rintro e w1 ⟨a1, c1, rfl, ho1, hb1⟩
  have HO1 : Hid (Oi w1 w.heap.size a1 C.length c1 C) := ho1
  have HB1 : Hid (Below w.heap.size w w1) := hb1
  have HS1 : Hid (Si w1 a C) := HS.out.to hb1
  have HQ1 : Hid (Qt w1) := HQ.out.to hb1
  clear ho1 hb1
  by_cases hx : wrg n k C (sdN n).toNat 1048576 = 0
  · obtain ⟨hk, hC, hM⟩ := wrg_ok hx
    have hsz := tys_size (List.ne_nil_of_mem hk)
    have hk0 := tys_lt hk
    obtain ⟨nn, rfl⟩ : ∃ nn : Nat, n = (nn : Int) := ⟨n.toNat, by omega⟩
    obtain ⟨kk, rfl⟩ : ∃ kk : Nat, k = (kk : Int) := ⟨k.toNat, by omega⟩
    have hsd := (sd_of hk).1
    rw [hsd, Int.toNat_natCast] at hC
    obtain ⟨s, hs⟩ : ∃ s, s = min nn 32 := ⟨_, rfl⟩
    rw [← hs] at hC
    have hBk := bk_of hk
    rw [← hs] at hBk
    have hnn : nn * nn ≤ 64 * 64 := Nat.mul_le_mul hBk.n64 hBk.n64
    have h0 : 0 < C.length := by rw [hC]; exact Nat.mul_pos hBk.pos hBk.pos
    obtain ⟨g1, cap1, hv1, hg1, hl1⟩ := HO1.out.own.form h0
    simp only [Value.slice.injEq] at hv1
    obtain ⟨rfl, -, -⟩ := hv1
    obtain ⟨b0, o0, rfl, hb0, _⟩ := HS.out.form h0
    have HT : Hid (Calls Tryd.prog 16 #[.int .i64 (nn : Int), .int .i64 (kk : Int), .slice (some ⟨g1, 0, none⟩) C.length c1] w1 fun e w' => N3 w1 w' e (tab nn (invF nn s kk C))) := tinv_ok HQ1.out HO1.out.si HO1.out.cap HO1.out.lt.2 hk hs hC hM
    have HR : Hid (∀ v, Below w1.heap.size w1 v → Calls Tryd.prog 17 #[.int .i64 (nn : Int), .int .i64 (kk : Int), .slice (some ⟨b0, o0, none⟩) C.length c] v fun e w' => ∃ g, e = .returned (.tuple #[.slice (some ⟨g, 0, none⟩) (nn * nn) (nn * nn), .int .i64 0]) ∧ Ri 3 w' g (tab nn (invF nn s kk C)) ∧ Below v.heap.size v w') := fun v hv => rinv_ok (HS1.out.to hv) hk hs hC hM
    have HG1 : Hid (g1 < w1.heap.size) := HO1.out.lt.2
    have HB0 : Hid (b0 < w1.heap.size) := by show _ < _; have := HB1.out.size; omega
    have HLn : Hid ((tab nn (invF nn s kk C)).length = nn * nn) := tab_len _ _
    have HN4 : Hid (nn * nn ≤ 4096) := hnn
    clear hx hk hC hM hsz hk0 hsd hs hBk hnn h0 hg1 hl1 hb0
    generalize tab nn (invF nn s kk C) = R at *
    go_wp2_with fail
    refine HT.out.mono ?_
    rintro e w2 ⟨g2, c2, rfl, ho2, hb2⟩
    have HO2 : Hid (Oi w2 w1.heap.size (some ⟨g2, 0, none⟩) R.length c2 R) := ho2
    have HB2 : Hid (Below w1.heap.size w1 w2) := hb2
    clear ho2 hb2
    go_wp2_with fail
    refine (HR.out w2 HB2.out).mono ?_
    rintro e w3 ⟨g3, rfl, hr3, hb3⟩
    rw [← HLn.out]
    have HO3 : Hid (Oi w3 w1.heap.size (some ⟨g2, 0, none⟩) R.length c2 R) := HO2.out.to hb3
    have HR3 : Hid (Si w3 (some ⟨g3, 0, none⟩) R) := hr3.si
    have HB3 : Hid (Below w1.heap.size w1 w3) := below_to HB2.out hb3
    clear hr3 hb3
    go_wp2_with fail
    refine (turned_any HO3.out HB3.out.size HR3.out (HO1.out.si.to HB3.out) (HS1.out.to HB3.out) (by rw [HLn.out]; exact HN4.out) (by omega) (Or.inr fun g o e => by simp only [Option.some.injEq, Addr.mk.injEq] at e; have := HG1.out; omega) (Or.inr fun g o e => by simp only [Option.some.injEq, Addr.mk.injEq] at e; have := HB0.out; omega)).mono ?_
    rintro e w4 ⟨rfl, hb4⟩
    have HB4 : Hid (Below w.heap.size w w4) := below_to HB1.out (HB3.out.trans hb4)
    have HQ4 : Hid (Qt w4) := HQ.out.to HB4.out
    clear hb4
    go_wp2_with fail
    refine (works_any HQ4.out).mono ?_
    rintro e w5 ⟨rfl, hb5⟩
    have HB5 : Hid (Below w.heap.size w w5) := below_to HB4.out hb5
    clear hb5
    go_wp2_with fail
    go_ret
    exact ⟨rfl, HB5.out⟩
  · have HT : Hid (Calls Tryd.prog 16 #[.int .i64 n, .int .i64 k, .slice a1 C.length c1] w1 fun e w' => N4 w1 w' e (wrg n k C (sdN n).toNat 1048576)) := inv_bad HO1.out.si (by omega) hx
    have HR : Hid (∀ v, Below w1.heap.size w1 v → Calls Tryd.prog 17 #[.int .i64 n, .int .i64 k, .slice a C.length c] v fun e w' => N4 v w' e (wrg n k C (sdN n).toNat 1048576)) := fun v hv => rinv_bad (HS1.out.to hv) (by omega) hx
    clear hx
    generalize wrg n k C (sdN n).toNat 1048576 = W at *
    go_wp2_with fail
    refine HT.out.mono ?_
    rintro e w2 ⟨rfl, hb2⟩
    have HB2 : Hid (Below w1.heap.size w1 w2) := hb2
    clear hb2
    go_wp2_with fail
    refine (HR.out w2 HB2.out).mono ?_
    rintro e w3 ⟨rfl, hb3⟩
    have HB3 : Hid (Below w1.heap.size w1 w3) := below_to HB2.out hb3
    clear hb3
    go_wp2_with fail
    have HIn : Hid (Si w3 a1 C) := HO1.out.si.to HB3.out
    have HLl : Hid (Si w3 a C) := HS1.out.to HB3.out
    have HTu : Hid (Calls Tryd.prog 18 #[.slice none 0 0, .int .i64 W, .slice none 0 0, .int .i64 W, .slice a1 C.length c1, .slice a C.length c] w3 fun e w' => e = .returned (.bool true) ∧ Below w3.heap.size w3 w') := by
      refine turned_any (R := []) (Oi.nil _ _) (Nat.le_refl _) (Si.nil _ _) HIn.out HLl.out (by simp) (by omega) ?_ ?_
      · rcases HIn.out with h | ⟨b', o', e', hb', _⟩
        · exact Or.inl h
        · refine Or.inr fun g o e => ?_
          rw [e] at e'
          simp only [Option.some.injEq, Addr.mk.injEq] at e'
          omega
      · rcases HLl.out with h | ⟨b', o', e', hb', _⟩
        · exact Or.inl h
        · refine Or.inr fun g o e => ?_
          rw [e] at e'
          simp only [Option.some.injEq, Addr.mk.injEq] at e'
          omega
    refine HTu.out.mono ?_
    rintro e w4 ⟨rfl, hb4⟩
    have HB4 : Hid (Below w.heap.size w w4) := below_to HB1.out (below_to HB3.out hb4)
    have HQ4 : Hid (Qt w4) := HQ.out.to HB4.out
    clear hb4
    go_wp2_with fail
    refine (works_any HQ4.out).mono ?_
    rintro e w5 ⟨rfl, hb5⟩
    have HB5 : Hid (Below w.heap.size w w5) := below_to HB4.out hb5
    clear hb5
    go_wp2_with fail
    go_ret
    exact ⟨rfl, HB5.out⟩

end Go.Proofs.YtddnnlofdicgkaaDoor
