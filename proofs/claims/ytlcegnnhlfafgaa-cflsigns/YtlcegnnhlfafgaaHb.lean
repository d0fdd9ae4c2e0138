/- DERIVED. The walk of CflSigns. -/
import Derived.Test.YtlcegnnhlfafgaaHc
import Derived.Deep.DeepCutAuto
namespace Go.Proofs.Ytlcegnnhlfafgaa
open Go.RowKit

/-- at most so many samples of a slice -/
def Bs (T u : World) (s : Value) (D : List Nat) (n : Nat) : Prop := ∃ a' c', s = .slice a' n c' ∧ Sl T .u8 a' D ∧ u = T
theorem Sl.take {w : World} {a : Option Addr} {C : List Nat} (h : Sl w .u8 a C) (n : Nat) : Sl w .u8 a (C.take n) := by
  rcases h with rfl | ⟨b, o, h1, h2, h3⟩
  · exact Or.inl (by simp)
  · refine Or.inr ⟨b, o, h1, h2, fun j hj => ?_⟩
    rw [List.length_take] at hj
    rw [h3 j (by omega), List.getD_eq_getElem?_getD, List.getD_eq_getElem?_getD, List.getElem?_take_of_lt (by omega)]

/-- whether nothing is brought back -/
def Ib (T u : World) (s : Value) (x y : Int) : Prop := ∃ bv, s = .bool bv ∧ (bv = true → x = y) ∧ u = T

set_option maxRecDepth 100000 in
set_option maxHeartbeats 2000000 in
theorem signs_walk {w : World} {a a2 : Option Addr} {c c2 : Nat} {C : List Nat} {A : List Int} {al : Int} (hs : Sl w .u8 a C) (hb : Byt C) (hc : C.length ≤ c) (hs2 : Si w a2 A) (hC : C.length ≤ 140737488355328) (hA : A.length ≤ 140737488355328) :
    Calls Try.prog 6 #[.slice a C.length c, .slice a2 A.length c2, .int .i64 al] w fun e w' => e = .returned (.bool true) ∧ Below w.heap.size w w' := by
  have HS : Hid (Sl w .u8 a C) := hs
  have HT : Hid (Si w a2 A) := hs2
  obtain ⟨n, hn⟩ : ∃ n, n = min C.length 1024 := ⟨_, rfl⟩
  obtain ⟨D, hD⟩ : ∃ D, D = C.take n := ⟨_, rfl⟩
  have HDl : Hid (D.length = n) := by show _ = _; rw [hD, List.length_take]; omega
  have HDb : Hid (Byt D) := fun j => by
    by_cases hj : j < n
    · rw [hD, List.getD_eq_getElem?_getD, List.getElem?_take_of_lt hj, ← List.getD_eq_getElem?_getD]; exact hb j
    · rw [List.getD_eq_getElem?_getD, List.getElem?_eq_none (by rw [HDl.out]; omega)]; exact Nat.zero_lt_succ _
  have HD : Hid (D = C.take n) := hD
  have HN : Hid (n = min C.length 1024) := hn
  have q0 := Int.emod_nonneg al (b := 33) (by omega)
  have q1 := Int.emod_lt_of_pos al (b := 33) (by omega)
  have HCc : Hid (C.length ≤ c) := hc
  have HCb : Hid (C.length ≤ 140737488355328) := hC
  have HAb : Hid (A.length ≤ 140737488355328) := hA
  clear hs hb hs2 hn hD hc hC hA
  go_enter Try.func6, Try.ntmps6
  go_wp2_with fail
  refine works_any.mono ?_
  rintro e u1 ⟨rfl, hb1⟩
  have HB1 : Hid (Below w.heap.size w u1) := hb1
  have HS1 : Hid (Sl u1 .u8 a C) := HS.out.to hb1
  have HT1 : Hid (Si u1 a2 A) := HT.out.to hb1
  clear hb1 HS HT
  go_upto_region 3 with fail
  go_cut [0] (fun s T => Bs T u1 s D n)
  case first =>
    have hcc := HCc.out
    have hcb := HCb.out
    have hnn := HN.out
    by_cases h0 : C.length = 0
    · have HB0 : Hid (∀ a' c', Bs u1 u1 (.slice a' 0 c') D n) := fun a' c' => ⟨a', c', by rw [hnn, h0]; rfl, by rw [HD.out, List.eq_nil_of_length_eq_zero h0]; exact Or.inl (by simp), rfl⟩
      rw [h0]
      clear hcc hcb hnn
      cases a with
      | none =>
        have c9 : (0 : Int) ≤ (c : Int) := by omega
        go_wp2_with fail
        go_meet
        exact HB0.out _ _
      | some ad =>
        have c9 : (0 : Int) ≤ (c : Int) := by omega
        go_wp2_with fail
        go_meet
        exact HB0.out _ _
    · obtain ⟨b, o, rfl, _, _⟩ := HS1.out.form (by omega)
      have HBn : Hid (∀ c', Bs u1 u1 (.slice (some ⟨b, o, none⟩) n c') D n) := fun c' => ⟨_, c', rfl, by rw [HD.out]; exact HS1.out.take n, rfl⟩
      by_cases hle : C.length ≤ 1024
      · obtain rfl : n = C.length := by omega
        have i1 : (C.length : Int) ≤ 1024 := by omega
        have i2 : (C.length : Int) ≤ (c : Int) := by omega
        clear hcc hcb hnn h0
        go_wp2_with fail
        go_meet
        exact HBn.out _
      · obtain rfl : n = 1024 := by omega
        have i1 : (1024 : Int) < (C.length : Int) := by omega
        have i2 : (1024 : Int) ≤ (c : Int) := by omega
        clear hcc hcb hnn h0 hle
        go_wp2_with fail
        go_meet
        exact HBn.out _
  case rest =>
    obtain ⟨a', c', rfl, hsd, rfl⟩ := hcut
    have HSD : Hid (Sl u1 .u8 a' D) := hsd
    have n1 : n ≤ 1024 := by have := HN.out; omega
    clear hsd HS1 HN HD HCc HCb
    go_wp2_with fail
    refine (bring_any (by omega) (by omega)).mono ?_
    rintro e w' ⟨rfl, rfl⟩
    obtain ⟨be, hbe⟩ : ∃ be : Int, al % 33 - 16 = be := ⟨_, rfl⟩
    have b0 : -16 ≤ be := by omega
    have b1 : be ≤ 16 := by omega
    go_wp2_with fail
    clear hbe q0 q1
    refine (numbersOf_any HT1.out HAb.out n1).mono ?_
    rintro e u2 ⟨gx, rfl, hr2, hg2, hb2⟩
    have HXl : Hid ((noL A n n).length = n) := noL_len _ _ _
    have HXw : Hid (wiB 2048 (noL A n n) = true) := noL_wi _ _
    generalize noL A n n = X at *
    have HS2 : Hid (Sl u2 .u8 a' D) := HSD.out.to hb2
    have HX2 : Hid (Ri 3 u2 gx X) := hr2
    have HB2 : Hid (Below w.heap.size w u2) := below_to HB1.out hb2
    clear hr2 hg2 hb2 HSD HB1 HT1 HAb
    have n2 : (n : Int) ≤ 1024 := by omega
    have hmk := fun u => mk_ints (n := n) (by omega) u
    go_wp2_with fail
    have HX3 : Hid (Ri 3 (u2.alloc (.cells (madeCells #[.int .i64 0] n) 3)) gx X) := HX2.out.to (from_alloc _ _)
    have HY3 : Hid (Ri 3 (u2.alloc (.cells (madeCells #[.int .i64 0] n) 3)) u2.heap.size (ngL X n 0)) := by rw [ngL_zero]; exact Ri.made 3 u2 n rfl
    have HB3 : Hid (Below u2.heap.size u2 (u2.alloc (.cells (madeCells #[.int .i64 0] n) 3))) := from_alloc _ _
    have HGx : Hid (gx ≠ u2.heap.size) := by have := HX2.out.lt; show _ ≠ _; omega
    generalize (u2.alloc (.cells (madeCells #[.int .i64 0] n) 3)) = u3 at *
    generalize hgy : u2.heap.size = gy at *
    have HGy : Hid (u2.heap.size = gy) := hgy
    clear hgy
    go_loopw [10] (fun i wr => ∃ k : Nat, k ≤ n ∧ i = .int .i64 k ∧ Ri 3 wr gx X ∧ Ri 3 wr gy (ngL X n k) ∧ Below gy u2 wr) (fun i _ => n - (intOf i).toNat)
    case atStart => exact ⟨0, by omega, rfl, HX3.out, HY3.out, HB3.out⟩
    case round =>
      clear HX3 HY3 HB3
      obtain ⟨k, hk, rfl, hx, hy, hbb⟩ := hrel
      have k0 : (0 : Int) ≤ (k : Int) := by omega
      by_cases hlt : k < n
      · have k1 : (k : Int) < (n : Int) := by omega
        have c0 := hx.cell k (by rw [HXl.out]; exact hlt)
        have c1 := hy.cell k (by rw [ngL_len]; exact hlt)
        have f1 := hy.thaw k
        obtain ⟨v0, v1⟩ := wiB_at HXw.out k (by rw [HXl.out]; exact hlt)
        have HNx : Hid (Ri 3 (wr.setCell ⟨gy, k, none⟩ (.int .i64 (- X.getD k 0))) gx X ∧ Ri 3 (wr.setCell ⟨gy, k, none⟩ (.int .i64 (- X.getD k 0))) gy (ngL X n (k + 1)) ∧ Below gy u2 (wr.setCell ⟨gy, k, none⟩ (.int .i64 (- X.getD k 0)))) :=
          ⟨hx.far HGx.out _, by rw [← ngL_set _ _ _ hlt]; exact hy.set k _, below_set hbb (Nat.le_refl _) _⟩
        clear hx hy hbb
        generalize X.getD k 0 = v at *
        go_wp2_with fail
        go_roundw
        case rel => exact ⟨k + 1, by omega, by go_num, HNx.out.1, HNx.out.2.1, HNx.out.2.2⟩
        case measure => simp [intOf]; omega
      · obtain rfl : k = n := by omega
        rw [← HGy.out] at hbb
        have HYl : Hid ((ngL X k k).length = k) := ngL_len _ _ _
        have HYw : Hid (wiB 2048 (ngL X k k) = true) := ngL_wi HXw.out HXl.out
        obtain ⟨PA, hPA⟩ : ∃ PA, pdL D X be = PA := ⟨_, rfl⟩
        obtain ⟨PC, hPC⟩ : ∃ PC, pdL D X (-be) = PC := ⟨_, rfl⟩
        have HPA : Hid (pdL D X be = PA) := hPA
        have HPC : Hid (pdL D X (-be) = PC) := hPC
        have HPB : Hid (pdL D (ngL X k k) (-be) = PA) := by
          show _ = _
          rw [← hPA]
          exact (pdL_neg fun i hi => by rw [HDl.out] at hi; rw [ngL_get _ _ _ _ hi, if_pos hi]).symm
        have HPD : Hid (pdL D X 0 = D) := pdL_same HDb.out fun i _ => Int.zero_mul _
        have HPK : Hid (pdL D (List.replicate k 0) be = D) := pdL_same HDb.out fun i hi => by rw [HDl.out] at hi; simp [hi]
        generalize ngL X k k = Y at *
        have HS4 : Hid (Sl wr .u8 a' D) := HS2.out.to hbb
        have HX4 : Hid (Ri 3 wr gx X) := hx
        have HY4 : Hid (Ri 3 wr gy Y) := hy
        have HB4 : Hid (Below w.heap.size w wr) := below_to HB2.out hbb
        have m0 : -16 ≤ -be := by omega
        have m1 : -be ≤ 16 := by omega
        clear hx hy hbb HGx HGy HS2 HX2 HB2 hPA hPC
        go_wp2_with fail
        refine (pred_n HS4.out HDb.out HDl.out HX4.out.si HXl.out HXw.out n1 b0 b1 HPA.out).mono ?_
        rintro e u5 ⟨ga, rfl, hr5, _, hb5⟩
        have HS5 : Hid (Sl u5 .u8 a' D) := HS4.out.to hb5
        have HX5 : Hid (Ri 3 u5 gx X) := HX4.out.to hb5
        have HY5 : Hid (Ri 3 u5 gy Y) := HY4.out.to hb5
        have HB5 : Hid (Below w.heap.size w u5) := below_to HB4.out hb5
        have HA5 : Hid (Rw u5 ga PA) := hr5
        clear hr5 hb5 HS4 HX4 HY4 HB4
        go_wp2_with fail
        refine (pred_n HS5.out HDb.out HDl.out HY5.out.si HYl.out HYw.out n1 m0 m1 HPB.out).mono ?_
        rintro e u6 ⟨gb, rfl, hr6, _, hb6⟩
        have HS6 : Hid (Sl u6 .u8 a' D) := HS5.out.to hb6
        have HX6 : Hid (Ri 3 u6 gx X) := HX5.out.to hb6
        have HB6 : Hid (Below w.heap.size w u6) := below_to HB5.out hb6
        have HA6 : Hid (Rw u6 ga PA) := HA5.out.to hb6
        have HPb6 : Hid (Rw u6 gb PA) := hr6
        clear hr6 hb6 HS5 HX5 HY5 HB5 HA5 HYl HYw HPB
        go_wp2_with fail
        refine (pred_n HS6.out HDb.out HDl.out HX6.out.si HXl.out HXw.out n1 m0 m1 HPC.out).mono ?_
        rintro e u7 ⟨gc, rfl, hr7, _, hb7⟩
        have HG7 : Hid (Sg w a' D ga PA gc PC gx X u7) := ⟨HS6.out.to hb7, HA6.out.to hb7, hr7, HX6.out.to hb7, below_to HB6.out hb7⟩
        have HPb7 : Hid (Rw u7 gb PA) := HPb6.out.to hb7
        clear hr7 hb7 HS6 HX6 HB6 HA6 HPb6
        go_wp2_with fail
        refine (pred_n HG7.out.base HDb.out HDl.out HG7.out.num.si HXl.out HXw.out n1 (by omega) (by omega) HPD.out).mono ?_
        rintro e u8 ⟨gd, rfl, hr8, _, hb8⟩
        have HG8 : Hid (Sg w a' D ga PA gc PC gx X u8) := HG7.out.to hb8
        have HPb8 : Hid (Rw u8 gb PA) := HPb7.out.to hb8
        have HPd8 : Hid (Rw u8 gd D) := hr8
        clear hr8 hb8 HG7 HPb7 HPD
        go_wp2_with fail
        have HG9 : Hid (Sg w a' D ga PA gc PC gx X (u8.alloc (.cells (madeCells #[.int .i64 0] k) 3))) := HG8.out.to (from_alloc _ _)
        have HPb9 : Hid (Rw (u8.alloc (.cells (madeCells #[.int .i64 0] k) 3)) gb PA) := HPb8.out.to (from_alloc _ _)
        have HPd9 : Hid (Rw (u8.alloc (.cells (madeCells #[.int .i64 0] k) 3)) gd D) := HPd8.out.to (from_alloc _ _)
        have HZ9 : Hid (Ri 3 (u8.alloc (.cells (madeCells #[.int .i64 0] k) 3)) u8.heap.size (List.replicate k 0)) := Ri.made 3 u8 k rfl
        generalize (u8.alloc (.cells (madeCells #[.int .i64 0] k) 3)) = u9 at *
        clear HG8 HPb8 HPd8 hmk
        refine (pred_n HG9.out.base HDb.out HDl.out HZ9.out.si (by simp) (zero_wi _) n1 b0 b1 HPK.out).mono ?_
        rintro e v0 ⟨gk, rfl, hr10, _, hb10⟩
        have HG10 : Hid (Sg w a' D ga PA gc PC gx X v0) := HG9.out.to hb10
        have HPb10 : Hid (Rw v0 gb PA) := HPb9.out.to hb10
        have HPd10 : Hid (Rw v0 gd D) := HPd9.out.to hb10
        have HPk10 : Hid (Rw v0 gk D) := hr10
        clear hr10 hb10 HG9 HPb9 HPd9 HZ9 HPK
        have HPAl : Hid (PA.length = k) := by show _ = _; rw [← HPA.out, pdL_len, HDl.out]
        have HPCl : Hid (PC.length = k) := by show _ = _; rw [← HPC.out, pdL_len, HDl.out]
        have ea : eqB PA PA = true := eqB_self _
        have ed : eqB D D = true := eqB_self _
        have nk : ((k : Int) != (k : Int)) = false := by simp
        go_wp2_with fail
        refine (eqBytes_at (n := k) (m := k) HG10.out.pa.sl HPb10.out.sl HPAl.out HPAl.out (by omega) (by omega)).mono ?_
        rintro e v1 ⟨rfl, hb11⟩
        rw [ea]
        have HG11 : Hid (Sg w a' D ga PA gc PC gx X v1) := HG10.out.to hb11
        have HPd11 : Hid (Rw v1 gd D) := HPd10.out.to hb11
        have HPk11 : Hid (Rw v1 gk D) := HPk10.out.to hb11
        clear hb11 HG10 HPb10 HPd10 HPk10
        go_wp2_with fail
        refine (eqBytes_at (n := k) (m := k) HPd11.out.sl HG11.out.base HDl.out HDl.out (by omega) (by omega)).mono ?_
        rintro e v2 ⟨rfl, hb12⟩
        rw [ed]
        have HG12 : Hid (Sg w a' D ga PA gc PC gx X v2) := HG11.out.to hb12
        have HPk12 : Hid (Rw v2 gk D) := HPk11.out.to hb12
        clear hb12 HG11 HPd11 HPk11
        go_wp2_with fail
        refine (eqBytes_at (n := k) (m := k) HPk12.out.sl HG12.out.base HDl.out HDl.out (by omega) (by omega)).mono ?_
        rintro e v3 ⟨rfl, hb13⟩
        rw [ed]
        have HG13 : Hid (Sg w a' D ga PA gc PC gx X v3) := HG12.out.to hb13
        clear hb13 HG12 HPk12
        go_wp2_with fail
        go_loopw [21] (fun i wr => ∃ l : Nat, l ≤ k ∧ i = .int .i64 l ∧ Sg w a' D ga PA gc PC gx X wr) (fun i _ => k - (intOf i).toNat)
        case atStart => exact ⟨0, by omega, rfl, HG13.out⟩
        case round =>
          clear HG13
          obtain ⟨l, hl, rfl, hsg⟩ := hrel
          have l0 : (0 : Int) ≤ (l : Int) := by omega
          have HSg : Hid (Sg w a' D ga PA gc PC gx X wr) := hsg
          by_cases hltl : l < k
          · have l1 : (l : Int) < (k : Int) := by omega
            obtain ⟨b, o, rfl, _, hcB⟩ := hsg.base.form (by rw [HDl.out]; omega)
            have hcB := hcB l (by rw [HDl.out]; exact hltl)
            have hcA := hsg.pa.cell l (by rw [HPAl.out]; exact hltl)
            have hcC := hsg.pc.cell l (by rw [HPCl.out]; exact hltl)
            have hcX := hsg.num.cell l (by rw [HXl.out]; exact hltl)
            have eA : PA.getD l 0 = pd (D.getD l 0) (be * X.getD l 0) := by rw [← HPA.out]; exact pdL_get _ _ _ _ (by rw [HDl.out]; exact hltl)
            have eC : PC.getD l 0 = pd (D.getD l 0) (-(be * X.getD l 0)) := by rw [← HPC.out, pdL_get _ _ _ _ (by rw [HDl.out]; exact hltl), Int.neg_mul]
            obtain ⟨v0, v1⟩ := wiB_at HXw.out l (by rw [HXl.out]; exact hltl)
            have hdb := HDb.out l
            obtain ⟨p0, p1⟩ := mul_lim b0 b1 v0 v1
            have hside := pd_side hdb (be * X.getD l 0)
            have hfar := pd_far (b := D.getD l 0) (be * X.getD l 0)
            have hpa := pd_lt (D.getD l 0) (be * X.getD l 0)
            have hpc := pd_lt (D.getD l 0) (-(be * X.getD l 0))
            rw [← eA] at hside hfar hpa
            rw [← eC] at hfar hpc
            have HCr : Hid (∀ m, (wr.drewN m).cell? ⟨b, o + l, none⟩ = some (.int .u8 (D.getD l 0 : Nat)) ∧ (wr.drewN m).cell? ⟨ga, l, none⟩ = some (.int .u8 (PA.getD l 0 : Nat)) ∧ (wr.drewN m).cell? ⟨gc, l, none⟩ = some (.int .u8 (PC.getD l 0 : Nat)) ∧ (wr.drewN m).cell? ⟨gx, l, none⟩ = some (.int .i64 (X.getD l 0))) := fun m => ⟨hcB, hcA, hcC, hcX⟩
            clear hsg eA eC
            generalize D.getD l 0 = dv at *
            generalize PA.getD l 0 = pa at *
            generalize PC.getD l 0 = pc at *
            generalize X.getD l 0 = xv at *
            generalize hp : be * xv = p at *
            obtain ⟨up, hup⟩ : ∃ up : Int, up = (pa : Int) - (dv : Int) := ⟨_, rfl⟩
            obtain ⟨dn, hdn⟩ : ∃ dn : Int, dn = (dv : Int) - (pc : Int) := ⟨_, rfl⟩
            have HU : Hid (wrap64 (wrap64 (pa : Int) - wrap64 (dv : Int)) = up) := by show _ = _; rw [w64 (pa : Int) (by omega), w64 (dv : Int) (by omega), w64 _ (by omega), hup]
            have HV : Hid (wrap64 (wrap64 (dv : Int) - wrap64 (pc : Int)) = dn) := by show _ = _; rw [w64 (pc : Int) (by omega), w64 (dv : Int) (by omega), w64 _ (by omega), hdn]
            have HF : Hid (0 < pa → pa < 255 → 0 < pc → pc < 255 → up = dn) := fun k1 k2 k3 k4 => by rw [hup, hdn]; exact hfar k1 k2 k3 k4
            have HP : Hid (0 < up → ¬ p < 0) := fun k1 => hside.1 (by omega)
            have HQ : Hid (up < 0 → ¬ 0 < p) := fun k1 => hside.2 (by omega)
            have Hpa : Hid (pa < 256 ∧ pc < 256) := ⟨hpa, hpc⟩
            clear hside hfar hup hdn hdb hpa hpc v0 v1
            go_wp2_with fail
            go_quiet (fail)
            rw [HU.out, HV.out]
            obtain ⟨z1, z2, z3, z4⟩ := HCr.out nq
            have HSn : Hid (Sg w (some ⟨b, o, none⟩) D ga PA gc PC gx X (wr.drewN nq)) := HSg.out.drewN _
            generalize wr.drewN nq = vq at *
            clear HU HV HCr hcB hcA hcC hcX HSg
            go_upto_region 23 with fail
            go_cut [24] (fun s T => Ib T vq s up dn)
            case first =>
              obtain ⟨hpa, hpc⟩ := Hpa.out
              by_cases k1 : 0 < pa
              · have j1 : (0 : Int) < (pa : Int) := by omega
                by_cases k2 : pa < 255
                · have j2 : (pa : Int) < 255 := by omega
                  by_cases k3 : 0 < pc
                  · have j3 : (0 : Int) < (pc : Int) := by omega
                    by_cases k4 : pc < 255
                    · have j4 : (pc : Int) < 255 := by omega
                      have HE := HF.out k1 k2 k3 k4
                      have HI : Hid (Ib vq vq (.bool true) up dn) := ⟨true, rfl, fun _ => HE, rfl⟩
                      clear HE k1 k2 k3 k4
                      go_wp2_with fail
                      go_meet
                      exact HI.out
                    · have j4 : ¬ (pc : Int) < 255 := by omega
                      have HI : Hid (Ib vq vq (.bool false) up dn) := ⟨false, rfl, (fun h => by cases h), rfl⟩
                      clear k1 k2 k3 k4
                      go_wp2_with fail
                      go_meet
                      exact HI.out
                  · have j3 : ¬ (0 : Int) < (pc : Int) := by omega
                    have HI : Hid (Ib vq vq (.bool false) up dn) := ⟨false, rfl, (fun h => by cases h), rfl⟩
                    clear k1 k2 k3
                    go_wp2_with fail
                    go_meet
                    exact HI.out
                · have j2 : ¬ (pa : Int) < 255 := by omega
                  have HI : Hid (Ib vq vq (.bool false) up dn) := ⟨false, rfl, (fun h => by cases h), rfl⟩
                  clear k1 k2
                  go_wp2_with fail
                  go_meet
                  exact HI.out
              · have j1 : ¬ (0 : Int) < (pa : Int) := by omega
                have HI : Hid (Ib vq vq (.bool false) up dn) := ⟨false, rfl, (fun h => by cases h), rfl⟩
                clear k1
                go_wp2_with fail
                go_meet
                exact HI.out
            case rest =>
              obtain ⟨bv, rfl, hbv, rfl⟩ := hcut
              cases bv with
              | true =>
                rcases Int.lt_trichotomy up 0 with hz | hz | hz
                · have e9 : (up != dn) = false := by rw [hbv rfl]; simp
                  have g1 : ¬ 0 < up := by omega
                  have g3 := HQ.out hz
                  clear hbv HP HQ HF Hpa
                  go_wp2_with fail
                  go_roundw
                  case rel => exact ⟨l + 1, by omega, by go_num, HSn.out⟩
                  case measure => simp [intOf]; omega
                · have e9 : (up != dn) = false := by rw [hbv rfl]; simp
                  have g1 : ¬ 0 < up := by omega
                  have g2 : ¬ up < 0 := by omega
                  clear hz
                  clear hbv HP HQ HF Hpa
                  go_wp2_with fail
                  go_roundw
                  case rel => exact ⟨l + 1, by omega, by go_num, HSn.out⟩
                  case measure => simp [intOf]; omega
                · have e9 : (up != dn) = false := by rw [hbv rfl]; simp
                  have g2 : ¬ up < 0 := by omega
                  have g3 := HP.out hz
                  clear hbv HP HQ HF Hpa
                  go_wp2_with fail
                  go_roundw
                  case rel => exact ⟨l + 1, by omega, by go_num, HSn.out⟩
                  case measure => simp [intOf]; omega
              | false =>
                rcases Int.lt_trichotomy up 0 with hz | hz | hz
                · have g1 : ¬ 0 < up := by omega
                  have g3 := HQ.out hz
                  clear hbv HP HQ HF Hpa
                  go_wp2_with fail
                  go_roundw
                  case rel => exact ⟨l + 1, by omega, by go_num, HSn.out⟩
                  case measure => simp [intOf]; omega
                · have g1 : ¬ 0 < up := by omega
                  have g2 : ¬ up < 0 := by omega
                  clear hz
                  clear hbv HP HQ HF Hpa
                  go_wp2_with fail
                  go_roundw
                  case rel => exact ⟨l + 1, by omega, by go_num, HSn.out⟩
                  case measure => simp [intOf]; omega
                · have g2 : ¬ up < 0 := by omega
                  have g3 := HP.out hz
                  clear hbv HP HQ HF Hpa
                  go_wp2_with fail
                  go_roundw
                  case rel => exact ⟨l + 1, by omega, by go_num, HSn.out⟩
                  case measure => simp [intOf]; omega
          · obtain rfl : l = k := by omega
            have HBl : Hid (Below w.heap.size w wr) := hsg.bel
            clear hsg HSg
            go_wp2_with fail
            go_ret
            exact ⟨rfl, HBl.out⟩

end Go.Proofs.Ytlcegnnhlfafgaa
