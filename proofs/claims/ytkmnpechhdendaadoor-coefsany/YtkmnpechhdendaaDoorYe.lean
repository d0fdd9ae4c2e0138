/- DERIVED. The walks of length and endOf. -/
import Derived.Test.YtkmnpechhdendaaDoorYd
namespace Go.Proofs.YtkmnpechhdendaaDoor
open Go.RowKit L3

/-- what the loop of length keeps -/
structure LnI (m : Pm) (K : List Int) (O : Nat → Prop) (w : World) (x : Int) (r : Option Int × Cs) (i : Value) (wr : World) : Prop where
  ex : ∃ (j : Nat) (O' : Nat → Prop) (s' : Cs), j ≤ 20 ∧ i = .int .i64 j ∧ Gd m K O' s' wr ∧ Trn O O' w wr ∧ Below m.lo w wr ∧ (lenL x (21 - j) j).Ok s' ∧ (lenL x (21 - j) j).run s' = r

set_option maxRecDepth 100000 in
set_option maxHeartbeats 2000000 in
theorem length_any {m : Pm} {K : List Int} {O : Nat → Prop} {s : Cs} {w : World} (h : Gd m K O s w) {x : Int} (hx0 : -2000000 ≤ x) (hx1 : x ≤ 2000000) (hok : (lenP x).Ok s) :
    Calls Tryd.prog 59 #[.pointer (some ⟨m.b, 0, none⟩), .int .i64 x] w fun e w' => Ans m K O w vi ((lenP x).run s) e w' := by
  have HS : Hid (LnI m K O w x ((lenP x).run s) (.int .i64 0) w) := ⟨0, O, s, by omega, rfl, h, Trn.of (Below.refl _ _), Below.refl _ _, hok, rfl⟩
  generalize hr : (lenP x).run s = r at *
  have HC : Hid (∀ O' s' u, Gd m K O' s' u → (u.cell? ⟨m.b, 0, none⟩ = some (.pointer (some ⟨m.x, 0, none⟩)))) := fun O' s' u hu => hu.bb.c0
  clear h hok hr
  go_enter Tryd.func59, Tryd.ntmps59
  go_wp2_with fail
  go_loopw [5] (fun i wr => LnI m K O w x r i wr) (fun i _ => 21 - (intOf i).toNat)
  case atStart => exact HS.out
  case round =>
    obtain ⟨j, O', s', hj, rfl, hg, ht, hb, hok, hrun⟩ := hrel
    have HT : Hid (Trn O O' w wr) := ht
    have HBl : Hid (Below m.lo w wr) := hb
    rw [show 21 - j = (20 - j) + 1 by omega, lenL] at hok hrun
    have hv := hok.1
    have hok2 := hok.2
    have hrun2 : (if biA s' 1 (bt (x / 2 ^ j = 1)) = 0 then lenL x (20 - j) (j + 1) else Prg.bits j (x - 2 ^ j) fun u => .ret (2 ^ j + (u : Int))).run (biN s' 1 (biA s' 1 (bt (x / 2 ^ j = 1)))) = r := hrun
    have hok3 : (if biA s' 1 (bt (x / 2 ^ j = 1)) = 0 then lenL x (20 - j) (j + 1) else Prg.bits j (x - 2 ^ j) fun u => .ret (2 ^ j + (u : Int))).Ok (biN s' 1 (biA s' 1 (bt (x / 2 ^ j = 1)))) := hok2
    have hlt : biA s' 1 (bt (x / 2 ^ j = 1)) < 2 := bi_lt (n := 1) hv.2.2
    have HSy : Hid (∀ u, Gd m K O' s' u → Calls Tryd.prog 24 #[.pointer (some ⟨m.x, 0, none⟩), .int .i64 (1 : Nat), .int .i64 (bt (x / 2 ^ j = 1))] u fun e w' => e = .returned (.tuple #[.int .i64 (biA s' 1 (bt (x / 2 ^ j = 1)) : Nat), .int .i64 0]) ∧ Mv m K O' u w' (biN s' 1 (biA s' 1 (bt (x / 2 ^ j = 1))))) := fun u hu => bits_gd hu hv
    obtain ⟨P, hP⟩ : ∃ P : Nat, 2 ^ j = P := ⟨_, rfl⟩
    have hP2 : (2 : Int) ^ j = (P : Int) := by rw [← hP]; simp
    have hPm : P ≤ 2 ^ 20 := by rw [← hP]; exact Nat.pow_le_pow_right (by omega) hj
    have hP0 : 1 ≤ P := by rw [← hP]; exact Nat.pow_pos (by omega)
    have HP : Hid ((2 : Int) ^ j = (P : Int)) := hP2
    have hP1 : (1 : Int) * 2 ^ j = (P : Int) := by rw [hP2]; omega
    obtain ⟨y, hy⟩ : ∃ y, x / 2 ^ j = y := ⟨_, rfl⟩
    rw [hy] at hrun2 hok3 hlt HSy
    have HBt : Hid (bt ((y == 1) = true) = bt (y = 1)) := by show bt _ = bt _; unfold bt; simp
    generalize biA s' 1 (bt (y = 1)) = v at *
    generalize bt (y = 1) = zz at *
    have HG : Hid (Gd m K O' s' wr.drew) := hg.drew
    have HLo : Hid (m.lo ≤ wr.heap.size) := lo_le hg
    have HBd : Hid (Below wr.heap.size wr wr.drew) := L10.below_drew (Below.refl _ _)
    have HJ : Hid (j ≤ 20) := hj
    have j0 : (0 : Int) ≤ (j : Int) := by omega
    have j1 : (j : Int) < 64 := by omega
    have hwP := wrap_small (x := (P : Int)) (by omega) (by omega)
    have hwx := wrap_small (x := x - (P : Int)) (by omega) (by omega)
    clear hg ht hb hok hok2 hrun hv hP hP2 hj
    have HR2 : Hid _ := hrun2
    have HO2 : Hid _ := hok3
    clear hrun2 hok3
    go_wp2_with fail
    have fG := HG.out
    have f0 := HC.out _ _ _ fG
    go_region_held3 (fun u => u.cell? ⟨m.b, 0, none⟩ = some (.pointer (some ⟨m.x, 0, none⟩)))
      ((exact HC.out _ _ _ (by assumption)))
      (first
        | (go_at_call 55; refine bit_any.mono ?_; rintro e wC ⟨rfl, rfl⟩; rw [HBt.out])
        | (go_at_call 24; refine (HSy.out _ (by assumption)).mono ?_; rintro e wA ⟨rfl, hmA⟩; have HM : Hid (Mv m K O' wr wA (biN s' 1 v)) := Mv.behind HLo.out HBd.out hmA; obtain ⟨OA, gA, tA, bA⟩ := hmA)
        | (go_at_call 53; refine told_ok.mono ?_; rintro e wB ⟨rfl, rfl⟩))
    have HL2 : Hid (v = 0 ∨ v = 1) := by show _ ∨ _; omega
    obtain ⟨O2, g2, t2, b2⟩ := HM.out
    have HG2 : Hid (Gd m K O2 (biN s' 1 v) wB) := g2
    have HT2 : Hid (Trn O O2 w wB) := HT.out.trans t2
    have HB2 : Hid (Below m.lo w wB) := HBl.out.trans b2
    clear g2 t2 b2 HM HSy
    rcases HL2.out with e0 | e0
    · have HR3 : Hid ((lenL x (20 - j) (j + 1)).run (biN s' 1 v) = r) := by have := HR2.out; rw [if_pos e0] at this; exact this
      have HO3 : Hid ((lenL x (20 - j) (j + 1)).Ok (biN s' 1 v)) := by have := HO2.out; rw [if_pos e0] at this; exact this
      have hv0 : ((v : Int) == 0) = true := by rw [e0]; rfl
      clear HR2 HO2 e0 HL2 hlt
      by_cases h20 : j = 20
      · have hgt : (20 : Int) < (j : Int) + 1 := by omega
        have HRn : Hid (r = (none, biN s' 1 v)) := by have := HR3.out; rw [h20] at this; exact this.symm
        clear HR3 HO3 h20
        go_wp2_with fail
        refine ⟨rfl, ?_⟩
        show Ans m K O w vi r stp4 _
        rw [HRn.out]
        exact ⟨Tel.none, _, HG2.out, HT2.out, HB2.out⟩
      · have hgt : ¬ (20 : Int) < (j : Int) + 1 := by have := HJ.out; omega
        have HRn : Hid ((lenL x (21 - (j + 1)) (j + 1)).run (biN s' 1 v) = r) := by have := HR3.out; rw [show 20 - j = 21 - (j + 1) by omega] at this; exact this
        have HOn : Hid ((lenL x (21 - (j + 1)) (j + 1)).Ok (biN s' 1 v)) := by have := HO3.out; rw [show 20 - j = 21 - (j + 1) by omega] at this; exact this
        have HJ2 : Hid (j ≠ 20) := h20
        clear HR3 HO3 h20
        go_wp2_with fail
        have hj := HJ.out
        have hj2 := HJ2.out
        go_roundw
        case rel => exact ⟨⟨j + 1, O2, biN s' 1 v, by omega, by go_num, HG2.out, HT2.out, HB2.out, HOn.out, HRn.out⟩⟩
        case measure => simp [intOf]; omega
    · have HR3 : Hid ((Prg.bits j (x - 2 ^ j) fun u => .ret (2 ^ j + (u : Int))).run (biN s' 1 v) = r) := by have := HR2.out; rw [if_neg (by omega)] at this; exact this
      have HO3 : Hid ((Prg.bits j (x - 2 ^ j) fun u => Prg.ret (2 ^ j + (u : Int))).Ok (biN s' 1 v)) := by have := HO2.out; rw [if_neg (by omega)] at this; exact this
      have hv0 : ((v : Int) == 0) = false := by rw [e0]; rfl
      clear HR2 HO2 e0 HL2 hlt
      generalize biN s' 1 v = s2 at *
      have hv := HO3.out.1
      rw [HP.out] at hv
      have HSy : Hid (∀ u, Gd m K O2 s2 u → Calls Tryd.prog 24 #[.pointer (some ⟨m.x, 0, none⟩), .int .i64 (j : Nat), .int .i64 (x - (P : Int))] u fun e w' => e = .returned (.tuple #[.int .i64 (biA s2 j (x - (P : Int)) : Nat), .int .i64 0]) ∧ Mv m K O2 u w' (biN s2 j (biA s2 j (x - (P : Int))))) := fun u hu => bits_gd hu (by rw [HP.out]; exact hv)
      have HRn : Hid (r = (some ((P : Int) + (biA s2 j (x - (P : Int)) : Nat)), biN s2 j (biA s2 j (x - (P : Int))))) := by
        have h1 : (some ((2 : Int) ^ j + ((biA s2 j (x - 2 ^ j) : Nat) : Int)), biN s2 j (biA s2 j (x - 2 ^ j))) = r := HR3.out
        rw [HP.out] at h1
        exact h1.symm
      have hul : biA s2 j (x - (P : Int)) < 2 ^ 20 := by
        have h1 := bi_lt (s := s2) (n := j) (z := x - (P : Int)) (by rw [HP.out]; exact hv.2.2)
        have h2 : 2 ^ j ≤ 2 ^ 20 := Nat.pow_le_pow_right (by omega) HJ.out
        omega
      have hwu := wrap_small (x := (P : Int) + (biA s2 j (x - (P : Int)) : Nat)) (by omega) (by omega)
      generalize biA s2 j (x - (P : Int)) = u at *
      clear hv HR3 HO3 hul
      have HG3 : Hid (Gd m K O2 s2 wB.drew) := HG2.out.drew
      have HLo3 : Hid (m.lo ≤ wB.heap.size) := lo_le HG2.out
      have HBd3 : Hid (Below wB.heap.size wB wB.drew) := L10.below_drew (Below.refl _ _)
      go_wp2_with fail
      have fG3 := HG3.out
      have f3 := HC.out _ _ _ fG3
      go_region_held3 (fun u => u.cell? ⟨m.b, 0, none⟩ = some (.pointer (some ⟨m.x, 0, none⟩)))
        ((exact HC.out _ _ _ (by assumption)))
        (first
          | (go_at_call 24; refine (HSy.out _ (by assumption)).mono ?_; rintro e wD ⟨rfl, hmD⟩; have HM : Hid (Mv m K O2 wB wD (biN s2 j u)) := Mv.behind HLo3.out HBd3.out hmD; obtain ⟨OD, gD, tD, bD⟩ := hmD)
          | (go_at_call 53; refine told_ok.mono ?_; rintro e wE ⟨rfl, rfl⟩))
      go_wp2_with fail
      go_ret
      show Ans m K O w vi r _ _
      rw [HRn.out]
      exact ⟨Tel.some, Mv.trans HT2.out HB2.out HM.out⟩

set_option maxRecDepth 100000 in
set_option maxHeartbeats 2000000 in
theorem endOf_any {m : Pm} {K : List Int} {O : Nat → Prop} {s : Cs} {w : World} (h : Gd m K O s w) :
    Calls Tryd.prog 40 #[.slice (some ⟨m.ob, 0, none⟩) m.q m.oc, .slice (some ⟨m.lb, m.lf, none⟩) m.q m.lc] w fun e w' => e = .returned (.int .i64 (endN m.n m.L m.q : Nat)) ∧ w' = w := by
  have hq : m.q ≤ 1024 := by rw [h.hq]; exact h.sz.sd.sq
  have HO : Hid (∀ i, i < m.q → w.cell? ⟨m.ob, i, none⟩ = some (.int .i64 ((plc m.n i : Nat) : Int)) ∧ plc m.n i < m.q) := fun i hi => ⟨h.bb.od i hi, by have := (plc_at h.sz.sd (i := i) (by rw [← h.hq]; exact hi)).1; rw [h.hq]; exact this⟩
  have HL : Hid (∀ p, p < m.q → w.cell? ⟨m.lb, m.lf + p, none⟩ = some (.int .i64 (m.L.getD p 0))) := h.bb.lv
  generalize m.q = q at *
  clear h
  go_enter Tryd.func40, Tryd.ntmps40
  go_wp2_with fail
  go_loopw [5] (fun i wr => ∃ e : Nat, e ≤ q ∧ i = .int .i64 e ∧ wr = w ∧ Hid (endN m.n m.L e = endN m.n m.L q)) (fun i _ => (intOf i).toNat)
  case atStart => exact ⟨q, by omega, rfl, rfl, rfl⟩
  case round =>
    obtain ⟨e, he, rfl, rfl, HE⟩ := hrel
    by_cases h0 : e = 0
    · subst h0
      go_wp2_with fail
      go_ret
      refine ⟨?_, rfl⟩
      rw [← HE.out]; rfl
    · obtain ⟨k, rfl⟩ : ∃ k, e = k + 1 := ⟨e - 1, by omega⟩
      have hk : k < q := by omega
      obtain ⟨o1, o2⟩ := HO.out k hk
      have l1 := HL.out _ o2
      have k0 : (0 : Int) < ((k + 1 : Nat) : Int) := by omega
      have k1 : ((k + 1 : Nat) : Int) - 1 = (k : Int) := by omega
      have k2 : (k : Int) < (q : Int) := by omega
      have k3 : (0 : Int) ≤ (k : Int) := by omega
      have HE2 : Hid ((if m.L.getD (plc m.n k) 0 = 0 then endN m.n m.L k else k + 1) = endN m.n m.L q) := HE.out
      generalize hpl : plc m.n k = p at *
      have p0 : (0 : Int) ≤ (p : Int) := by omega
      have p1 : (p : Int) < (q : Int) := by omega
      generalize m.L.getD p 0 = v at *
      clear HE hpl h0
      have HK : Hid (k + 1 ≤ q) := he
      clear he hk
      by_cases hv : v = 0
      · have hv2 : (v == 0) = true := by rw [hv]; rfl
        have HE3 : Hid (endN m.n m.L k = endN m.n m.L q) := by have := HE2.out; rw [if_pos hv] at this; exact this
        clear hv HE2
        go_wp2_with fail
        have := HK.out
        go_roundw
        case rel => exact ⟨k, by omega, by go_num, (by first | trivial | rfl), HE3.out⟩
        case measure => simp [intOf]
      · have hv2 : (v == 0) = false := by rw [beq_eq_false_iff_ne]; exact hv
        have HE3 : Hid (k + 1 = endN m.n m.L q) := by have := HE2.out; rw [if_neg hv] at this; exact this
        clear hv HE2
        go_wp2_with fail
        go_ret
        exact ⟨by rw [← HE3.out]; rfl, rfl⟩

end Go.Proofs.YtkmnpechhdendaaDoor
