/- DERIVED. The walk of CoefsWrites. -/
import Derived.Test.YtkmnpechhdendaaGreatDoorFk
import Derived.Test.YtkmnpechhdendaaGreatDoorFj
import Derived.Test.YtkmnpechhdendaaGreatDoorOz
namespace Go.Proofs.YtkmnpechhdendaaGreatDoor
open Go.RowKit L3

theorem si_ke {P : Nat → Prop} {w w' : World} {a : Option Addr} {C : List Int} (h : L10.Si w a C) (hk : Ke P w w') (hP : ∀ b o, a = some ⟨b, o, none⟩ → ¬ P b) : L10.Si w' a C := by
  rcases h with h | ⟨b, o, h1, h2, h3⟩
  · exact Or.inl h
  · exact Or.inr ⟨b, o, h1, Nat.lt_of_lt_of_le h2 hk.size, fun j hj => by rw [hk.cell _ _ h2 (hP b o h1)]; exact h3 j hj⟩
/-- a copy in new memory -/
def CpN (w w' : World) (e : Ending) (C : List Int) (n : Nat) : Prop := ∃ a c, e = .returned (.slice a n c) ∧ L10.Si w' a C ∧ (∀ g o, a = some ⟨g, o, none⟩ → g < w'.heap.size) ∧ (∀ g o, a = some ⟨g, o, none⟩ → w.heap.size ≤ g) ∧ Below w.heap.size w w'
theorem copy_new {w : World} {a : Option Addr} {c n : Nat} {C : List Int} (h : L10.Si w a C) (hn : C.length = n) (hl : n ≤ 17592186043904) :
    Calls Tryz.prog 10 #[.slice a n c] w fun e w' => CpN w w' e C n := by
  subst hn
  by_cases h0 : C.length = 0
  · obtain rfl : C = [] := List.eq_nil_of_length_eq_zero h0
    refine L10.copy_none.mono ?_
    rintro e w' ⟨rfl, rfl⟩
    exact ⟨none, 0, rfl, Or.inl rfl, fun g o e => (by cases e), fun g o e => (by cases e), Below.refl _ _⟩
  · refine (L10.copy_any h hl).mono ?_
    rintro e w' ⟨a', c', rfl, ho, hb⟩
    obtain ⟨b, cap, hv, hB, hlt⟩ := ho.own.form (by omega)
    refine ⟨a', c', rfl, ho.si, fun g o e => ?_, fun g o e => ?_, hb⟩
    all_goals
      rw [e] at hv
      simp at hv
      omega
/-- what Sign answers of levels -/
def sgL (C : List Int) : Int := if C = [] then 0 else sgnV (C.getD 0 0)
theorem ksign_any {w : World} {a : Option Addr} {c n : Nat} {C : List Int} (h : L10.Si w a C) (hn : C.length = n) : Calls Tryz.prog 15 #[.slice a n c] w fun e w' => e = .returned (.int .i64 (sgL C)) ∧ w' = w := by
  subst hn
  by_cases h0 : C.length = 0
  · obtain rfl : C = [] := List.eq_nil_of_length_eq_zero h0
    exact ksign_none
  · obtain ⟨b, o, rfl, _, hc⟩ := h.form (by omega)
    rw [show sgL C = sgnV (C.getD 0 0) from if_neg (fun e => h0 (by rw [e]; rfl))]
    exact ksign_some (lf := o) (by omega) (hc 0 (by omega))
theorem rsign_any {w : World} {a : Option Addr} {c n : Nat} {C : List Int} (h : L10.Si w a C) (hn : C.length = n) : Calls Tryz.prog 16 #[.slice a n c] w fun e w' => e = .returned (.int .i64 (sgL C)) ∧ w' = w := by
  subst hn
  by_cases h0 : C.length = 0
  · obtain rfl : C = [] := List.eq_nil_of_length_eq_zero h0
    exact rsign_none
  · obtain ⟨b, o, rfl, _, hc⟩ := h.form (by omega)
    rw [show sgL C = sgnV (C.getD 0 0) from if_neg (fun e => h0 (by rw [e]; rfl))]
    exact rsign_some (lf := o) (by omega) (hc 0 (by omega))
/-- behind both Codes: both coders, what they answered, the copy that went in, where the block lies -/
structure Tv (W : World) (lo x lo2 y : Nat) (s : Cs) (aa ab ain : Option Addr) (A ql : List Int) (xb : Nat) (lv : Value) (u : World) : Prop where
  ex : ∃ O O2, Cd u lo x O s ∧ Fc u lo2 y O2 s ∧ (∀ b, O b → ¬ O2 b) ∧ Below W.heap.size W u ∧ (∀ g, aa = some ⟨g, 0, none⟩ → W.heap.size ≤ g ∧ ¬ O g ∧ ¬ O2 g)
  an : A = [] ∨ ∃ g, aa = some ⟨g, 0, none⟩ ∧ L10.Ri 3 u g A
  sb : L10.Si u ab A
  si : L10.Si u ain ql
  ap : ∀ g, aa = some ⟨g, 0, none⟩ → ∀ b o, ain = some ⟨b, o, none⟩ → b ≠ g
  xc : u.cell? ⟨xb, 3, none⟩ = some lv
  xl : xb < u.heap.size
  xa : ∀ g, aa = some ⟨g, 0, none⟩ → xb ≠ g
theorem Tv.to {W : World} {lo x lo2 y : Nat} {s : Cs} {aa ab ain : Option Addr} {A ql : List Int} {xb : Nat} {lv : Value} {u v : World} (h : Tv W lo x lo2 y s aa ab ain A ql xb lv u) (hb : Below u.heap.size u v) : Tv W lo x lo2 y s aa ab ain A ql xb lv v := by
  obtain ⟨⟨O, O2, h1, h2, h3, h4, h5⟩, an, sb, si, ap, xc, xl, xa⟩ := h
  refine ⟨⟨O, O2, h1.to hb, h2.to hb, h3, L10.below_to h4 hb, h5⟩, ?_, sb.to hb, si.to hb, ap, by rw [L10.newCell hb _ _ xl]; exact xc, Nat.lt_of_lt_of_le xl hb.size, xa⟩
  rcases an with e | ⟨g, e, hr⟩
  · exact Or.inl e
  · exact Or.inr ⟨g, e, hr.to hb⟩
theorem Tv.sa {W : World} {lo x lo2 y : Nat} {s : Cs} {aa ab ain : Option Addr} {A ql : List Int} {xb : Nat} {lv : Value} {u : World} (h : Tv W lo x lo2 y s aa ab ain A ql xb lv u) : L10.Si u aa A := by
  rcases h.an with e | ⟨g, e, hr⟩
  · exact Or.inl e
  · rw [e]; exact hr.si
theorem Tv.bel {W : World} {lo x lo2 y : Nat} {s : Cs} {aa ab ain : Option Addr} {A ql : List Int} {xb : Nat} {lv : Value} {u : World} (h : Tv W lo x lo2 y s aa ab ain A ql xb lv u) : Below W.heap.size W u := by
  obtain ⟨_, _, _, _, _, h, _⟩ := h.ex; exact h
/-- behind the answer's being written over -/
structure Tx (W : World) (lo x lo2 y : Nat) (s : Cs) (ain : Option Addr) (ql : List Int) (xb : Nat) (lv : Value) (u : World) : Prop where
  tr : Tr W lo x lo2 y s u
  si : L10.Si u ain ql
  xc : u.cell? ⟨xb, 3, none⟩ = some lv
theorem Tv.tx {W : World} {lo x lo2 y : Nat} {s : Cs} {aa ab ain : Option Addr} {A ql : List Int} {xb : Nat} {lv : Value} {u v : World} (h : Tv W lo x lo2 y s aa ab ain A ql xb lv u) (hk : Ke (fun b => aa = some ⟨b, 0, none⟩) u v) (hw : W.heap.size ≤ u.heap.size) : Tx W lo x lo2 y s ain ql xb lv v := by
  obtain ⟨⟨O, O2, h1, h2, h3, h4, h5⟩, an, sb, si, ap, xc, xl, xa⟩ := h
  refine ⟨⟨O, O2, h1.ke hk (fun b hb => (h5 b hb).2.1), h2.ke hk (fun b hb => (h5 b hb).2.2), h3, h4.trans (hk.below (fun k hk => (h5 k hk).1) hw)⟩, si_ke si hk (fun b o e hb => ap b hb b o e rfl), ?_⟩
  rw [hk.cell _ _ xl (fun e => xa xb e rfl)]
  exact xc
/-- while the answer is written over -/
structure Kx (V : World) (aa : Option Addr) (n : Nat) (kv : Value) (u : World) : Prop where
  ex : ∃ k : Nat, k ≤ n ∧ kv = .int .i64 k ∧ Ke (fun b => aa = some ⟨b, 0, none⟩) V u ∧ (0 < n → ∃ g K, aa = some ⟨g, 0, none⟩ ∧ L10.Ri 3 u g K ∧ K.length = n)
structure WrI (W : World) (lo x lo2 y len : Nat) (iv : Value) (wr : World) : Prop where
  ex : ∃ (i : Nat) (s : Cs), i ≤ len ∧ i ≤ 8 ∧ iv = .int .i64 i ∧ Tr W lo x lo2 y s wr ∧ s.W = true ∧ s.n ≤ 50000 * i

set_option maxRecDepth 100000 in
set_option maxHeartbeats 8000000 in
theorem writes_walk (hcl : CodeLaw) {W : World} (hsh : Sh W) (hnt : L10.Nt W) {a1 : Option Addr} {cap1 : Nat} {L : List Dd} (hd : DoAt W a1 L) (hst : Short L) {ad : Bool} : Calls Tryz.prog 3 #[.slice a1 L.length cap1, .bool ad] W fun e w' => e = .returned (.bool true) ∧ Below W.heap.size W w' := by
  have HCL : Hid CodeLaw := hcl
  have HSh : Hid (∀ u, Below W.heap.size W u → Sh u ∧ L10.Nt u) := fun u hu => ⟨hsh.to hu, hnt.to hu⟩
  have HW2 : Hid (1 < W.heap.size) := hnt.low
  have HD : Hid (DoAt W a1 L) := hd
  have HSt : Hid (Short L) := hst
  have hdf := default_hs hsh
  clear hcl hsh hnt hd hst
  go_enter Tryz.func3, Tryz.ntmps3
  go_wp2_with fail
  refine hdf.mono ?_
  rintro e w1 ⟨bt1, B1, rfl, hs1, hb1⟩
  have HB1 : Hid (Below W.heap.size W w1) := hb1
  have HRd : Hid (Calls Tryz.prog 6 #[.agg #[.slice (some ⟨bt1, 0, none⟩) 32 32], .bool ad] w1 fun e w' => ∃ x O, e = .returned (.tuple #[.pointer (some ⟨x, 0, none⟩), .int .i64 0]) ∧ Cd w' w1.heap.size x O (wS ad) ∧ (∀ y, O y → w1.heap.size ≤ y) ∧ Below w1.heap.size w1 w') := writer_cd (HSh.out _ hb1).1 hs1
  clear hs1 hb1 hdf
  go_wp2_with fail
  refine HRd.out.mono ?_
  rintro e w2 ⟨x, O, rfl, hc2, -, hb2⟩
  have HC2 : Hid (Cd w2 w1.heap.size x O (wS ad)) := hc2
  have HB2 : Hid (Below W.heap.size W w2) := L10.below_to HB1.out hb2
  have HLo : Hid (W.heap.size ≤ w1.heap.size) := HB1.out.size
  generalize w1.heap.size = lo at *
  clear hc2 hb2 HRd
  go_wp2_with fail
  refine rdefault_any.mono ?_
  rintro e w3 ⟨bt3, cT3, B3, rfl, hu3, hb3⟩
  have HB3 : Hid (Below w2.heap.size w2 w3) := hb3
  have HRr : Hid (Calls Tryz.prog 8 #[.agg #[.slice (some ⟨bt3, 0, none⟩) 32 cT3], .bool ad] w3 fun e w' => FwN w3 w' e dS ad) := rwriter_u hu3
  clear hu3 hb3
  go_wp2_with fail
  refine HRr.out.mono ?_
  rintro e w4 ⟨y, O2, rfl, hf4, hb4⟩
  have HS : Hid (WrI W lo x w3.heap.size y L.length (.int .i64 0) w4) := ⟨0, wS ad, by omega, by omega, rfl, ⟨O, O2, (HC2.out.to HB3.out).to hb4, ⟨fun _ => hf4, fun e => (by cases e), fun _ => (by show (0 : Nat) ≤ _; omega), fun e => (by cases e)⟩, fun b h1 h2 => (by have e1 := HC2.out.lt h1; have e2 := (hf4.lt h2).1; have e3 := HB3.out.size; omega), L10.below_to (L10.below_to HB2.out HB3.out) hb4⟩, rfl, by show (0 : Nat) ≤ _; omega⟩
  have HLo2 : Hid (W.heap.size ≤ w3.heap.size ∧ w3.heap.size ≤ w4.heap.size) := ⟨by have := HB2.out.size; have := HB3.out.size; omega, hb4.size⟩
  generalize w3.heap.size = lo2 at *
  clear hf4 hb4 HRr HB3 HC2 HB2 HB1
  go_wp2_with fail
  go_loopw [9] (fun iv wr => WrI W lo x lo2 y L.length iv wr) (fun iv _ => 8 - (intOf iv).toNat)
  case atStart => exact HS.out
  case round =>
    clear HS
    obtain ⟨i, s, hi, hi8, rfl, hT, hW, hn⟩ := hrel
    have HT : Hid (Tr W lo x lo2 y s wr) := hT
    have HWn : Hid (s.W = true ∧ s.n ≤ 50000 * i) := ⟨hW, hn⟩
    have i0 : (0 : Int) ≤ (i : Int) := by omega
    have HI8 : Hid (i ≤ 8) := hi8
    clear hT hW hn
    by_cases hlt : i < L.length ∧ i < 8
    · have l1 : (i : Int) < (L.length : Int) := by omega
      have l2 : (i : Int) < 8 := by omega
      obtain ⟨b, o, rfl, hbl, hcell⟩ : ∃ b o, a1 = some ⟨b, o, none⟩ ∧ b < W.heap.size ∧ ∀ j, j < L.length → DdAt W ⟨b, o, none⟩ j (L.getD j dd0) := by
        rcases HD.out with e | h
        · rw [e] at hlt; simp at hlt
        · exact h
      obtain ⟨d0, d1, d2, d3, hsi, -⟩ := hcell i hlt.1
      have hln := HSt.out.len i hlt.1
      rw [addr_add] at d0 d1 d2 d3
      rw [← Nat.add_assoc] at d1 d2 d3
      generalize L.getD i dd0 = q0 at *
      obtain ⟨qa, qb, qc, qla, qlc, ql⟩ := q0
      simp only at d0 d1 d2 d3 hsi hln
      obtain ⟨qn, hqn⟩ : ∃ qn, ql.length = qn := ⟨_, rfl⟩
      rw [hqn] at d3 hln
      have HQN : Hid (ql.length = qn) := hqn
      have HLN : Hid (qn ≤ 17592186043904) := hln
      have HSi : Hid (∀ u, Below W.heap.size W u → L10.Si u qla ql) := fun u hu => hsi.to hu
      have hbW : Below W.heap.size W wr := by obtain ⟨_, _, _, _, _, h⟩ := HT.out; exact h
      obtain ⟨e0, e1, e2, e3⟩ : wr.cell? ⟨b, o + i * 4, none⟩ = some (.int .i64 qa) ∧ wr.cell? ⟨b, o + i * 4 + 1, none⟩ = some (.int .i64 qb) ∧ wr.cell? ⟨b, o + i * 4 + 2, none⟩ = some (.int .i64 qc) ∧ wr.cell? ⟨b, o + i * 4 + 3, none⟩ = some (.slice qla qn qlc) := ⟨by rw [L10.newCell hbW _ _ hbl]; exact d0, by rw [L10.newCell hbW _ _ hbl]; exact d1, by rw [L10.newCell hbW _ _ hbl]; exact d2, by rw [L10.newCell hbW _ _ hbl]; exact d3⟩
      obtain ⟨A, er, s', n1, n2, n3, n4, n5, hP, hQ⟩ := both_w HCL.out s HT.out.so HWn.out.1 (by have := HWn.out.2; have := HI8.out; omega) qa qb qc ql
      have HN : Hid (s'.W = true ∧ s'.n ≤ s.n + 50000 ∧ (er = 0 ∨ er = 2 ∨ er = 4)) := ⟨n1, n2, n5⟩
      have HAl : Hid (A.length ≤ 1024) := n4
      have HP : Hid (∀ (w : World) lo x O (la : Option Addr) lc, Cd w lo x O s → Sh w → L10.Nt w → 1 < lo → L10.Si w la ql → (∀ g o, la = some ⟨g, o, none⟩ → ¬ O g) → Calls Tryz.prog 11 #[.pointer (some ⟨x, 0, none⟩), .int .i64 qa, .int .i64 qb, .int .i64 qc, .slice la qn lc] w fun en w' => Pa w w' lo x O A er s' en) := fun w lo x O la lc k1 k2 k3 k4 k5 k6 => by
        have := hP w lo x O la lc k1 k2 k3 k4 k5 k6
        rw [HQN.out] at this
        exact this
      have HQ : Hid (∀ (w : World) lo x O (la : Option Addr) lc, Fc w lo x O s → L10.Si w la ql → Calls Tryz.prog 12 #[.pointer (some ⟨x, 0, none⟩), .int .i64 qa, .int .i64 qb, .int .i64 qc, .slice la qn lc] w fun en w' => Qa w w' lo x O A er s' en) := fun w lo x O la lc k1 k2 => by
        have := hQ w lo x O la lc k1 k2
        rw [HQN.out] at this
        exact this
      have HCp : Hid (∀ u, Below W.heap.size W u → Calls Tryz.prog 10 #[.slice qla qn qlc] u fun e w' => CpN u w' e ql qn) := fun u hu => copy_new (HSi.out u hu) HQN.out HLN.out
      have HIl : Hid (i < L.length ∧ i < 8) := hlt
      clear hP hQ n1 n2 n3 n4 n5 hlt hcell d0 d1 d2 d3 hi hi8 hbl hsi hln hqn
      obtain ⟨O, O2, hc, hf, hdj, hb⟩ := HT.out
      have hba : Below wr.heap.size wr (wr.alloc (.cells #[.int .i64 qa, .int .i64 qb, .int .i64 qc, .slice qla qn qlc] 36)) := L10.from_alloc _ _
      have HG5 : Hid (Cd (wr.alloc (.cells #[.int .i64 qa, .int .i64 qb, .int .i64 qc, .slice qla qn qlc] 36)) lo x O s ∧ Fc (wr.alloc (.cells #[.int .i64 qa, .int .i64 qb, .int .i64 qc, .slice qla qn qlc] 36)) lo2 y O2 s ∧ (∀ b, O b → ¬ O2 b) ∧ Below W.heap.size W (wr.alloc (.cells #[.int .i64 qa, .int .i64 qb, .int .i64 qc, .slice qla qn qlc] 36)) ∧ (∀ b, O b → b < wr.heap.size) ∧ (∀ b, O2 b → b < wr.heap.size) ∧ wr.heap.size < (wr.alloc (.cells #[.int .i64 qa, .int .i64 qb, .int .i64 qc, .slice qla qn qlc] 36)).heap.size) := ⟨hc.to hba, hf.to hba, hdj, L10.below_to hb hba, fun b e => hc.lt e, fun b e => (hf.lt e).2, by simp⟩
      have HX5 : Hid (∀ u : World, (∀ j, u.cell? ⟨wr.heap.size, j, none⟩ = (wr.alloc (.cells #[.int .i64 qa, .int .i64 qb, .int .i64 qc, .slice qla qn qlc] 36)).cell? ⟨wr.heap.size, j, none⟩) → u.cell? ⟨wr.heap.size, 0, none⟩ = some (.int .i64 qa) ∧ u.cell? ⟨wr.heap.size, 1, none⟩ = some (.int .i64 qb) ∧ u.cell? ⟨wr.heap.size, 2, none⟩ = some (.int .i64 qc) ∧ u.cell? ⟨wr.heap.size, 3, none⟩ = some (.slice qla qn qlc)) := fun u hu => by
        rw [hu, hu, hu, hu]
        simp [go_sem]
      have HLw : Hid (lo2 ≤ wr.heap.size) := by
        have e1 := (hf.lt (y := y) (by obtain ⟨_, _, _, _, _, _, e⟩ := hf.wc HWn.out.1; rw [e]; exact Or.inl rfl))
        show _ ≤ _
        omega
      clear hc hf hdj hb hba hbW HT
      go_wp2_with fail
      generalize wr.alloc (.cells #[.int .i64 qa, .int .i64 qb, .int .i64 qc, .slice qla qn qlc] 36) = w5 at *
      generalize wr.heap.size = xb at *
      clear e0 e1 e2 e3
      refine (HCp.out _ HG5.out.2.2.2.1).mono ?_
      rintro e w6 ⟨ain, cin, rfl, si6, hab6, new6, hb6⟩
      obtain ⟨hc5, hf5, hdj, hb5, hlt1, hlt2, hxl⟩ := HG5.out
      have hc6 := hc5.to hb6
      have hf6 := hf5.to hb6
      have hbW6 := L10.below_to hb5 hb6
      have hcell6 : ∀ j, w6.cell? ⟨xb, j, none⟩ = w5.cell? ⟨xb, j, none⟩ := fun j => L10.newCell hb6 _ _ hxl
      obtain ⟨x0, x1, x2, x3⟩ := HX5.out w6 hcell6
      have hno1 : ∀ g o, ain = some ⟨g, o, none⟩ → ¬ O g := fun g o e e2 => by have := hlt1 g e2; have := new6 g o e; omega
      have hno2 : ∀ g o, ain = some ⟨g, o, none⟩ → ¬ O2 g := fun g o e e2 => by have := hlt2 g e2; have := new6 g o e; omega
      have hsz6 : w5.heap.size ≤ w6.heap.size := hb6.size
      have HG6 : Hid (Cd w6 lo x O s ∧ Fc w6 lo2 y O2 s ∧ (∀ b, O b → ¬ O2 b) ∧ Below W.heap.size W w6 ∧ (∀ b, O b → b < xb) ∧ (∀ b, O2 b → b < xb) ∧ xb < w6.heap.size ∧ L10.Si w6 ain ql ∧ (∀ g o, ain = some ⟨g, o, none⟩ → ¬ O g) ∧ (∀ g o, ain = some ⟨g, o, none⟩ → ¬ O2 g) ∧ (∀ j, w6.cell? ⟨xb, j, none⟩ = w5.cell? ⟨xb, j, none⟩) ∧ (∀ b o, ain = some ⟨b, o, none⟩ → b < w6.heap.size)) := ⟨hc6, hf6, hdj, hbW6, hlt1, hlt2, by omega, si6, hno1, hno2, hcell6, hab6⟩
      clear hc5 hf5 hdj hb5 hlt1 hlt2 hxl hc6 hf6 hbW6 hcell6 hno1 hno2 hsz6 HG5 HCp si6 hab6 new6 hb6
      go_wp2_with fail
      refine (HP.out w6 lo x O ain cin HG6.out.1 (HSh.out _ HG6.out.2.2.2.1).1 (HSh.out _ HG6.out.2.2.2.1).2 (by have := HLo.out; have := HW2.out; omega) HG6.out.2.2.2.2.2.2.2.1 HG6.out.2.2.2.2.2.2.2.2.1).mono ?_
      rintro en w7 ⟨aa, ca, O7, rfl, sa7, ga7, hc7, ht7, hb7⟩
      obtain ⟨hc6, hf6, hdj, hbW6, hlt1, hlt2, hxl, si6, hno1, hno2, hcell6, hab⟩ := HG6.out
      obtain ⟨y0, y1, y2, y3⟩ := HX5.out w7 (fun j => by rw [ht7.ke.cell _ _ hxl (fun e => by have := hlt1 _ e; omega)]; exact hcell6 j)
      have hf7 : Fc w7 lo2 y O2 s := hf6.ke ht7.ke (fun b h1 h2 => hdj b h1 h2)
      have dis7 : ∀ b, O7 b → ¬ O2 b := fun b h1 h2 => by
        rcases ht7.new b h1 with e | e
        · exact hdj b e h2
        · have := (hf6.lt h2).2; omega
      have hbW7 : Below W.heap.size W w7 := hbW6.trans (hb7.mono HLo.out)
      have HQc := HQ.out w7 lo2 y O2 qla qlc hf7 (HSi.out _ hbW7)
      have HEn : Hid (∀ en w8, Qa w7 w8 lo2 y O2 A er s' en → ∃ ab cb, en = .returned (.tuple #[.slice ab A.length cb, .int .i64 er]) ∧ Tv W lo x lo2 y s' aa ab ain A ql xb (.slice qla qn qlc) w8) := fun en w8 h => by
        obtain ⟨ab, cb, O8, rfl, sb8, gb8, hf8, ht8⟩ := h
        have hsz7 := ht7.ke.size
        have hg7 : ∀ g, aa = some ⟨g, 0, none⟩ → w6.heap.size ≤ g ∧ g < w7.heap.size ∧ ¬ O7 g ∧ ¬ O2 g := fun g e => by
          obtain ⟨_, g2, g3, g4⟩ := ga7 g 0 e
          exact ⟨g2, g4.lt, g3, fun e2 => by have := hlt2 _ e2; omega⟩
        refine ⟨ab, cb, rfl, ⟨⟨O7, O8, hc7.ke ht8.ke (fun b h1 h2 => dis7 b h2 h1), hf8, fun b h1 h2 => ?_, ?_, fun g e => ?_⟩, ?_, sb8, ?_, ?_, ?_, ?_, ?_⟩⟩
        · rcases ht8.new b h2 with e | e
          · exact dis7 b h1 e
          · have := hc7.lt h1; omega
        · exact hbW7.trans ((trn_below ht8 (fun y hy => (hf7.lt hy).1) (by have := HLw.out; omega)).mono HLo2.out.1)
        · obtain ⟨g2, g3, g4, g5⟩ := hg7 g e
          refine ⟨by have := hbW6.size; omega, g4, fun e2 => ?_⟩
          rcases ht8.new g e2 with e3 | e3
          · exact g5 e3
          · omega
        · rcases sa7 with e | ⟨g, o, e, -, -⟩
          · exact Or.inl e
          · obtain ⟨rfl, g2, g3, g4⟩ := ga7 g o e
            exact Or.inr ⟨g, e, g4.carry (ht8.ke.block g g4.lt (hg7 g e).2.2.2)⟩
        · exact si_ke (si_ke si6 ht7.ke hno1) ht8.ke hno2
        · intro g e b o e2 e3
          obtain ⟨g2, -, -, -⟩ := hg7 g e
          have := hab b o e2
          omega
        · rw [ht8.ke.cell _ _ (by omega) (fun e => by have := hlt2 _ e; omega)]
          exact y3
        · have := ht8.ke.size; omega
        · intro g e e2
          have := (hg7 g e).1
          omega
      clear sa7 ga7 hc7 ht7 hb7 hf7 dis7 hbW7 hc6 hf6 hdj hbW6 hlt1 hlt2 hxl si6 hno1 hno2 hcell6 hab HG6 HX5 HP HQ x0 x1 x2 x3
      go_wp2_with fail
      refine HQc.mono ?_
      rintro en w8 hq8
      obtain ⟨ab, cb, rfl, htv⟩ := HEn.out _ _ hq8
      have HTv : Hid (Tv W lo x lo2 y s' aa ab ain A ql xb (.slice qla qn qlc) w8) := htv
      clear hq8 htv HQc HEn y0 y1 y2 y3
      obtain ⟨nn, hnn⟩ : ∃ nn : Int, ((s'.n : Nat) : Int) = nn := ⟨_, rfl⟩
      obtain ⟨la, hla⟩ : ∃ la, A.length = la := ⟨_, rfl⟩
      rw [hla]
      have HLA : Hid (A.length = la ∧ la ≤ 1024) := ⟨hla, by rw [← hla]; exact HAl.out⟩
      obtain ⟨sg, hsg⟩ : ∃ sg, sgL ql = sg := ⟨_, rfl⟩
      have HKp : Hid (∀ u, Below w8.heap.size w8 u → u.cell? ⟨y, 4, none⟩ = some (.int .i64 nn) ∧ u.cell? ⟨xb, 3, none⟩ = some (.slice qla qn qlc)) := fun u hu => by
        obtain ⟨_, _, _, h, _, _, _⟩ := (HTv.out.to hu).ex
        exact ⟨by rw [← hnn]; exact h.c0.2.2, (HTv.out.to hu).xc⟩
      have HEq : Hid (∀ u, Below w8.heap.size w8 u → Calls Tryz.prog 13 #[.slice aa la ca, .slice ab la cb] u fun e w' => e = .returned (.bool true) ∧ Below u.heap.size u w') := fun u hu => by
        have h := HTv.out.to hu
        have hl := HLA.out.2
        have := L10.eqInts_at (c := ca) (d := cb) h.sa h.sb HLA.out.1 HLA.out.1 (by omega) (by omega)
        rw [eqI_refl] at this
        exact this
      have HEr : Hid (∀ u, Below W.heap.size W u → L10.Si u ain ql → Calls Tryz.prog 13 #[.slice ain qn cin, .slice qla qn qlc] u fun e w' => e = .returned (.bool true) ∧ Below u.heap.size u w') := fun u hu hs => by
        have hl := HLN.out
        have := L10.eqInts_at (c := cin) (d := qlc) hs (HSi.out u hu) HQN.out HQN.out (by omega) (by omega)
        rw [eqI_refl] at this
        exact this
      have HEs : Hid (∀ u, Below w8.heap.size w8 u → Calls Tryz.prog 13 #[.slice ain qn cin, .slice qla qn qlc] u fun e w' => e = .returned (.bool true) ∧ Below u.heap.size u w') := fun u hu => HEr.out u (HTv.out.to hu).bel (HTv.out.to hu).si
      have HCt : Hid (∀ u, Below w8.heap.size w8 u → Calls Tryz.prog 14 #[.pointer (some ⟨x, 0, none⟩)] u fun e w' => e = .returned (.int .i64 nn) ∧ w' = u) := fun u hu => by
        obtain ⟨_, _, h, _, _, _, _⟩ := (HTv.out.to hu).ex
        rw [← hnn]; exact count_cd h
      have HS1 : Hid (∀ u, Below w8.heap.size w8 u → Calls Tryz.prog 15 #[.slice ain qn cin] u fun e w' => e = .returned (.int .i64 sg) ∧ w' = u) := fun u hu => by
        rw [← hsg]; exact ksign_any (HTv.out.to hu).si HQN.out
      have HS2 : Hid (∀ u, Below w8.heap.size w8 u → Calls Tryz.prog 16 #[.slice qla qn qlc] u fun e w' => e = .returned (.int .i64 sg) ∧ w' = u) := fun u hu => by
        rw [← hsg]; exact rsign_any (HSi.out _ (HTv.out.to hu).bel) HQN.out
      have hee : (er == er) = true := by simp
      have hnq : (nn == nn) = true := by simp
      have hsq : (sg == sg) = true := by simp
      have hbd : Below w8.heap.size w8 w8.drew := L10.below_drew (Below.refl _ _)
      clear hnn hla hsg
      have c4 := HKp.out _ hbd
      go_wp2_with fail
      go_region_held3 (fun u => u.cell? ⟨y, 4, none⟩ = some (.int .i64 nn) ∧ u.cell? ⟨xb, 3, none⟩ = some (.slice qla qn qlc))
        ((exact HKp.out _ (by assumption)))
        (first
          | (go_at_call 13; with_reducible refine (HEq.out _ (by assumption)).mono ?_; rintro e wA ⟨rfl, hbA⟩; have hzA := L10.below_to (by assumption) hbA)
          | (go_at_call 13; with_reducible refine (HEs.out _ (by assumption)).mono ?_; rintro e wB ⟨rfl, hbB⟩; have hzB := L10.below_to (by assumption) hbB)
          | (go_at_call 14; refine (HCt.out _ (by assumption)).mono ?_; rintro e wC ⟨rfl, hwC⟩; obtain rfl := hwC.symm)
          | (go_at_call 15; refine (HS1.out _ (by assumption)).mono ?_; rintro e wD ⟨rfl, hwD⟩; obtain rfl := hwD.symm)
          | (go_at_call 16; refine (HS2.out _ (by assumption)).mono ?_; rintro e wE ⟨rfl, hwE⟩; obtain rfl := hwE.symm))
      all_goals
        have HTw : Hid (Tv W lo x lo2 y s' aa ab ain A ql xb (.slice qla qn qlc) wB) := HTv.out.to hzB
        have HNs : Hid (s'.W = true ∧ s'.n ≤ 50000 * (i + 1)) := ⟨HN.out.1, by have h1 := HN.out.2.1; have h2 := HWn.out.2; omega⟩
        clear hzA hbA hzB hbB hbd c4 HTv HKp HEq HEs HCt HS1 HS2 HN HWn hee hnq hsq
        go_wp2_with fail
        generalize wB = V at *
        go_loopw [16] (fun kv wk => Kx V aa la kv wk) (fun kv _ => la - (intOf kv).toNat)
        case atStart =>
          refine ⟨⟨0, by omega, rfl, Ke.refl _ _, fun h0 => ?_⟩⟩
          rcases HTw.out.an with e | ⟨g, e, hr⟩
          · have := HLA.out.1; rw [e] at this; simp at this; omega
          · exact ⟨g, A, e, hr, HLA.out.1⟩
        case round =>
          obtain ⟨k, hk, rfl, hke, hri⟩ := hrel
          have k0 : (0 : Int) ≤ (k : Int) := by omega
          by_cases hkl : k < la
          · obtain ⟨g, K, rfl, hr, hK⟩ := hri (by omega)
            have k1 : (k : Int) < (la : Int) := by omega
            have cg := hr.cell k (by omega)
            have fg := hr.thaw k
            have HKe : Hid (Ke (fun b => some (⟨g, 0, none⟩ : Addr) = some ⟨b, 0, none⟩) V wr) := hke
            have HR : Hid (L10.Ri 3 wr g K ∧ K.length = la) := ⟨hr, hK⟩
            have HKl : Hid (k < la) := hkl
            have kb : (k : Int) < 1024 := by have := HLA.out.2; omega
            clear hri hr hK hke hk hkl
            generalize K.getD k 0 = kvv at *
            go_wp2_with fail
            have hkl := HKl.out
            go_roundw
            case rel =>
              refine ⟨⟨k + 1, by omega, by go_num, HKe.out.trans (Ke.set (fun b => some (⟨g, 0, none⟩ : Addr) = some ⟨b, 0, none⟩) _ _ _ rfl) (fun _ h => h) (fun _ _ h => h), fun _ => ⟨g, _, rfl, HR.out.1.set k _, by rw [List.length_set]; exact HR.out.2⟩⟩⟩
            case measure => simp [intOf]; omega
          · have k1 : ¬ (k : Int) < (la : Int) := by omega
            have HTx : Hid (Tx W lo x lo2 y s' ain ql xb (.slice qla qn qlc) wr) := HTw.out.tx hke HTw.out.bel.size
            have c3 := HTx.out.xc
            have hbx : Below W.heap.size W wr := by obtain ⟨_, _, _, _, _, h⟩ := HTx.out.tr; exact h
            have HEt := HEr.out _ hbx HTx.out.si
            clear hri hke hk hkl hbx
            go_wp2_with fail
            refine HEt.mono ?_
            rintro e w9 ⟨rfl, hb9⟩
            have HTe : Hid (Tr W lo x lo2 y s' w9) := HTx.out.tr.to hb9
            clear hb9 HEt c3
            go_wp2_with fail
            obtain ⟨il, i8⟩ := HIl.out
            go_roundw
            case rel => exact ⟨⟨i + 1, s', by omega, by omega, by go_num, HTe.out, HNs.out.1, HNs.out.2⟩⟩
            case measure => simp [intOf]; omega
    · by_cases h1 : i < L.length
      · have l1 : (i : Int) < (L.length : Int) := by omega
        have l2 : ¬ (i : Int) < 8 := by omega
        clear hlt hi hi8 h1
        obtain ⟨O8, O9, hc8, hf8, -, hb8⟩ := HT.out
        have HC8 : Hid (Cd wr lo x O8 s) := hc8
        have HF8 : Hid (Fc wr lo2 y O9 s) := hf8
        have HB8 : Hid (Below W.heap.size W wr) := hb8
        have HGk : Hid (s.c ≤ 1000000) := by have h1 := hc8.kb HWn.out.1; have h2 := HWn.out.2; have h3 := HI8.out; show _ ≤ _; omega
        have HBy : Hid (Calls Tryz.prog 17 #[.pointer (some ⟨x, 0, none⟩)] wr fun e w' => ∃ v, e = .returned (.tuple #[v, .int .i64 0]) ∧ L2.ByNew wr w' v s.a s.c) := by
          obtain ⟨_, _, _, _, h, _⟩ := hc8.wc HWn.out.1
          exact bytes_w h (by have := HGk.out; omega)
        have HCy : Hid (∀ u, Below wr.heap.size wr u → Calls Tryz.prog 18 #[.pointer (some ⟨y, 0, none⟩)] u fun e w' => ∃ v, e = .returned (.tuple #[v, .int .i64 0]) ∧ L2.ByNew u w' v s.a s.c) := fun u hu => rbytes_f ((HF8.out.to hu).wc HWn.out.1) (by have := HGk.out; omega)
        have HSet : Hid (∀ u, Below wr.heap.size wr u → Calls Tryz.prog 19 #[.pointer (some ⟨x, 0, none⟩)] u fun e w' => ∃ bt B, e = .returned (.tuple #[.agg #[.slice (some ⟨bt, 0, none⟩) 32 32], .int .i64 0]) ∧ Hs w' u.heap.size bt B s.S ∧ Below u.heap.size u w') := fun u hu => set_wc ((HC8.out.to hu).wc HWn.out.1) (HSh.out _ (L10.below_to HB8.out hu)).1
        clear hc8 hf8 hb8
        go_wp2_with fail
        refine HBy.out.mono ?_
        rintro e w13 ⟨v13, rfl, b13, z13, hy13, hl13, hb13⟩
        have HY13 : Hid (L2.By w13 v13 b13 z13 s.a s.c) := hy13
        have HB13 : Hid (Below wr.heap.size wr w13) := hb13
        have HV13 : Hid (b13 < w13.heap.size) := hy13.lies
        clear hy13 hl13 hb13 HBy
        go_wp2_with fail
        refine (HCy.out _ HB13.out).mono ?_
        rintro e w14 ⟨v14, rfl, b14, z14, hy14, hl14, hb14⟩
        have HY14 : Hid (L2.By w14 v14 b14 z14 s.a s.c) := hy14
        have HZ14 : Hid (z13 = z14) := HY13.out.uniq hy14
        have HB14 : Hid (Below wr.heap.size wr w14) := L10.below_to HB13.out hb14
        have HY13' : Hid (L2.By w14 v13 b13 z13 s.a s.c) := HY13.out.below hb14 HV13.out
        have HV14 : Hid (b14 < w14.heap.size ∧ b13 < w14.heap.size) := ⟨hy14.lies, Nat.lt_of_lt_of_le HV13.out hb14.size⟩
        clear hy14 hl14 hb14 HCy HY13 HV13
        go_wp2_with fail
        refine (HSet.out _ HB14.out).mono ?_
        rintro e w15 ⟨bt9, B9, rfl, hs9, hb9⟩
        have HBa : Hid (Below w14.heap.size w14 (w15.alloc (.cells #[.slice (some ⟨bt9, 0, none⟩) 32 32] 29))) := L10.to_alloc hb9 _
        have HHa : Hid (Hu (w15.alloc (.cells #[.slice (some ⟨bt9, 0, none⟩) 32 32] 29)) w14.heap.size bt9 B9 s.S) := (Hu.of hs9).to (L10.from_alloc _ _)
        have HCa : Hid ((w15.alloc (.cells #[.slice (some ⟨bt9, 0, none⟩) 32 32] 29)).cell? ⟨w15.heap.size, 0, none⟩ = some (.slice (some ⟨bt9, 0, none⟩) 32 32)) := by show _ = _; simp [go_sem]
        have HLa : Hid (w15.heap.size < (w15.alloc (.cells #[.slice (some ⟨bt9, 0, none⟩) 32 32] 29)).heap.size) := by show _ < _; simp
        clear hs9 hb9 HSet
        go_wp2_with fail
        generalize w15.alloc (.cells #[.slice (some ⟨bt9, 0, none⟩) 32 32] 29) = wa at *
        generalize w15.heap.size = sa at *
        have HBra : Hid (Below wr.heap.size wr wa) := L10.below_to HB14.out HBa.out
        obtain ⟨btm, cTm, Bm, xem, dm, hfm, -⟩ := (HF8.out.to HBra.out).wc HWn.out.1
        have HM : Hid (FW wa lo2 y btm cTm Bm xem dm s.S s.ad s.n s.a s.b s.c) := hfm
        clear hfm
        have HEq : Hid (∀ u, Below wa.heap.size wa u → Calls Tryz.prog 20 #[v13, v14] u fun e w' => e = .returned (.bool true) ∧ Below u.heap.size u w') := fun u hu => by
          have hbu : Below w14.heap.size w14 u := L10.below_to HBa.out hu
          have y1 := HY13'.out.below hbu HV14.out.2
          have y2 := HY14.out.below hbu HV14.out.1
          have := L2.eqBytes_rr y1.rr y2.rr (by have := y1.len; have := HGk.out; omega) y1.byt y2.byt
          rw [show decide (z13 = z14) = true from decide_eq_true HZ14.out] at this
          exact this
        have HKq : Hid (∀ u, Below wa.heap.size wa u → u.cell? ⟨sa, 0, none⟩ = some (.slice (some ⟨bt9, 0, none⟩) 32 32) ∧ u.cell? ⟨y, 2, none⟩ = some (.slice (some ⟨btm, 0, none⟩) 32 cTm)) := fun u hu => ⟨by rw [L10.newCell hu _ _ HLa.out]; exact HCa.out, (HM.out.to hu).c2⟩
        have HSm : Hid (∀ u, Below wa.heap.size wa u → Calls Tryz.prog 21 #[.agg #[.slice (some ⟨bt9, 0, none⟩) 32 32], .agg #[.slice (some ⟨btm, 0, none⟩) 32 cTm]] u fun e w' => e = .returned (.bool true) ∧ Below u.heap.size u w') := fun u hu => rsame_hu (HHa.out.to hu) (HM.out.to hu).hu
        have HAw : Hid (∀ u, Below wa.heap.size wa u → Calls Tryz.prog 22 #[] u fun e w' => e = .returned (.bool true) ∧ Below u.heap.size u w') := fun u hu => by
          obtain ⟨sh, nt⟩ := HSh.out _ (L10.below_to (L10.below_to HB8.out HBra.out) hu)
          exact awake_ok HCL.out sh nt
        have HEnd : Hid (∀ u, Below wa.heap.size wa u → Below W.heap.size W u) := fun u hu => L10.below_to (L10.below_to HB8.out HBra.out) hu
        have hbe : Below wa.heap.size wa wa.drew := L10.below_drew (Below.refl _ _)
        clear HBa HY13' HY14 HZ14 HV14 HB14 HB13
        go_region_held3 (fun u => u.cell? ⟨sa, 0, none⟩ = some (.slice (some ⟨bt9, 0, none⟩) 32 32) ∧ u.cell? ⟨y, 2, none⟩ = some (.slice (some ⟨btm, 0, none⟩) 32 cTm))
          ((exact HKq.out _ (by assumption)))
          (first
            | (go_at_call 20; refine (HEq.out _ (by assumption)).mono ?_; rintro e wE ⟨rfl, hbE⟩; have hzE := L10.below_to (by assumption) hbE)
            | (go_at_call 21; refine (HSm.out _ (by assumption)).mono ?_; rintro e wF ⟨rfl, hbF⟩; have hzF := L10.below_to (by assumption) hbF)
            | (go_at_call 22; refine (HAw.out _ (by assumption)).mono ?_; rintro e wG ⟨rfl, hbG⟩; have hzG := L10.below_to (by assumption) hbG))
        all_goals
          have HZG : Hid (Below wa.heap.size wa wG) := hzG
          go_wp2_with fail
          exact bodyPost_ret (v := .bool true) (by simp [results, Tryz.results3, go_sem]) rfl ⟨rfl, HEnd.out _ HZG.out⟩
      · have l1 : ¬ (i : Int) < (L.length : Int) := by omega
        clear hlt hi hi8 h1
        obtain ⟨O8, O9, hc8, hf8, -, hb8⟩ := HT.out
        have HC8 : Hid (Cd wr lo x O8 s) := hc8
        have HF8 : Hid (Fc wr lo2 y O9 s) := hf8
        have HB8 : Hid (Below W.heap.size W wr) := hb8
        have HGk : Hid (s.c ≤ 1000000) := by have h1 := hc8.kb HWn.out.1; have h2 := HWn.out.2; have h3 := HI8.out; show _ ≤ _; omega
        have HBy : Hid (Calls Tryz.prog 17 #[.pointer (some ⟨x, 0, none⟩)] wr fun e w' => ∃ v, e = .returned (.tuple #[v, .int .i64 0]) ∧ L2.ByNew wr w' v s.a s.c) := by
          obtain ⟨_, _, _, _, h, _⟩ := hc8.wc HWn.out.1
          exact bytes_w h (by have := HGk.out; omega)
        have HCy : Hid (∀ u, Below wr.heap.size wr u → Calls Tryz.prog 18 #[.pointer (some ⟨y, 0, none⟩)] u fun e w' => ∃ v, e = .returned (.tuple #[v, .int .i64 0]) ∧ L2.ByNew u w' v s.a s.c) := fun u hu => rbytes_f ((HF8.out.to hu).wc HWn.out.1) (by have := HGk.out; omega)
        have HSet : Hid (∀ u, Below wr.heap.size wr u → Calls Tryz.prog 19 #[.pointer (some ⟨x, 0, none⟩)] u fun e w' => ∃ bt B, e = .returned (.tuple #[.agg #[.slice (some ⟨bt, 0, none⟩) 32 32], .int .i64 0]) ∧ Hs w' u.heap.size bt B s.S ∧ Below u.heap.size u w') := fun u hu => set_wc ((HC8.out.to hu).wc HWn.out.1) (HSh.out _ (L10.below_to HB8.out hu)).1
        clear hc8 hf8 hb8
        go_wp2_with fail
        refine HBy.out.mono ?_
        rintro e w13 ⟨v13, rfl, b13, z13, hy13, hl13, hb13⟩
        have HY13 : Hid (L2.By w13 v13 b13 z13 s.a s.c) := hy13
        have HB13 : Hid (Below wr.heap.size wr w13) := hb13
        have HV13 : Hid (b13 < w13.heap.size) := hy13.lies
        clear hy13 hl13 hb13 HBy
        go_wp2_with fail
        refine (HCy.out _ HB13.out).mono ?_
        rintro e w14 ⟨v14, rfl, b14, z14, hy14, hl14, hb14⟩
        have HY14 : Hid (L2.By w14 v14 b14 z14 s.a s.c) := hy14
        have HZ14 : Hid (z13 = z14) := HY13.out.uniq hy14
        have HB14 : Hid (Below wr.heap.size wr w14) := L10.below_to HB13.out hb14
        have HY13' : Hid (L2.By w14 v13 b13 z13 s.a s.c) := HY13.out.below hb14 HV13.out
        have HV14 : Hid (b14 < w14.heap.size ∧ b13 < w14.heap.size) := ⟨hy14.lies, Nat.lt_of_lt_of_le HV13.out hb14.size⟩
        clear hy14 hl14 hb14 HCy HY13 HV13
        go_wp2_with fail
        refine (HSet.out _ HB14.out).mono ?_
        rintro e w15 ⟨bt9, B9, rfl, hs9, hb9⟩
        have HBa : Hid (Below w14.heap.size w14 (w15.alloc (.cells #[.slice (some ⟨bt9, 0, none⟩) 32 32] 29))) := L10.to_alloc hb9 _
        have HHa : Hid (Hu (w15.alloc (.cells #[.slice (some ⟨bt9, 0, none⟩) 32 32] 29)) w14.heap.size bt9 B9 s.S) := (Hu.of hs9).to (L10.from_alloc _ _)
        have HCa : Hid ((w15.alloc (.cells #[.slice (some ⟨bt9, 0, none⟩) 32 32] 29)).cell? ⟨w15.heap.size, 0, none⟩ = some (.slice (some ⟨bt9, 0, none⟩) 32 32)) := by show _ = _; simp [go_sem]
        have HLa : Hid (w15.heap.size < (w15.alloc (.cells #[.slice (some ⟨bt9, 0, none⟩) 32 32] 29)).heap.size) := by show _ < _; simp
        clear hs9 hb9 HSet
        go_wp2_with fail
        generalize w15.alloc (.cells #[.slice (some ⟨bt9, 0, none⟩) 32 32] 29) = wa at *
        generalize w15.heap.size = sa at *
        have HBra : Hid (Below wr.heap.size wr wa) := L10.below_to HB14.out HBa.out
        obtain ⟨btm, cTm, Bm, xem, dm, hfm, -⟩ := (HF8.out.to HBra.out).wc HWn.out.1
        have HM : Hid (FW wa lo2 y btm cTm Bm xem dm s.S s.ad s.n s.a s.b s.c) := hfm
        clear hfm
        have HEq : Hid (∀ u, Below wa.heap.size wa u → Calls Tryz.prog 20 #[v13, v14] u fun e w' => e = .returned (.bool true) ∧ Below u.heap.size u w') := fun u hu => by
          have hbu : Below w14.heap.size w14 u := L10.below_to HBa.out hu
          have y1 := HY13'.out.below hbu HV14.out.2
          have y2 := HY14.out.below hbu HV14.out.1
          have := L2.eqBytes_rr y1.rr y2.rr (by have := y1.len; have := HGk.out; omega) y1.byt y2.byt
          rw [show decide (z13 = z14) = true from decide_eq_true HZ14.out] at this
          exact this
        have HKq : Hid (∀ u, Below wa.heap.size wa u → u.cell? ⟨sa, 0, none⟩ = some (.slice (some ⟨bt9, 0, none⟩) 32 32) ∧ u.cell? ⟨y, 2, none⟩ = some (.slice (some ⟨btm, 0, none⟩) 32 cTm)) := fun u hu => ⟨by rw [L10.newCell hu _ _ HLa.out]; exact HCa.out, (HM.out.to hu).c2⟩
        have HSm : Hid (∀ u, Below wa.heap.size wa u → Calls Tryz.prog 21 #[.agg #[.slice (some ⟨bt9, 0, none⟩) 32 32], .agg #[.slice (some ⟨btm, 0, none⟩) 32 cTm]] u fun e w' => e = .returned (.bool true) ∧ Below u.heap.size u w') := fun u hu => rsame_hu (HHa.out.to hu) (HM.out.to hu).hu
        have HAw : Hid (∀ u, Below wa.heap.size wa u → Calls Tryz.prog 22 #[] u fun e w' => e = .returned (.bool true) ∧ Below u.heap.size u w') := fun u hu => by
          obtain ⟨sh, nt⟩ := HSh.out _ (L10.below_to (L10.below_to HB8.out HBra.out) hu)
          exact awake_ok HCL.out sh nt
        have HEnd : Hid (∀ u, Below wa.heap.size wa u → Below W.heap.size W u) := fun u hu => L10.below_to (L10.below_to HB8.out HBra.out) hu
        have hbe : Below wa.heap.size wa wa.drew := L10.below_drew (Below.refl _ _)
        clear HBa HY13' HY14 HZ14 HV14 HB14 HB13
        go_region_held3 (fun u => u.cell? ⟨sa, 0, none⟩ = some (.slice (some ⟨bt9, 0, none⟩) 32 32) ∧ u.cell? ⟨y, 2, none⟩ = some (.slice (some ⟨btm, 0, none⟩) 32 cTm))
          ((exact HKq.out _ (by assumption)))
          (first
            | (go_at_call 20; refine (HEq.out _ (by assumption)).mono ?_; rintro e wE ⟨rfl, hbE⟩; have hzE := L10.below_to (by assumption) hbE)
            | (go_at_call 21; refine (HSm.out _ (by assumption)).mono ?_; rintro e wF ⟨rfl, hbF⟩; have hzF := L10.below_to (by assumption) hbF)
            | (go_at_call 22; refine (HAw.out _ (by assumption)).mono ?_; rintro e wG ⟨rfl, hbG⟩; have hzG := L10.below_to (by assumption) hbG))
        all_goals
          have HZG : Hid (Below wa.heap.size wa wG) := hzG
          go_wp2_with fail
          exact bodyPost_ret (v := .bool true) (by simp [results, Tryz.results3, go_sem]) rfl ⟨rfl, HEnd.out _ HZG.out⟩

end Go.Proofs.YtkmnpechhdendaaGreatDoor
