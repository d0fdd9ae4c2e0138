/- DERIVED. The walk of CoefsReads. -/
import Derived.Test.YtkmnpechhdendaaGreatDoorFi
import Derived.Test.YtkmnpechhdendaaGreatDoorY5
import Derived.Test.YtkmnpechhdendaaGreatDoorOp
import Derived.Test.YtkmnpechhdendaaGreatDoorMG
import Derived.Deep.RegionHeld3
import Derived.Deep.DeepCutAuto
namespace Go.Proofs.YtkmnpechhdendaaGreatDoor
open Go.RowKit L3

/-- both readers, one beside the other -/
structure Tr (W : World) (lo x lo2 y : Nat) (s : Cs) (u : World) : Prop where
  ex : ∃ O O2, Cd u lo x O s ∧ Fc u lo2 y O2 s ∧ (∀ b, O b → ¬ O2 b) ∧ Below W.heap.size W u
theorem Tr.to {W : World} {lo x lo2 y : Nat} {s : Cs} {u v : World} (h : Tr W lo x lo2 y s u) (hb : Below u.heap.size u v) : Tr W lo x lo2 y s v := by
  obtain ⟨O, O2, h1, h2, h3, h4⟩ := h
  exact ⟨O, O2, h1.to hb, h2.to hb, h3, L10.below_to h4 hb⟩
theorem Tr.so {W : World} {lo x lo2 y : Nat} {s : Cs} {u : World} (h : Tr W lo x lo2 y s u) : SOk s := by
  obtain ⟨O, O2, h1, -, -, -⟩ := h; exact h1.so
theorem trn_below {O O' : Nat → Prop} {lo : Nat} {w w' : World} (h : Trn O O' w w') (hO : ∀ y, O y → lo ≤ y) (hl : lo ≤ w.heap.size) : Below lo w w' := ⟨h.ke.os, h.ke.tape, h.ke.output, h.ke.size, fun k hk => h.ke.block k (by omega) (fun e => by have := hO k e; omega)⟩
/-- behind both Codes: what stands -/
structure Tq (W : World) (lo x lo2 y : Nat) (s : Cs) (a b : Option Addr) (A : List Int) (u : World) : Prop where
  tr : Tr W lo x lo2 y s u
  sa : L10.Si u a A
  sb : L10.Si u b A
theorem Tq.to {W : World} {lo x lo2 y : Nat} {s : Cs} {a b : Option Addr} {A : List Int} {u v : World} (h : Tq W lo x lo2 y s a b A u) (hb : Below u.heap.size u v) : Tq W lo x lo2 y s a b A v := ⟨h.tr.to hb, h.sa.to hb, h.sb.to hb⟩
theorem eqI_refl (C : List Int) : L10.eqI C C = true := by simp [L10.eqI]
structure RdI (W : World) (lo x lo2 y len : Nat) (iv : Value) (wr : World) : Prop where
  ex : ∃ (i : Nat) (s : Cs), i ≤ len ∧ i ≤ 8 ∧ iv = .int .i64 i ∧ Tr W lo x lo2 y s wr ∧ s.W = false ∧ s.n ≤ 50000 * i

set_option maxRecDepth 100000 in
set_option maxHeartbeats 8000000 in
theorem reads_walk (hcl : CodeLaw) {W : World} (hsh : Sh W) (hnt : L10.Nt W) {vb : Value} {zs : List Nat} (hsrc : L2.SrcOf W vb zs) (hz : ∀ i, zs.getD i 0 < 256) (hzl : zs.length ≤ 140737488351232) {a1 : Option Addr} {cap1 : Nat} {L : List Dd} (hd : DoAt W a1 L) : Calls Tryz.prog 4 #[vb, .slice a1 L.length cap1] W fun e w' => e = .returned (.bool true) ∧ Below W.heap.size W w' := by
  have HCL : Hid CodeLaw := hcl
  have HSh : Hid (∀ u, Below W.heap.size W u → Sh u ∧ L10.Nt u) := fun u hu => ⟨hsh.to hu, hnt.to hu⟩
  have HW2 : Hid (1 < W.heap.size) := hnt.low
  have HSr : Hid (∀ u, Below W.heap.size W u → L2.SrcOf u vb zs) := fun u hu => src_to hsrc hu
  have HZ : Hid ((∀ i, zs.getD i 0 < 256) ∧ zs.length ≤ 140737488355328) := ⟨hz, by omega⟩
  have HD : Hid (DoAt W a1 L) := hd
  have hdf := default_hs hsh
  clear hcl hsh hnt hsrc hz hzl hd
  go_enter Tryz.func4, Tryz.ntmps4
  go_wp2_with fail
  refine hdf.mono ?_
  rintro e w1 ⟨bt1, B1, rfl, hs1, hb1⟩
  have HB1 : Hid (Below W.heap.size W w1) := hb1
  have HRd : Hid (Calls Tryz.prog 23 #[vb, .agg #[.slice (some ⟨bt1, 0, none⟩) 32 32], .bool true] w1 fun e w' => ∃ x O, e = .returned (.tuple #[.pointer (some ⟨x, 0, none⟩), .int .i64 0]) ∧ Cd w' w1.heap.size x O (rS true zs) ∧ (∀ y, O y → y = 0 ∨ w1.heap.size ≤ y) ∧ Below w1.heap.size w1 w') := reader_cd (HSh.out _ hb1).1 hs1 (HSr.out _ hb1) HZ.out.1 HZ.out.2
  clear hs1 hb1 hdf
  go_wp2_with fail
  refine HRd.out.mono ?_
  rintro e w2 ⟨x, O, rfl, hc2, -, hb2⟩
  have HC2 : Hid (Cd w2 w1.heap.size x O (rS true zs)) := hc2
  have HB2 : Hid (Below W.heap.size W w2) := L10.below_to HB1.out hb2
  have HLo : Hid (W.heap.size ≤ w1.heap.size) := HB1.out.size
  generalize w1.heap.size = lo at *
  clear hc2 hb2 HRd
  go_wp2_with fail
  refine rdefault_any.mono ?_
  rintro e w3 ⟨bt3, cT3, B3, rfl, hu3, hb3⟩
  have HB3 : Hid (Below w2.heap.size w2 w3) := hb3
  have HRr : Hid (Calls Tryz.prog 24 #[vb, .agg #[.slice (some ⟨bt3, 0, none⟩) 32 cT3], .bool true] w3 fun e w' => FrN w3 w' e dS true zs) := rreader_u hu3 (HSr.out _ (L10.below_to HB2.out hb3)) HZ.out.1 HZ.out.2
  clear hu3 hb3
  go_wp2_with fail
  refine HRr.out.mono ?_
  rintro e w4 ⟨y, O2, rfl, hf4, hb4⟩
  have HS : Hid (RdI W lo x w3.heap.size y L.length (.int .i64 0) w4) := ⟨0, rS true zs, by omega, by omega, rfl, ⟨O, O2, (HC2.out.to HB3.out).to hb4, ⟨fun e => (by cases e), fun _ => hf4, fun e => (by cases e), fun _ => (by show (4 : Nat) ≤ _; omega)⟩, fun b h1 h2 => (by have e1 := HC2.out.lt h1; have e2 := (hf4.lt h2).1; have e3 := HB3.out.size; omega), L10.below_to (L10.below_to HB2.out HB3.out) hb4⟩, rfl, by show (0 : Nat) ≤ _; omega⟩
  have HLo2 : Hid (W.heap.size ≤ w3.heap.size ∧ w3.heap.size ≤ w4.heap.size) := ⟨by have := HB2.out.size; have := HB3.out.size; omega, hb4.size⟩
  generalize w3.heap.size = lo2 at *
  clear hf4 hb4 HRr HB3 HC2 HB2 HB1
  go_wp2_with fail
  go_loopw [9] (fun iv wr => RdI W lo x lo2 y L.length iv wr) (fun iv _ => 8 - (intOf iv).toNat)
  case atStart => exact HS.out
  case round =>
    clear HS
    obtain ⟨i, s, hi, hi8, rfl, hT, hW, hn⟩ := hrel
    have HT : Hid (Tr W lo x lo2 y s wr) := hT
    have HWn : Hid (s.W = false ∧ s.n ≤ 50000 * i) := ⟨hW, hn⟩
    have i0 : (0 : Int) ≤ (i : Int) := by omega
    have HI8 : Hid (i ≤ 8) := hi8
    clear hT hW hn
    by_cases hlt : i < L.length ∧ i < 8
    · have l1 : (i : Int) < (L.length : Int) := by omega
      have l2 : (i : Int) < 8 := by omega
      obtain ⟨b, o, rfl, hbl, hcell⟩ : ∃ b o, a1 = some ⟨b, o, none⟩ ∧ b < W.heap.size ∧ ∀ j, j < L.length → DdAt W ⟨b, o, none⟩ j (L.getD j dd0) := by
        rcases HD.out with e | h
        · rw [e] at hlt; simp at hlt
        · exact h
      obtain ⟨d0, d1, d2, d3, -, -⟩ := hcell i hlt.1
      rw [addr_add] at d0 d1 d2 d3
      rw [← Nat.add_assoc] at d1 d2 d3
      generalize L.getD i dd0 = q0 at *
      obtain ⟨qa, qb, qc, qla, qlc, ql⟩ := q0
      simp only at d0 d1 d2 d3
      generalize ql.length = qn at *
      have hbW : Below W.heap.size W wr := by obtain ⟨_, _, _, _, _, h⟩ := HT.out; exact h
      obtain ⟨e0, e1, e2, e3⟩ : wr.cell? ⟨b, o + i * 4, none⟩ = some (.int .i64 qa) ∧ wr.cell? ⟨b, o + i * 4 + 1, none⟩ = some (.int .i64 qb) ∧ wr.cell? ⟨b, o + i * 4 + 2, none⟩ = some (.int .i64 qc) ∧ wr.cell? ⟨b, o + i * 4 + 3, none⟩ = some (.slice qla qn qlc) := ⟨by rw [L10.newCell hbW _ _ hbl]; exact d0, by rw [L10.newCell hbW _ _ hbl]; exact d1, by rw [L10.newCell hbW _ _ hbl]; exact d2, by rw [L10.newCell hbW _ _ hbl]; exact d3⟩
      obtain ⟨A, er, s', n1, n2, n3, n4, n5, hP, hQ⟩ := both_r HCL.out s HT.out.so HWn.out.1 (by have := HWn.out.2; have := HI8.out; omega) qa qb qc
      have HN : Hid (s'.W = false ∧ s'.n ≤ s.n + 50000 ∧ A.length ≤ 1024 ∧ (er = 0 ∨ er = 2 ∨ er = 4)) := ⟨n1, n2, n4, n5⟩
      have HP : Hid (∀ (w : World) lo x O (la : Option Addr) len lc, Cd w lo x O s → Sh w → L10.Nt w → 1 < lo → Calls Tryz.prog 11 #[.pointer (some ⟨x, 0, none⟩), .int .i64 qa, .int .i64 qb, .int .i64 qc, .slice la len lc] w fun en w' => Pa w w' lo x O A er s' en) := hP
      have HQ : Hid (∀ (w : World) lo x O (la : Option Addr) len lc, Fc w lo x O s → Calls Tryz.prog 12 #[.pointer (some ⟨x, 0, none⟩), .int .i64 qa, .int .i64 qb, .int .i64 qc, .slice la len lc] w fun en w' => Qa w w' lo x O A er s' en) := hQ
      have HIl : Hid (i < L.length ∧ i < 8) := hlt
      clear hP hQ n1 n2 n3 n4 n5 hlt hcell d0 d1 d2 d3 hi hi8 hbW hbl
      have HT5 : Hid (Tr W lo x lo2 y s (wr.alloc (.cells #[.int .i64 qa, .int .i64 qb, .int .i64 qc, .slice qla qn qlc] 36))) := HT.out.to (L10.from_alloc _ _)
      have HX5 : Hid (∀ u : World, (∀ j, u.cell? ⟨wr.heap.size, j, none⟩ = (wr.alloc (.cells #[.int .i64 qa, .int .i64 qb, .int .i64 qc, .slice qla qn qlc] 36)).cell? ⟨wr.heap.size, j, none⟩) → u.cell? ⟨wr.heap.size, 0, none⟩ = some (.int .i64 qa) ∧ u.cell? ⟨wr.heap.size, 1, none⟩ = some (.int .i64 qb) ∧ u.cell? ⟨wr.heap.size, 2, none⟩ = some (.int .i64 qc)) := fun u hu => by
        rw [hu, hu, hu]
        simp [go_sem]
      have HXl : Hid (wr.heap.size < (wr.alloc (.cells #[.int .i64 qa, .int .i64 qb, .int .i64 qc, .slice qla qn qlc] 36)).heap.size) := by show _ < _; simp
      have HXo : Hid (∀ O', Cd wr lo x O' s → ¬ O' wr.heap.size) := fun O' h e => by have := h.lt e; omega
      go_wp2_with fail
      generalize hw5 : wr.alloc (.cells #[.int .i64 qa, .int .i64 qb, .int .i64 qc, .slice qla qn qlc] 36) = w5 at *
      have HB5 : Hid (Below wr.heap.size wr w5) := by rw [← hw5]; exact L10.from_alloc _ _
      clear hw5 e0 e1 e2 e3
      obtain ⟨O, O2, hc, hf, hdj, hb⟩ := HT.out
      have hc5 := hc.to HB5.out
      have hf5 := hf.to HB5.out
      have hb5 := L10.below_to hb HB5.out
      obtain ⟨sh5, nt5⟩ := HSh.out _ hb5
      have HPc := HP.out w5 lo x O qla qn qlc hc5 sh5 nt5 (by have := HLo.out; have := HW2.out; omega)
      refine HPc.mono ?_
      rintro en w6 ⟨aa, ca, O6, rfl, sa6, ga6, hc6, ht6, hb6⟩
      obtain ⟨x0, x1, x2⟩ := HX5.out w6 (fun j => ht6.ke.cell _ j HXl.out (HXo.out O hc))
      have hf6 : Fc w6 lo2 y O2 s := hf5.ke ht6.ke (fun b h1 h2 => hdj b h1 h2)
      have dis6 : ∀ b, O6 b → ¬ O2 b := fun b h1 h2 => by
        rcases ht6.new b h1 with e | e
        · exact hdj b e h2
        · have := (hf5.lt h2).2; omega
      have hbW6 : Below W.heap.size W w6 := hb5.trans (hb6.mono HLo.out)
      have HQc := HQ.out w6 lo2 y O2 none 0 0 hf6
      have HEn : Hid (∀ en w7, Qa w6 w7 lo2 y O2 A er s' en → ∃ ab cb, en = .returned (.tuple #[.slice ab A.length cb, .int .i64 er]) ∧ Tq W lo x lo2 y s' aa ab A w7) := fun en w7 h => by
        obtain ⟨ab, cb, O7, rfl, sb7, gb7, hf7, ht7⟩ := h
        refine ⟨ab, cb, rfl, ⟨O6, O7, hc6.ke ht7.ke (fun b h1 h2 => dis6 b h2 h1), hf7, fun b h1 h2 => ?_, ?_⟩, ?_, sb7⟩
        · rcases ht7.new b h2 with e | e
          · exact dis6 b h1 e
          · have := hc6.lt h1; omega
        · exact hbW6.trans ((trn_below ht7 (fun y hy => (hf6.lt hy).1) (by have := HLo2.out.2; have h1 := (hf6.lt (y := y) (by obtain ⟨_, _, _, _, _, _, e⟩ := hf6.rc HWn.out.1; rw [e]; exact Or.inl rfl)); omega)).mono HLo2.out.1)
        · rcases sa6 with e | ⟨g, o, e, -, -⟩
          · exact Or.inl e
          · obtain ⟨rfl, g2, g3, g4⟩ := ga6 g o e
            rw [e]
            exact (g4.carry (ht7.ke.block g g4.lt (fun e2 => by have := (hf5.lt e2).2; omega))).si
      clear sa6 ga6 hc6 ht6 hb6 hf6 dis6 hbW6 hc5 hf5 hb5 sh5 nt5 HPc hc hf hdj hb HX5 HXl HXo HP HQ HT5 HT HB5
      go_wp2_with fail
      refine HQc.mono ?_
      rintro en w7 hq7
      obtain ⟨ab, cb, rfl, htq⟩ := HEn.out _ _ hq7
      have HTq : Hid (Tq W lo x lo2 y s' aa ab A w7) := htq
      clear hq7 htq HQc HEn x0 x1 x2
      obtain ⟨nn, hnn⟩ : ∃ nn : Int, ((s'.n : Nat) : Int) = nn := ⟨_, rfl⟩
      have HKp : Hid (∀ u, Below w7.heap.size w7 u → u.cell? ⟨y, 4, none⟩ = some (.int .i64 nn)) := fun u hu => by
        obtain ⟨_, _, _, h, _, _⟩ := (HTq.out.to hu).tr
        rw [← hnn]; exact h.c0.2.2
      have HEq : Hid (∀ u, Below w7.heap.size w7 u → Calls Tryz.prog 13 #[.slice aa A.length ca, .slice ab A.length cb] u fun e w' => e = .returned (.bool true) ∧ Below u.heap.size u w') := fun u hu => by
        have h := HTq.out.to hu
        have := L10.eqInts_any (c := ca) (d := cb) h.sa h.sb (by have := HN.out.2.2.1; omega) (by have := HN.out.2.2.1; omega)
        rw [eqI_refl] at this
        exact this
      have HCt : Hid (∀ u, Below w7.heap.size w7 u → Calls Tryz.prog 14 #[.pointer (some ⟨x, 0, none⟩)] u fun e w' => e = .returned (.int .i64 nn) ∧ w' = u) := fun u hu => by
        obtain ⟨_, _, h, _, _, _⟩ := (HTq.out.to hu).tr
        rw [← hnn]; exact count_cd h
      have hee : (er == er) = true := by simp
      have hnq : (nn == nn) = true := by simp
      have hbd : Below w7.heap.size w7 w7.drew := L10.below_drew (Below.refl _ _)
      clear hnn
      generalize A.length = la at *
      have c4 := HKp.out _ hbd
      go_wp2_with fail
      go_region_held3 (fun u => u.cell? ⟨y, 4, none⟩ = some (.int .i64 nn))
        ((exact HKp.out _ (by assumption)))
        (first
          | (go_at_call 13; refine (HEq.out _ (by assumption)).mono ?_; rintro e wA ⟨rfl, hbA⟩; have hzA := L10.below_to (by assumption) hbA)
          | (go_at_call 14; refine (HCt.out _ (by assumption)).mono ?_; rintro e wB ⟨rfl, hwB⟩; obtain rfl := hwB.symm))
      all_goals
        have HTe : Hid (Tr W lo x lo2 y s' wA) := (HTq.out.to hzA).tr
        have HNs : Hid (s'.W = false ∧ s'.n ≤ 50000 * (i + 1)) := ⟨HN.out.1, by have h1 := HN.out.2.1; have h2 := HWn.out.2; omega⟩
        clear hzA hbA
        by_cases h4 : er = 4
        · have hd4 : (er == 4) = true := by rw [h4]; rfl
          clear h4
          obtain ⟨O8, O9, hc8, hf8, -, hb8⟩ := HTe.out
          have HSet := set_rc (hc8.rc HNs.out.1) (HSh.out _ hb8).1
          have HF8 : Hid (Fc wA lo2 y O9 s') := hf8
          have HB8 : Hid (Below W.heap.size W wA) := hb8
          clear hc8 hf8 hb8
          go_wp2_with fail
          refine HSet.mono ?_
          rintro e w9 ⟨bt9, B9, rfl, hs9, hb9⟩
          have HBa : Hid (Below (World.heap wA).size wA (w9.alloc (.cells #[.slice (some ⟨bt9, 0, none⟩) 32 32] 29))) := L10.to_alloc hb9 _
          have HHa : Hid (Hu (w9.alloc (.cells #[.slice (some ⟨bt9, 0, none⟩) 32 32] 29)) (World.heap wA).size bt9 B9 s'.S) := (Hu.of hs9).to (L10.from_alloc _ _)
          have HCa : Hid ((w9.alloc (.cells #[.slice (some ⟨bt9, 0, none⟩) 32 32] 29)).cell? ⟨w9.heap.size, 0, none⟩ = some (.slice (some ⟨bt9, 0, none⟩) 32 32)) := by show _ = _; simp [go_sem]
          have HLa : Hid (w9.heap.size < (w9.alloc (.cells #[.slice (some ⟨bt9, 0, none⟩) 32 32] 29)).heap.size) := by show _ < _; simp
          clear hs9 hb9 HSet
          go_wp2_with fail
          generalize w9.alloc (.cells #[.slice (some ⟨bt9, 0, none⟩) 32 32] 29) = wa at *
          generalize w9.heap.size = sa at *
          obtain ⟨btm, cTm, Bm, xdm, bm, hfm, -⟩ := (HF8.out.rc HNs.out.1).to HBa.out
          have HM : Hid (FR wa lo2 y btm cTm Bm xdm bm s'.zs s'.S s'.ad s'.n s'.a s'.b s'.c) := hfm
          clear hfm
          have HKq : Hid (∀ u, Below wa.heap.size wa u → u.cell? ⟨sa, 0, none⟩ = some (.slice (some ⟨bt9, 0, none⟩) 32 32) ∧ u.cell? ⟨y, 2, none⟩ = some (.slice (some ⟨btm, 0, none⟩) 32 cTm)) := fun u hu => ⟨by rw [L10.newCell hu _ _ HLa.out]; exact HCa.out, (HM.out.to hu).c2⟩
          have HSm : Hid (∀ u, Below wa.heap.size wa u → Calls Tryz.prog 21 #[.agg #[.slice (some ⟨bt9, 0, none⟩) 32 32], .agg #[.slice (some ⟨btm, 0, none⟩) 32 cTm]] u fun e w' => e = .returned (.bool true) ∧ Below u.heap.size u w') := fun u hu => rsame_hu (HHa.out.to hu) (HM.out.to hu).hu
          have HAw : Hid (∀ u, Below wa.heap.size wa u → Calls Tryz.prog 22 #[] u fun e w' => e = .returned (.bool true) ∧ Below u.heap.size u w') := fun u hu => by
            obtain ⟨sh, nt⟩ := HSh.out _ (L10.below_to (L10.below_to HB8.out HBa.out) hu)
            exact awake_ok HCL.out sh nt
          have HEnd : Hid (∀ u, Below wa.heap.size wa u → Below W.heap.size W u) := fun u hu => L10.below_to (L10.below_to HB8.out HBa.out) hu
          have hbe : Below wa.heap.size wa wa.drew := L10.below_drew (Below.refl _ _)
          go_region_held3 (fun u => u.cell? ⟨sa, 0, none⟩ = some (.slice (some ⟨bt9, 0, none⟩) 32 32) ∧ u.cell? ⟨y, 2, none⟩ = some (.slice (some ⟨btm, 0, none⟩) 32 cTm))
            ((exact HKq.out _ (by assumption)))
            (first
              | (go_at_call 21; refine (HSm.out _ (by assumption)).mono ?_; rintro e wE ⟨rfl, hbE⟩; have hzE := L10.below_to (by assumption) hbE)
              | (go_at_call 22; refine (HAw.out _ (by assumption)).mono ?_; rintro e wF ⟨rfl, hbF⟩; have hzF := L10.below_to (by assumption) hbF))
          all_goals
            have HZF : Hid (Below wa.heap.size wa wF) := hzF
            go_wp2_with fail
            exact bodyPost_ret (v := .bool true) (by simp [results, Tryz.results4, go_sem]) rfl ⟨rfl, HEnd.out _ HZF.out⟩
        · have hd4 : (er == 4) = false := by rw [beq_eq_false_iff_ne]; exact h4
          clear h4
          go_wp2_with fail
          obtain ⟨il, i8⟩ := HIl.out
          go_roundw
          case rel => exact ⟨⟨i + 1, s', by omega, by omega, by go_num, HTe.out, HNs.out.1, HNs.out.2⟩⟩
          case measure => simp [intOf]; omega
    · by_cases h1 : i < L.length
      · have l1 : (i : Int) < (L.length : Int) := by omega
        have l2 : ¬ (i : Int) < 8 := by omega
        clear hlt hi hi8 h1
        obtain ⟨O8, O9, hc8, hf8, -, hb8⟩ := HT.out
        have HSet := set_rc (hc8.rc HWn.out.1) (HSh.out _ hb8).1
        have HF8 : Hid (Fc wr lo2 y O9 s) := hf8
        have HB8 : Hid (Below W.heap.size W wr) := hb8
        clear hc8 hf8 hb8
        go_wp2_with fail
        refine HSet.mono ?_
        rintro e w9 ⟨bt9, B9, rfl, hs9, hb9⟩
        have HBa : Hid (Below (World.heap wr).size wr (w9.alloc (.cells #[.slice (some ⟨bt9, 0, none⟩) 32 32] 29))) := L10.to_alloc hb9 _
        have HHa : Hid (Hu (w9.alloc (.cells #[.slice (some ⟨bt9, 0, none⟩) 32 32] 29)) (World.heap wr).size bt9 B9 s.S) := (Hu.of hs9).to (L10.from_alloc _ _)
        have HCa : Hid ((w9.alloc (.cells #[.slice (some ⟨bt9, 0, none⟩) 32 32] 29)).cell? ⟨w9.heap.size, 0, none⟩ = some (.slice (some ⟨bt9, 0, none⟩) 32 32)) := by show _ = _; simp [go_sem]
        have HLa : Hid (w9.heap.size < (w9.alloc (.cells #[.slice (some ⟨bt9, 0, none⟩) 32 32] 29)).heap.size) := by show _ < _; simp
        clear hs9 hb9 HSet
        go_wp2_with fail
        generalize w9.alloc (.cells #[.slice (some ⟨bt9, 0, none⟩) 32 32] 29) = wa at *
        generalize w9.heap.size = sa at *
        obtain ⟨btm, cTm, Bm, xdm, bm, hfm, -⟩ := (HF8.out.rc HWn.out.1).to HBa.out
        have HM : Hid (FR wa lo2 y btm cTm Bm xdm bm s.zs s.S s.ad s.n s.a s.b s.c) := hfm
        clear hfm
        have HKq : Hid (∀ u, Below wa.heap.size wa u → u.cell? ⟨sa, 0, none⟩ = some (.slice (some ⟨bt9, 0, none⟩) 32 32) ∧ u.cell? ⟨y, 2, none⟩ = some (.slice (some ⟨btm, 0, none⟩) 32 cTm)) := fun u hu => ⟨by rw [L10.newCell hu _ _ HLa.out]; exact HCa.out, (HM.out.to hu).c2⟩
        have HSm : Hid (∀ u, Below wa.heap.size wa u → Calls Tryz.prog 21 #[.agg #[.slice (some ⟨bt9, 0, none⟩) 32 32], .agg #[.slice (some ⟨btm, 0, none⟩) 32 cTm]] u fun e w' => e = .returned (.bool true) ∧ Below u.heap.size u w') := fun u hu => rsame_hu (HHa.out.to hu) (HM.out.to hu).hu
        have HAw : Hid (∀ u, Below wa.heap.size wa u → Calls Tryz.prog 22 #[] u fun e w' => e = .returned (.bool true) ∧ Below u.heap.size u w') := fun u hu => by
          obtain ⟨sh, nt⟩ := HSh.out _ (L10.below_to (L10.below_to HB8.out HBa.out) hu)
          exact awake_ok HCL.out sh nt
        have HEnd : Hid (∀ u, Below wa.heap.size wa u → Below W.heap.size W u) := fun u hu => L10.below_to (L10.below_to HB8.out HBa.out) hu
        have hbe : Below wa.heap.size wa wa.drew := L10.below_drew (Below.refl _ _)
        go_region_held3 (fun u => u.cell? ⟨sa, 0, none⟩ = some (.slice (some ⟨bt9, 0, none⟩) 32 32) ∧ u.cell? ⟨y, 2, none⟩ = some (.slice (some ⟨btm, 0, none⟩) 32 cTm))
          ((exact HKq.out _ (by assumption)))
          (first
            | (go_at_call 21; refine (HSm.out _ (by assumption)).mono ?_; rintro e wE ⟨rfl, hbE⟩; have hzE := L10.below_to (by assumption) hbE)
            | (go_at_call 22; refine (HAw.out _ (by assumption)).mono ?_; rintro e wF ⟨rfl, hbF⟩; have hzF := L10.below_to (by assumption) hbF))
        all_goals
          have HZF : Hid (Below wa.heap.size wa wF) := hzF
          go_wp2_with fail
          exact bodyPost_ret (v := .bool true) (by simp [results, Tryz.results4, go_sem]) rfl ⟨rfl, HEnd.out _ HZF.out⟩
      · have l1 : ¬ (i : Int) < (L.length : Int) := by omega
        clear hlt hi hi8 h1
        obtain ⟨O8, O9, hc8, hf8, -, hb8⟩ := HT.out
        have HSet := set_rc (hc8.rc HWn.out.1) (HSh.out _ hb8).1
        have HF8 : Hid (Fc wr lo2 y O9 s) := hf8
        have HB8 : Hid (Below W.heap.size W wr) := hb8
        clear hc8 hf8 hb8
        go_wp2_with fail
        refine HSet.mono ?_
        rintro e w9 ⟨bt9, B9, rfl, hs9, hb9⟩
        have HBa : Hid (Below (World.heap wr).size wr (w9.alloc (.cells #[.slice (some ⟨bt9, 0, none⟩) 32 32] 29))) := L10.to_alloc hb9 _
        have HHa : Hid (Hu (w9.alloc (.cells #[.slice (some ⟨bt9, 0, none⟩) 32 32] 29)) (World.heap wr).size bt9 B9 s.S) := (Hu.of hs9).to (L10.from_alloc _ _)
        have HCa : Hid ((w9.alloc (.cells #[.slice (some ⟨bt9, 0, none⟩) 32 32] 29)).cell? ⟨w9.heap.size, 0, none⟩ = some (.slice (some ⟨bt9, 0, none⟩) 32 32)) := by show _ = _; simp [go_sem]
        have HLa : Hid (w9.heap.size < (w9.alloc (.cells #[.slice (some ⟨bt9, 0, none⟩) 32 32] 29)).heap.size) := by show _ < _; simp
        clear hs9 hb9 HSet
        go_wp2_with fail
        generalize w9.alloc (.cells #[.slice (some ⟨bt9, 0, none⟩) 32 32] 29) = wa at *
        generalize w9.heap.size = sa at *
        obtain ⟨btm, cTm, Bm, xdm, bm, hfm, -⟩ := (HF8.out.rc HWn.out.1).to HBa.out
        have HM : Hid (FR wa lo2 y btm cTm Bm xdm bm s.zs s.S s.ad s.n s.a s.b s.c) := hfm
        clear hfm
        have HKq : Hid (∀ u, Below wa.heap.size wa u → u.cell? ⟨sa, 0, none⟩ = some (.slice (some ⟨bt9, 0, none⟩) 32 32) ∧ u.cell? ⟨y, 2, none⟩ = some (.slice (some ⟨btm, 0, none⟩) 32 cTm)) := fun u hu => ⟨by rw [L10.newCell hu _ _ HLa.out]; exact HCa.out, (HM.out.to hu).c2⟩
        have HSm : Hid (∀ u, Below wa.heap.size wa u → Calls Tryz.prog 21 #[.agg #[.slice (some ⟨bt9, 0, none⟩) 32 32], .agg #[.slice (some ⟨btm, 0, none⟩) 32 cTm]] u fun e w' => e = .returned (.bool true) ∧ Below u.heap.size u w') := fun u hu => rsame_hu (HHa.out.to hu) (HM.out.to hu).hu
        have HAw : Hid (∀ u, Below wa.heap.size wa u → Calls Tryz.prog 22 #[] u fun e w' => e = .returned (.bool true) ∧ Below u.heap.size u w') := fun u hu => by
          obtain ⟨sh, nt⟩ := HSh.out _ (L10.below_to (L10.below_to HB8.out HBa.out) hu)
          exact awake_ok HCL.out sh nt
        have HEnd : Hid (∀ u, Below wa.heap.size wa u → Below W.heap.size W u) := fun u hu => L10.below_to (L10.below_to HB8.out HBa.out) hu
        have hbe : Below wa.heap.size wa wa.drew := L10.below_drew (Below.refl _ _)
        go_region_held3 (fun u => u.cell? ⟨sa, 0, none⟩ = some (.slice (some ⟨bt9, 0, none⟩) 32 32) ∧ u.cell? ⟨y, 2, none⟩ = some (.slice (some ⟨btm, 0, none⟩) 32 cTm))
          ((exact HKq.out _ (by assumption)))
          (first
            | (go_at_call 21; refine (HSm.out _ (by assumption)).mono ?_; rintro e wE ⟨rfl, hbE⟩; have hzE := L10.below_to (by assumption) hbE)
            | (go_at_call 22; refine (HAw.out _ (by assumption)).mono ?_; rintro e wF ⟨rfl, hbF⟩; have hzF := L10.below_to (by assumption) hbF))
        all_goals
          have HZF : Hid (Below wa.heap.size wa wF) := hzF
          go_wp2_with fail
          exact bodyPost_ret (v := .bool true) (by simp [results, Tryz.results4, go_sem]) rfl ⟨rfl, HEnd.out _ HZF.out⟩

end Go.Proofs.YtkmnpechhdendaaGreatDoor
