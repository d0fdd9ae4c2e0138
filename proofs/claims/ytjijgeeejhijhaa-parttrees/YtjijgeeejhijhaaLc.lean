/- DERIVED. The walk of PartTrees. -/
import Derived.Test.YtjijgeeejhijhaaLb
namespace Go.Proofs.Ytjijgeeejhijhaa
open Go.RowKit

set_option maxRecDepth 100000 in
set_option maxHeartbeats 8000000 in
theorem trees_walk {W : World} {x y s s' ax ay aw ah : Int} {a : Option Addr} {c : Nat} {C : List Int} (hs : Si W a C) (hl : C.length ≤ 17592186043904) : Calls Try.prog 4 #[.agg #[.int .i64 x, .int .i64 y, .int .i64 s, .int .i64 s'], .agg #[.int .i64 ax, .int .i64 ay, .int .i64 aw, .int .i64 ah], .slice a C.length c] W fun e w' => e = .returned (.bool true) ∧ Below W.heap.size W w' := by
  obtain ⟨l, n, er, hll, hb1, hb2⟩ := both_blocks x y s s' ax ay aw ah C (by omega)
  have HB1 : Hid (∀ (t : World) (a : Option Addr) (c : Nat), Si t a C → Calls Try.prog 16 #[.agg #[.int .i64 x, .int .i64 y, .int .i64 s, .int .i64 s'], .agg #[.int .i64 ax, .int .i64 ay, .int .i64 aw, .int .i64 ah], .slice a C.length c] t fun e w' => Bv t w' e l n er) := hb1
  have HB2 : Hid (∀ (t : World) (a : Option Addr) (c : Nat), Si t a C → Calls Try.prog 17 #[.agg #[.int .i64 x, .int .i64 y, .int .i64 s, .int .i64 s'], .agg #[.int .i64 ax, .int .i64 ay, .int .i64 aw, .int .i64 ah], .slice a C.length c] t fun e w' => Bv t w' e l n er) := hb2
  have HL : Hid (C.length ≤ 17592186043904) := hl
  have HLl : Hid (l.length ≤ 64) := hll
  have HSi : Hid (Si W a C) := hs
  have K3 : Hid (Fr ((W.alloc (.cells #[.int .i64 x, .int .i64 y, .int .i64 s, .int .i64 s'] 23)).alloc (.cells #[.int .i64 ax, .int .i64 ay, .int .i64 aw, .int .i64 ah] 23)) W.heap.size x y s s') := ⟨by simp [go_sem], by simp [go_sem], by simp [go_sem], by simp [go_sem]⟩
  have K4 : Hid (Fr ((W.alloc (.cells #[.int .i64 x, .int .i64 y, .int .i64 s, .int .i64 s'] 23)).alloc (.cells #[.int .i64 ax, .int .i64 ay, .int .i64 aw, .int .i64 ah] 23)) (W.heap.size + 1) ax ay aw ah) := ⟨by simp [go_sem], by simp [go_sem], by simp [go_sem], by simp [go_sem]⟩
  have KB : Hid (Below W.heap.size W ((W.alloc (.cells #[.int .i64 x, .int .i64 y, .int .i64 s, .int .i64 s'] 23)).alloc (.cells #[.int .i64 ax, .int .i64 ay, .int .i64 aw, .int .i64 ah] 23))) := to_alloc (from_alloc _ _) _
  have KZ : Hid (W.heap.size + 2 ≤ ((W.alloc (.cells #[.int .i64 x, .int .i64 y, .int .i64 s, .int .i64 s'] 23)).alloc (.cells #[.int .i64 ax, .int .i64 ay, .int .i64 aw, .int .i64 ah] 23)).heap.size) := by show _ ≤ _; simp
  have HCp : Hid (∀ t, Si t a C → Calls Try.prog 15 #[.slice a C.length c] t fun e w' => Cp t w' e C) := fun t ht => copy_any ht HL.out
  clear hb1 hb2 hs hll
  go_enter Try.func4, Try.ntmps4
  go_upto_region 1 with fail
  generalize ((W.alloc (.cells #[.int .i64 x, .int .i64 y, .int .i64 s, .int .i64 s'] 23)).alloc (.cells #[.int .i64 ax, .int .i64 ay, .int .i64 aw, .int .i64 ah] 23)) = V0 at *
  have HSi0 : Hid (Si V0 a C) := HSi.out.to KB.out
  go_wp2_with fail
  refine (HCp.out _ HSi0.out).mono ?_
  rintro e V1 ⟨ai, ci, rfl, ho, hb⟩
  have hk := Kz.ofBelow (Z := fun i => i < W.heap.size + 2) (fun i hi => Nat.lt_of_lt_of_le hi KZ.out) hb
  have M3 : Hid (Fr V1 W.heap.size x y s s') := K3.out.kz hk (by show _ < _; omega)
  have M4 : Hid (Fr V1 (W.heap.size + 1) ax ay aw ah) := K4.out.kz hk (by show _ < _; omega)
  have MB : Hid (Below W.heap.size W V1) := below_to KB.out (hb.mono (by have := KZ.out; omega))
  have MZ : Hid (W.heap.size + 2 ≤ V1.heap.size) := Nat.le_trans KZ.out hb.size
  have HO : Hid (Oi V1 (W.heap.size + 2) ai C.length ci C) := ⟨⟨ho.own.1, by
    rcases ho.own.2 with h | ⟨g, cap, cur, h1, h2, h3⟩
    · exact Or.inl h
    · exact Or.inr ⟨g, cap, cur, h1, Nat.le_trans KZ.out h2, h3⟩⟩⟩
  clear ho hb hk K3 K4 KB KZ HCp HSi0
  go_upto_region 2 with (at_builtin; refine wpList_append_two _ (by rfl) _ _ (by rfl) (W.heap.size + 2) C.length ci C ai 99 98 HO.out MZ.out HL.out (by rfl) (by rfl) ?_; intro g cap V2 ho2 hb2; have HO2 : Hid _ := ho2; have HB2' : Hid _ := hb2; have hcap := ho2.cap; clear ho2 hb2)
  have HB2x : Hid (Below (W.heap.size + 2) V1 V2) := HB2'.out
  have N3 : Hid (Fr V2 W.heap.size x y s s') := M3.out.below HB2x.out (by omega)
  have N4 : Hid (Fr V2 (W.heap.size + 1) ax ay aw ah) := M4.out.below HB2x.out (by omega)
  have NB : Hid (Below W.heap.size W V2) := MB.out.trans (HB2x.out.mono (by omega))
  have NZ : Hid (W.heap.size + 2 ≤ V2.heap.size) := Nat.le_trans MZ.out HB2x.out.size
  have NI : Hid (Si V2 (some ⟨g, 0, none⟩) C) := Si.prefix HO2.out.si
  have NC : Hid (Si V2 a C) := HSi.out.to NB.out
  clear M3 M4 MB MZ HO HO2 HB2' HB2x hcap HSi
  obtain ⟨r0, r1, r2, r3⟩ := N3.out
  obtain ⟨q0, q1, q2, q3⟩ := N4.out
  go_wp2_with fail
  refine (HB1.out _ _ _ NI.out).mono ?_
  rintro e w3 ⟨a3, c3, rfl, ho, hb⟩
  have hk := Kz.ofBelow (Z := fun i => i < W.heap.size + 2) (fun i hi => Nat.lt_of_lt_of_le hi NZ.out) hb
  have P3 : Hid (Fr w3 W.heap.size x y s s') := N3.out.kz hk (by show _ < _; omega)
  have P4 : Hid (Fr w3 (W.heap.size + 1) ax ay aw ah) := N4.out.kz hk (by show _ < _; omega)
  have PB : Hid (Below W.heap.size W w3) := below_to NB.out (hb.mono (by have := NZ.out; omega))
  have PI : Hid (Si w3 (some ⟨g, 0, none⟩) C) := NI.out.to hb
  have PC : Hid (Si w3 a C) := NC.out.to hb
  have PO : Hid (Or4 w3 W.heap.size (.slice a3 l.length c3) l) := ho.rebase (fun g hg => Nat.le_trans (Nat.le_trans (Nat.le_add_right _ 2) NZ.out) (ho.own.lt g hg).1)
  clear ho hb hk r0 r1 r2 r3 q0 q1 q2 q3 N3 N4 NB NZ NI NC HB1
  obtain ⟨r0, r1, r2, r3⟩ := P3.out
  obtain ⟨q0, q1, q2, q3⟩ := P4.out
  go_wp2_with fail
  refine (HB2.out _ _ _ PC.out).mono ?_
  rintro e w4 ⟨a4, c4, rfl, ho, hb⟩
  have QB : Hid (Below W.heap.size W w4) := below_to PB.out hb
  have QI : Hid (Si w4 (some ⟨g, 0, none⟩) C) := PI.out.to hb
  have QC : Hid (Si w4 a C) := PC.out.to hb
  have QO : Hid (Or4 w4 W.heap.size (.slice a3 l.length c3) l) := PO.out.to hb
  have QS : Hid (Sr w4 a4 l) := ho.sr
  clear ho hb r0 r1 r2 r3 q0 q1 q2 q3 P3 P4 PB PI PC PO HB2
  go_wp2_with fail
  refine (rsame_nn QO.out.sr QS.out (by have := HLl.out; omega)).mono ?_
  rintro e w5 ⟨rfl, hb⟩
  have RB : Hid (Below W.heap.size W w5) := below_to QB.out hb
  have RI : Hid (Si w5 (some ⟨g, 0, none⟩) C) := QI.out.to hb
  have RC : Hid (Si w5 a C) := QC.out.to hb
  have RO : Hid (Or4 w5 W.heap.size (.slice a3 l.length c3) l) := QO.out.to hb
  clear hb QB QI QC QO QS
  have HEq : Hid (∀ c d, Calls Try.prog 18 #[.slice (some ⟨g, 0, none⟩) C.length c, .slice a C.length d] w5 fun e w' => e = .returned (.bool true) ∧ Below w5.heap.size w5 w') := fun c d => by
    have := eqInts_any (c := c) (d := d) RI.out RC.out (by have := HL.out; omega) (by have := HL.out; omega)
    rwa [eqI_self] at this
  go_wp2_with fail
  refine (HEq.out _ _).mono ?_
  rintro e w6 ⟨rfl, hb⟩
  have SB : Hid (Below W.heap.size W w6) := below_to RB.out hb
  have SO : Hid (Or4 w6 W.heap.size (.slice a3 l.length c3) l) := RO.out.to hb
  have SX : Hid (0 < l.length → ∃ g, a3 = some ⟨g, 0, none⟩ ∧ Xq w6 W.heap.size g (l.length * 4)) := fun h0 => SO.out.xq h0
  clear hb RB RI RC RO HEq SO
  go_wp2_with fail
  generalize hll : l.length = ln at *
  have HLn : Hid (ln ≤ 64) := HLl.out
  clear hll HLl
  go_loopw [14] (fun i wr => ∃ j : Nat, j ≤ ln ∧ i = .int .i64 j ∧ Below W.heap.size W wr ∧ (0 < ln → ∃ g, a3 = some ⟨g, 0, none⟩ ∧ Xq wr W.heap.size g (ln * 4))) (fun i _ => ln - (intOf i).toNat)
  case atStart => exact ⟨0, by omega, rfl, SB.out, SX.out⟩
  case round =>
    clear SB SX
    obtain ⟨j, hj, rfl, hb, hx⟩ := hrel
    have TB : Hid (Below W.heap.size W wr) := hb
    by_cases hlt : j < ln
    · obtain ⟨gx, e3, hxx⟩ := hx (by omega)
      subst e3
      have TX : Hid (Xq wr W.heap.size gx (ln * 4)) := hxx
      obtain ⟨z0, k0⟩ := hxx.cell (j * 4) (by omega)
      obtain ⟨z1, k1⟩ := hxx.cell (j * 4 + 1) (by omega)
      obtain ⟨z2, k2⟩ := hxx.cell (j * 4 + 2) (by omega)
      obtain ⟨z3, k3⟩ := hxx.cell (j * 4 + 3) (by omega)
      have t0 := hxx.th (j * 4)
      have t1 := hxx.th (j * 4 + 1)
      have t2 := hxx.th (j * 4 + 2)
      have t3 := hxx.th (j * 4 + 3)
      have j0 : (0 : Int) ≤ (j : Int) := by omega
      have j1 : (j : Int) < (ln : Int) := by omega
      have j2 : ln ≤ 64 := HLn.out
      have HJ : Hid (j < ln) := hlt
      clear hb hx hxx
      go_wp2_with fail
      go_roundw
      case rel =>
        have hj := HJ.out
        have hge := TX.out.ge
        refine ⟨j + 1, by omega, by go_num, below_set (below_set (below_set (below_set TB.out hge _) hge _) hge _) hge _, fun _ => ⟨gx, rfl, (((TX.out.set (j * 4) (by omega) 0).set (j * 4 + 1) (by omega) 0).set (j * 4 + 2) (by omega) 0).set (j * 4 + 3) (by omega) 0⟩⟩
      case measure => simp [intOf]; omega
    · have j1 : (ln : Int) ≤ (j : Int) := by omega
      clear hb hx
      go_wp2_with fail
      refine (works_true _).mono ?_
      rintro e w9 ⟨rfl, hb⟩
      have UB : Hid (Below W.heap.size W w9) := below_to TB.out hb
      clear hb
      go_wp2_with fail
      go_ret
      exact ⟨rfl, UB.out⟩
end Go.Proofs.Ytjijgeeejhijhaa
