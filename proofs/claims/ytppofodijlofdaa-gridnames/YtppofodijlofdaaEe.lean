/- DERIVED. The walk of GridNames. -/
import Derived.Test.YtppofodijlofdaaEd
import Derived.Deep.RegionHeld3
namespace Go.Proofs.Ytppofodijlofdaa
open Go.RowKit

/-- what GridNames has made -/
structure Nm (w u : World) (z y za : Nat) : Prop where
  bd : Ri 23 u z bads
  oa : Ob u y bA
  ob : Ob u (y + 1) bB
  ks : Ri 42 u za asks1
  bel : Below w.heap.size w u
theorem Nm.to {w u u' : World} {z y za : Nat} (h : Nm w u z y za) (hb : Below u.heap.size u u') : Nm w u' z y za := ⟨h.bd.to hb, h.oa.to hb, h.ob.to hb, h.ks.to hb, h.bel.trans (hb.mono h.bel.size)⟩
set_option maxRecDepth 100000 in
set_option maxHeartbeats 8000000 in
theorem names_walk {w : World} : Calls Try.prog 6 #[] w fun e w' => e = .returned (.bool true) ∧ Below w.heap.size w w' := by
  have HAwk : Hid (∀ u, Calls Try.prog 9 #[] u fun e w' => e = .returned (.bool true) ∧ Below u.heap.size u w') := fun u => awake_any
  have HU : Hid (∀ u, Calls Try.prog 22 #[] u fun e w' => e = .returned (.tuple #[.agg bA.cs.toArray, .agg bB.cs.toArray]) ∧ Below u.heap.size u w') := fun u => usual_any
  have HVe : Hid (∀ u v, Non u v → Calls Try.prog 18 #[v, .agg #[.int .i64 0, .int .i64 0, .int .i64 0, .int .i64 0], .int .i64 9] u fun e w' => e = .returned (.tuple #[.agg #[.int .i64 0, .int .i64 0, .int .i64 0, .int .i64 0], .int .i64 0, .int .i64 1]) ∧ Below u.heap.size u w') := fun u v h => (vecs_non h).mono fun e w' ⟨h1, h2⟩ => ⟨h1, h2⟩
  have HPu : Hid (∀ u v, Non u v → Calls Try.prog 10 #[v, .agg #[.int .i64 0, .int .i64 0, .int .i64 0, .int .i64 0, .bool false, .bool false, .int .i64 0, .int .i64 0, .int .i64 0, .int .i64 0, .int .i64 0, .int .i64 0, .int .i64 0, .bool false, .int .i64 0, .int .i64 0, .int .i64 0, .int .i64 0, .int .i64 0, .int .i64 0, .int .i64 0, .int .i64 0, .bool false]] u fun e w' => e = .returned (.int .i64 1) ∧ Below u.heap.size u w') := fun u v h => put_non (b := bz) h
  have HE : Hid (∀ t, (Op.equalIn 10000 40 (.agg bz.cs.toArray) (.agg #[.int .i64 0, .int .i64 0, .int .i64 0, .int .i64 0, .bool false, .bool false, .int .i64 0, .int .i64 0, .int .i64 0, .int .i64 0, .int .i64 0, .int .i64 0, .int .i64 0, .bool false, .int .i64 0, .int .i64 0, .int .i64 0, .int .i64 0, .int .i64 0, .int .i64 0, .int .i64 0, .int .i64 0, .bool false])).run Try.prog t = .ok true t) := fun t => eqb_self bz t
  go_enter Try.func6, Try.ntmps6
  go_wp2_with fail
  go_loopw [1, 2] (fun nv iv wr => ∃ k : Nat, k ≤ 2 ∧ iv = .int .i64 (k : Int) ∧ Below w.heap.size w wr ∧ Non wr nv) (fun _ iv _ => 2 - (intOf iv).toNat)
  case atStart => exact ⟨0, by omega, by simp, Below.refl _ _, Or.inl rfl⟩
  case round =>
    obtain ⟨k, hk, rfl, hb, hn⟩ := hrel
    have HB : Hid (Below w.heap.size w wr) := hb
    clear hb
    by_cases hlt : k < 2
    · as_aux_lemma =>
       have HN : Hid (∀ u, Below wr.heap.size wr u → Non u u1) := fun u hu => hn.to hu
       have k0 : (0 : Int) ≤ (k : Int) := by omega
       have k1 : (k : Int) < 2 := by omega
       have HK : Hid (k < 2) := hlt
       clear hn hlt hk
       go_wp2_with fail
       refine (at_non (HN.out _ (Below.refl _ _))).mono ?_
       rintro e w1 ⟨rfl, hb⟩
       have HB1 : Hid (Below wr.heap.size wr w1) := hb
       have HBx : Hid (∀ o, Below wr.heap.size wr (w1.alloc o)) := fun o => below_alloc hb (Nat.le_refl _) o
       have HSz : Hid (wr.heap.size ≤ w1.heap.size) := hb.size
       clear hb
       have HOx : Hid (Ob (w1.alloc (.cells bz.cs.toArray 40)) w1.heap.size bz) := Ob.new w1 bz rfl
       go_upto_region 6 with (refine wpList_store_block (by rfl) _ _ (by rfl) w1.heap.size bz bz HOx.out (by rfl) (by rfl) ?_; intro w2 hob hsw; have HO2 : Hid (Ob w2 w1.heap.size bz) := hob; have HB2 : Hid (Below wr.heap.size wr w2) := hsw.below (HBx.out _) HSz.out; clear hob hsw)
       clear HOx HBx HSz HB1
       generalize w1.heap.size = zb at *
       go_wp2_with fail
       refine (part_non (HN.out _ HB2.out)).mono ?_
       rintro e w3 ⟨rfl, hb⟩
       have HB3 : Hid (Below wr.heap.size wr w3) := below_to HB2.out hb
       have HO3 : Hid (Ob w3 zb bz) := HO2.out.to hb
       clear hb HB2 HO2
       go_wp2_with fail
       refine (skip_non (HN.out _ HB3.out)).mono ?_
       rintro e w4 ⟨rfl, rfl⟩
       go_wp2_with fail
       refine (inter_non (HN.out _ HB3.out)).mono ?_
       rintro e w5 ⟨rfl, rfl⟩
       go_wp2_with fail
       refine (HVe.out _ _ (HN.out _ HB3.out)).mono ?_
       rintro e w6 ⟨rfl, hb⟩
       have HB6 : Hid (Below wr.heap.size wr (w6.alloc (.cells #[.int .i64 0, .int .i64 0, .int .i64 0, .int .i64 0] 38))) := below_alloc (below_to HB3.out hb) (Nat.le_refl _) _
       have HO6 : Hid (Ob (w6.alloc (.cells #[.int .i64 0, .int .i64 0, .int .i64 0, .int .i64 0] 38)) zb bz) := (HO3.out.to hb).to (from_alloc _ _)
       have HV6 : Hid (Ri 38 (w6.alloc (.cells #[.int .i64 0, .int .i64 0, .int .i64 0, .int .i64 0] 38)) w6.heap.size [0, 0, 0, 0]) := Ri.built 38 w6 [0, 0, 0, 0] rfl
       clear hb HB3 HO3
       go_upto_region 10 with fail
       generalize w6.heap.size = zs at *
       generalize (w6.alloc (.cells #[.int .i64 0, .int .i64 0, .int .i64 0, .int .i64 0] 38)) = U at *
       have r0 : U.cell? ⟨zs, 0, none⟩ = some (.int .i64 0) := HV6.out.cell 0 (by simp)
       have r1 : U.cell? ⟨zs, 1, none⟩ = some (.int .i64 0) := HV6.out.cell 1 (by simp)
       have r2 : U.cell? ⟨zs, 2, none⟩ = some (.int .i64 0) := HV6.out.cell 2 (by simp)
       have r3 : U.cell? ⟨zs, 3, none⟩ = some (.int .i64 0) := HV6.out.cell 3 (by simp)
       have hE := HE.out
       have hEs := fun t => eqvs_same 0 0 0 0 t
       go_wp2_with (refine wpList_load_block (by rfl) _ (by rfl) zb 0 (by rfl) bz HO6.out.bc ?_)
       refine (HPu.out _ _ (HN.out _ HB6.out)).mono ?_
       rintro e w7 ⟨rfl, hb⟩
       have HB7 : Hid (Below wr.heap.size wr w7) := below_to HB6.out hb
       clear hb r0 r1 r2 r3 hE hEs HB6 HO6 HV6
       go_wp2_with fail
       refine (blocks_non (HN.out _ HB7.out)).mono ?_
       rintro e w8 ⟨rfl, rfl⟩
       go_wp2_with fail
       go_roundw
       case rel => exact ⟨k + 1, by have := HK.out; omega, by go_num, below_alloc (HB.out.trans (HB7.out.mono HB.out.size)) (Nat.le_refl _) _, Or.inr ⟨_, rfl, by simp [go_sem]⟩⟩
       case measure => have := HK.out; simp [intOf]; omega
    · obtain rfl : k = 2 := by omega
      clear hlt hk hn
      go_upto_region 14 with fail
      have HB1 : Hid (Below w.heap.size w (wr.alloc (.cells #[.int .i64 0, .int .i64 0, .int .i64 60, .int .i64 64, .int .i64 32, .int .i64 0, .int .i64 8, .int .i64 8, .int .i64 192, .int .i64 0, .int .i64 72, .int .i64 8, .int .i64 0, .int .i64 0, .int .i64 0, .int .i64 0, .int .i64 (-64), .int .i64 0, .int .i64 64, .int .i64 64, .int .i64 0, .int .i64 256, .int .i64 8, .int .i64 8, .int .i64 0, .int .i64 0, .int .i64 264, .int .i64 8, .int .i64 192, .int .i64 192, .int .i64 64, .int .i64 64] 23))) := below_alloc HB.out (Nat.le_refl _) _
      have HR1 : Hid (Ri 23 (wr.alloc (.cells #[.int .i64 0, .int .i64 0, .int .i64 60, .int .i64 64, .int .i64 32, .int .i64 0, .int .i64 8, .int .i64 8, .int .i64 192, .int .i64 0, .int .i64 72, .int .i64 8, .int .i64 0, .int .i64 0, .int .i64 0, .int .i64 0, .int .i64 (-64), .int .i64 0, .int .i64 64, .int .i64 64, .int .i64 0, .int .i64 256, .int .i64 8, .int .i64 8, .int .i64 0, .int .i64 0, .int .i64 264, .int .i64 8, .int .i64 192, .int .i64 192, .int .i64 64, .int .i64 64] 23)) wr.heap.size bads) := Ri.built 23 wr bads rfl
      generalize wr.heap.size = z at *
      generalize (wr.alloc (.cells #[.int .i64 0, .int .i64 0, .int .i64 60, .int .i64 64, .int .i64 32, .int .i64 0, .int .i64 8, .int .i64 8, .int .i64 192, .int .i64 0, .int .i64 72, .int .i64 8, .int .i64 0, .int .i64 0, .int .i64 0, .int .i64 0, .int .i64 (-64), .int .i64 0, .int .i64 64, .int .i64 64, .int .i64 0, .int .i64 256, .int .i64 8, .int .i64 8, .int .i64 0, .int .i64 0, .int .i64 264, .int .i64 8, .int .i64 192, .int .i64 192, .int .i64 64, .int .i64 64] 23)) = V1 at *
      clear HB
      go_wp2_with fail
      refine (HU.out _).mono ?_
      rintro e w2 ⟨rfl, hb⟩
      have HB2 : Hid (Below w.heap.size w w2) := HB1.out.trans (hb.mono HB1.out.size)
      have HR2 : Hid (Ri 23 w2 z bads) := HR1.out.to hb
      clear hb HB1 HR1
      have HO1 : Hid (Ob ((w2.alloc (.cells bz.cs.toArray 40)).alloc (.cells bz.cs.toArray 40)) w2.heap.size bz) := (Ob.new w2 bz rfl).to (from_alloc _ _)
      have HO2 : Hid (Ob ((w2.alloc (.cells bz.cs.toArray 40)).alloc (.cells bz.cs.toArray 40)) (w2.heap.size + 1) bz) := Ob.new _ bz (by simp)
      have HB0 : Hid (Below w2.heap.size w2 ((w2.alloc (.cells bz.cs.toArray 40)).alloc (.cells bz.cs.toArray 40))) := to_alloc (from_alloc _ _) _
      go_upto_region 15 with (first | (refine wpList_store_block (by rfl) _ _ (by rfl) w2.heap.size bz bA HO1.out (by rfl) (by rfl) ?_; intro w3 hob hsw; have HA1 : Hid (Ob w3 w2.heap.size bA) := hob; have HA2 : Hid (Ob w3 (w2.heap.size + 1) bz) := HO2.out.carry (hsw.block _ (by omega)); have HA3 : Hid (Below w2.heap.size w2 w3) := hsw.below HB0.out (Nat.le_refl _); clear hob hsw) | (refine wpList_store_block (by rfl) _ _ (by rfl) (w2.heap.size + 1) bz bB HA2.out (by rfl) (by rfl) ?_; intro w4 hob hsw; have HC1 : Hid (Ob w4 (w2.heap.size + 1) bB) := hob; have HC2 : Hid (Ob w4 w2.heap.size bA) := HA1.out.carry (hsw.block _ (by omega)); have HC3 : Hid (Below w2.heap.size w2 w4) := hsw.below HA3.out (by omega); clear hob hsw))
      have HNm0 : Hid (Nm w (w4.alloc (.cells #[.int .i64 0, .int .i64 16, .int .i64 16, .int .i64 0, .int .i64 0, .int .i64 16, .int .i64 16, .int .i64 16, .int .i64 64, .int .i64 0, .int .i64 0, .int .i64 32, .int .i64 32, .int .i64 8, .int .i64 0, .int .i64 0, .int .i64 16, .int .i64 32, .int .i64 72, .int .i64 0, .int .i64 24, .int .i64 0, .int .i64 0, .int .i64 8, .int .i64 1, .int .i64 16, .int .i64 8, .int .i64 0, .int .i64 8, .int .i64 1, .int .i64 24, .int .i64 0, .int .i64 0, .int .i64 8, .int .i64 3, .int .i64 4, .int .i64 0, .int .i64 0, .int .i64 8, .int .i64 0, .int .i64 (-8), .int .i64 (-8), .int .i64 16, .int .i64 8, .int .i64 0, .int .i64 64, .int .i64 0, .int .i64 64, .int .i64 8, .int .i64 0, .int .i64 (-16), .int .i64 0, .int .i64 16, .int .i64 8, .int .i64 0] 42)) z w2.heap.size w4.heap.size) := ⟨(HR2.out.to HC3.out).to (from_alloc _ _), HC2.out.to (from_alloc _ _), HC1.out.to (from_alloc _ _), Ri.built 42 w4 asks1 rfl, below_alloc (HB2.out.trans (HC3.out.mono HB2.out.size)) (Nat.le_refl _) _⟩
      clear HO1 HO2 HB0 HA1 HA2 HA3 HC1 HC2 HC3 HB2 HR2
      generalize w2.heap.size = y at *
      go_upto_region 16 with fail
      generalize w4.heap.size = za at *
      generalize (w4.alloc (.cells #[.int .i64 0, .int .i64 16, .int .i64 16, .int .i64 0, .int .i64 0, .int .i64 16, .int .i64 16, .int .i64 16, .int .i64 64, .int .i64 0, .int .i64 0, .int .i64 32, .int .i64 32, .int .i64 8, .int .i64 0, .int .i64 0, .int .i64 16, .int .i64 32, .int .i64 72, .int .i64 0, .int .i64 24, .int .i64 0, .int .i64 0, .int .i64 8, .int .i64 1, .int .i64 16, .int .i64 8, .int .i64 0, .int .i64 8, .int .i64 1, .int .i64 24, .int .i64 0, .int .i64 0, .int .i64 8, .int .i64 3, .int .i64 4, .int .i64 0, .int .i64 0, .int .i64 8, .int .i64 0, .int .i64 (-8), .int .i64 (-8), .int .i64 16, .int .i64 8, .int .i64 0, .int .i64 64, .int .i64 0, .int .i64 64, .int .i64 8, .int .i64 0, .int .i64 (-16), .int .i64 0, .int .i64 16, .int .i64 8, .int .i64 0] 42)) = V3 at *
      have HSc : Hid (∀ (k : Nat) (X Y W H : Int) (u : World), k < 8 → bads.getD (k * 4) 0 = X → bads.getD (k * 4 + 1) 0 = Y → bads.getD (k * 4 + 2) 0 = W → bads.getD (k * 4 + 3) 0 = H → Nm w u z y za → (u.cell? ⟨z, k * 4, none⟩ = some (.int .i64 X) ∧ u.cell? ⟨z, k * 4 + 1, none⟩ = some (.int .i64 Y) ∧ u.cell? ⟨z, k * 4 + 2, none⟩ = some (.int .i64 W) ∧ u.cell? ⟨z, k * 4 + 3, none⟩ = some (.int .i64 H)) ∧ u.rangeAt y 0 bA.cs ∧ u.rangeAt (y + 1) 0 bB.cs) := fun k X Y W H u hk h0 h1 h2 h3 h => by
        rw [← h0, ← h1, ← h2, ← h3]
        exact ⟨⟨h.bd.cell _ (by show _ < 32; omega), h.bd.cell _ (by show _ < 32; omega), h.bd.cell _ (by show _ < 32; omega), h.bd.cell _ (by show _ < 32; omega)⟩, h.oa.bc.rng, h.ob.bc.rng⟩
      go_wp2_with fail
      go_loopw [18] (fun i wr => ∃ k : Nat, k ≤ 8 ∧ i = .int .i64 (k : Int) ∧ Nm w wr z y za) (fun i _ => 8 - (intOf i).toNat)
      case atStart => exact ⟨0, by omega, by simp, HNm0.out⟩
      case round =>
        clear HNm0
        obtain ⟨k, hk, rfl, hnm⟩ := hrel
        have HNm : Hid (Nm w wr z y za) := hnm
        clear hnm
        by_cases hlt : k < 8
        · as_aux_lemma =>
           have hsc := fun u => HSc.out k _ _ _ _ u hlt rfl rfl rfl rfl
           generalize bads.getD (k * 4) 0 = X at *
           generalize bads.getD (k * 4 + 1) 0 = Y at *
           generalize bads.getD (k * 4 + 2) 0 = W at *
           generalize bads.getD (k * 4 + 3) 0 = H at *
           clear HSc
           have HSc : Hid _ := hsc
           have k0 : (0 : Int) ≤ (k : Int) := by omega
           have k1 : (k : Int) < 8 := by omega
           have HK : Hid (k < 8) := hlt
           clear hsc hlt hk
           go_upto_region 19 with fail
           refine wp_region_held_drew (S := fun t => (t.cell? ⟨z, k * 4, none⟩ = some (.int .i64 X) ∧ t.cell? ⟨z, k * 4 + 1, none⟩ = some (.int .i64 Y) ∧ t.cell? ⟨z, k * 4 + 2, none⟩ = some (.int .i64 W) ∧ t.cell? ⟨z, k * 4 + 3, none⟩ = some (.int .i64 H)) ∧ t.rangeAt y 0 bA.cs ∧ t.rangeAt (y + 1) 0 bB.cs) (by kernel_rfl) (HSc.out _ (HNm.out.to (below_drew (Below.refl _ _)))) (fun hHeld => ?_)
           change wpAnyH _ _ _ _ _ 11 #[false, false, false, false, false, false, false, false, false, false, false] _ _
           refine wpAnyH_take (i := 0) (oi := { dst := some 139, op := Op.move (Operand.tmp 14), type := 64, pos := "outright.go:165", after := #[], guard := none }) (v := ?_) rfl (by kernel_rfl) (by kernel_rfl) (by kernel_rfl) (fun _ _ _ h => h) (Or.inl ⟨by rfl, ?hy⟩) (by assumption) ?_
           case hy =>
             intro wz hSw
             (try dsimp only at hSw)
             (try obtain ⟨⟨hs0, hs1, hs2, hs3⟩, hs4⟩ := hSw)
             first | (go_simp; done) | (go_simp; with_reducible rfl)
           simp only [Act.put, List.setIfInBounds_toArray, List.set_cons_zero, List.set_cons_succ]
           refine wpAnyH_take (i := 1) (oi := { dst := some 140, op := Op.move (Operand.tmp 18), type := 3, pos := "outright.go:165", after := #[], guard := none }) (v := ?_) rfl (by kernel_rfl) (by kernel_rfl) (by kernel_rfl) (fun _ _ _ h => h) (Or.inl ⟨by rfl, ?hy⟩) (by assumption) ?_
           case hy =>
             intro wz hSw
             (try dsimp only at hSw)
             (try obtain ⟨⟨hs0, hs1, hs2, hs3⟩, hs4⟩ := hSw)
             first | (go_simp; done) | (go_simp; with_reducible rfl)
           simp only [Act.put, List.setIfInBounds_toArray, List.set_cons_zero, List.set_cons_succ]
           refine wpAnyH_take (i := 2) (oi := { dst := some 141, op := Op.indexAddr 64 (Operand.tmp 139) (Operand.tmp 140), type := 0, pos := "outright.go:165", after := #[{ on := 0, ground := Ground.data }, { on := 1, ground := Ground.data }], guard := none }) (v := ?_) rfl (by kernel_rfl) (by kernel_rfl) (by kernel_rfl) (fun _ _ _ h => h) (Or.inl ⟨by rfl, ?hy⟩) (by assumption) ?_
           case hy =>
             intro wz hSw
             (try dsimp only at hSw)
             (try obtain ⟨⟨hs0, hs1, hs2, hs3⟩, hs4⟩ := hSw)
             first | (go_simp; done) | (go_simp; with_reducible rfl)
           simp only [Act.put, List.setIfInBounds_toArray, List.set_cons_zero, List.set_cons_succ]
           refine wpAnyH_take (i := 3) (oi := { dst := some 142, op := Op.load 23 (Operand.tmp 141), type := 23, pos := "outright.go:165", after := #[{ on := 2, ground := Ground.data }], guard := none }) (v := ?_) rfl (by kernel_rfl) (by kernel_rfl) (by kernel_rfl) (fun _ _ _ h => h) (Or.inl ⟨by rfl, ?hy⟩) (by assumption) ?_
           case hy =>
             intro wz hSw
             (try dsimp only at hSw)
             (try obtain ⟨⟨hs0, hs1, hs2, hs3⟩, hs4⟩ := hSw)
             first | (go_simp; done) | (go_simp; with_reducible rfl)
           simp only [Act.put, List.setIfInBounds_toArray, List.set_cons_zero, List.set_cons_succ]
           refine wpAnyH_take (i := 4) (oi := { dst := some 143, op := Op.load 40 (Operand.tmp 15), type := 40, pos := "outright.go:165", after := #[], guard := none }) (v := .agg bA.cs.toArray) rfl (by kernel_rfl) (by kernel_rfl) (by kernel_rfl) (fun _ _ _ h => h) (yieldsIf_load_mid (by rfl) 40 (Operand.tmp 15) rfl y 0 (by rfl) bA.cs _ (fun _ hS => hS.2.1) Try.underlying40 rfl (by rw [Try.info40, Bl.cs_length])) (by assumption) ?_
           simp only [Act.put, List.setIfInBounds_toArray, List.set_cons_zero, List.set_cons_succ]
           refine wpAnyH_take (i := 5) (oi := { dst := some 144, op := Op.load 40 (Operand.tmp 16), type := 40, pos := "outright.go:165", after := #[], guard := none }) (v := .agg bB.cs.toArray) rfl (by kernel_rfl) (by kernel_rfl) (by kernel_rfl) (fun _ _ _ h => h) (yieldsIf_load_mid (by rfl) 40 (Operand.tmp 16) rfl (y + 1) 0 (by rfl) bB.cs _ (fun _ hS => hS.2.2) Try.underlying40 rfl (by rw [Try.info40, Bl.cs_length])) (by assumption) ?_
           simp only [Act.put, List.setIfInBounds_toArray, List.set_cons_zero, List.set_cons_succ]
           refine wpAnyH_take (i := 6) (oi := { dst := some 145, op := Op.load 40 (Operand.tmp 15), type := 40, pos := "outright.go:165", after := #[], guard := none }) (v := .agg bA.cs.toArray) rfl (by kernel_rfl) (by kernel_rfl) (by kernel_rfl) (fun _ _ _ h => h) (yieldsIf_load_mid (by rfl) 40 (Operand.tmp 15) rfl y 0 (by rfl) bA.cs _ (fun _ hS => hS.2.1) Try.underlying40 rfl (by rw [Try.info40, Bl.cs_length])) (by assumption) ?_
           simp only [Act.put, List.setIfInBounds_toArray, List.set_cons_zero, List.set_cons_succ]
           refine wpAnyH_take (i := 8) (oi := { dst := some 147, op := Op.move (Operand.tmp 17), type := 25, pos := "outright.go:165", after := #[], guard := none }) (v := ?_) rfl (by kernel_rfl) (by kernel_rfl) (by kernel_rfl) (fun _ _ _ h => h) (Or.inl ⟨by rfl, ?hy⟩) (by assumption) ?_
           case hy =>
             intro wz hSw
             (try dsimp only at hSw)
             (try obtain ⟨⟨hs0, hs1, hs2, hs3⟩, hs4⟩ := hSw)
             first | (go_simp; done) | (go_simp; with_reducible rfl)
           simp only [Act.put, List.setIfInBounds_toArray, List.set_cons_zero, List.set_cons_succ]
           refine wpAnyH_ready (rs := [7]) (by kernel_rfl) (by simp) ?_
           refine AllReadyH.cons (o := { dst := some 146, op := Op.buildSlice 24 3 #[(0, Operand.tmp 143), (1, Operand.tmp 144), (2, Operand.tmp 145)], type := 24, pos := "outright.go:165", after := #[{ on := 4, ground := Ground.data }, { on := 5, ground := Ground.data }, { on := 6, ground := Ground.data }], guard := none }) rfl (fun K hK => ?_) AllReadyH.nil
           refine step_build_3 (by rfl) _ _ _ (by rfl) (by rfl) (by rfl) (by rfl) ?_
           (try simp only [Act.put, List.setIfInBounds_toArray, List.set_cons_zero, List.set_cons_succ])
           have HNm1 : Hid (Nm w (wr.drew.alloc (.cells (bs l3).toArray 40)) z y za) := (HNm.out.to (below_drew (Below.refl _ _))).to (from_alloc wr.drew _)
           have HRw : Hid (Sb (wr.drew.alloc (.cells (bs l3).toArray 40)) (some ⟨wr.drew.heap.size, 0, none⟩) l3) := rows_at (heap_alloc_new wr.drew _)
           refine hK.out _ _ (HSc.out _ HNm1.out) (fun hHeld2 => ?_)
           clear hK K
           (try simp only [List.setIfInBounds_toArray, List.set_cons_zero, List.set_cons_succ])
           refine wpAnyH_ready (rs := [9]) (by kernel_rfl) (by simp) ?_
           refine AllReadyH.cons (o := { dst := some 148, op := Op.call { callee := Callee.value (Operand.func 3), args := #[Operand.tmp 142, Operand.tmp 146, Operand.tmp 147], argTypes := #[23, 24, 25] }, type := 4, pos := "outright.go:165", after := #[{ on := 3, ground := Ground.data }, { on := 7, ground := Ground.data }, { on := 8, ground := Ground.data }], guard := none }) rfl (fun K hK => ?_) AllReadyH.nil
           go_simp
           refine (plays_walk (M := l3) (A := asks) HRw.out l3_ok (sa_of HNm1.out.ks) asks_ok).mono ?_
           rintro e wz ⟨rfl, hb⟩
           have HNm2 : Hid (Nm w wz z y za) := HNm1.out.to hb
           clear hb
           (try go_wp2_with fail)
           refine hK.out _ _ (HSc.out _ HNm2.out) (fun hHeld3 => ?_)
           clear hK K
           (try simp only [List.setIfInBounds_toArray, List.set_cons_zero, List.set_cons_succ])
           refine wpAnyH_take (i := 10) (oi := { dst := some 149, op := Op.unOp UnOp.not 4 (Operand.tmp 148), type := 4, pos := "outright.go:165", after := #[{ on := 9, ground := Ground.data }], guard := none }) (v := ?_) rfl (by kernel_rfl) (by kernel_rfl) (by kernel_rfl) (fun _ _ _ h => h) (Or.inl ⟨by rfl, ?hy⟩) (by assumption) ?_
           case hy =>
             intro wz hSw
             (try dsimp only at hSw)
             (try obtain ⟨⟨hs0, hs1, hs2, hs3⟩, hs4⟩ := hSw)
             first | (go_simp; done) | (go_simp; with_reducible rfl)
           simp only [Act.put, List.setIfInBounds_toArray, List.set_cons_zero, List.set_cons_succ]
           refine wpAnyH_done (by kernel_rfl) ?_ _
           go_wp2_with fail
           go_roundw
           case rel => exact ⟨k + 1, by have := HK.out; omega, by go_num, HNm2.out⟩
           case measure => have := HK.out; simp [intOf]; omega
        · obtain rfl : k = 8 := by omega
          clear hlt hk HSc
          as_aux_lemma =>
           go_upto_region 22 with (first | (refine wpList_load_block (by rfl) _ (by rfl) y 0 (by rfl) bA HNm.out.oa.bc ?_) | (refine wpList_load_block (by rfl) _ (by rfl) (y + 1) 0 (by rfl) bB HNm.out.ob.bc ?_) | (refine wpList_build_10 (by rfl) _ _ _ _ _ _ _ _ _ _ (by rfl) (by rfl) (by rfl) (by rfl) (by rfl) (by rfl) (by rfl) (by rfl) (by rfl) (by rfl) (by rfl) ?_))
           have HNm1 : Hid (Nm w (wr.alloc (.cells (bs l10).toArray 40)) z y za) := HNm.out.to (from_alloc _ _)
           have HRw : Hid (Sb (wr.alloc (.cells (bs l10).toArray 40)) (some ⟨wr.heap.size, 0, none⟩) l10) := rows_at (heap_alloc_new wr _)
           generalize wr.heap.size = zl at *
           generalize (wr.alloc (.cells (bs l10).toArray 40)) = V5 at *
           go_wp2_with fail
           refine (HAwk.out _).mono ?_
           rintro e t1 ⟨rfl, hb⟩
           have HNm2 : Hid (Nm w t1 z y za ∧ Sb t1 (some ⟨zl, 0, none⟩) l10) := ⟨HNm1.out.to hb, HRw.out.to hb⟩
           clear hb HNm1 HRw HNm
           go_wp2_with fail
           refine (plays_walk (M := l10) (A := asks) HNm2.out.2 l10_ok (sa_of HNm2.out.1.ks) asks_ok).mono ?_
           rintro e t2 ⟨rfl, hb⟩
           have HNm3 : Hid (Nm w t2 z y za ∧ Sb t2 (some ⟨zl, 0, none⟩) l10) := ⟨HNm2.out.1.to hb, HNm2.out.2.to hb⟩
           clear hb HNm2
           go_wp2_with fail
           refine (plays_walk (M := l10) (A := asks) HNm3.out.2 l10_ok (sa_of HNm3.out.1.ks) asks_ok).mono ?_
           rintro e t3 ⟨rfl, hb⟩
           have HNm4 : Hid (Nm w t3 z y za) := HNm3.out.1.to hb
           clear hb HNm3
           go_wp2_with fail
           go_ret
           exact ⟨rfl, HNm4.out.bel⟩
end Go.Proofs.Ytppofodijlofdaa
