/- DERIVED. The document's Vecs. -/
import Derived.Test.YtppofodijlofdaaDb
import Derived.Test.YtppofodijlofdaaCr
import Derived.Test.YtppofodijlofdaaCw
import Derived.Deep.RegionHeld3
namespace Go.Proofs.Ytppofodijlofdaa
open Go.RowKit

/-- the two rows of places -/
structure Xy (wr : World) (zx zy : Nat) (P : List (Int × Int)) : Prop where
  xs : ∀ k, k < 4 → wr.cell? ⟨zx, k, none⟩ = some (.int .i64 (P.getD k (0, 0)).1)
  ys : ∀ k, k < 4 → wr.cell? ⟨zy, k, none⟩ = some (.int .i64 (P.getD k (0, 0)).2)
theorem Xy.carry {wr u : World} {zx zy : Nat} {P : List (Int × Int)} (h : Xy wr zx zy P) (h1 : u.heap[zx]? = wr.heap[zx]?) (h2 : u.heap[zy]? = wr.heap[zy]?) : Xy u zx zy P :=
  ⟨fun k hk => (World.cell?_of_block (w := wr) (w' := u) (a := ⟨zx, k, none⟩) h1).trans (h.xs k hk), fun k hk => (World.cell?_of_block (w := wr) (w' := u) (a := ⟨zy, k, none⟩) h2).trans (h.ys k hk)⟩
theorem Xy.to {wr u : World} {zx zy : Nat} {P : List (Int × Int)} (h : Xy wr zx zy P) (hb : Below wr.heap.size wr u) : Xy u zx zy P :=
  h.carry (hb.block zx (World.block_lt_of_cell? wr _ (h.xs 0 (by omega)))) (hb.block zy (World.block_lt_of_cell? wr _ (h.ys 0 (by omega))))
theorem Xy.set {wr : World} {zx zy : Nat} {P : List (Int × Int)} (h : Xy wr zx zy P) {q k : Nat} (v : Value) (h1 : zx ≠ q) (h2 : zy ≠ q) : Xy (wr.setCell ⟨q, k, none⟩ v) zx zy P :=
  h.carry (Below.heap_setCell _ _ _ _ h1) (Below.heap_setCell _ _ _ _ h2)
/-- how the document's Vecs stands in its round -/
structure Vd (w : World) (z : Nat) (s : List (Int × Int)) (zx zy : Nat) (P : List (Int × Int)) (wr : World) : Prop where
  vi : Vi w z s wr
  xy : Xy wr zx zy P
  lx : z + 2 < zx
  ly : z + 2 < zy
theorem Vd.size {w : World} {z : Nat} {s : List (Int × Int)} {zx zy : Nat} {P : List (Int × Int)} {wr : World} (h : Vd w z s zx zy P wr) : z + 2 < wr.heap.size := Nat.lt_trans h.lx (World.block_lt_of_cell? wr _ (h.xy.xs 0 (by omega)))
theorem Vd.to {w : World} {z : Nat} {s : List (Int × Int)} {zx zy : Nat} {P : List (Int × Int)} {wr u : World} (h : Vd w z s zx zy P wr) (hb : Below wr.heap.size wr u) : Vd w z s zx zy P u :=
  ⟨h.vi.to hb (by have := h.size; omega), h.xy.to hb, h.lx, h.ly⟩
theorem vd_0 {w : World} {z : Nat} {a : Int × Int} {zx zy : Nat} {P : List (Int × Int)} {wr : World} (h : Vd w z [] zx zy P wr) : Vd w z [a] zx zy P ((wr.setCell ⟨z + 2, 0, none⟩ (.int .i64 a.1)).setCell ⟨z + 2, 1, none⟩ (.int .i64 a.2)) :=
  have h1 := h.lx
  have h2 := h.ly
  ⟨vi_0 h.vi, (h.xy.set _ (by omega) (by omega)).set _ (by omega) (by omega), h1, h2⟩
theorem vd_1 {w : World} {z : Nat} {u a : Int × Int} {zx zy : Nat} {P : List (Int × Int)} {wr : World} (h : Vd w z [u] zx zy P wr) : Vd w z [u, a] zx zy P ((wr.setCell ⟨z + 2, 2, none⟩ (.int .i64 a.1)).setCell ⟨z + 2, 3, none⟩ (.int .i64 a.2)) :=
  have h1 := h.lx
  have h2 := h.ly
  ⟨vi_1 h.vi, (h.xy.set _ (by omega) (by omega)).set _ (by omega) (by omega), h1, h2⟩
/-- a block that stands elsewhere is written -/
theorem Vd.sw {w : World} {z : Nat} {s : List (Int × Int)} {zx zy : Nat} {P : List (Int × Int)} {wr u : World} {q : Nat} (h : Vd w z s zx zy P wr) (hw : Sw q wr u) (hq : z + 2 < q) (h1 : zx ≠ q) (h2 : zy ≠ q) : Vd w z s zx zy P u :=
  ⟨⟨h.vi.vecs.carry (hw.block _ (by omega)), h.vi.res.carry (hw.block _ (by omega)), hw.below h.vi.bel (by omega)⟩, h.xy.carry (hw.block _ h1) (hw.block _ h2), h.lx, h.ly⟩
theorem Vd.ne {w : World} {z : Nat} {s : List (Int × Int)} {zx zy : Nat} {P : List (Int × Int)} {wr : World} (h : Vd w z s zx zy P wr) {q : Nat} (hq : wr.heap.size ≤ q) : zx ≠ q ∧ zy ≠ q :=
  ⟨fun e => by have := World.block_lt_of_cell? wr _ (h.xy.xs 0 (by omega)); have e' : zx = q := e; have t : zx < wr.heap.size := this; omega, fun e => by have := World.block_lt_of_cell? wr _ (h.xy.ys 0 (by omega)); have e' : zy = q := e; have t : zy < wr.heap.size := this; omega⟩
/-- a block is made, and written -/
theorem step_store_block {ops : Array Oper} {op : Oper} {a : Act} {w : World} {K : Act → World → Prop} {Q : Exit → Act → World → Prop} {E : Prop} (hgd : op.guard = none) (x y : Operand) (ho : op.op = .store 40 x y)
    (z : Nat) (b c : Bl) (hob : Ob w z b) (hx : a.eval x = .pointer (some ⟨z, 0, none⟩)) (hy : a.eval y = .agg c.cs.toArray)
    (h : ∀ w', Ob w' z c → Sw z w w' → K (a.put op.dst undef) w') : if Region.wanted op (yielded ops a.tmps) = true then Oper.wp Try.prog op a w K Q else E := by
  have hw : Region.wanted op (yielded ops a.tmps) = true := by simp [Region.wanted, hgd]
  rw [if_pos hw]
  obtain ⟨h1, h2⟩ := ob_stored hob c
  exact wp_store_mid 40 x y ho z 0 c.cs.toArray hx hy (there_of hob) (by rw [Try.info40]; rfl) (all_oneCell_toArray c.cs_one) (h _ (by simpa using h1) (by simpa using h2))
theorem ob_zero (w : World) : Ob (w.alloc (.cells #[.int .i64 0, .int .i64 0, .int .i64 0, .int .i64 0, .bool false, .bool false, .int .i64 0, .int .i64 0, .int .i64 0, .int .i64 0, .int .i64 0, .int .i64 0, .int .i64 0, .bool false, .int .i64 0, .int .i64 0, .int .i64 0, .int .i64 0, .int .i64 0, .int .i64 0, .int .i64 0, .int .i64 0, .bool false] 40)) w.heap.size bz := Ob.new w bz rfl
theorem Ob.drew {w : World} {z : Nat} {b : Bl} (h : Ob w z b) : Ob w.drew z b := ⟨h.heap⟩
set_option maxRecDepth 100000 in
set_option maxHeartbeats 4000000 in
theorem rvecs_ok {w : World} {p : Nat} {T : Rc} {v : Value} {L : List Bl} {X Y W H r : Int} (hg : Rd w p T v L) (hv : vok T X Y W r) (hL : L.length ≤ 1000000) :
    Calls Try.prog 33 #[.pointer (some ⟨p, 0, none⟩), .agg #[.int .i64 X, .int .i64 Y, .int .i64 W, .int .i64 H], .int .i64 r] w fun e w' => Vq w w' e (vcs L (pls X Y W) r) 0 := by
  obtain ⟨ha, hw, hr0, hr2⟩ := hv
  obtain ⟨x0, x1, y0, y1, hx, hy⟩ := ask_in hg.tok ha
  have hh : hasT T X Y = true := by unfold ask at ha; simp only [Bool.and_eq_true] at ha; exact ha.2.2
  obtain ⟨w0, w1, hw8⟩ := im_of hw
  have tx := tmod_yes hx
  have ty := tmod_yes hy
  have tw := tmod_yes hw8
  have HI : Hid (∀ u, Below w.heap.size w u → Calls Try.prog 28 #[.pointer (some ⟨p, 0, none⟩), .int .i64 X, .int .i64 Y] u fun e w' => e = .returned (.bool true) ∧ Below u.heap.size u w') := fun u hb => by rw [← hh]; exact inn_any (hg.to hb).cl hg.tok
  have HAt : Hid (∀ u X Y, Below w.heap.size w u → Calls Try.prog 29 #[.pointer (some ⟨p, 0, none⟩), .int .i64 X, .int .i64 Y] u fun e w' => Aq u w' e (atB L X Y) (atK L X Y)) := fun u X Y hb => rat_any (hg.to hb) hL
  have HPL : Hid ((pls X Y W) = [(X - 1, Y), (X, Y - 1), (X + W, Y - 1), (X - 1, Y - 1)]) := rfl
  have HVS : Hid (vst L (pls X Y W) r 4 = vcs L (pls X Y W) r) := rfl
  have HV0 : Hid (vst L (pls X Y W) r 0 = []) := rfl
  have HVn : Hid (∀ k, k < 4 → vst L (pls X Y W) r (k + 1) = vadd (vst L (pls X Y W) r k) (vo (atB L ((pls X Y W).getD k (0, 0)).1 ((pls X Y W).getD k (0, 0)).2) r)) := fun k hk => vst_step _ _ _ k hk
  have HVl : Hid (∀ k, (vst L (pls X Y W) r k).length ≤ 2) := fun k => vcs_le _ _ _
  have HAK : Hid (∀ X Y, atK L X Y = false → vo (atB L X Y) r = none) := fun X Y h => by
    unfold atK at h
    unfold atB
    rw [Option.isSome_eq_false_iff, Option.isNone_iff_eq_none] at h
    rw [h]
    rfl
  rw [← HVS.out]
  generalize pls X Y W = P at *
  generalize vst L P r = S at *
  clear hg ha hw hL HVS hx hy hh hw8
  have HZ0 : Hid (Vz w w.heap.size (X, Y, W, H) (((w.alloc (.cells #[.int .i64 X, .int .i64 Y, .int .i64 W, .int .i64 H] 23)).alloc (.cells #[.int .i64 0, .int .i64 0, .int .i64 0, .int .i64 0] 38)).alloc (.cells #[.int .i64 0, .int .i64 0, .int .i64 0, .int .i64 0] 38))) := vz_mk
  go_enter Try.func33, Try.ntmps33
  go_upto_region 2 with fail
  generalize (((w.alloc (.cells #[.int .i64 X, .int .i64 Y, .int .i64 W, .int .i64 H] 23)).alloc (.cells #[.int .i64 0, .int .i64 0, .int .i64 0, .int .i64 0] 38)).alloc (.cells #[.int .i64 0, .int .i64 0, .int .i64 0, .int .i64 0] 38)) = V at *
  generalize hP : w.heap.size = z at *
  have HP : Hid (w.heap.size = z) := hP
  clear hP
  obtain ⟨c0, c1, c2, c3⟩ := HZ0.out.rc
  simp only at c0 c1 c2 c3
  go_wp2_with fail
  refine (HI.out _ HZ0.out.bel).mono ?_
  rintro e V1 ⟨rfl, hb⟩
  have HZ1 : Hid (Vz w z (X, Y, W, H) V1) := HZ0.out.to hb
  clear hb c0 c1 c2 c3 HI HZ0
  obtain ⟨c0, c1, c2, c3⟩ := HZ1.out.rc
  simp only at c0 c1 c2 c3
  go_upto_region 5 with fail
  have HB2 : Hid (Below V1.heap.size V1 (V1.alloc (.cells #[.int .i64 (X - 1), .int .i64 X, .int .i64 (X + W), .int .i64 (X - 1)] 3))) := from_alloc _ _
  have HZ2 : Hid (Vz w z (X, Y, W, H) (V1.alloc (.cells #[.int .i64 (X - 1), .int .i64 X, .int .i64 (X + W), .int .i64 (X - 1)] 3))) := HZ1.out.to HB2.out
  have HX2 : Hid (∀ k, k < 4 → (V1.alloc (.cells #[.int .i64 (X - 1), .int .i64 X, .int .i64 (X + W), .int .i64 (X - 1)] 3)).cell? ⟨V1.heap.size, k, none⟩ = some (.int .i64 (P.getD k (0, 0)).1)) := fun k hk => by
    rw [HPL.out]
    match k, hk with
    | 0, _ | 1, _ | 2, _ | 3, _ => simp [go_sem]
  have HL2 : Hid (z + 2 < V1.heap.size) := by have := HZ1.out.size; show _ < _; omega
  generalize hzx : V1.heap.size = zx at *
  generalize (V1.alloc (.cells #[.int .i64 (X - 1), .int .i64 X, .int .i64 (X + W), .int .i64 (X - 1)] 3)) = V2 at *
  have HLX : Hid (zx < V2.heap.size) := World.block_lt_of_cell? V2 _ (HX2.out 0 (by omega))
  clear c0 c1 c2 c3 HB2 HZ1 hzx
  obtain ⟨c0, c1, c2, c3⟩ := HZ2.out.rc
  simp only at c0 c1 c2 c3
  go_upto_region 6 with fail
  have HB3 : Hid (Below V2.heap.size V2 (V2.alloc (.cells #[.int .i64 Y, .int .i64 (Y - 1), .int .i64 (Y - 1), .int .i64 (Y - 1)] 3))) := from_alloc _ _
  have HZ3 : Hid (Vz w z (X, Y, W, H) (V2.alloc (.cells #[.int .i64 Y, .int .i64 (Y - 1), .int .i64 (Y - 1), .int .i64 (Y - 1)] 3))) := HZ2.out.to HB3.out
  have HX3 : Hid (∀ k, k < 4 → (V2.alloc (.cells #[.int .i64 Y, .int .i64 (Y - 1), .int .i64 (Y - 1), .int .i64 (Y - 1)] 3)).cell? ⟨zx, k, none⟩ = some (.int .i64 (P.getD k (0, 0)).1)) := fun k hk => by rw [newCell HB3.out _ _ HLX.out]; exact HX2.out k hk
  have HY3 : Hid (∀ k, k < 4 → (V2.alloc (.cells #[.int .i64 Y, .int .i64 (Y - 1), .int .i64 (Y - 1), .int .i64 (Y - 1)] 3)).cell? ⟨V2.heap.size, k, none⟩ = some (.int .i64 (P.getD k (0, 0)).2)) := fun k hk => by
    rw [HPL.out]
    match k, hk with
    | 0, _ | 1, _ | 2, _ | 3, _ => simp [go_sem]
  have HL3 : Hid (z + 2 < V2.heap.size) := Nat.lt_trans HL2.out HLX.out
  generalize hzy : V2.heap.size = zy at *
  generalize (V2.alloc (.cells #[.int .i64 Y, .int .i64 (Y - 1), .int .i64 (Y - 1), .int .i64 (Y - 1)] 3)) = V3 at *
  have HVD : Hid (Vd w z [] zx zy P V3) := ⟨⟨HZ3.out.vecs, HZ3.out.res, HZ3.out.bel⟩, ⟨HX3.out, HY3.out⟩, HL2.out, HL3.out⟩
  clear c0 c1 c2 c3 HB3 HZ2 HZ3 HX2 HX3 HY3 hzy HLX HL2 HL3
  go_wp2_with fail
  go_loopw [12, 13] (fun nv kv wr => ∃ k : Nat, k ≤ 4 ∧ kv = .int .i64 (k : Int) ∧ nv = .int .i64 ((S k).length : Int) ∧ Vd w z (S k) zx zy P wr) (fun _ kv _ => 4 - (intOf kv).toNat)
  case atStart => exact ⟨0, by omega, by simp, by rw [HV0.out]; rfl, by rw [HV0.out]; exact HVD.out⟩
  case round =>
    clear HVD
    obtain ⟨k, hk, rfl, rfl, hvd⟩ := hrel
    have HV : Hid _ := hvd
    clear hvd
    by_cases hlt : k < 4
    · as_aux_lemma =>
       have q0 := HV.out.xy.xs k hlt
       have q1 := HV.out.xy.ys k hlt
       have HNx : Hid (S (k + 1) = vadd (S k) (vo (atB L (P.getD k (0, 0)).1 (P.getD k (0, 0)).2) r)) := HVn.out k hlt
       have HLe : Hid ((S k).length ≤ 2) := HVl.out k
       obtain ⟨x, hx⟩ : ∃ x, (P.getD k (0, 0)).1 = x := ⟨_, rfl⟩
       obtain ⟨y, hy⟩ : ∃ y, (P.getD k (0, 0)).2 = y := ⟨_, rfl⟩
       have HQx : Hid (x = (P.getD k (0, 0)).1) := hx.symm
       have HQy : Hid (y = (P.getD k (0, 0)).2) := hy.symm
       rw [hx] at q0 HNx
       rw [hy] at q1 HNx
       have k0 : (0 : Int) ≤ (k : Int) := by omega
       have k4 : (k : Int) < 4 := by omega
       have HK : Hid (k < 4) := hlt
       obtain ⟨s', hs'⟩ : ∃ s', S (k + 1) = s' := ⟨_, rfl⟩
       have HS' : Hid (S (k + 1) = s') := hs'
       rw [hs'] at HNx
       generalize hsk : S k = s at *
       have HSK : Hid (S k = s) := hsk
       have HAx : Hid (atK L x y = false → vo (atB L x y) r = none) := HAK.out x y
       clear hs' hsk hlt hk hx hy
       generalize hln : (s.length : Int) = ln at *
       have HLN : Hid ((s.length : Int) = ln) := hln
       clear hln
       obtain ⟨b, hbb⟩ : ∃ b, atB L x y = b := ⟨_, rfl⟩
       obtain ⟨bk, hbk⟩ : ∃ bk, atK L x y = bk := ⟨_, rfl⟩
       have HAt2 : Hid (∀ u, Below w.heap.size w u → Calls Try.prog 29 #[.pointer (some ⟨p, 0, none⟩), .int .i64 x, .int .i64 y] u fun e w' => Aq u w' e b bk) := fun u hu => by rw [← hbb, ← hbk]; exact HAt.out u x y (by rw [HP.out] at hu; exact hu)
       rw [hbb] at HNx HAx
       rw [hbk] at HAx
       rw [HP.out] at HAt2
       clear hbb hbk
       have HAt' : Hid _ := HAt2
       clear HAt2 HAt
       go_upto_region 10 with fail
       go_cut [14, 15] from 87 to 148 (fun s14 s15 T => ∃ zb, s14 = .pointer (some ⟨zb, 0, none⟩) ∧ s15 = .bool bk ∧ Ob T zb b ∧ Vd w z s zx zy P T ∧ (z + 2 < zb ∧ zx ≠ zb ∧ zy ≠ zb))
       case first =>
         refine wp_region_held_drew (S := fun t => t.cell? ⟨zx, k, none⟩ = some (.int .i64 x) ∧ t.cell? ⟨zy, k, none⟩ = some (.int .i64 y)) (by kernel_rfl) ⟨q0, q1⟩ (fun hHeld => ?_)
         change wpAnyH _ _ _ _ _ 16 #[false, false, false, false, false, false, false, false, false, false, false, false, false, false, false, false] _ _
         refine wpAnyH_take (i := 0) (oi := { dst := some 92, op := Op.move (Operand.tmp 0), type := 30, pos := "ref.go:121", after := #[], guard := none }) (v := ?_) rfl (by kernel_rfl) (by kernel_rfl) (by kernel_rfl) (fun _ _ _ h => h) (Or.inl ⟨by rfl, ?hy⟩) (by assumption) ?_
         case hy =>
           intro wz hSw
           (try dsimp only at hSw)
           (try obtain ⟨hs1, hs2⟩ := hSw)
           first | (go_simp; done) | (go_simp; with_reducible rfl)
         simp only [Act.put, List.setIfInBounds_toArray, List.set_cons_zero, List.set_cons_succ]
         refine wpAnyH_take (i := 1) (oi := { dst := some 93, op := Op.move (Operand.tmp 10), type := 90, pos := "ref.go:121", after := #[], guard := none }) (v := ?_) rfl (by kernel_rfl) (by kernel_rfl) (by kernel_rfl) (fun _ _ _ h => h) (Or.inl ⟨by rfl, ?hy⟩) (by assumption) ?_
         case hy =>
           intro wz hSw
           (try dsimp only at hSw)
           (try obtain ⟨hs1, hs2⟩ := hSw)
           first | (go_simp; done) | (go_simp; with_reducible rfl)
         simp only [Act.put, List.setIfInBounds_toArray, List.set_cons_zero, List.set_cons_succ]
         refine wpAnyH_take (i := 2) (oi := { dst := some 94, op := Op.move (Operand.tmp 13), type := 3, pos := "ref.go:121", after := #[], guard := none }) (v := ?_) rfl (by kernel_rfl) (by kernel_rfl) (by kernel_rfl) (fun _ _ _ h => h) (Or.inl ⟨by rfl, ?hy⟩) (by assumption) ?_
         case hy =>
           intro wz hSw
           (try dsimp only at hSw)
           (try obtain ⟨hs1, hs2⟩ := hSw)
           first | (go_simp; done) | (go_simp; with_reducible rfl)
         simp only [Act.put, List.setIfInBounds_toArray, List.set_cons_zero, List.set_cons_succ]
         refine wpAnyH_take (i := 3) (oi := { dst := some 95, op := Op.indexAddr 90 (Operand.tmp 93) (Operand.tmp 94), type := 0, pos := "ref.go:121", after := #[{ on := 1, ground := Ground.data }, { on := 2, ground := Ground.data }], guard := none }) (v := ?_) rfl (by kernel_rfl) (by kernel_rfl) (by kernel_rfl) (fun _ _ _ h => h) (Or.inl ⟨by rfl, ?hy⟩) (by assumption) ?_
         case hy =>
           intro wz hSw
           (try dsimp only at hSw)
           (try obtain ⟨hs1, hs2⟩ := hSw)
           first | (go_simp; done) | (go_simp; with_reducible rfl)
         simp only [Act.put, List.setIfInBounds_toArray, List.set_cons_zero, List.set_cons_succ]
         refine wpAnyH_take (i := 4) (oi := { dst := some 96, op := Op.load 3 (Operand.tmp 95), type := 3, pos := "ref.go:121", after := #[{ on := 3, ground := Ground.data }], guard := none }) (v := ?_) rfl (by kernel_rfl) (by kernel_rfl) (by kernel_rfl) (fun _ _ _ h => h) (Or.inl ⟨by rfl, ?hy⟩) (by assumption) ?_
         case hy =>
           intro wz hSw
           (try dsimp only at hSw)
           (try obtain ⟨hs1, hs2⟩ := hSw)
           first | (go_simp; done) | (go_simp; with_reducible rfl)
         simp only [Act.put, List.setIfInBounds_toArray, List.set_cons_zero, List.set_cons_succ]
         refine wpAnyH_take (i := 5) (oi := { dst := some 97, op := Op.move (Operand.tmp 11), type := 90, pos := "ref.go:121", after := #[], guard := none }) (v := ?_) rfl (by kernel_rfl) (by kernel_rfl) (by kernel_rfl) (fun _ _ _ h => h) (Or.inl ⟨by rfl, ?hy⟩) (by assumption) ?_
         case hy =>
           intro wz hSw
           (try dsimp only at hSw)
           (try obtain ⟨hs1, hs2⟩ := hSw)
           first | (go_simp; done) | (go_simp; with_reducible rfl)
         simp only [Act.put, List.setIfInBounds_toArray, List.set_cons_zero, List.set_cons_succ]
         refine wpAnyH_take (i := 6) (oi := { dst := some 98, op := Op.move (Operand.tmp 13), type := 3, pos := "ref.go:121", after := #[], guard := none }) (v := ?_) rfl (by kernel_rfl) (by kernel_rfl) (by kernel_rfl) (fun _ _ _ h => h) (Or.inl ⟨by rfl, ?hy⟩) (by assumption) ?_
         case hy =>
           intro wz hSw
           (try dsimp only at hSw)
           (try obtain ⟨hs1, hs2⟩ := hSw)
           first | (go_simp; done) | (go_simp; with_reducible rfl)
         simp only [Act.put, List.setIfInBounds_toArray, List.set_cons_zero, List.set_cons_succ]
         refine wpAnyH_take (i := 7) (oi := { dst := some 99, op := Op.indexAddr 90 (Operand.tmp 97) (Operand.tmp 98), type := 0, pos := "ref.go:121", after := #[{ on := 5, ground := Ground.data }, { on := 6, ground := Ground.data }], guard := none }) (v := ?_) rfl (by kernel_rfl) (by kernel_rfl) (by kernel_rfl) (fun _ _ _ h => h) (Or.inl ⟨by rfl, ?hy⟩) (by assumption) ?_
         case hy =>
           intro wz hSw
           (try dsimp only at hSw)
           (try obtain ⟨hs1, hs2⟩ := hSw)
           first | (go_simp; done) | (go_simp; with_reducible rfl)
         simp only [Act.put, List.setIfInBounds_toArray, List.set_cons_zero, List.set_cons_succ]
         refine wpAnyH_take (i := 8) (oi := { dst := some 100, op := Op.load 3 (Operand.tmp 99), type := 3, pos := "ref.go:121", after := #[{ on := 7, ground := Ground.data }], guard := none }) (v := ?_) rfl (by kernel_rfl) (by kernel_rfl) (by kernel_rfl) (fun _ _ _ h => h) (Or.inl ⟨by rfl, ?hy⟩) (by assumption) ?_
         case hy =>
           intro wz hSw
           (try dsimp only at hSw)
           (try obtain ⟨hs1, hs2⟩ := hSw)
           first | (go_simp; done) | (go_simp; with_reducible rfl)
         simp only [Act.put, List.setIfInBounds_toArray, List.set_cons_zero, List.set_cons_succ]
         refine wpAnyH_ready (rs := [9, 13]) (by kernel_rfl) (by simp) ?_
         refine AllReadyH.cons (o := { dst := some 101, op := Op.call { callee := Callee.value (Operand.func 29), args := #[Operand.tmp 92, Operand.tmp 96, Operand.tmp 100], argTypes := #[30, 3, 3] }, type := 50, pos := "ref.go:121", after := #[{ on := 0, ground := Ground.data }, { on := 4, ground := Ground.data }, { on := 8, ground := Ground.data }], guard := none }) rfl (fun K hK => ?_) (AllReadyH.cons (o := { dst := some 14, op := Op.alloc 40, type := 0, pos := "ref.go:121", after := #[], guard := none }) rfl (fun K hK => ?_) AllReadyH.nil)
         · go_simp
           refine (HAt'.out _ (below_drew HV.out.vi.bel)).mono ?_
           rintro e Wb ⟨rfl, hb⟩
           (try go_wp2_with fail)
           have HVb : Hid (Vd w z s zx zy P Wb) := HV.out.to ((below_drew (Below.refl _ _)).trans hb)
           refine hK.out _ _ ⟨by rw [HQx.out]; exact HVb.out.xy.xs k HK.out, by rw [HQy.out]; exact HVb.out.xy.ys k HK.out⟩ (fun hHeld2 => ?_)
           clear hK K
           (try simp only [List.setIfInBounds_toArray, List.set_cons_zero, List.set_cons_succ])
           refine wpAnyH_take (i := 10) (oi := { dst := some 91, op := Op.move (Operand.tmp 101), type := 50, pos := "ref.go:121", after := #[{ on := 9, ground := Ground.data }], guard := none }) (v := ?_) rfl (by kernel_rfl) (by kernel_rfl) (by kernel_rfl) (fun _ _ _ h => h) (Or.inl ⟨by rfl, ?hy⟩) (by assumption) ?_
           case hy =>
             intro wz hSw
             (try dsimp only at hSw)
             (try obtain ⟨hs1, hs2⟩ := hSw)
             first | (go_simp; done) | (go_simp; with_reducible rfl)
           simp only [Act.put, List.setIfInBounds_toArray, List.set_cons_zero, List.set_cons_succ]
           refine wpAnyH_take (i := 11) (oi := { dst := some 102, op := Op.extract (Operand.tmp 91) 0, type := 40, pos := "ref.go:121", after := #[{ on := 10, ground := Ground.data }], guard := none }) (v := ?_) rfl (by kernel_rfl) (by kernel_rfl) (by kernel_rfl) (fun _ _ _ h => h) (Or.inl ⟨by rfl, ?hy⟩) (by assumption) ?_
           case hy =>
             intro wz hSw
             (try dsimp only at hSw)
             (try obtain ⟨hs1, hs2⟩ := hSw)
             first | (go_simp; done) | (go_simp; with_reducible rfl)
           simp only [Act.put, List.setIfInBounds_toArray, List.set_cons_zero, List.set_cons_succ]
           refine wpAnyH_take (i := 12) (oi := { dst := some 103, op := Op.extract (Operand.tmp 91) 1, type := 4, pos := "ref.go:121", after := #[{ on := 10, ground := Ground.data }, { on := 14, ground := Ground.gcOnly Departure.lateStores }], guard := none }) (v := ?_) rfl (by kernel_rfl) (by kernel_rfl) (by kernel_rfl) (fun _ _ _ h => h) (Or.inl ⟨by rfl, ?hy⟩) (by assumption) ?_
           case hy =>
             intro wz hSw
             (try dsimp only at hSw)
             (try obtain ⟨hs1, hs2⟩ := hSw)
             first | (go_simp; done) | (go_simp; with_reducible rfl)
           simp only [Act.put, List.setIfInBounds_toArray, List.set_cons_zero, List.set_cons_succ]
           refine wpAnyH_ready (rs := [13]) (by kernel_rfl) (by simp) ?_
           refine AllReadyH.cons (o := { dst := some 14, op := Op.alloc 40, type := 0, pos := "ref.go:121", after := #[], guard := none }) rfl (fun K hK => ?_) AllReadyH.nil
           go_simp
           have HVc : Hid (Vd w z s zx zy P (Wb.alloc (.cells #[.int .i64 0, .int .i64 0, .int .i64 0, .int .i64 0, .bool false, .bool false, .int .i64 0, .int .i64 0, .int .i64 0, .int .i64 0, .int .i64 0, .int .i64 0, .int .i64 0, .bool false, .int .i64 0, .int .i64 0, .int .i64 0, .int .i64 0, .int .i64 0, .int .i64 0, .int .i64 0, .int .i64 0, .bool false] 40))) := HVb.out.to (from_alloc _ _)
           have HOc : Hid (Ob (Wb.alloc (.cells #[.int .i64 0, .int .i64 0, .int .i64 0, .int .i64 0, .bool false, .bool false, .int .i64 0, .int .i64 0, .int .i64 0, .int .i64 0, .int .i64 0, .int .i64 0, .int .i64 0, .bool false, .int .i64 0, .int .i64 0, .int .i64 0, .int .i64 0, .int .i64 0, .int .i64 0, .int .i64 0, .int .i64 0, .bool false] 40)) Wb.heap.size bz) := ob_zero Wb
           refine hK.out _ _ ⟨by rw [HQx.out]; exact HVc.out.xy.xs k HK.out, by rw [HQy.out]; exact HVc.out.xy.ys k HK.out⟩ (fun hHeld3 => ?_)
           clear hK K
           (try simp only [List.setIfInBounds_toArray, List.set_cons_zero, List.set_cons_succ])
           refine wpAnyH_ready (rs := [14]) (by kernel_rfl) (by simp) ?_
           refine AllReadyH.cons (o := { dst := none, op := Op.store 40 (Operand.tmp 14) (Operand.tmp 102), type := 0, pos := "ref.go:121", after := #[{ on := 13, ground := Ground.data }, { on := 11, ground := Ground.data }, { on := 9, ground := Ground.chain }, { on := 0, ground := Ground.phase }, { on := 1, ground := Ground.phase }, { on := 2, ground := Ground.phase }, { on := 3, ground := Ground.phase }, { on := 4, ground := Ground.phase }, { on := 5, ground := Ground.phase }, { on := 6, ground := Ground.phase }, { on := 7, ground := Ground.phase }, { on := 8, ground := Ground.phase }, { on := 9, ground := Ground.phase }, { on := 10, ground := Ground.phase }, { on := 11, ground := Ground.phase }, { on := 12, ground := Ground.textOnly Departure.lateStores }, { on := 13, ground := Ground.phase }], guard := none }) rfl (fun K hK => ?_) AllReadyH.nil
           refine step_store_block (by rfl) _ _ (by rfl) Wb.heap.size bz b HOc.out (by rfl) (by rfl) ?_
           intro Wd hob hsw
           have HOd : Hid (Ob Wd Wb.heap.size b) := hob
           have HVe : Hid (Vd w z s zx zy P Wd) := HVc.out.sw hsw (by have := HVb.out.size; omega) (HVb.out.ne (Nat.le_refl _)).1 (HVb.out.ne (Nat.le_refl _)).2
           have HLz : Hid (z + 2 < Wb.heap.size ∧ zx ≠ Wb.heap.size ∧ zy ≠ Wb.heap.size) := ⟨HVb.out.size, (HVb.out.ne (Nat.le_refl _)).1, (HVb.out.ne (Nat.le_refl _)).2⟩
           clear hob hsw
           refine hK.out _ _ ⟨by rw [HQx.out]; exact HVe.out.xy.xs k HK.out, by rw [HQy.out]; exact HVe.out.xy.ys k HK.out⟩ (fun hHeld4 => ?_)
           clear hK K
           (try simp only [List.setIfInBounds_toArray, List.set_cons_zero, List.set_cons_succ])
           refine wpAnyH_take (i := 15) (oi := { dst := some 15, op := Op.assign (Operand.tmp 103), type := 4, pos := "ref.go:121", after := #[{ on := 12, ground := Ground.data }, { on := 14, ground := Ground.chain }, { on := 0, ground := Ground.phase }, { on := 1, ground := Ground.phase }, { on := 2, ground := Ground.phase }, { on := 3, ground := Ground.phase }, { on := 4, ground := Ground.phase }, { on := 5, ground := Ground.phase }, { on := 6, ground := Ground.phase }, { on := 7, ground := Ground.phase }, { on := 8, ground := Ground.phase }, { on := 9, ground := Ground.phase }, { on := 10, ground := Ground.phase }, { on := 11, ground := Ground.phase }, { on := 12, ground := Ground.phase }, { on := 13, ground := Ground.phase }, { on := 14, ground := Ground.phase }], guard := none }) (v := ?_) rfl (by kernel_rfl) (by kernel_rfl) (by kernel_rfl) (fun _ _ _ h => h) (Or.inl ⟨by rfl, ?hy⟩) (by assumption) ?_
           case hy =>
             intro wz hSw
             (try dsimp only at hSw)
             (try obtain ⟨hs1, hs2⟩ := hSw)
             first | (go_simp; done) | (go_simp; with_reducible rfl)
           simp only [Act.put, List.setIfInBounds_toArray, List.set_cons_zero, List.set_cons_succ]
           refine wpAnyH_done (by kernel_rfl) ?_ _
           go_wp2_with fail
           go_meet
           exact ⟨_, rfl, rfl, HOd.out, HVe.out, HLz.out⟩
         · go_simp
           have HVc : Hid (Vd w z s zx zy P (wr.alloc (.cells #[.int .i64 0, .int .i64 0, .int .i64 0, .int .i64 0, .bool false, .bool false, .int .i64 0, .int .i64 0, .int .i64 0, .int .i64 0, .int .i64 0, .int .i64 0, .int .i64 0, .bool false, .int .i64 0, .int .i64 0, .int .i64 0, .int .i64 0, .int .i64 0, .int .i64 0, .int .i64 0, .int .i64 0, .bool false] 40)).drew) := HV.out.to (below_drew (from_alloc _ _))
           have HOc : Hid (Ob (wr.alloc (.cells #[.int .i64 0, .int .i64 0, .int .i64 0, .int .i64 0, .bool false, .bool false, .int .i64 0, .int .i64 0, .int .i64 0, .int .i64 0, .int .i64 0, .int .i64 0, .int .i64 0, .bool false, .int .i64 0, .int .i64 0, .int .i64 0, .int .i64 0, .int .i64 0, .int .i64 0, .int .i64 0, .int .i64 0, .bool false] 40)).drew wr.heap.size bz) := (ob_zero wr).drew
           refine hK.out _ _ ⟨by rw [HQx.out]; exact HVc.out.xy.xs k HK.out, by rw [HQy.out]; exact HVc.out.xy.ys k HK.out⟩ (fun hHeld3 => ?_)
           clear hK K
           (try simp only [List.setIfInBounds_toArray, List.set_cons_zero, List.set_cons_succ])
           refine wpAnyH_ready (rs := [9]) (by kernel_rfl) (by simp) ?_
           refine AllReadyH.cons (o := { dst := some 101, op := Op.call { callee := Callee.value (Operand.func 29), args := #[Operand.tmp 92, Operand.tmp 96, Operand.tmp 100], argTypes := #[30, 3, 3] }, type := 50, pos := "ref.go:121", after := #[{ on := 0, ground := Ground.data }, { on := 4, ground := Ground.data }, { on := 8, ground := Ground.data }], guard := none }) rfl (fun K hK => ?_) AllReadyH.nil
           go_simp
           refine (HAt'.out _ HVc.out.vi.bel).mono ?_
           rintro e Wb ⟨rfl, hb⟩
           (try go_wp2_with fail)
           have HVb : Hid (Vd w z s zx zy P Wb) := HVc.out.to hb
           have HOb : Hid (Ob Wb wr.heap.size bz) := HOc.out.to hb
           refine hK.out _ _ ⟨by rw [HQx.out]; exact HVb.out.xy.xs k HK.out, by rw [HQy.out]; exact HVb.out.xy.ys k HK.out⟩ (fun hHeld2 => ?_)
           clear hK K
           (try simp only [List.setIfInBounds_toArray, List.set_cons_zero, List.set_cons_succ])
           refine wpAnyH_take (i := 10) (oi := { dst := some 91, op := Op.move (Operand.tmp 101), type := 50, pos := "ref.go:121", after := #[{ on := 9, ground := Ground.data }], guard := none }) (v := ?_) rfl (by kernel_rfl) (by kernel_rfl) (by kernel_rfl) (fun _ _ _ h => h) (Or.inl ⟨by rfl, ?hy⟩) (by assumption) ?_
           case hy =>
             intro wz hSw
             (try dsimp only at hSw)
             (try obtain ⟨hs1, hs2⟩ := hSw)
             first | (go_simp; done) | (go_simp; with_reducible rfl)
           simp only [Act.put, List.setIfInBounds_toArray, List.set_cons_zero, List.set_cons_succ]
           refine wpAnyH_take (i := 11) (oi := { dst := some 102, op := Op.extract (Operand.tmp 91) 0, type := 40, pos := "ref.go:121", after := #[{ on := 10, ground := Ground.data }], guard := none }) (v := ?_) rfl (by kernel_rfl) (by kernel_rfl) (by kernel_rfl) (fun _ _ _ h => h) (Or.inl ⟨by rfl, ?hy⟩) (by assumption) ?_
           case hy =>
             intro wz hSw
             (try dsimp only at hSw)
             (try obtain ⟨hs1, hs2⟩ := hSw)
             first | (go_simp; done) | (go_simp; with_reducible rfl)
           simp only [Act.put, List.setIfInBounds_toArray, List.set_cons_zero, List.set_cons_succ]
           refine wpAnyH_take (i := 12) (oi := { dst := some 103, op := Op.extract (Operand.tmp 91) 1, type := 4, pos := "ref.go:121", after := #[{ on := 10, ground := Ground.data }, { on := 14, ground := Ground.gcOnly Departure.lateStores }], guard := none }) (v := ?_) rfl (by kernel_rfl) (by kernel_rfl) (by kernel_rfl) (fun _ _ _ h => h) (Or.inl ⟨by rfl, ?hy⟩) (by assumption) ?_
           case hy =>
             intro wz hSw
             (try dsimp only at hSw)
             (try obtain ⟨hs1, hs2⟩ := hSw)
             first | (go_simp; done) | (go_simp; with_reducible rfl)
           simp only [Act.put, List.setIfInBounds_toArray, List.set_cons_zero, List.set_cons_succ]
           refine wpAnyH_ready (rs := [14]) (by kernel_rfl) (by simp) ?_
           refine AllReadyH.cons (o := { dst := none, op := Op.store 40 (Operand.tmp 14) (Operand.tmp 102), type := 0, pos := "ref.go:121", after := #[{ on := 13, ground := Ground.data }, { on := 11, ground := Ground.data }, { on := 9, ground := Ground.chain }, { on := 0, ground := Ground.phase }, { on := 1, ground := Ground.phase }, { on := 2, ground := Ground.phase }, { on := 3, ground := Ground.phase }, { on := 4, ground := Ground.phase }, { on := 5, ground := Ground.phase }, { on := 6, ground := Ground.phase }, { on := 7, ground := Ground.phase }, { on := 8, ground := Ground.phase }, { on := 9, ground := Ground.phase }, { on := 10, ground := Ground.phase }, { on := 11, ground := Ground.phase }, { on := 12, ground := Ground.textOnly Departure.lateStores }, { on := 13, ground := Ground.phase }], guard := none }) rfl (fun K hK => ?_) AllReadyH.nil
           refine step_store_block (by rfl) _ _ (by rfl) wr.heap.size bz b HOb.out (by rfl) (by rfl) ?_
           intro Wd hob hsw
           have HOd : Hid (Ob Wd wr.heap.size b) := hob
           have HVe : Hid (Vd w z s zx zy P Wd) := HVb.out.sw hsw (by have := HV.out.size; omega) (HV.out.ne (Nat.le_refl _)).1 (HV.out.ne (Nat.le_refl _)).2
           have HLz : Hid (z + 2 < wr.heap.size ∧ zx ≠ wr.heap.size ∧ zy ≠ wr.heap.size) := ⟨HV.out.size, (HV.out.ne (Nat.le_refl _)).1, (HV.out.ne (Nat.le_refl _)).2⟩
           clear hob hsw
           refine hK.out _ _ ⟨by rw [HQx.out]; exact HVe.out.xy.xs k HK.out, by rw [HQy.out]; exact HVe.out.xy.ys k HK.out⟩ (fun hHeld4 => ?_)
           clear hK K
           (try simp only [List.setIfInBounds_toArray, List.set_cons_zero, List.set_cons_succ])
           refine wpAnyH_take (i := 15) (oi := { dst := some 15, op := Op.assign (Operand.tmp 103), type := 4, pos := "ref.go:121", after := #[{ on := 12, ground := Ground.data }, { on := 14, ground := Ground.chain }, { on := 0, ground := Ground.phase }, { on := 1, ground := Ground.phase }, { on := 2, ground := Ground.phase }, { on := 3, ground := Ground.phase }, { on := 4, ground := Ground.phase }, { on := 5, ground := Ground.phase }, { on := 6, ground := Ground.phase }, { on := 7, ground := Ground.phase }, { on := 8, ground := Ground.phase }, { on := 9, ground := Ground.phase }, { on := 10, ground := Ground.phase }, { on := 11, ground := Ground.phase }, { on := 12, ground := Ground.phase }, { on := 13, ground := Ground.phase }, { on := 14, ground := Ground.phase }], guard := none }) (v := ?_) rfl (by kernel_rfl) (by kernel_rfl) (by kernel_rfl) (fun _ _ _ h => h) (Or.inl ⟨by rfl, ?hy⟩) (by assumption) ?_
           case hy =>
             intro wz hSw
             (try dsimp only at hSw)
             (try obtain ⟨hs1, hs2⟩ := hSw)
             first | (go_simp; done) | (go_simp; with_reducible rfl)
           simp only [Act.put, List.setIfInBounds_toArray, List.set_cons_zero, List.set_cons_succ]
           refine wpAnyH_done (by kernel_rfl) ?_ _
           go_wp2_with fail
           go_meet
           exact ⟨_, rfl, rfl, HOd.out, HVe.out, HLz.out⟩
       obtain ⟨zb, rfl, rfl, hob, hvd, hzb⟩ := hcut
       have HO : Hid (Ob wc zb b) := hob
       have HV4 : Hid (Vd w z s zx zy P wc) := hvd
       have e5 : wc.cell? ⟨zb, 5, none⟩ = some (.bool b.it) := HO.out.c 5 _ rfl
       clear hob hvd hzb HV q0 q1 HAt'
       have HX2 := HNx
       clear HNx
       cases hbk : bk
       · rw [hbk] at HAx
         have HVo : Hid (vo b r = none) := HAx.out rfl
         clear hbk HAx
         have HR : Hid (s' = s) := by show _ = _; rw [HX2.out, HVo.out]; rfl
         clear HX2 HLe
         go_wp2_with fail
         go_roundw
         case rel => exact ⟨k + 1, by have := HK.out; omega, by go_num, by rw [HS'.out, HR.out, HLN.out], by rw [HS'.out, HR.out]; exact HV4.out⟩
         case measure => have := HK.out; simp [intOf]; omega
       · clear HAx hbk
         cases hit : b.it
         · rw [hit] at e5
           have HVo : Hid (vo b r = none) := by show vo b r = none; unfold vo; rw [hit]; rfl
           clear hit
           have HR : Hid (s' = s) := by show _ = _; rw [HX2.out, HVo.out]; rfl
           clear HX2 HLe
           go_wp2_with fail
           go_roundw
           case rel => exact ⟨k + 1, by have := HK.out; omega, by go_num, by rw [HS'.out, HR.out, HLN.out], by rw [HS'.out, HR.out]; exact HV4.out⟩
           case measure => have := HK.out; simp [intOf]; omega
         · rw [hit] at e5
           have HIt : Hid (b.it = true) := hit
           clear hit
           have e13 : wc.cell? ⟨zb, 13, none⟩ = some (.bool b.cp) := HO.out.c 13 _ rfl
           have e14 : wc.cell? ⟨zb, 14, none⟩ = some (.int .i64 b.r0) := HO.out.c 14 _ rfl
           have e15 : wc.cell? ⟨zb, 15, none⟩ = some (.int .i64 b.r1) := HO.out.c 15 _ rfl
           have e17 : wc.cell? ⟨zb, 17, none⟩ = some (.int .i64 b.u0) := HO.out.c 17 _ rfl
           have e18 : wc.cell? ⟨zb, 18, none⟩ = some (.int .i64 b.u1) := HO.out.c 18 _ rfl
           have HB5 : Hid (Below wc.heap.size wc (wc.alloc (.cells #[.int .i64 b.u0, .int .i64 b.u1] 37))) := from_alloc _ _
           have HV5 : Hid (Vd w z s zx zy P (wc.alloc (.cells #[.int .i64 b.u0, .int .i64 b.u1] 37))) := HV4.out.to HB5.out
           have HO5 : Hid (Ob (wc.alloc (.cells #[.int .i64 b.u0, .int .i64 b.u1] 37)) zb b) := HO.out.to HB5.out
           have g0 : (wc.alloc (.cells #[.int .i64 b.u0, .int .i64 b.u1] 37)).cell? ⟨wc.heap.size, 0, none⟩ = some (.int .i64 b.u0) := by simp [go_sem]
           have g1 : (wc.alloc (.cells #[.int .i64 b.u0, .int .i64 b.u1] 37)).cell? ⟨wc.heap.size, 1, none⟩ = some (.int .i64 b.u1) := by simp [go_sem]
           have t0 : (wc.alloc (.cells #[.int .i64 b.u0, .int .i64 b.u1] 37)).frozen? ⟨wc.heap.size, 0, none⟩ = false := by simp [go_sem]
           have t1 : (wc.alloc (.cells #[.int .i64 b.u0, .int .i64 b.u1] 37)).frozen? ⟨wc.heap.size, 1, none⟩ = false := by simp [go_sem]
           have HZv : Hid (z + 2 < wc.heap.size ∧ zx ≠ wc.heap.size ∧ zy ≠ wc.heap.size) := ⟨HV4.out.size, (HV4.out.ne (Nat.le_refl _)).1, (HV4.out.ne (Nat.le_refl _)).2⟩
           go_upto_region 13 with fail
           generalize hzv : wc.heap.size = zv at *
           generalize (wc.alloc (.cells #[.int .i64 b.u0, .int .i64 b.u1] 37)) = We at *
           clear e5 e13 e14 e15 e17 e18 HB5 hzv
           have e13 : We.cell? ⟨zb, 13, none⟩ = some (.bool b.cp) := HO5.out.c 13 _ rfl
           have e14 : We.cell? ⟨zb, 14, none⟩ = some (.int .i64 b.r0) := HO5.out.c 14 _ rfl
           have e15 : We.cell? ⟨zb, 15, none⟩ = some (.int .i64 b.r1) := HO5.out.c 15 _ rfl
           have e19 : We.cell? ⟨zb, 19, none⟩ = some (.int .i64 b.u2) := HO5.out.c 19 _ rfl
           have e20 : We.cell? ⟨zb, 20, none⟩ = some (.int .i64 b.u3) := HO5.out.c 20 _ rfl
           have HVE : Hid (vo b r = if b.r0 = r then some (b.u0, b.u1) else if b.cp = true ∧ b.r1 = r then some (b.u2, b.u3) else none) := by show vo b r = _; unfold vo; rw [if_pos HIt.out]
           clear HV4 HO HIt
           generalize b.u0 = a0 at *
           generalize b.u1 = c0 at *
           generalize b.u2 = a2 at *
           generalize b.u3 = c2 at *
           by_cases h0 : b.r0 = r
           · have HX3 : Hid (s' = vadd s (some (a0, c0))) := by show _ = _; rw [HX2.out, HVE.out, if_pos h0]
             have HX2' := HX3
             have b0 : (b.r0 != r) = false := by rw [bne_eq_false_iff_eq]; exact h0
             clear HVE HX2 HX3 e19 e20 t0 t1 e13 e15
             have HX2 := HX2'
             clear HX2'
             have HVe := HV5
             clear HV5
             go_upto_region 16 with fail
             clear h0 b0 e14 HO5
             match s, HVe, HX2, HSK, HLe, HLN with
             | [], HVe, HX2, HSK, HLe, HLN =>
               obtain rfl : ln = 0 := by rw [← HLN.out]; rfl
               have HR : Hid (s' = [(a0, c0)]) := HX2.out
               have f0 := HVe.out.vi.vecs.thaw 0
               have f1 := HVe.out.vi.vecs.thaw 1
               have d0 := HVe.out.vi.vecs.cell 0 (by rw [vc_len]; omega)
               have d1 := HVe.out.vi.vecs.cell 1 (by rw [vc_len]; omega)
               have HF : Hid (Vd w z [(a0, c0)] zx zy P ((We.setCell ⟨z + 2, 0, none⟩ (.int .i64 a0)).setCell ⟨z + 2, 1, none⟩ (.int .i64 c0))) := vd_0 HVe.out
               clear HX2 HLe HLN
               go_wp2_with fail
               go_roundw
               case rel => exact ⟨k + 1, by have := HK.out; omega, by go_num, by rw [HS'.out, HR.out]; rfl, by rw [HS'.out, HR.out]; exact HF.out⟩
               case measure => have := HK.out; simp [intOf]; omega
             | [u], HVe, HX2, HSK, HLe, HLN =>
               obtain rfl : ln = 1 := by rw [← HLN.out]; rfl
               obtain ⟨u0, u1⟩ := u
               have d0 : We.cell? ⟨z + 2, 0, none⟩ = some (.int .i64 u0) := HVe.out.vi.vecs.cell 0 (by rw [vc_len]; omega)
               have d1 : We.cell? ⟨z + 2, 1, none⟩ = some (.int .i64 u1) := HVe.out.vi.vecs.cell 1 (by rw [vc_len]; omega)
               have hE := fun t => eqv a0 c0 u0 u1 t
               by_cases he : (a0, c0) = (u0, u1)
               · rw [decide_eq_true he] at hE
                 have HR : Hid (s' = [(u0, u1)]) := by show _ = _; rw [HX2.out]; show (if (a0, c0) = (u0, u1) then _ else _) = _; rw [if_pos he]
                 clear HX2 HLe he
                 go_wp2_with fail
                 go_roundw
                 case rel => exact ⟨k + 1, by have := HK.out; omega, by go_num, by rw [HS'.out, HR.out]; rfl, by rw [HS'.out, HR.out]; exact HVe.out⟩
                 case measure => have := HK.out; simp [intOf]; omega
               · rw [decide_eq_false he] at hE
                 have HR : Hid (s' = [(u0, u1), (a0, c0)]) := by show _ = _; rw [HX2.out]; show (if (a0, c0) = (u0, u1) then _ else _) = _; rw [if_neg he]
                 have f2 := HVe.out.vi.vecs.thaw 2
                 have f3 := HVe.out.vi.vecs.thaw 3
                 have d2 := HVe.out.vi.vecs.cell 2 (by rw [vc_len]; omega)
                 have d3 := HVe.out.vi.vecs.cell 3 (by rw [vc_len]; omega)
                 have HF : Hid (Vd w z [(u0, u1), (a0, c0)] zx zy P ((We.setCell ⟨z + 2, 2, none⟩ (.int .i64 a0)).setCell ⟨z + 2, 3, none⟩ (.int .i64 c0))) := vd_1 HVe.out
                 clear HX2 HLe he
                 go_wp2_with fail
                 go_roundw
                 case rel => exact ⟨k + 1, by have := HK.out; omega, by go_num, by rw [HS'.out, HR.out]; rfl, by rw [HS'.out, HR.out]; exact HF.out⟩
                 case measure => have := HK.out; simp [intOf]; omega
             | [u, u'], HVe, HX2, HSK, HLe, HLN =>
               obtain rfl : ln = 2 := by rw [← HLN.out]; rfl
               have HR : Hid (s' = [u, u']) := HX2.out
               clear HX2 HLe HLN
               go_wp2_with fail
               go_roundw
               case rel => exact ⟨k + 1, by have := HK.out; omega, by go_num, by rw [HS'.out, HR.out]; rfl, by rw [HS'.out, HR.out]; exact HVe.out⟩
               case measure => have := HK.out; simp [intOf]; omega
             | _ :: _ :: _ :: _, _, _, _, HLe, _ => have := HLe.out; simp at this
           · have b0 : (b.r0 != r) = true := by rw [bne_iff_ne]; exact h0
             cases hcp : b.cp
             · rw [hcp] at e13
               have HVo : Hid (vo b r = none) := by show _ = _; rw [HVE.out, if_neg h0, if_neg (by rw [hcp]; rintro ⟨h, -⟩; cases h)]
               clear HVE e19 e20 t0 t1 g0 g1
               have HR : Hid (s' = s) := by show _ = _; rw [HX2.out, HVo.out]; rfl
               clear HX2 HLe
               go_wp2_with fail
               go_roundw
               case rel => exact ⟨k + 1, by have := HK.out; omega, by go_num, by rw [HS'.out, HR.out, HLN.out], by rw [HS'.out, HR.out]; exact HV5.out⟩
               case measure => have := HK.out; simp [intOf]; omega
             · rw [hcp] at e13
               by_cases h1 : b.r1 = r
               · have b1 : (b.r1 != r) = false := by rw [bne_eq_false_iff_eq]; exact h1
                 have HX3 : Hid (s' = vadd s (some (a2, c2))) := by show _ = _; rw [HX2.out, HVE.out, if_neg h0, if_pos ⟨hcp, h1⟩]
                 clear HVE HX2
                 have HSf : Hid (Sw zv We ((We.setCell ⟨zv, 0, none⟩ (.int .i64 a2)).setCell ⟨zv, 1, none⟩ (.int .i64 c2))) := (Sw.set We zv 0 _).trans (Sw.set _ zv 1 _)
                 have HVe : Hid (Vd w z s zx zy P ((We.setCell ⟨zv, 0, none⟩ (.int .i64 a2)).setCell ⟨zv, 1, none⟩ (.int .i64 c2))) := HV5.out.sw HSf.out HZv.out.1 HZv.out.2.1 HZv.out.2.2
                 have G0 : Hid (((We.setCell ⟨zv, 0, none⟩ (.int .i64 a2)).setCell ⟨zv, 1, none⟩ (.int .i64 c2)).cell? ⟨zv, 0, none⟩ = some (.int .i64 a2)) := by show _ = _; simp [go_sem, g0]
                 have G1 : Hid (((We.setCell ⟨zv, 0, none⟩ (.int .i64 a2)).setCell ⟨zv, 1, none⟩ (.int .i64 c2)).cell? ⟨zv, 1, none⟩ = some (.int .i64 c2)) := by show _ = _; simp [go_sem, g1]
                 have HX2 := HX3
                 clear HX3
                 go_upto_region 16 with fail
                 clear h0 h1 b0 b1 e13 e14 e15 e19 e20 g0 g1 t0 t1 HO5 HV5 HSf
                 generalize ((We.setCell ⟨zv, 0, none⟩ (.int .i64 a2)).setCell ⟨zv, 1, none⟩ (.int .i64 c2)) = Wf at *
                 have g0 := G0.out
                 have g1 := G1.out
                 clear G0 G1
                 match s, HVe, HX2, HSK, HLe, HLN with
                 | [], HVe, HX2, HSK, HLe, HLN =>
                   obtain rfl : ln = 0 := by rw [← HLN.out]; rfl
                   have HR : Hid (s' = [(a2, c2)]) := HX2.out
                   have f0 := HVe.out.vi.vecs.thaw 0
                   have f1 := HVe.out.vi.vecs.thaw 1
                   have d0 := HVe.out.vi.vecs.cell 0 (by rw [vc_len]; omega)
                   have d1 := HVe.out.vi.vecs.cell 1 (by rw [vc_len]; omega)
                   have HF : Hid (Vd w z [(a2, c2)] zx zy P ((Wf.setCell ⟨z + 2, 0, none⟩ (.int .i64 a2)).setCell ⟨z + 2, 1, none⟩ (.int .i64 c2))) := vd_0 HVe.out
                   clear HX2 HLe HLN
                   go_wp2_with fail
                   go_roundw
                   case rel => exact ⟨k + 1, by have := HK.out; omega, by go_num, by rw [HS'.out, HR.out]; rfl, by rw [HS'.out, HR.out]; exact HF.out⟩
                   case measure => have := HK.out; simp [intOf]; omega
                 | [u], HVe, HX2, HSK, HLe, HLN =>
                   obtain rfl : ln = 1 := by rw [← HLN.out]; rfl
                   obtain ⟨u0, u1⟩ := u
                   have d0 : Wf.cell? ⟨z + 2, 0, none⟩ = some (.int .i64 u0) := HVe.out.vi.vecs.cell 0 (by rw [vc_len]; omega)
                   have d1 : Wf.cell? ⟨z + 2, 1, none⟩ = some (.int .i64 u1) := HVe.out.vi.vecs.cell 1 (by rw [vc_len]; omega)
                   have hE := fun t => eqv a2 c2 u0 u1 t
                   by_cases he : (a2, c2) = (u0, u1)
                   · rw [decide_eq_true he] at hE
                     have HR : Hid (s' = [(u0, u1)]) := by show _ = _; rw [HX2.out]; show (if (a2, c2) = (u0, u1) then _ else _) = _; rw [if_pos he]
                     clear HX2 HLe he
                     go_wp2_with fail
                     go_roundw
                     case rel => exact ⟨k + 1, by have := HK.out; omega, by go_num, by rw [HS'.out, HR.out]; rfl, by rw [HS'.out, HR.out]; exact HVe.out⟩
                     case measure => have := HK.out; simp [intOf]; omega
                   · rw [decide_eq_false he] at hE
                     have HR : Hid (s' = [(u0, u1), (a2, c2)]) := by show _ = _; rw [HX2.out]; show (if (a2, c2) = (u0, u1) then _ else _) = _; rw [if_neg he]
                     have f2 := HVe.out.vi.vecs.thaw 2
                     have f3 := HVe.out.vi.vecs.thaw 3
                     have d2 := HVe.out.vi.vecs.cell 2 (by rw [vc_len]; omega)
                     have d3 := HVe.out.vi.vecs.cell 3 (by rw [vc_len]; omega)
                     have HF : Hid (Vd w z [(u0, u1), (a2, c2)] zx zy P ((Wf.setCell ⟨z + 2, 2, none⟩ (.int .i64 a2)).setCell ⟨z + 2, 3, none⟩ (.int .i64 c2))) := vd_1 HVe.out
                     clear HX2 HLe he
                     go_wp2_with fail
                     go_roundw
                     case rel => exact ⟨k + 1, by have := HK.out; omega, by go_num, by rw [HS'.out, HR.out]; rfl, by rw [HS'.out, HR.out]; exact HF.out⟩
                     case measure => have := HK.out; simp [intOf]; omega
                 | [u, u'], HVe, HX2, HSK, HLe, HLN =>
                   obtain rfl : ln = 2 := by rw [← HLN.out]; rfl
                   have HR : Hid (s' = [u, u']) := HX2.out
                   clear HX2 HLe HLN
                   go_wp2_with fail
                   go_roundw
                   case rel => exact ⟨k + 1, by have := HK.out; omega, by go_num, by rw [HS'.out, HR.out]; rfl, by rw [HS'.out, HR.out]; exact HVe.out⟩
                   case measure => have := HK.out; simp [intOf]; omega
                 | _ :: _ :: _ :: _, _, _, _, HLe, _ => have := HLe.out; simp at this
               · have b1 : (b.r1 != r) = true := by rw [bne_iff_ne]; exact h1
                 have HVo : Hid (vo b r = none) := by show _ = _; rw [HVE.out, if_neg h0, if_neg (fun h => h1 h.2)]
                 clear HVE e19 e20 t0 t1 g0 g1
                 have HR : Hid (s' = s) := by show _ = _; rw [HX2.out, HVo.out]; rfl
                 clear HX2 HLe
                 go_wp2_with fail
                 go_roundw
                 case rel => exact ⟨k + 1, by have := HK.out; omega, by go_num, by rw [HS'.out, HR.out, HLN.out], by rw [HS'.out, HR.out]; exact HV5.out⟩
                 case measure => have := HK.out; simp [intOf]; omega
    · obtain rfl : k = 4 := by omega
      clear hlt hk
      have hl : (vc (S 4)).length = 4 := vc_len _
      have HLf : Hid ((vc (S 4)).length = 4) := hl
      have d0 := HV.out.vi.vecs.cell 0 (by omega)
      have d1 := HV.out.vi.vecs.cell 1 (by omega)
      have d2 := HV.out.vi.vecs.cell 2 (by omega)
      have d3 := HV.out.vi.vecs.cell 3 (by omega)
      have f0 := HV.out.vi.res.thaw 0
      have f1 := HV.out.vi.res.thaw 1
      have f2 := HV.out.vi.res.thaw 2
      have f3 := HV.out.vi.res.thaw 3
      have g0 := HV.out.vi.res.cell 0 (by simp)
      have g1 := HV.out.vi.res.cell 1 (by simp)
      have g2 := HV.out.vi.res.cell 2 (by simp)
      have g3 := HV.out.vi.res.cell 3 (by simp)
      have HA4 : Hid (vcA (S 4) = #[.int .i64 ((vc (S 4)).getD 0 0), .int .i64 ((vc (S 4)).getD 1 0), .int .i64 ((vc (S 4)).getD 2 0), .int .i64 ((vc (S 4)).getD 3 0)]) := by
        show _ = _
        unfold vcA
        match h : vc (S 4), hl with
        | [a, b, c, d], _ => rfl
      have HBl : Hid (Below z w wr) := HV.out.vi.bel
      clear hl
      generalize (vc (S 4)).getD 0 0 = v0 at *
      generalize (vc (S 4)).getD 1 0 = v1 at *
      generalize (vc (S 4)).getD 2 0 = v2 at *
      generalize (vc (S 4)).getD 3 0 = v3 at *
      go_wp2_with fail
      refine bodyPost_ret (v := .tuple #[.agg #[.int .i64 v0, .int .i64 v1, .int .i64 v2, .int .i64 v3], .int .i64 ((S 4).length : Int), .int .i64 0]) (by simp [results, Try.results33, go_sem, g0, g1, g2, g3]) rfl ?_
      refine ⟨by rw [HA4.out], ?_⟩
      rw [HP.out]
      exact below_set (below_set (below_set (below_set HBl.out (by show z ≤ z + 1; omega) _) (by show z ≤ z + 1; omega) _) (by show z ≤ z + 1; omega) _) (by show z ≤ z + 1; omega) _
end Go.Proofs.Ytppofodijlofdaa
