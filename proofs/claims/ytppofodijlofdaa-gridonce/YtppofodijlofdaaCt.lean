/- DERIVED. awake. -/
import Derived.Test.YtppofodijlofdaaCs
namespace Go.Proofs.Ytppofodijlofdaa
open Go.RowKit

/-- how awake stands: its grid, and its two blocks -/
structure Aw (y : Nat) (w u : World) (p m : Nat) (v : Value) (L : List Bl) : Prop where
  gw : Gw w.heap.size w u p m tA v L
  oa : Ob u y bA
  ob : Ob u (y + 1) bB
  own : ∀ i, Gb p m v i → i ≠ y ∧ i ≠ y + 1
theorem Aw.size {y : Nat} {w u : World} {p m : Nat} {v : Value} {L : List Bl} (h : Aw y w u p m v L) : w.heap.size ≤ u.heap.size := h.gw.bel.size
theorem Aw.to {y : Nat} {w u u' : World} {p m : Nat} {v : Value} {L : List Bl} (h : Aw y w u p m v L) (hb : Below u.heap.size u u') : Aw y w u' p m v L := ⟨h.gw.to hb h.size, h.oa.to hb, h.ob.to hb, h.own⟩
theorem Aw.put {y : Nat} {w u u' : World} {p m : Nat} {v v' : Value} {L L' : List Bl} (h : Aw y w u p m v L) (hg : Gd u' p m tA v' L') (ht : Gt p m v v' u u') : Aw y w u' p m v' L' := by
  have h1 := h.oa.lt
  have h2 := h.ob.lt
  refine ⟨h.gw.put h.size hg ht, h.oa.carry (ht.block y h1 (fun q => (h.own y q).1 rfl)), h.ob.carry (ht.block (y + 1) h2 (fun q => (h.own _ q).2 rfl)), fun i hi => ?_⟩
  rcases hi with rfl | rfl | hi
  · exact h.own _ (Or.inl rfl)
  · exact h.own _ (Or.inr (Or.inl rfl))
  · rcases ht.new i hi with q | q
    · exact h.own i (Or.inr (Or.inr q))
    · omega
theorem n24 : vcA [((3 : Int), (-4 : Int))] = #[.int .i64 3, .int .i64 (-4), .int .i64 0, .int .i64 0] := rfl
set_option maxRecDepth 100000 in
set_option maxHeartbeats 4000000 in
theorem awake_any {w : World} : Calls Try.prog 9 #[] w fun e w' => e = .returned (.bool true) ∧ Below w.heap.size w w' := by
  have HNew : Hid (∀ u, Calls Try.prog 7 #[.agg #[.int .i64 0, .int .i64 0, .int .i64 64, .int .i64 64]] u fun e w' => Nq u w' e tA) := fun u => new_ok (T := tA) tA_ok
  have HU : Hid (∀ u, Calls Try.prog 22 #[] u fun e w' => e = .returned (.tuple #[.agg bA.cs.toArray, .agg bB.cs.toArray]) ∧ Below u.heap.size u w') := fun u => usual_any
  have HP1 : Hid (∀ u p m v, Gd u p m tA v [] → Calls Try.prog 10 #[.pointer (some ⟨p, 0, none⟩), .agg bA.cs.toArray] u fun e w' => Pq p m tA v [] bA u w' e) := fun u p m v h => put_ok h mp_1 (by simp)
  have HP2 : Hid (∀ u p m v, Gd u p m tA v [bA] → Calls Try.prog 10 #[.pointer (some ⟨p, 0, none⟩), .agg bB.cs.toArray] u fun e w' => Pq p m tA v [bA] bB u w' e) := fun u p m v h => put_ok h mp_2 (by simp)
  have HP3 : Hid (∀ u p m v, Gd u p m tA v [bA, bB] → Calls Try.prog 10 #[.pointer (some ⟨p, 0, none⟩), .agg bA.cs.toArray] u fun e w' => e = .returned (.int .i64 2) ∧ Below u.heap.size u w') := fun u p m v h => put_no h mp_3
  have HAt : Hid (∀ u p m v, Gd u p m tA v [bA, bB] → Calls Try.prog 17 #[.pointer (some ⟨p, 0, none⟩), .int .i64 15, .int .i64 15] u fun e w' => Aq u w' e bA true) := fun u p m v h => by
    have h1 := at_any (X := 15) (Y := 15) h (by unfold I64; omega) (by unfold I64; omega) (by simp)
    rw [atB_1, atK_1] at h1
    exact h1
  have HVe : Hid (∀ u p m v, Gd u p m tA v [bA, bB] → Calls Try.prog 18 #[.pointer (some ⟨p, 0, none⟩), .agg #[.int .i64 24, .int .i64 0, .int .i64 8, .int .i64 8], .int .i64 1] u fun e w' => e = .returned (.tuple #[.agg #[.int .i64 3, .int .i64 (-4), .int .i64 0, .int .i64 0], .int .i64 1, .int .i64 0]) ∧ Below u.heap.size u w') := fun u p m v h =>
    (vecs_ok h ask_1 (by decide +kernel) (by omega) (by omega) (by simp)).mono fun e w' ⟨h1, h2⟩ => ⟨by rw [h1, vcs_1, n24]; rfl, h2⟩
  have HSk : Hid (∀ u p m v, Gd u p m tA v [bA, bB] → Calls Try.prog 19 #[.pointer (some ⟨p, 0, none⟩), .int .i64 0, .int .i64 16] u fun e w' => e = .returned (.tuple #[.int .i64 1, .int .i64 0]) ∧ Below u.heap.size u w') := fun u p m v h => by
    have h1 := skip_ok h ask_2 (by simp)
    rw [cn_1] at h1
    exact h1
  go_enter Try.func9, Try.ntmps9
  go_wp2_with fail
  refine (HNew.out _).mono ?_
  rintro e w1 ⟨p, m, rfl, hgd, hp, hm, hb⟩
  have HG1 : Hid (Gw w.heap.size w w1 p m tA (.slice none 0 0) []) := Gw.new (Below.refl _ _) (Nat.le_refl _) hgd hp hm hb
  have HZ1 : Hid (w.heap.size ≤ w1.heap.size) := hb.size
  clear hgd hp hm hb
  go_wp2_with fail
  refine (HU.out _).mono ?_
  rintro e w2 ⟨rfl, hb⟩
  have HG2 : Hid (Gw w.heap.size w w2 p m tA (.slice none 0 0) []) := HG1.out.to hb HZ1.out
  have HZ2 : Hid (w.heap.size ≤ w2.heap.size) := Nat.le_trans HZ1.out hb.size
  clear hb HG1 HZ1
  have HO1 : Hid (Ob ((w2.alloc (.cells bz.cs.toArray 40)).alloc (.cells bz.cs.toArray 40)) w2.heap.size bz) := (Ob.new w2 bz rfl).to (from_alloc _ _)
  have HO2 : Hid (Ob ((w2.alloc (.cells bz.cs.toArray 40)).alloc (.cells bz.cs.toArray 40)) (w2.heap.size + 1) bz) := Ob.new _ bz (by simp)
  have HB0 : Hid (Below w2.heap.size w2 ((w2.alloc (.cells bz.cs.toArray 40)).alloc (.cells bz.cs.toArray 40))) := to_alloc (from_alloc _ _) _
  go_upto_region 5 with (first | (refine wpList_store_block (by rfl) _ _ (by rfl) w2.heap.size bz bA HO1.out (by rfl) (by rfl) ?_; intro w3 hob hsw; have HA1 : Hid (Ob w3 w2.heap.size bA) := hob; have HA2 : Hid (Ob w3 (w2.heap.size + 1) bz) := HO2.out.carry (hsw.block _ (by omega)); have HA3 : Hid (Below w2.heap.size w2 w3) := hsw.below HB0.out (Nat.le_refl _); clear hob hsw) | (refine wpList_store_block (by rfl) _ _ (by rfl) (w2.heap.size + 1) bz bB HA2.out (by rfl) (by rfl) ?_; intro w4 hob hsw; have HC1 : Hid (Ob w4 (w2.heap.size + 1) bB) := hob; have HC2 : Hid (Ob w4 w2.heap.size bA) := HA1.out.carry (hsw.block _ (by omega)); have HC3 : Hid (Below w2.heap.size w2 w4) := hsw.below HA3.out (by omega); clear hob hsw))
  have HA4 : Hid (Aw w2.heap.size w w4 p m (.slice none 0 0) []) := ⟨HG2.out.to HC3.out HZ2.out, HC2.out, HC1.out, fun i hi => by have := HG2.out.gd.blt hi; omega⟩
  clear HO1 HO2 HB0 HA1 HA2 HA3 HC1 HC2 HC3 HG2
  generalize w2.heap.size = y at *
  have HA5 : Hid (Aw y w w4.drew p m (.slice none 0 0) []) := HA4.out.to (below_drew (Below.refl _ _))
  refine wp_region_held_drew (S := fun t => t.rangeAt y 0 bA.cs ∧ t.rangeAt (y + 1) 0 bB.cs) (by kernel_rfl) ⟨HA5.out.oa.bc.rng, HA5.out.ob.bc.rng⟩ (fun hHeld => ?_)
  change wpAnyH _ _ _ _ _ 12 #[false, false, false, false, false, false, false, false, false, false, false, false] _ _
  refine wpAnyH_take (i := 0) (oi := { dst := some 30, op := Op.move (Operand.tmp 1), type := 26, pos := "outright.go:23", after := #[], guard := none }) (v := ?_) rfl (by kernel_rfl) (by kernel_rfl) (by kernel_rfl) (fun _ _ _ h => h) (Or.inl ⟨by rfl, ?hy⟩) (by assumption) ?_
  case hy =>
    intro wz hSw
    (try dsimp only at hSw)
    first | (go_simp; done) | (go_simp; with_reducible rfl)
  simp only [Act.put, List.setIfInBounds_toArray, List.set_cons_zero, List.set_cons_succ]
  refine wpAnyH_take (i := 1) (oi := { dst := some 31, op := Op.load 40 (Operand.tmp 3), type := 40, pos := "outright.go:23", after := #[], guard := none }) (v := .agg bA.cs.toArray) rfl (by kernel_rfl) (by kernel_rfl) (by kernel_rfl) (fun _ _ _ h => h) (yieldsIf_load_mid (by rfl) 40 (Operand.tmp 3) rfl y 0 (by rfl) bA.cs _ (fun _ hS => hS.1) Try.underlying40 rfl (by rw [Try.info40, Bl.cs_length])) (by assumption) ?_
  simp only [Act.put, List.setIfInBounds_toArray, List.set_cons_zero, List.set_cons_succ]
  refine wpAnyH_take (i := 3) (oi := { dst := some 33, op := Op.move (Operand.tmp 1), type := 26, pos := "outright.go:23", after := #[], guard := none }) (v := ?_) rfl (by kernel_rfl) (by kernel_rfl) (by kernel_rfl) (fun _ _ _ h => h) (Or.inl ⟨by rfl, ?hy⟩) (by assumption) ?_
  case hy =>
    intro wz hSw
    (try dsimp only at hSw)
    first | (go_simp; done) | (go_simp; with_reducible rfl)
  simp only [Act.put, List.setIfInBounds_toArray, List.set_cons_zero, List.set_cons_succ]
  refine wpAnyH_take (i := 4) (oi := { dst := some 34, op := Op.load 40 (Operand.tmp 4), type := 40, pos := "outright.go:23", after := #[], guard := none }) (v := .agg bB.cs.toArray) rfl (by kernel_rfl) (by kernel_rfl) (by kernel_rfl) (fun _ _ _ h => h) (yieldsIf_load_mid (by rfl) 40 (Operand.tmp 4) rfl (y + 1) 0 (by rfl) bB.cs _ (fun _ hS => hS.2) Try.underlying40 rfl (by rw [Try.info40, Bl.cs_length])) (by assumption) ?_
  simp only [Act.put, List.setIfInBounds_toArray, List.set_cons_zero, List.set_cons_succ]
  refine wpAnyH_take (i := 6) (oi := { dst := some 36, op := Op.move (Operand.tmp 1), type := 26, pos := "outright.go:23", after := #[], guard := none }) (v := ?_) rfl (by kernel_rfl) (by kernel_rfl) (by kernel_rfl) (fun _ _ _ h => h) (Or.inl ⟨by rfl, ?hy⟩) (by assumption) ?_
  case hy =>
    intro wz hSw
    (try dsimp only at hSw)
    first | (go_simp; done) | (go_simp; with_reducible rfl)
  simp only [Act.put, List.setIfInBounds_toArray, List.set_cons_zero, List.set_cons_succ]
  refine wpAnyH_take (i := 7) (oi := { dst := some 37, op := Op.load 40 (Operand.tmp 3), type := 40, pos := "outright.go:23", after := #[], guard := none }) (v := .agg bA.cs.toArray) rfl (by kernel_rfl) (by kernel_rfl) (by kernel_rfl) (fun _ _ _ h => h) (yieldsIf_load_mid (by rfl) 40 (Operand.tmp 3) rfl y 0 (by rfl) bA.cs _ (fun _ hS => hS.1) Try.underlying40 rfl (by rw [Try.info40, Bl.cs_length])) (by assumption) ?_
  simp only [Act.put, List.setIfInBounds_toArray, List.set_cons_zero, List.set_cons_succ]
  refine wpAnyH_ready (rs := [2]) (by kernel_rfl) (by simp) ?_
  refine AllReadyH.cons (o := { dst := some 32, op := Op.call { callee := Callee.value (Operand.func 10), args := #[Operand.tmp 30, Operand.tmp 31], argTypes := #[26, 40] }, type := 27, pos := "outright.go:23", after := #[{ on := 0, ground := Ground.data }, { on := 1, ground := Ground.data }], guard := none }) rfl (fun K hK => ?_) AllReadyH.nil
  go_simp
  refine (HP1.out _ _ _ _ HA5.out.gw.gd).mono ?_
  rintro e wa ⟨rfl, v1, hgd, hgt⟩
  have HA6 : Hid (Aw y w wa p m v1 [bA]) := HA5.out.put hgd hgt
  clear hgd hgt
  go_wp2_with fail
  refine hK.out _ _ ⟨HA6.out.oa.bc.rng, HA6.out.ob.bc.rng⟩ (fun hHeld2 => ?_)
  clear hK K
  (try simp only [List.setIfInBounds_toArray, List.set_cons_zero, List.set_cons_succ])
  refine wpAnyH_ready (rs := [5]) (by kernel_rfl) (by simp) ?_
  refine AllReadyH.cons (o := { dst := some 35, op := Op.call { callee := Callee.value (Operand.func 10), args := #[Operand.tmp 33, Operand.tmp 34], argTypes := #[26, 40] }, type := 27, pos := "outright.go:23", after := #[{ on := 3, ground := Ground.data }, { on := 4, ground := Ground.data }, { on := 2, ground := Ground.chain }], guard := none }) rfl (fun K hK => ?_) AllReadyH.nil
  go_simp
  refine (HP2.out _ _ _ _ HA6.out.gw.gd).mono ?_
  rintro e wb ⟨rfl, v2, hgd, hgt⟩
  have HA7 : Hid (Aw y w wb p m v2 [bA, bB]) := HA6.out.put hgd hgt
  clear hgd hgt
  go_wp2_with fail
  refine hK.out _ _ ⟨HA7.out.oa.bc.rng, HA7.out.ob.bc.rng⟩ (fun hHeld3 => ?_)
  clear hK K
  (try simp only [List.setIfInBounds_toArray, List.set_cons_zero, List.set_cons_succ])
  refine wpAnyH_ready (rs := [8]) (by kernel_rfl) (by simp) ?_
  refine AllReadyH.cons (o := { dst := some 38, op := Op.call { callee := Callee.value (Operand.func 10), args := #[Operand.tmp 36, Operand.tmp 37], argTypes := #[26, 40] }, type := 27, pos := "outright.go:23", after := #[{ on := 6, ground := Ground.data }, { on := 7, ground := Ground.data }, { on := 5, ground := Ground.chain }], guard := none }) rfl (fun K hK => ?_) AllReadyH.nil
  go_simp
  refine (HP3.out _ _ _ _ HA7.out.gw.gd).mono ?_
  rintro e wc ⟨rfl, hb⟩
  have HA8 : Hid (Aw y w wc p m v2 [bA, bB]) := HA7.out.to hb
  clear hb
  go_wp2_with fail
  refine hK.out _ _ ⟨HA8.out.oa.bc.rng, HA8.out.ob.bc.rng⟩ (fun hHeld4 => ?_)
  clear hK K
  (try simp only [List.setIfInBounds_toArray, List.set_cons_zero, List.set_cons_succ])
  refine wpAnyH_take (i := 9) (oi := { dst := some 5, op := Op.assign (Operand.tmp 32), type := 27, pos := "outright.go:23", after := #[{ on := 2, ground := Ground.data }, { on := 8, ground := Ground.chain }, { on := 0, ground := Ground.phase }, { on := 1, ground := Ground.phase }, { on := 2, ground := Ground.phase }, { on := 3, ground := Ground.textOnly Departure.lateStores }, { on := 4, ground := Ground.textOnly Departure.lateStores }, { on := 5, ground := Ground.textOnly Departure.lateStoresUnsure }, { on := 6, ground := Ground.textOnly Departure.lateStores }, { on := 7, ground := Ground.textOnly Departure.lateStores }, { on := 8, ground := Ground.textOnly Departure.lateStoresUnsure }], guard := none }) (v := ?_) rfl (by kernel_rfl) (by kernel_rfl) (by kernel_rfl) (fun _ _ _ h => h) (Or.inl ⟨by rfl, ?hy⟩) (by assumption) ?_
  case hy =>
    intro wz hSw
    (try dsimp only at hSw)
    first | (go_simp; done) | (go_simp; with_reducible rfl)
  simp only [Act.put, List.setIfInBounds_toArray, List.set_cons_zero, List.set_cons_succ]
  refine wpAnyH_take (i := 10) (oi := { dst := some 6, op := Op.assign (Operand.tmp 35), type := 27, pos := "outright.go:23", after := #[{ on := 5, ground := Ground.data }, { on := 9, ground := Ground.chain }, { on := 0, ground := Ground.phase }, { on := 1, ground := Ground.phase }, { on := 2, ground := Ground.phase }, { on := 3, ground := Ground.phase }, { on := 4, ground := Ground.phase }, { on := 5, ground := Ground.phase }, { on := 6, ground := Ground.textOnly Departure.lateStores }, { on := 7, ground := Ground.textOnly Departure.lateStores }, { on := 8, ground := Ground.textOnly Departure.lateStoresUnsure }, { on := 9, ground := Ground.phase }], guard := none }) (v := ?_) rfl (by kernel_rfl) (by kernel_rfl) (by kernel_rfl) (fun _ _ _ h => h) (Or.inl ⟨by rfl, ?hy⟩) (by assumption) ?_
  case hy =>
    intro wz hSw
    (try dsimp only at hSw)
    first | (go_simp; done) | (go_simp; with_reducible rfl)
  simp only [Act.put, List.setIfInBounds_toArray, List.set_cons_zero, List.set_cons_succ]
  refine wpAnyH_take (i := 11) (oi := { dst := some 7, op := Op.assign (Operand.tmp 38), type := 27, pos := "outright.go:23", after := #[{ on := 8, ground := Ground.data }, { on := 10, ground := Ground.chain }, { on := 0, ground := Ground.phase }, { on := 1, ground := Ground.phase }, { on := 2, ground := Ground.phase }, { on := 3, ground := Ground.phase }, { on := 4, ground := Ground.phase }, { on := 5, ground := Ground.phase }, { on := 6, ground := Ground.phase }, { on := 7, ground := Ground.phase }, { on := 8, ground := Ground.phase }, { on := 9, ground := Ground.phase }, { on := 10, ground := Ground.phase }], guard := none }) (v := ?_) rfl (by kernel_rfl) (by kernel_rfl) (by kernel_rfl) (fun _ _ _ h => h) (Or.inl ⟨by rfl, ?hy⟩) (by assumption) ?_
  case hy =>
    intro wz hSw
    (try dsimp only at hSw)
    first | (go_simp; done) | (go_simp; with_reducible rfl)
  simp only [Act.put, List.setIfInBounds_toArray, List.set_cons_zero, List.set_cons_succ]
  refine wpAnyH_done (by kernel_rfl) ?_ _
  clear hHeld hHeld2 hHeld3 hHeld4 HA5 HA6 HA7
  go_wp2_with fail
  refine (HAt.out _ _ _ _ HA8.out.gw.gd).mono ?_
  rintro e wd ⟨rfl, hb⟩
  have HA9 : Hid (Aw y w wd p m v2 [bA, bB]) := HA8.out.to hb
  clear hb HA8
  have HOd : Hid (Ob (wd.alloc (.cells bz.cs.toArray 40)) wd.heap.size bz) := Ob.new wd bz rfl
  have HBd : Hid (Below wd.heap.size wd (wd.alloc (.cells bz.cs.toArray 40))) := from_alloc _ _
  go_wp2_with (refine wpList_store_block (by rfl) _ _ (by rfl) wd.heap.size bz bA HOd.out (by rfl) (by rfl) ?_; intro we hob hsw; have HOe : Hid (Ob we wd.heap.size bA) := hob; have HAe : Hid (Aw y w we p m v2 [bA, bB]) := HA9.out.to (hsw.below HBd.out (Nat.le_refl _)); clear hob hsw)
  refine (HVe.out _ _ _ _ HAe.out.gw.gd).mono ?_
  rintro e wf ⟨rfl, hb⟩
  have HAf : Hid (Aw y w wf p m v2 [bA, bB]) := HAe.out.to hb
  have HOf : Hid (Ob wf wd.heap.size bA) := HOe.out.to hb
  clear hb HAe HOe HA9 HOd HBd
  have HAg : Hid (Aw y w (wf.alloc (.cells #[.int .i64 3, .int .i64 (-4), .int .i64 0, .int .i64 0] 38)) p m v2 [bA, bB]) := HAf.out.to (from_alloc _ _)
  have HOg : Hid (Ob (wf.alloc (.cells #[.int .i64 3, .int .i64 (-4), .int .i64 0, .int .i64 0] 38)) wd.heap.size bA) := HOf.out.to (from_alloc _ _)
  have HRg : Hid (Ri 38 (wf.alloc (.cells #[.int .i64 3, .int .i64 (-4), .int .i64 0, .int .i64 0] 38)) wf.heap.size [3, -4, 0, 0]) := Ri.built 38 wf [3, -4, 0, 0] rfl
  generalize wd.heap.size = yd at *
  go_upto_region 8 with fail
  generalize (wf.alloc (.cells #[.int .i64 3, .int .i64 (-4), .int .i64 0, .int .i64 0] 38)) = wg at *
  generalize wf.heap.size = yf at *
  go_wp2_with fail
  refine (HSk.out _ _ _ _ HAg.out.gw.gd).mono ?_
  rintro e wh ⟨rfl, hb⟩
  have HAh : Hid (Aw y w wh p m v2 [bA, bB]) := HAg.out.to hb
  have HOh : Hid (Ob wh yd bA) := HOg.out.to hb
  have HRh : Hid (Ri 38 wh yf [3, -4, 0, 0]) := HRg.out.to hb
  clear hb HAg HOg HRg HAf HOf
  have r0 := HRh.out.cell 0 (by simp)
  have r1 := HRh.out.cell 1 (by simp)
  simp only [List.getD_cons_zero, List.getD_cons_succ] at r0 r1
  have hEb := fun t => eqb_self bA t
  have hEv := fun t => eqv 3 (-4) 3 (-4) t
  rw [decide_eq_true rfl] at hEv
  go_wp2_with (first | (refine wpList_load_block (by rfl) _ (by rfl) yd 0 (by rfl) bA HOh.out.bc ?_) | (refine wpList_load_block (by rfl) _ (by rfl) y 0 (by rfl) bA HAh.out.oa.bc ?_))
  go_ret
  exact ⟨rfl, HAh.out.gw.bel⟩
end Go.Proofs.Ytppofodijlofdaa
