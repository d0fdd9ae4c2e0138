/- DERIVED. Put: the walk. -/
import Derived.Test.YtppofodijlofdaaCj
namespace Go.Proofs.Ytppofodijlofdaa
open Go.RowKit

theorem take_snoc {C : List (Int × Int)} {k : Nat} (h : k < C.length) : C.take (k + 1) = C.take k ++ [C.getD k (0, 0)] := by
  rw [List.take_succ_eq_append_getElem h, List.getD_eq_getElem?_getD, List.getElem?_eq_getElem h]; rfl
theorem below_of_turned {a b c : World} {m : Nat} (h : b.mapTurned c m) (hb : Below a.heap.size a b) : a.grownBy c (some m) :=
  grown_to (below_grownN hb _) h.grown
theorem Bc.all {w : World} {z : Nat} {b : Bl} (h : Bc w z 0 b) : w.cell? ⟨z, 0, none⟩ = some (.int .i64 b.x) ∧ w.cell? ⟨z, 1, none⟩ = some (.int .i64 b.y) ∧ w.cell? ⟨z, 2, none⟩ = some (.int .i64 b.w) ∧ w.cell? ⟨z, 3, none⟩ = some (.int .i64 b.h) ∧ w.cell? ⟨z, 4, none⟩ = some (.bool b.sk) ∧ w.cell? ⟨z, 5, none⟩ = some (.bool b.it) ∧ w.cell? ⟨z, 6, none⟩ = some (.int .i64 b.a0) ∧ w.cell? ⟨z, 7, none⟩ = some (.int .i64 b.a1) ∧ w.cell? ⟨z, 8, none⟩ = some (.int .i64 b.a2) ∧ w.cell? ⟨z, 9, none⟩ = some (.int .i64 b.a3) ∧ w.cell? ⟨z, 10, none⟩ = some (.int .i64 b.a4) ∧ w.cell? ⟨z, 11, none⟩ = some (.int .i64 b.a5) ∧ w.cell? ⟨z, 12, none⟩ = some (.int .i64 b.a6) ∧ w.cell? ⟨z, 13, none⟩ = some (.bool b.cp) ∧ w.cell? ⟨z, 14, none⟩ = some (.int .i64 b.r0) ∧ w.cell? ⟨z, 15, none⟩ = some (.int .i64 b.r1) ∧ w.cell? ⟨z, 16, none⟩ = some (.int .i64 b.mm) ∧ w.cell? ⟨z, 17, none⟩ = some (.int .i64 b.u0) ∧ w.cell? ⟨z, 18, none⟩ = some (.int .i64 b.u1) ∧ w.cell? ⟨z, 19, none⟩ = some (.int .i64 b.u2) ∧ w.cell? ⟨z, 20, none⟩ = some (.int .i64 b.u3) ∧ w.cell? ⟨z, 21, none⟩ = some (.int .i64 b.fl) ∧ w.cell? ⟨z, 22, none⟩ = some (.bool b.ob) := by
  have e : ∀ j, (⟨z, 0 + j, none⟩ : Addr) = ⟨z, j, none⟩ := fun j => by rw [Nat.zero_add]
  exact ⟨by rw [← e]; exact h.at 0 _ rfl, by rw [← e]; exact h.at 1 _ rfl, by rw [← e]; exact h.at 2 _ rfl, by rw [← e]; exact h.at 3 _ rfl, by rw [← e]; exact h.at 4 _ rfl, by rw [← e]; exact h.at 5 _ rfl, by rw [← e]; exact h.at 6 _ rfl, by rw [← e]; exact h.at 7 _ rfl, by rw [← e]; exact h.at 8 _ rfl, by rw [← e]; exact h.at 9 _ rfl, by rw [← e]; exact h.at 10 _ rfl, by rw [← e]; exact h.at 11 _ rfl, by rw [← e]; exact h.at 12 _ rfl, by rw [← e]; exact h.at 13 _ rfl, by rw [← e]; exact h.at 14 _ rfl, by rw [← e]; exact h.at 15 _ rfl, by rw [← e]; exact h.at 16 _ rfl, by rw [← e]; exact h.at 17 _ rfl, by rw [← e]; exact h.at 18 _ rfl, by rw [← e]; exact h.at 19 _ rfl, by rw [← e]; exact h.at 20 _ rfl, by rw [← e]; exact h.at 21 _ rfl, by rw [← e]; exact h.at 22 _ rfl⟩
set_option maxRecDepth 100000 in
set_option maxHeartbeats 4000000 in
theorem put_ok {w : World} {p m : Nat} {T : Rc} {v : Value} {L : List Bl} {b : Bl} (hg : Gd w p m T v L) (hm : mp T L b = true) (hL : L.length < 1000) :
    Calls Try.prog 10 #[.pointer (some ⟨p, 0, none⟩), .agg b.cs.toArray] w fun e w' => Pq p m T v L b w w' e := by
  have hfit : Fit T b := by
    unfold mp at hm
    rw [Bool.and_eq_true] at hm
    exact fit_of hm.1
  have HFin : Hid (∀ (V w1 : World) (g cap : Nat), w.grownBy V (some m) → Mp V m (64 * L.length + 64) (upL (ow L) (cls b) L.length) → Or w1 0 (.slice (some ⟨g, 0, none⟩) (L.length + 1) cap) (L ++ [b]) → V.grownBy w1 v.ownBlock → (v.ownBlock = some g ∨ V.heap.size ≤ g) → Pq p m T v L b w (w1.setCell ⟨p, 4, none⟩ (.slice (some ⟨g, 0, none⟩) (L.length + 1) cap)) (.returned (.int .i64 0))) := fun V w1 g cap h1 h2 h3 h4 h5 => pq_mk hg hm h1 h2 h3 h4 h5
  have HB0 : Hid (Below w.heap.size w (w.alloc (.cells b.cs.toArray 40))) := from_alloc _ _
  have HC0 : Hid (Bc (w.alloc (.cells b.cs.toArray 40)) w.heap.size 0 b) := Bc.box w b
  have HZ0 : Hid (w.heap.size < (w.alloc (.cells b.cs.toArray 40)).heap.size) := by show _ < _; simp
  have HG : Hid (Gd w p m T v L) := hg
  have HNo : Hid (∀ u, Below w.heap.size w u → Calls Try.prog 24 #[.pointer (some ⟨p, 0, none⟩)] u fun e w' => e = .returned (.bool false) ∧ u = w') := fun u hb => isNone_map (hg.to hb).c5
  have HMp : Hid (∀ u, Below w.heap.size w u → Calls Try.prog 25 #[.pointer (some ⟨p, 0, none⟩), .agg b.cs.toArray] u fun e w' => e = .returned (.bool true) ∧ Below u.heap.size u w') := fun u hb => by rw [← hm]; exact mayPut_any (hg.to hb)
  have HCO : Hid (∀ u, Calls Try.prog 26 #[.agg b.cs.toArray] u fun e w' => ∃ a c, e = .returned (.slice a (cls b).length c) ∧ Sc w' a (cls b) ∧ (∀ g o s, cls b ≠ [] → a = some ⟨g, o, s⟩ → u.heap.size ≤ g) ∧ Below u.heap.size u w') := fun u => cellsOf_new hg.tok hfit
  have HI : Hid (∀ q ∈ cls b, I64 q.1 ∧ I64 q.2) := cls_i64 hg.tok hfit
  have HLn : Hid ((cls b).length ≤ 64) := cls_len hg.tok hfit
  have HLL : Hid (L.length < 1000) := hL
  have HBC : Hid (b.cs.length = 23) := rfl
  clear hg hm hfit hL
  generalize hP : w.heap.size = z at *
  have HP : Hid (w.heap.size = z) := hP
  clear hP
  go_enter Try.func10, Try.ntmps10
  go_upto_region 1 with fail
  generalize hV : (w.alloc (.cells b.cs.toArray 40)) = V at *
  clear hV
  rw [HP.out]
  go_wp2_with (first | ((with_reducible refine (HNo.out _ HB0.out).mono ?_); rintro e w5 ⟨rfl, rfl⟩) | (refine wpList_load_mid (by rfl) 40 _ (by rfl) z 0 (by rfl) b.cs _ HC0.out.rng Try.underlying40 rfl (by rw [Try.info40, Bl.cs_length]) ?_))
  refine (HMp.out _ HB0.out).mono ?_
  rintro e w1 ⟨rfl, hb⟩
  have HB1 : Hid (Below z w w1) := HB0.out.trans (hb.mono (Nat.le_of_lt HZ0.out))
  have HC1 : Hid (Bc w1 z 0 b) := HC0.out.below hb HZ0.out
  have HZ1 : Hid (z < w1.heap.size) := Nat.lt_of_lt_of_le HZ0.out hb.size
  clear hb HB0 HC0 HZ0 HMp HNo
  go_wp2_with (refine wpList_load_mid (by rfl) 40 _ (by rfl) z 0 (by rfl) b.cs _ HC1.out.rng Try.underlying40 rfl (by rw [Try.info40, Bl.cs_length]) ?_)
  refine (HCO.out _).mono ?_
  rintro e w2 ⟨a, c, rfl, hs, hn, hb⟩
  have HB2 : Hid (Below z w w2) := HB1.out.trans (hb.mono (Nat.le_of_lt HZ1.out))
  have HC2 : Hid (Bc w2 z 0 b) := HC1.out.below hb HZ1.out
  have HZ2 : Hid (z < w2.heap.size) := Nat.lt_of_lt_of_le HZ1.out hb.size
  have HS2 : Hid (Sc w2 a (cls b)) := hs
  have HN2 : Hid (∀ g o s, cls b ≠ [] → a = some ⟨g, o, s⟩ → z < g) := fun g o s h1 h2 => Nat.lt_of_lt_of_le HZ1.out (hn g o s h1 h2)
  have HGz : Hid (∀ g, v.ownBlock = some g → g < z) := fun g hg => by rw [← HP.out]; exact (HG.out.row.lt hg).2
  have HG2 : Hid (Gd w2 p m T v L) := HG.out.to (by rw [HP.out]; exact HB2.out)
  have HMZ : Hid (m < z ∧ p < z ∧ m ≠ p) := by rw [← HP.out]; exact ⟨HG.out.map.lt, HG.out.lt, HG.out.nm⟩
  clear hs hn hb HCO HB1 HC1 HZ1 HG
  have nb : ((cls b).length : Int) ≤ 64 := by have := HLn.out; omega
  generalize hC : cls b = C at *
  have HMpv : Hid (Mp w2 m (64 * L.length) (ow L)) := HG2.out.map
  go_wp2_with fail
  go_loopw [16] (fun i wr => ∃ k : Nat, k ≤ C.length ∧ i = .int .i64 (k : Int) ∧ Mp wr m (64 * L.length + k) (upL (ow L) (C.take k) L.length) ∧ w2.grownBy wr (some m)) (fun i _ => C.length - (intOf i).toNat)
  case atStart => exact ⟨0, by omega, by simp, HMpv.out.cong (fun x y => (upL_nil _ _ x y).symm), below_grownN (Below.refl _ _) _⟩
  case round =>
    obtain ⟨k, hk, rfl, hmp, hgw⟩ := hrel
    have HM : Hid _ := hmp
    have HW : Hid _ := hgw
    have HGr : Hid (∀ i, i < w2.heap.size → i ≠ m → wr.heap[i]? = w2.heap[i]?) := fun i hi hne => hgw.block i hi (fun e => hne (by simpa using e))
    have HSz : Hid (w2.heap.size ≤ wr.heap.size) := hgw.size
    clear hmp hgw
    have hp5 : wr.cell? ⟨p, 5, none⟩ = some (.map (some m)) := by
      rw [World.cell?_of_block (w := w2) (HGr.out p (by have := HMZ.out; have := HZ2.out; show p < _; omega) HMZ.out.2.2.symm)]; exact HG2.out.c5
    obtain ⟨va, vc, hvv, hvc, -, -⟩ := HG2.out.row.form
    have hp4 : wr.cell? ⟨p, 4, none⟩ = some (.slice va L.length vc) := by
      rw [World.cell?_of_block (w := w2) (HGr.out p (by have := HMZ.out; have := HZ2.out; show p < _; omega) HMZ.out.2.2.symm), ← hvv]; exact HG2.out.c4
    by_cases hlt : k < C.length
    · as_aux_lemma =>
       obtain ⟨g, o, rfl, hbl, hcl⟩ : ∃ g o, a = some ⟨g, o, none⟩ ∧ g < w2.heap.size ∧ _ := by
         rcases HS2.out with h | h
         · rw [h] at hlt; simp at hlt
         · exact h
       obtain ⟨q0, q1⟩ := hcl k hlt
       have hgm : g ≠ m := by
         have h1 := HN2.out g o none (by intro e; rw [e] at hlt; simp at hlt) rfl
         have h2 := HMZ.out
         omega
       have hwg := HGr.out g hbl hgm
       rw [← World.cell?_of_block (w := w2) (w' := wr) (a := ⟨g, o + k * 2, none⟩) hwg] at q0
       rw [← World.cell?_of_block (w := w2) (w' := wr) (a := ⟨g, o + k * 2 + 1, none⟩) hwg] at q1
       have hq := HI.out _ (getD_mem2 hlt)
       have HTk : Hid (C.take (k + 1) = C.take k ++ [C.getD k (0, 0)]) := take_snoc hlt
       generalize C.getD k (0, 0) = q at *
       obtain ⟨x, y⟩ := q
       simp only at q0 q1 hq
       have HX : Hid (I64 x ∧ I64 y) := hq
       have k0 : (0 : Int) ≤ (k : Int) := by omega
       have k1 : (k : Int) < (C.length : Int) := by omega
       have HL : Hid (k < C.length) := hlt
       have HBW : Hid (Below wr.heap.size wr (wr.alloc (.cells #[.int .i64 x, .int .i64 y] 74))) := from_alloc _ _
       have hmlt := HM.out.lt
       obtain ⟨W1, hup, hM1, ht1⟩ := ((HM.out.carry (HBW.out.block m hmlt)).carry (w' := (wr.alloc (.cells #[.int .i64 x, .int .i64 y] 74)).drew) rfl).store (by have := HLL.out; have := HLn.out; omega) HX.out.1 HX.out.2 (i := L.length) (by have := HLL.out; omega)
       unfold cl at hup
       have HM1 : Hid _ := hM1
       have HT1 : Hid (wr.grownBy W1 (some m)) := below_of_turned ht1 (below_drew HBW.out)
       have hplt : p < wr.heap.size := World.block_lt_of_cell? wr _ hp5
       have hp5' : (wr.alloc (.cells #[.int .i64 x, .int .i64 y] 74)).cell? ⟨p, 5, none⟩ = some (.map (some m)) := by rw [newCell HBW.out _ _ hplt]; exact hp5
       have hp4' : (wr.alloc (.cells #[.int .i64 x, .int .i64 y] 74)).cell? ⟨p, 4, none⟩ = some (.slice va L.length vc) := by rw [newCell HBW.out _ _ hplt]; exact hp4
       have hx0 : (wr.alloc (.cells #[.int .i64 x, .int .i64 y] 74)).cell? ⟨wr.heap.size, 0, none⟩ = some (.int .i64 x) := by simp [go_sem]
       have hx1 : (wr.alloc (.cells #[.int .i64 x, .int .i64 y] 74)).cell? ⟨wr.heap.size, 1, none⟩ = some (.int .i64 y) := by simp [go_sem]
       clear hq hM1 ht1 hcl hwg hgm hlt hmlt hplt hvc hvv
       go_upto_region 8 with fail
       generalize (wr.alloc (.cells #[.int .i64 x, .int .i64 y] 74)) = W at *
       clear q0 q1 hp4 hp5
       go_region
       go_wp2_with fail
       go_roundw
       case rel => exact ⟨k + 1, by have := HL.out; omega, by go_num, by rw [HTk.out]; exact (HM1.out.cong (fun x' y' => upL_snoc (ow L) (C.take k) (x, y) L.length x' y')), grown_to HW.out HT1.out⟩
       case measure => have := HL.out; simp [intOf]; omega
    ·  obtain rfl : k = C.length := by omega
       clear hlt hk
       have HMf : Hid (Mp wr m (64 * L.length + 64) (upL (ow L) C L.length)) := by
         have := HM.out
         rw [List.take_length] at this
         exact this.mono (by have := HLn.out; omega)
       have hzb : wr.heap[z]? = w2.heap[z]? := HGr.out z HZ2.out (by have := HMZ.out; omega)
       have hbc : Bc wr z 0 b := HC2.out.carry hzb
       have HBc : Hid (Bc wr z 0 b) := hbc
       have hor : Or wr 0 v L := HG2.out.row.carry fun g hg => HGr.out g ((HG2.out.row.lt hg).2) ((HG2.out.nv g hg).2)
       have HOr : Hid (Or wr 0 (.slice va L.length vc) L) := by rw [← hvv]; exact hor
       have HVV : Hid (v = .slice va L.length vc) := hvv
       have pf4 : wr.frozen? ⟨p, 4, none⟩ = false := by
         rw [World.frozen?_of_block (w := w2) (HGr.out p (by have := HMZ.out; have := HZ2.out; show p < _; omega) HMZ.out.2.2.symm)]; exact HG2.out.thaw 4
       have HPw : Hid (p < wr.heap.size ∧ some p ≠ (Value.slice va L.length vc).ownBlock) := ⟨World.block_lt_of_cell? wr _ hp5, by rw [← hvv]; exact fun e => (HG2.out.nv p e.symm).1 rfl⟩
       have hp4a : (wr.alloc (.cells b.cs.toArray 40)).cell? ⟨p, 4, none⟩ = some (.slice va L.length vc) := by rw [newCell (from_alloc wr _) _ _ HPw.out.1]; exact hp4
       have HZw : Hid (z < wr.heap.size ∧ some z ≠ (Value.slice va L.length vc).ownBlock) := ⟨Nat.lt_of_lt_of_le HZ2.out HSz.out, by
         rw [← hvv]; intro e
         have h1 := (HGz.out z e.symm)
         omega⟩
       have HRa : Hid ((wr.alloc (.cells b.cs.toArray 40)).drew.rangeAt z 0 b.cs) := (hbc.to (from_alloc wr _)).rng
       have HS5 : Hid (∀ (u : World) (x : Value), u.rangeAt z 0 b.cs → (u.setCell ⟨p, 4, none⟩ x).rangeAt z 0 b.cs) := fun u x h => ((⟨h⟩ : Bc u z 0 b).carry (Below.heap_setCell _ _ _ _ (fun e => by have := HMZ.out; have e' : z = p := e; omega))).rng
       clear hor hvv hzb hbc hvc
       have HGw : Hid (w.grownBy wr (some m)) := grown_to (below_grownN (by rw [HP.out]; exact HB2.out) _) HW.out
       go_upto_region 10 with fail
       refine wp_region_held_drew (S := fun t => t.rangeAt z 0 b.cs) (by kernel_rfl) HBc.out.rng (fun hHeld => ?_)
       change wpAnyH _ _ _ _ _ 11 #[false, false, false, false, false, false, false, false, false, false, false] _ _
       refine wpAnyH_take (i := 0) (oi := { dst := some 31, op := Op.move (Operand.tmp 0), type := 26, pos := "grid.go:45", after := #[], guard := none }) (v := ?_) rfl (by kernel_rfl) (by kernel_rfl) (by kernel_rfl) (fun _ _ _ h => h) (Or.inl ⟨by rfl, ?hy⟩) (by assumption) ?_
       case hy =>
         intro wz hSw
         (try dsimp only at hSw)
         first | (go_simp; done) | (go_simp; with_reducible rfl)
       simp only [Act.put, List.setIfInBounds_toArray, List.set_cons_zero, List.set_cons_succ]
       refine wpAnyH_take (i := 1) (oi := { dst := some 32, op := Op.move (Operand.tmp 0), type := 26, pos := "grid.go:45", after := #[], guard := none }) (v := ?_) rfl (by kernel_rfl) (by kernel_rfl) (by kernel_rfl) (fun _ _ _ h => h) (Or.inl ⟨by rfl, ?hy⟩) (by assumption) ?_
       case hy =>
         intro wz hSw
         (try dsimp only at hSw)
         first | (go_simp; done) | (go_simp; with_reducible rfl)
       simp only [Act.put, List.setIfInBounds_toArray, List.set_cons_zero, List.set_cons_succ]
       refine wpAnyH_take (i := 2) (oi := { dst := some 33, op := Op.nilCheck (Operand.tmp 32), type := 0, pos := "grid.go:45", after := #[{ on := 1, ground := Ground.data }], guard := none }) (v := ?_) rfl (by kernel_rfl) (by kernel_rfl) (by kernel_rfl) (fun _ _ _ h => h) (Or.inl ⟨by rfl, ?hy⟩) (by assumption) ?_
       case hy =>
         intro wz hSw
         (try dsimp only at hSw)
         first | (go_simp; done) | (go_simp; with_reducible rfl)
       simp only [Act.put, List.setIfInBounds_toArray, List.set_cons_zero, List.set_cons_succ]
       refine wpAnyH_take (i := 3) (oi := { dst := some 34, op := Op.fieldAddr 63 (Operand.tmp 33) 1, type := 0, pos := "grid.go:45", after := #[{ on := 2, ground := Ground.data }], guard := none }) (v := ?_) rfl (by kernel_rfl) (by kernel_rfl) (by kernel_rfl) (fun _ _ _ h => h) (Or.inl ⟨by rfl, ?hy⟩) (by assumption) ?_
       case hy =>
         intro wz hSw
         (try dsimp only at hSw)
         first | (go_simp; done) | (go_simp; with_reducible rfl)
       simp only [Act.put, List.setIfInBounds_toArray, List.set_cons_zero, List.set_cons_succ]
       refine wpAnyH_take (i := 5) (oi := { dst := some 36, op := Op.load 40 (Operand.tmp 3), type := 40, pos := "grid.go:45", after := #[], guard := none }) (v := .agg b.cs.toArray) rfl (by kernel_rfl) (by kernel_rfl) (by kernel_rfl) (fun _ _ _ h => h) (yieldsIf_load_mid (by rfl) 40 (Operand.tmp 3) rfl z 0 (by rfl) b.cs _ (fun _ hS => hS) Try.underlying40 rfl (by rw [Try.info40, Bl.cs_length])) (by assumption) ?_
       simp only [Act.put, List.setIfInBounds_toArray, List.set_cons_zero, List.set_cons_succ]
       refine wpAnyH_ready (rs := [4, 6]) (by kernel_rfl) (by simp) ?_
       refine AllReadyH.cons (o := { dst := some 35, op := Op.load 24 (Operand.tmp 34), type := 24, pos := "grid.go:45", after := #[{ on := 3, ground := Ground.data }], guard := none }) rfl (fun K hK => ?_) (AllReadyH.cons (o := { dst := some 37, op := Op.buildSlice 24 1 #[(0, Operand.tmp 36)], type := 24, pos := "grid.go:45", after := #[{ on := 5, ground := Ground.data }], guard := none }) rfl (fun K hK => ?_) AllReadyH.nil)
       · go_simp
         refine hK.out _ _ (by assumption) (fun hHeld2 => ?_)
         clear hK K
         (try simp only [List.setIfInBounds_toArray, List.set_cons_zero, List.set_cons_succ])
         refine wpAnyH_ready (rs := [6]) (by kernel_rfl) (by simp) ?_
         refine AllReadyH.cons (o := { dst := some 37, op := Op.buildSlice 24 1 #[(0, Operand.tmp 36)], type := 24, pos := "grid.go:45", after := #[{ on := 5, ground := Ground.data }], guard := none }) rfl (fun K hK => ?_) AllReadyH.nil
         refine step_build_block (by rfl) (Operand.tmp 36) (by rfl) b (by rfl) ?_
         (try simp only [Act.put, List.setIfInBounds_toArray, List.set_cons_zero, List.set_cons_succ])
         refine hK.out _ _ HRa.out (fun hHeld2 => ?_)
         clear hK K
         (try simp only [List.setIfInBounds_toArray, List.set_cons_zero, List.set_cons_succ])
         refine wpAnyH_ready (rs := [7]) (by kernel_rfl) (by simp) ?_
         refine AllReadyH.cons (o := { dst := some 38, op := Op.call { callee := Callee.builtin Builtin.append, args := #[Operand.tmp 35, Operand.tmp 37], argTypes := #[24, 24] }, type := 24, pos := "grid.go:45", after := #[{ on := 4, ground := Ground.data }, { on := 6, ground := Ground.data }], guard := none }) rfl (fun K hK => ?_) AllReadyH.nil
         refine step_append_block wr (by rfl) _ _ (by rfl) L (.slice va L.length vc) b _ rfl HOr.out (by have := HLL.out; omega) (by rfl) (by rfl) ?_
         intro g cap w5 h1 h2 h3 h4
         have y4 := (World.cell?_of_block (w := wr) (w' := w5) (a := ⟨p, 4, none⟩) (h2.block p HPw.out.1 HPw.out.2)).trans hp4
         have y5 := (World.frozen?_of_block (w := wr) (w' := w5) (a := ⟨p, 4, none⟩) (h2.block p HPw.out.1 HPw.out.2)).trans pf4
         have HR5 : Hid (w5.rangeAt z 0 b.cs) := (HBc.out.carry (h2.block z HZw.out.1 HZw.out.2)).rng
         have Q1 : Hid _ := h1
         have Q2 : Hid _ := h2
         have Q3 : Hid _ := h3
         clear h1 h2 h3 h4
         refine hK.out _ _ HR5.out (fun hHeld3 => ?_)
         clear hK K
         (try simp only [List.setIfInBounds_toArray, List.set_cons_zero, List.set_cons_succ])
         refine wpAnyH_take (i := 8) (oi := { dst := some 39, op := Op.nilCheck (Operand.tmp 31), type := 0, pos := "grid.go:45", after := #[{ on := 0, ground := Ground.data }, { on := 0, ground := Ground.phase }, { on := 1, ground := Ground.phase }, { on := 2, ground := Ground.phase }, { on := 3, ground := Ground.phase }, { on := 4, ground := Ground.phase }, { on := 5, ground := Ground.phase }, { on := 6, ground := Ground.phase }, { on := 7, ground := Ground.phase }], guard := none }) (v := ?_) rfl (by kernel_rfl) (by kernel_rfl) (by kernel_rfl) (fun _ _ _ h => h) (Or.inl ⟨by rfl, ?hy⟩) (by assumption) ?_
         case hy =>
           intro wz hSw
           (try dsimp only at hSw)
           first | (go_simp; done) | (go_simp; with_reducible rfl)
         simp only [Act.put, List.setIfInBounds_toArray, List.set_cons_zero, List.set_cons_succ]
         refine wpAnyH_take (i := 9) (oi := { dst := some 40, op := Op.fieldAddr 63 (Operand.tmp 39) 1, type := 0, pos := "grid.go:45", after := #[{ on := 8, ground := Ground.data }, { on := 0, ground := Ground.phase }, { on := 1, ground := Ground.phase }, { on := 2, ground := Ground.phase }, { on := 3, ground := Ground.phase }, { on := 4, ground := Ground.phase }, { on := 5, ground := Ground.phase }, { on := 6, ground := Ground.phase }, { on := 7, ground := Ground.phase }], guard := none }) (v := ?_) rfl (by kernel_rfl) (by kernel_rfl) (by kernel_rfl) (fun _ _ _ h => h) (Or.inl ⟨by rfl, ?hy⟩) (by assumption) ?_
         case hy =>
           intro wz hSw
           (try dsimp only at hSw)
           first | (go_simp; done) | (go_simp; with_reducible rfl)
         simp only [Act.put, List.setIfInBounds_toArray, List.set_cons_zero, List.set_cons_succ]
         refine wpAnyH_ready (rs := [10]) (by kernel_rfl) (by simp) ?_
         refine AllReadyH.cons (o := { dst := none, op := Op.store 24 (Operand.tmp 40) (Operand.tmp 38), type := 0, pos := "grid.go:45", after := #[{ on := 9, ground := Ground.data }, { on := 7, ground := Ground.data }, { on := 7, ground := Ground.chain }, { on := 0, ground := Ground.phase }, { on := 1, ground := Ground.phase }, { on := 2, ground := Ground.phase }, { on := 3, ground := Ground.phase }, { on := 4, ground := Ground.phase }, { on := 5, ground := Ground.phase }, { on := 6, ground := Ground.phase }, { on := 7, ground := Ground.phase }], guard := none }) rfl (fun K hK => ?_) AllReadyH.nil
         go_simp
         refine hK.out _ _ (HS5.out w5 _ HR5.out) (fun hHeld4 => ?_)
         clear hK K
         (try simp only [List.setIfInBounds_toArray, List.set_cons_zero, List.set_cons_succ])
         refine wpAnyH_done (by kernel_rfl) ?_ _
         go_wp2_with fail
         go_ret
         exact HFin.out wr w5 g cap HGw.out HMf.out Q1.out (by rw [HVV.out]; exact Q2.out) (by rw [HVV.out]; exact Q3.out)
       · refine step_build_block (by rfl) (Operand.tmp 36) (by rfl) b (by rfl) ?_
         (try simp only [Act.put, List.setIfInBounds_toArray, List.set_cons_zero, List.set_cons_succ])
         refine hK.out _ _ HRa.out (fun hHeld2 => ?_)
         clear hK K
         (try simp only [List.setIfInBounds_toArray, List.set_cons_zero, List.set_cons_succ])
         refine wpAnyH_ready (rs := [4]) (by kernel_rfl) (by simp) ?_
         refine AllReadyH.cons (o := { dst := some 35, op := Op.load 24 (Operand.tmp 34), type := 24, pos := "grid.go:45", after := #[{ on := 3, ground := Ground.data }], guard := none }) rfl (fun K hK => ?_) AllReadyH.nil
         go_simp
         refine hK.out _ _ (by assumption) (fun hHeld2 => ?_)
         clear hK K
         (try simp only [List.setIfInBounds_toArray, List.set_cons_zero, List.set_cons_succ])
         refine wpAnyH_ready (rs := [7]) (by kernel_rfl) (by simp) ?_
         refine AllReadyH.cons (o := { dst := some 38, op := Op.call { callee := Callee.builtin Builtin.append, args := #[Operand.tmp 35, Operand.tmp 37], argTypes := #[24, 24] }, type := 24, pos := "grid.go:45", after := #[{ on := 4, ground := Ground.data }, { on := 6, ground := Ground.data }], guard := none }) rfl (fun K hK => ?_) AllReadyH.nil
         refine step_append_block wr (by rfl) _ _ (by rfl) L (.slice va L.length vc) b _ rfl HOr.out (by have := HLL.out; omega) (by rfl) (by rfl) ?_
         intro g cap w5 h1 h2 h3 h4
         have y4 := (World.cell?_of_block (w := wr) (w' := w5) (a := ⟨p, 4, none⟩) (h2.block p HPw.out.1 HPw.out.2)).trans hp4
         have y5 := (World.frozen?_of_block (w := wr) (w' := w5) (a := ⟨p, 4, none⟩) (h2.block p HPw.out.1 HPw.out.2)).trans pf4
         have HR5 : Hid (w5.rangeAt z 0 b.cs) := (HBc.out.carry (h2.block z HZw.out.1 HZw.out.2)).rng
         have Q1 : Hid _ := h1
         have Q2 : Hid _ := h2
         have Q3 : Hid _ := h3
         clear h1 h2 h3 h4
         refine hK.out _ _ HR5.out (fun hHeld3 => ?_)
         clear hK K
         (try simp only [List.setIfInBounds_toArray, List.set_cons_zero, List.set_cons_succ])
         refine wpAnyH_take (i := 8) (oi := { dst := some 39, op := Op.nilCheck (Operand.tmp 31), type := 0, pos := "grid.go:45", after := #[{ on := 0, ground := Ground.data }, { on := 0, ground := Ground.phase }, { on := 1, ground := Ground.phase }, { on := 2, ground := Ground.phase }, { on := 3, ground := Ground.phase }, { on := 4, ground := Ground.phase }, { on := 5, ground := Ground.phase }, { on := 6, ground := Ground.phase }, { on := 7, ground := Ground.phase }], guard := none }) (v := ?_) rfl (by kernel_rfl) (by kernel_rfl) (by kernel_rfl) (fun _ _ _ h => h) (Or.inl ⟨by rfl, ?hy⟩) (by assumption) ?_
         case hy =>
           intro wz hSw
           (try dsimp only at hSw)
           first | (go_simp; done) | (go_simp; with_reducible rfl)
         simp only [Act.put, List.setIfInBounds_toArray, List.set_cons_zero, List.set_cons_succ]
         refine wpAnyH_take (i := 9) (oi := { dst := some 40, op := Op.fieldAddr 63 (Operand.tmp 39) 1, type := 0, pos := "grid.go:45", after := #[{ on := 8, ground := Ground.data }, { on := 0, ground := Ground.phase }, { on := 1, ground := Ground.phase }, { on := 2, ground := Ground.phase }, { on := 3, ground := Ground.phase }, { on := 4, ground := Ground.phase }, { on := 5, ground := Ground.phase }, { on := 6, ground := Ground.phase }, { on := 7, ground := Ground.phase }], guard := none }) (v := ?_) rfl (by kernel_rfl) (by kernel_rfl) (by kernel_rfl) (fun _ _ _ h => h) (Or.inl ⟨by rfl, ?hy⟩) (by assumption) ?_
         case hy =>
           intro wz hSw
           (try dsimp only at hSw)
           first | (go_simp; done) | (go_simp; with_reducible rfl)
         simp only [Act.put, List.setIfInBounds_toArray, List.set_cons_zero, List.set_cons_succ]
         refine wpAnyH_ready (rs := [10]) (by kernel_rfl) (by simp) ?_
         refine AllReadyH.cons (o := { dst := none, op := Op.store 24 (Operand.tmp 40) (Operand.tmp 38), type := 0, pos := "grid.go:45", after := #[{ on := 9, ground := Ground.data }, { on := 7, ground := Ground.data }, { on := 7, ground := Ground.chain }, { on := 0, ground := Ground.phase }, { on := 1, ground := Ground.phase }, { on := 2, ground := Ground.phase }, { on := 3, ground := Ground.phase }, { on := 4, ground := Ground.phase }, { on := 5, ground := Ground.phase }, { on := 6, ground := Ground.phase }, { on := 7, ground := Ground.phase }], guard := none }) rfl (fun K hK => ?_) AllReadyH.nil
         go_simp
         refine hK.out _ _ (HS5.out w5 _ HR5.out) (fun hHeld4 => ?_)
         clear hK K
         (try simp only [List.setIfInBounds_toArray, List.set_cons_zero, List.set_cons_succ])
         refine wpAnyH_done (by kernel_rfl) ?_ _
         go_wp2_with fail
         go_ret
         exact HFin.out wr w5 g cap HGw.out HMf.out Q1.out (by rw [HVV.out]; exact Q2.out) (by rw [HVV.out]; exact Q3.out)
end Go.Proofs.Ytppofodijlofdaa
