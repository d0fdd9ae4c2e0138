/- DERIVED. The document's Put of what fits. -/
import Derived.Test.YtppofodijlofdaaDm
namespace Go.Proofs.Ytppofodijlofdaa
open Go.RowKit

theorem any_at {q : Bl → Bool} : ∀ {L : List Bl}, (∀ j, j < L.length → q (L.getD j bz) = false) → L.any q = false
  | [], _ => rfl
  | a :: L, h => by
    rw [List.any_cons, show q a = false from h 0 (by simp), any_at fun j hj => h (j + 1) (by simpa using hj)]
    rfl
set_option maxRecDepth 100000 in
set_option maxHeartbeats 8000000 in
theorem rput_fit {w : World} {p : Nat} {T : Rc} {v : Value} {L : List Bl} {b : Bl} (hg : Rd w p T v L) (hf : Fit T b) (hL : L.length < 1000) :
    Calls Try.prog 11 #[.pointer (some ⟨p, 0, none⟩), .agg b.cs.toArray] w fun e w' => (L.any (fun a => ovB a b) = true ∧ e = .returned (.int .i64 2) ∧ Below w.heap.size w w') ∨ (L.any (fun a => ovB a b) = false ∧ Rq p T v L b w w' e) := by
  have HFin : Hid (∀ (V w1 : World) (g cap : Nat), Below w.heap.size w V → Or w1 0 (.slice (some ⟨g, 0, none⟩) (L.length + 1) cap) (L ++ [b]) → V.grownBy w1 v.ownBlock → (v.ownBlock = some g ∨ V.heap.size ≤ g) → Rq p T v L b w (w1.setCell ⟨p, 4, none⟩ (.slice (some ⟨g, 0, none⟩) (L.length + 1) cap)) (.returned (.int .i64 0))) := fun V w1 g cap h1 h2 h3 h4 => rq_mk hg hf h1 h2 h3 h4
  have HG : Hid (∀ u, Below w.heap.size w u → Rd u p T v L) := fun u hb => hg.to hb
  have HFi : Hid (∀ a ∈ L, Fit T a) := hg.fit
  have HTb : Hid ((0 ≤ T.1 ∧ T.1 + T.2.2.1 ≤ 256) ∧ (0 ≤ T.2.1 ∧ T.2.1 + T.2.2.2 ≤ 256)) := tile_b hg.tok
  have HLL : Hid (L.length < 1000) := hL
  have HGz : Hid (p < w.heap.size ∧ ∀ g, v.ownBlock = some g → g < w.heap.size) := ⟨hg.lt, fun g h => (hg.row.lt h).2⟩
  have HB : Hid (Below w.heap.size w (w.alloc (.cells b.cs.toArray 40))) := from_alloc _ _
  have HC : Hid (Bc (w.alloc (.cells b.cs.toArray 40)) w.heap.size 0 b) := Bc.box w b
  have HZ : Hid (w.heap.size < (w.alloc (.cells b.cs.toArray 40)).heap.size) := by show _ < _; simp
  have HS : Hid (∀ u n, Calls Try.prog 27 #[.int .i64 n] u fun e w' => e = .returned (.bool (sdB n)) ∧ u = w') := fun u n => side_any
  have HH : Hid (∀ u X Y, Below w.heap.size w u → Calls Try.prog 28 #[.pointer (some ⟨p, 0, none⟩), .int .i64 X, .int .i64 Y] u fun e w' => e = .returned (.bool (hasT T X Y)) ∧ Below u.heap.size u w') := fun u X Y hb => inn_any (hg.to hb).cl hg.tok
  have HT : Hid (TOk T) := hg.tok
  have HRG : Hid (∀ (u : World) (z : Nat), Bc u z 0 b → u.cell? ⟨z, 0, none⟩ = some (.int .i64 b.x) ∧ u.cell? ⟨z, 1, none⟩ = some (.int .i64 b.y) ∧ u.cell? ⟨z, 2, none⟩ = some (.int .i64 b.w) ∧ u.cell? ⟨z, 3, none⟩ = some (.int .i64 b.h)) := fun u z h => by
    have k0 := h.at 0 _ rfl
    have k1 := h.at 1 _ rfl
    have k2 := h.at 2 _ rfl
    have k3 := h.at 3 _ rfl
    exact ⟨by simpa using k0, by simpa using k1, by simpa using k2, by simpa using k3⟩
  obtain ⟨k0, k1, k2, k3⟩ := HRG.out _ _ HC.out
  have HOB : Hid (∀ a : Bl, ovB a b = decide (a.x < b.x + b.w ∧ b.x < a.x + a.w ∧ a.y < b.y + b.h ∧ b.y < a.y + a.h)) := fun a => rfl
  have hfb := fit_mk hf
  unfold fitB at hfb
  simp only [Bool.and_eq_true, decide_eq_true_eq] at hfb
  obtain ⟨f1, f2, f3, f4, f5, f6⟩ := hfb
  have q1 := tmod_yes f1
  have q2 := tmod_yes f2
  have HSw : Hid (∀ u, Calls Try.prog 27 #[.int .i64 b.w] u fun e w' => e = .returned (.bool true) ∧ u = w') := fun u => by rw [← f3]; exact HS.out u _
  have HSh : Hid (∀ u, Calls Try.prog 27 #[.int .i64 b.h] u fun e w' => e = .returned (.bool true) ∧ u = w') := fun u => by rw [← f4]; exact HS.out u _
  have HHx : Hid (∀ u, Below w.heap.size w u → Calls Try.prog 28 #[.pointer (some ⟨p, 0, none⟩), .int .i64 b.x, .int .i64 b.y] u fun e w' => e = .returned (.bool true) ∧ Below u.heap.size u w') := fun u hb => by rw [← f5]; exact HH.out _ _ _ hb
  have HHy : Hid (∀ u, Below w.heap.size w u → Calls Try.prog 28 #[.pointer (some ⟨p, 0, none⟩), .int .i64 (b.x + b.w - 1), .int .i64 (b.y + b.h - 1)] u fun e w' => e = .returned (.bool true) ∧ Below u.heap.size u w') := fun u hb => by rw [← f6]; exact HH.out _ _ _ hb
  have bx : 0 ≤ b.x ∧ b.x ≤ 256 ∧ 0 ≤ b.y ∧ b.y ≤ 256 ∧ 8 ≤ b.w ∧ b.w ≤ 64 ∧ 8 ≤ b.h ∧ b.h ≤ 64 := by
    have htb := HTb.out
    have h1 := hf.ws
    have h2 := hf.hs
    have h3 := hf.x0
    have h4 := hf.x1
    have h5 := hf.y0
    have h6 := hf.y1
    omega
  obtain ⟨bx0, bx1, by0, by1, bw0, bw1, bh0, bh1⟩ := bx
  have nb : (L.length : Int) ≤ 1000 := by omega
  clear hg hf f1 f2 f3 f4 f5 f6 HS HH hL
  generalize hX : b.x = X at *
  generalize hY : b.y = Y at *
  generalize hW : b.w = W at *
  generalize hH : b.h = H at *
  clear hX hY hW hH
  go_enter Try.func11, Try.ntmps11
  go_upto_region 1 with fail
  generalize hV : (w.alloc (.cells b.cs.toArray 40)) = V at *
  clear hV
  generalize hP : w.heap.size = z at *
  have HPz : Hid (w.heap.size = z) := hP
  clear hP
  go_wp2_with (first | ((with_reducible refine (HSw.out _).mono ?_); rintro e w5 ⟨rfl, rfl⟩) | ((with_reducible refine (HSh.out _).mono ?_); rintro e w5 ⟨rfl, rfl⟩))
  refine (HHx.out _ HB.out).mono ?_
  rintro e w1 ⟨rfl, hb⟩
  have HB1 : Hid (Below z w w1) := HB.out.trans (hb.mono (Nat.le_of_lt HZ.out))
  have HC1 : Hid (Bc w1 z 0 b) := HC.out.below hb HZ.out
  have HZ1 : Hid (z < w1.heap.size) := Nat.lt_of_lt_of_le HZ.out hb.size
  clear hb k0 k1 k2 k3
  obtain ⟨k0, k1, k2, k3⟩ := HRG.out _ _ HC1.out
  go_wp2_with fail
  refine (HHy.out _ HB1.out).mono ?_
  rintro e w2 ⟨rfl, hb⟩
  have HB2 : Hid (Below z w w2) := HB1.out.trans (hb.mono (Nat.le_of_lt HZ1.out))
  have HC2 : Hid (Bc w2 z 0 b) := HC1.out.below hb HZ1.out
  have HZ2 : Hid (z < w2.heap.size) := Nat.lt_of_lt_of_le HZ1.out hb.size
  clear hb k0 k1 k2 k3 HB HC HZ HB1 HC1 HZ1 HSw HSh HHx HHy
  go_wp2_with fail
  go_loopw [5] (fun i wr => ∃ k : Nat, k ≤ L.length ∧ i = .int .i64 (k : Int) ∧ Below z w wr ∧ Bc wr z 0 b ∧ Hid (∀ j, j < k → ovB (L.getD j bz) b = false)) (fun i _ => L.length - (intOf i).toNat)
  case atStart => exact ⟨0, by omega, by simp, HB2.out, HC2.out, fun j hj => by omega⟩
  case round =>
    obtain ⟨k, hk, rfl, hbw, hbc, HJ⟩ := hrel
    have HBw : Hid (Below z w wr) := hbw
    have HBc : Hid (Bc wr z 0 b) := hbc
    obtain ⟨k0, k1, k2, k3⟩ := HRG.out _ _ hbc
    have hgd := HG.out wr hbw
    have HGd : Hid (Rd wr p T v L) := hgd
    obtain ⟨va, vc, hvv, hvc, hsb, -⟩ := hgd.row.form
    have c4 : wr.cell? ⟨p, 4, none⟩ = some (.slice va L.length vc) := by rw [← hvv]; exact hgd.c4
    clear hbw hbc
    by_cases hlt : k < L.length
    · as_aux_lemma =>
       obtain ⟨g, o', rfl, hgl, hgc⟩ := hsb.form (by omega)
       have HBi : Hid (Bc wr g (o' + k * 23) (L.getD k bz)) := hgc k hlt
       have hfit := HFi.out _ (getD_mem3 hlt)
       obtain ⟨l, hl⟩ : ∃ l, L.getD k bz = l := ⟨_, rfl⟩
       have HLk : Hid (L.getD k bz = l) := hl
       rw [hl] at HBi hfit
       have htb := HTb.out
       have hws := hfit.ws
       have hhs := hfit.hs
       have x0 := hfit.x0
       have x1 := hfit.x1
       have y0 := hfit.y0
       have y1 := hfit.y1
       have lx : 0 ≤ l.x ∧ l.x ≤ 256 ∧ 0 ≤ l.y ∧ l.y ≤ 256 ∧ 8 ≤ l.w ∧ l.w ≤ 64 ∧ 8 ≤ l.h ∧ l.h ≤ 64 := by omega
       obtain ⟨lx0, lx1, ly0, ly1, lw0, lw1, lh0, lh1⟩ := lx
       have HMm : Hid (l ∈ L) := by rw [← hl]; exact getD_mem3 hlt
       clear hfit htb hws hhs x0 x1 y0 y1 hl hgd hvv hvc hsb hgl hgc
       have j0 : (0 : Int) ≤ (k : Int) := by omega
       have j1 : (k : Int) < (L.length : Int) := by omega
       have HK : Hid (k < L.length) := hlt
       clear hlt hk
       have HOn : Hid (Ob (wr.alloc (.cells bz.cs.toArray 40)) wr.heap.size bz) := Ob.new wr bz rfl
       have HBn : Hid (Below wr.heap.size wr (wr.alloc (.cells bz.cs.toArray 40))) := from_alloc _ _
       go_upto_region 7 with (first | (refine wpList_load_block (by rfl) _ (by rfl) g (o' + k * 23) (by rfl) l HBi.out ?_) | (refine wpList_store_block (by rfl) _ _ (by rfl) wr.heap.size bz l HOn.out (by rfl) (by rfl) ?_; intro w3 hob hsw; have HO3 : Hid (Ob w3 wr.heap.size l) := hob; have HB2x : Hid (Below wr.heap.size wr w3) := hsw.below HBn.out (Nat.le_refl _); clear hob hsw))
       have HB3 : Hid (Below z w w3) := HBw.out.trans (HB2x.out.mono (Nat.le_of_lt HBc.out.lt))
       have HC3 : Hid (Bc w3 z 0 b) := HBc.out.to HB2x.out
       clear HOn HBn HB2x HBi c4 k0 k1 k2 k3
       obtain ⟨k0, k1, k2, k3⟩ := HRG.out _ _ HC3.out
       generalize wr.heap.size = zb at *
       have e0 : w3.cell? ⟨zb, 0, none⟩ = some (.int .i64 l.x) := HO3.out.c 0 _ rfl
       have e1 : w3.cell? ⟨zb, 1, none⟩ = some (.int .i64 l.y) := HO3.out.c 1 _ rfl
       have e2 : w3.cell? ⟨zb, 2, none⟩ = some (.int .i64 l.w) := HO3.out.c 2 _ rfl
       have e3 : w3.cell? ⟨zb, 3, none⟩ = some (.int .i64 l.h) := HO3.out.c 3 _ rfl
       by_cases i0 : l.x < X + W
       · by_cases i1 : X < l.x + l.w
         · by_cases i2 : l.y < Y + H
           · by_cases i3 : Y < l.y + l.h
             · have HYes : Hid (L.any (fun a => ovB a b) = true) := List.any_eq_true.2 ⟨l, HMm.out, by rw [HOB.out]; exact decide_eq_true ⟨i0, i1, i2, i3⟩⟩
               go_wp2_with fail
               go_ret
               exact Or.inl ⟨HYes.out, rfl, by rw [HPz.out]; exact HB3.out⟩
             · have HOv : Hid (ovB (L.getD k bz) b = false) := by show _ = _; rw [HLk.out, HOB.out]; exact decide_eq_false (by omega)
               have fin : Hid (∀ j, j < k + 1 → ovB (L.getD j bz) b = false) := fun j hj => by
                 by_cases e : j = k
                 · rw [e]; exact HOv.out
                 · exact HJ.out j (by omega)
               go_wp2_with fail
               go_roundw
               case rel => exact ⟨k + 1, by have := HK.out; omega, by go_num, HB3.out, HC3.out, fin⟩
               case measure => have := HK.out; simp [intOf]; omega
           · have HOv : Hid (ovB (L.getD k bz) b = false) := by show _ = _; rw [HLk.out, HOB.out]; exact decide_eq_false (by omega)
             have fin : Hid (∀ j, j < k + 1 → ovB (L.getD j bz) b = false) := fun j hj => by
               by_cases e : j = k
               · rw [e]; exact HOv.out
               · exact HJ.out j (by omega)
             go_wp2_with fail
             go_roundw
             case rel => exact ⟨k + 1, by have := HK.out; omega, by go_num, HB3.out, HC3.out, fin⟩
             case measure => have := HK.out; simp [intOf]; omega
         · have HOv : Hid (ovB (L.getD k bz) b = false) := by show _ = _; rw [HLk.out, HOB.out]; exact decide_eq_false (by omega)
           have fin : Hid (∀ j, j < k + 1 → ovB (L.getD j bz) b = false) := fun j hj => by
             by_cases e : j = k
             · rw [e]; exact HOv.out
             · exact HJ.out j (by omega)
           go_wp2_with fail
           go_roundw
           case rel => exact ⟨k + 1, by have := HK.out; omega, by go_num, HB3.out, HC3.out, fin⟩
           case measure => have := HK.out; simp [intOf]; omega
       · have HOv : Hid (ovB (L.getD k bz) b = false) := by show _ = _; rw [HLk.out, HOB.out]; exact decide_eq_false (by omega)
         have fin : Hid (∀ j, j < k + 1 → ovB (L.getD j bz) b = false) := fun j hj => by
           by_cases e : j = k
           · rw [e]; exact HOv.out
           · exact HJ.out j (by omega)
         go_wp2_with fail
         go_roundw
         case rel => exact ⟨k + 1, by have := HK.out; omega, by go_num, HB3.out, HC3.out, fin⟩
         case measure => have := HK.out; simp [intOf]; omega
    · obtain rfl : k = L.length := by omega
      clear hlt hk
      as_aux_lemma =>
       have HNO : Hid (L.any (fun a => ovB a b) = false) := any_at HJ.out
       have hzb : z < wr.heap.size := HBc.out.lt
       have hor : Or wr 0 v L := hgd.row
       have HOr : Hid (Or wr 0 (.slice va L.length vc) L) := by rw [← hvv]; exact hor
       have HVV : Hid (v = .slice va L.length vc) := hvv
       have hp4 : wr.cell? ⟨p, 4, none⟩ = some (.slice va L.length vc) := c4
       have pf4 : wr.frozen? ⟨p, 4, none⟩ = false := hgd.thaw 4
       have HPw : Hid (p < wr.heap.size ∧ some p ≠ (Value.slice va L.length vc).ownBlock) := ⟨hgd.lt, by rw [← hvv]; exact fun e => hgd.nv p e.symm rfl⟩
       have hp4a : (wr.alloc (.cells b.cs.toArray 40)).cell? ⟨p, 4, none⟩ = some (.slice va L.length vc) := by rw [newCell (from_alloc wr _) _ _ HPw.out.1]; exact hp4
       have HZw : Hid (z < wr.heap.size ∧ some z ≠ (Value.slice va L.length vc).ownBlock) := ⟨hzb, by
         rw [← hvv]; intro e
         have h1 := (HGz.out.2 z e.symm)
         omega⟩
       have HRa : Hid ((wr.alloc (.cells b.cs.toArray 40)).drew.rangeAt z 0 b.cs) := (HBc.out.to (from_alloc wr _)).rng
       have HS5 : Hid (∀ (u : World) (x : Value), u.rangeAt z 0 b.cs → (u.setCell ⟨p, 4, none⟩ x).rangeAt z 0 b.cs) := fun u x h => ((⟨h⟩ : Bc u z 0 b).carry (Below.heap_setCell _ _ _ _ (fun e => by have := HGz.out.1; have e' : z = p := e; omega))).rng
       clear hor hvv hzb hvc hsb hgd c4 k0 k1 k2 k3
       go_upto_region 9 with fail
       refine wp_region_held_drew (S := fun t => t.rangeAt z 0 b.cs) (by kernel_rfl) HBc.out.rng (fun hHeld => ?_)
       change wpAnyH _ _ _ _ _ 11 #[false, false, false, false, false, false, false, false, false, false, false] _ _
       refine wpAnyH_take (i := 0) (oi := { dst := some 109, op := Op.move (Operand.tmp 0), type := 30, pos := "ref.go:53", after := #[], guard := none }) (v := ?_) rfl (by kernel_rfl) (by kernel_rfl) (by kernel_rfl) (fun _ _ _ h => h) (Or.inl ⟨by rfl, ?hy⟩) (by assumption) ?_
       case hy =>
         intro wz hSw
         (try dsimp only at hSw)
         first | (go_simp; done) | (go_simp; with_reducible rfl)
       simp only [Act.put, List.setIfInBounds_toArray, List.set_cons_zero, List.set_cons_succ]
       refine wpAnyH_take (i := 1) (oi := { dst := some 110, op := Op.move (Operand.tmp 0), type := 30, pos := "ref.go:53", after := #[], guard := none }) (v := ?_) rfl (by kernel_rfl) (by kernel_rfl) (by kernel_rfl) (fun _ _ _ h => h) (Or.inl ⟨by rfl, ?hy⟩) (by assumption) ?_
       case hy =>
         intro wz hSw
         (try dsimp only at hSw)
         first | (go_simp; done) | (go_simp; with_reducible rfl)
       simp only [Act.put, List.setIfInBounds_toArray, List.set_cons_zero, List.set_cons_succ]
       refine wpAnyH_take (i := 2) (oi := { dst := some 111, op := Op.nilCheck (Operand.tmp 110), type := 0, pos := "ref.go:53", after := #[{ on := 1, ground := Ground.data }], guard := none }) (v := ?_) rfl (by kernel_rfl) (by kernel_rfl) (by kernel_rfl) (fun _ _ _ h => h) (Or.inl ⟨by rfl, ?hy⟩) (by assumption) ?_
       case hy =>
         intro wz hSw
         (try dsimp only at hSw)
         first | (go_simp; done) | (go_simp; with_reducible rfl)
       simp only [Act.put, List.setIfInBounds_toArray, List.set_cons_zero, List.set_cons_succ]
       refine wpAnyH_take (i := 3) (oi := { dst := some 112, op := Op.fieldAddr 69 (Operand.tmp 111) 1, type := 0, pos := "ref.go:53", after := #[{ on := 2, ground := Ground.data }], guard := none }) (v := ?_) rfl (by kernel_rfl) (by kernel_rfl) (by kernel_rfl) (fun _ _ _ h => h) (Or.inl ⟨by rfl, ?hy⟩) (by assumption) ?_
       case hy =>
         intro wz hSw
         (try dsimp only at hSw)
         first | (go_simp; done) | (go_simp; with_reducible rfl)
       simp only [Act.put, List.setIfInBounds_toArray, List.set_cons_zero, List.set_cons_succ]
       refine wpAnyH_take (i := 5) (oi := { dst := some 114, op := Op.load 40 (Operand.tmp 3), type := 40, pos := "ref.go:53", after := #[], guard := none }) (v := .agg b.cs.toArray) rfl (by kernel_rfl) (by kernel_rfl) (by kernel_rfl) (fun _ _ _ h => h) (yieldsIf_load_mid (by rfl) 40 (Operand.tmp 3) rfl z 0 (by rfl) b.cs _ (fun _ hS => hS) Try.underlying40 rfl (by rw [Try.info40, Bl.cs_length])) (by assumption) ?_
       simp only [Act.put, List.setIfInBounds_toArray, List.set_cons_zero, List.set_cons_succ]
       refine wpAnyH_ready (rs := [4, 6]) (by kernel_rfl) (by simp) ?_
       refine AllReadyH.cons (o := { dst := some 113, op := Op.load 24 (Operand.tmp 112), type := 24, pos := "ref.go:53", after := #[{ on := 3, ground := Ground.data }], guard := none }) rfl (fun K hK => ?_) (AllReadyH.cons (o := { dst := some 115, op := Op.buildSlice 24 1 #[(0, Operand.tmp 114)], type := 24, pos := "ref.go:53", after := #[{ on := 5, ground := Ground.data }], guard := none }) rfl (fun K hK => ?_) AllReadyH.nil)
       · go_simp
         refine hK.out _ _ (by assumption) (fun hHeld2 => ?_)
         clear hK K
         (try simp only [List.setIfInBounds_toArray, List.set_cons_zero, List.set_cons_succ])
         refine wpAnyH_ready (rs := [6]) (by kernel_rfl) (by simp) ?_
         refine AllReadyH.cons (o := { dst := some 115, op := Op.buildSlice 24 1 #[(0, Operand.tmp 114)], type := 24, pos := "ref.go:53", after := #[{ on := 5, ground := Ground.data }], guard := none }) rfl (fun K hK => ?_) AllReadyH.nil
         refine step_build_block (by rfl) (Operand.tmp 114) (by rfl) b (by rfl) ?_
         (try simp only [Act.put, List.setIfInBounds_toArray, List.set_cons_zero, List.set_cons_succ])
         refine hK.out _ _ HRa.out (fun hHeld2 => ?_)
         clear hK K
         (try simp only [List.setIfInBounds_toArray, List.set_cons_zero, List.set_cons_succ])
         refine wpAnyH_ready (rs := [7]) (by kernel_rfl) (by simp) ?_
         refine AllReadyH.cons (o := { dst := some 116, op := Op.call { callee := Callee.builtin Builtin.append, args := #[Operand.tmp 113, Operand.tmp 115], argTypes := #[24, 24] }, type := 24, pos := "ref.go:53", after := #[{ on := 4, ground := Ground.data }, { on := 6, ground := Ground.data }], guard := none }) rfl (fun K hK => ?_) AllReadyH.nil
         refine step_append_block wr (by rfl) _ _ (by rfl) L (.slice va L.length vc) b _ rfl HOr.out (by have := HLL.out; omega) (by rfl) (by rfl) ?_
         intro g cap w5 h1 h2 h3 h4
         have y4 := (World.cell?_of_block (w := wr) (w' := w5) (a := ⟨p, 4, none⟩) (h2.block p HPw.out.1 HPw.out.2)).trans hp4
         have y5 := (World.frozen?_of_block (w := wr) (w' := w5) (a := ⟨p, 4, none⟩) (h2.block p HPw.out.1 HPw.out.2)).trans pf4
         have HR5 : Hid (w5.rangeAt z 0 b.cs) := (HBc.out.carry (h2.block z HZw.out.1 HZw.out.2)).rng
         have Q1 : Hid _ := h1
         have Q2 : Hid _ := h2
         have Q3 : Hid _ := h3
         clear h1 h2 h3 h4
         refine hK.out _ _ HR5.out (fun hHeld3 => ?_)
         clear hK K
         (try simp only [List.setIfInBounds_toArray, List.set_cons_zero, List.set_cons_succ])
         refine wpAnyH_take (i := 8) (oi := { dst := some 117, op := Op.nilCheck (Operand.tmp 109), type := 0, pos := "ref.go:53", after := #[{ on := 0, ground := Ground.data }, { on := 0, ground := Ground.phase }, { on := 1, ground := Ground.phase }, { on := 2, ground := Ground.phase }, { on := 3, ground := Ground.phase }, { on := 4, ground := Ground.phase }, { on := 5, ground := Ground.phase }, { on := 6, ground := Ground.phase }, { on := 7, ground := Ground.phase }], guard := none }) (v := ?_) rfl (by kernel_rfl) (by kernel_rfl) (by kernel_rfl) (fun _ _ _ h => h) (Or.inl ⟨by rfl, ?hy⟩) (by assumption) ?_
         case hy =>
           intro wz hSw
           (try dsimp only at hSw)
           first | (go_simp; done) | (go_simp; with_reducible rfl)
         simp only [Act.put, List.setIfInBounds_toArray, List.set_cons_zero, List.set_cons_succ]
         refine wpAnyH_take (i := 9) (oi := { dst := some 118, op := Op.fieldAddr 69 (Operand.tmp 117) 1, type := 0, pos := "ref.go:53", after := #[{ on := 8, ground := Ground.data }, { on := 0, ground := Ground.phase }, { on := 1, ground := Ground.phase }, { on := 2, ground := Ground.phase }, { on := 3, ground := Ground.phase }, { on := 4, ground := Ground.phase }, { on := 5, ground := Ground.phase }, { on := 6, ground := Ground.phase }, { on := 7, ground := Ground.phase }], guard := none }) (v := ?_) rfl (by kernel_rfl) (by kernel_rfl) (by kernel_rfl) (fun _ _ _ h => h) (Or.inl ⟨by rfl, ?hy⟩) (by assumption) ?_
         case hy =>
           intro wz hSw
           (try dsimp only at hSw)
           first | (go_simp; done) | (go_simp; with_reducible rfl)
         simp only [Act.put, List.setIfInBounds_toArray, List.set_cons_zero, List.set_cons_succ]
         refine wpAnyH_ready (rs := [10]) (by kernel_rfl) (by simp) ?_
         refine AllReadyH.cons (o := { dst := none, op := Op.store 24 (Operand.tmp 118) (Operand.tmp 116), type := 0, pos := "ref.go:53", after := #[{ on := 9, ground := Ground.data }, { on := 7, ground := Ground.data }, { on := 7, ground := Ground.chain }, { on := 0, ground := Ground.phase }, { on := 1, ground := Ground.phase }, { on := 2, ground := Ground.phase }, { on := 3, ground := Ground.phase }, { on := 4, ground := Ground.phase }, { on := 5, ground := Ground.phase }, { on := 6, ground := Ground.phase }, { on := 7, ground := Ground.phase }], guard := none }) rfl (fun K hK => ?_) AllReadyH.nil
         go_simp
         refine hK.out _ _ (HS5.out w5 _ HR5.out) (fun hHeld4 => ?_)
         clear hK K
         (try simp only [List.setIfInBounds_toArray, List.set_cons_zero, List.set_cons_succ])
         refine wpAnyH_done (by kernel_rfl) ?_ _
         go_wp2_with fail
         go_ret
         exact Or.inr ⟨HNO.out, HFin.out wr w5 g cap HBw.out Q1.out (by rw [HVV.out]; exact Q2.out) (by rw [HVV.out]; exact Q3.out)⟩
       · refine step_build_block (by rfl) (Operand.tmp 114) (by rfl) b (by rfl) ?_
         (try simp only [Act.put, List.setIfInBounds_toArray, List.set_cons_zero, List.set_cons_succ])
         refine hK.out _ _ HRa.out (fun hHeld2 => ?_)
         clear hK K
         (try simp only [List.setIfInBounds_toArray, List.set_cons_zero, List.set_cons_succ])
         refine wpAnyH_ready (rs := [4]) (by kernel_rfl) (by simp) ?_
         refine AllReadyH.cons (o := { dst := some 113, op := Op.load 24 (Operand.tmp 112), type := 24, pos := "ref.go:53", after := #[{ on := 3, ground := Ground.data }], guard := none }) rfl (fun K hK => ?_) AllReadyH.nil
         go_simp
         refine hK.out _ _ (by assumption) (fun hHeld2 => ?_)
         clear hK K
         (try simp only [List.setIfInBounds_toArray, List.set_cons_zero, List.set_cons_succ])
         refine wpAnyH_ready (rs := [7]) (by kernel_rfl) (by simp) ?_
         refine AllReadyH.cons (o := { dst := some 116, op := Op.call { callee := Callee.builtin Builtin.append, args := #[Operand.tmp 113, Operand.tmp 115], argTypes := #[24, 24] }, type := 24, pos := "ref.go:53", after := #[{ on := 4, ground := Ground.data }, { on := 6, ground := Ground.data }], guard := none }) rfl (fun K hK => ?_) AllReadyH.nil
         refine step_append_block wr (by rfl) _ _ (by rfl) L (.slice va L.length vc) b _ rfl HOr.out (by have := HLL.out; omega) (by rfl) (by rfl) ?_
         intro g cap w5 h1 h2 h3 h4
         have y4 := (World.cell?_of_block (w := wr) (w' := w5) (a := ⟨p, 4, none⟩) (h2.block p HPw.out.1 HPw.out.2)).trans hp4
         have y5 := (World.frozen?_of_block (w := wr) (w' := w5) (a := ⟨p, 4, none⟩) (h2.block p HPw.out.1 HPw.out.2)).trans pf4
         have HR5 : Hid (w5.rangeAt z 0 b.cs) := (HBc.out.carry (h2.block z HZw.out.1 HZw.out.2)).rng
         have Q1 : Hid _ := h1
         have Q2 : Hid _ := h2
         have Q3 : Hid _ := h3
         clear h1 h2 h3 h4
         refine hK.out _ _ HR5.out (fun hHeld3 => ?_)
         clear hK K
         (try simp only [List.setIfInBounds_toArray, List.set_cons_zero, List.set_cons_succ])
         refine wpAnyH_take (i := 8) (oi := { dst := some 117, op := Op.nilCheck (Operand.tmp 109), type := 0, pos := "ref.go:53", after := #[{ on := 0, ground := Ground.data }, { on := 0, ground := Ground.phase }, { on := 1, ground := Ground.phase }, { on := 2, ground := Ground.phase }, { on := 3, ground := Ground.phase }, { on := 4, ground := Ground.phase }, { on := 5, ground := Ground.phase }, { on := 6, ground := Ground.phase }, { on := 7, ground := Ground.phase }], guard := none }) (v := ?_) rfl (by kernel_rfl) (by kernel_rfl) (by kernel_rfl) (fun _ _ _ h => h) (Or.inl ⟨by rfl, ?hy⟩) (by assumption) ?_
         case hy =>
           intro wz hSw
           (try dsimp only at hSw)
           first | (go_simp; done) | (go_simp; with_reducible rfl)
         simp only [Act.put, List.setIfInBounds_toArray, List.set_cons_zero, List.set_cons_succ]
         refine wpAnyH_take (i := 9) (oi := { dst := some 118, op := Op.fieldAddr 69 (Operand.tmp 117) 1, type := 0, pos := "ref.go:53", after := #[{ on := 8, ground := Ground.data }, { on := 0, ground := Ground.phase }, { on := 1, ground := Ground.phase }, { on := 2, ground := Ground.phase }, { on := 3, ground := Ground.phase }, { on := 4, ground := Ground.phase }, { on := 5, ground := Ground.phase }, { on := 6, ground := Ground.phase }, { on := 7, ground := Ground.phase }], guard := none }) (v := ?_) rfl (by kernel_rfl) (by kernel_rfl) (by kernel_rfl) (fun _ _ _ h => h) (Or.inl ⟨by rfl, ?hy⟩) (by assumption) ?_
         case hy =>
           intro wz hSw
           (try dsimp only at hSw)
           first | (go_simp; done) | (go_simp; with_reducible rfl)
         simp only [Act.put, List.setIfInBounds_toArray, List.set_cons_zero, List.set_cons_succ]
         refine wpAnyH_ready (rs := [10]) (by kernel_rfl) (by simp) ?_
         refine AllReadyH.cons (o := { dst := none, op := Op.store 24 (Operand.tmp 118) (Operand.tmp 116), type := 0, pos := "ref.go:53", after := #[{ on := 9, ground := Ground.data }, { on := 7, ground := Ground.data }, { on := 7, ground := Ground.chain }, { on := 0, ground := Ground.phase }, { on := 1, ground := Ground.phase }, { on := 2, ground := Ground.phase }, { on := 3, ground := Ground.phase }, { on := 4, ground := Ground.phase }, { on := 5, ground := Ground.phase }, { on := 6, ground := Ground.phase }, { on := 7, ground := Ground.phase }], guard := none }) rfl (fun K hK => ?_) AllReadyH.nil
         go_simp
         refine hK.out _ _ (HS5.out w5 _ HR5.out) (fun hHeld4 => ?_)
         clear hK K
         (try simp only [List.setIfInBounds_toArray, List.set_cons_zero, List.set_cons_succ])
         refine wpAnyH_done (by kernel_rfl) ?_ _
         go_wp2_with fail
         go_ret
         exact Or.inr ⟨HNO.out, HFin.out wr w5 g cap HBw.out Q1.out (by rw [HVV.out]; exact Q2.out) (by rw [HVV.out]; exact Q3.out)⟩
end Go.Proofs.Ytppofodijlofdaa
