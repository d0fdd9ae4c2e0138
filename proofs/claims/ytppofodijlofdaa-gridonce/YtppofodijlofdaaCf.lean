/- DERIVED. A grid in memory; mayPut. -/
import Derived.Test.YtppofodijlofdaaCe
namespace Go.Proofs.Ytppofodijlofdaa
open Go.RowKit

/-- the program's grid: its tile, its blocks, its map -/
structure Gd (w : World) (p m : Nat) (T : Rc) (v : Value) (L : List Bl) : Prop where
  heap : w.heap[p]? = some (.cells #[.int .i64 T.1, .int .i64 T.2.1, .int .i64 T.2.2.1, .int .i64 T.2.2.2, v, .map (some m)] 63 (0, 0))
  row : Or w 0 v L
  map : Mp w m (64 * L.length) (ow L)
  tok : TOk T
  fit : ∀ b ∈ L, Fit T b
  nm : m ≠ p
  nv : ∀ g, v.ownBlock = some g → g ≠ p ∧ g ≠ m
/-- its own blocks of memory -/
def Gb (p m : Nat) (v : Value) (i : Nat) : Prop := i = p ∨ i = m ∨ v.ownBlock = some i
theorem Gd.lt {w : World} {p m : Nat} {T : Rc} {v : Value} {L : List Bl} (h : Gd w p m T v L) : p < w.heap.size := (Array.getElem?_eq_some_iff.1 h.heap).1
theorem Gd.blt {w : World} {p m : Nat} {T : Rc} {v : Value} {L : List Bl} (h : Gd w p m T v L) {i : Nat} (hi : Gb p m v i) : i < w.heap.size := by
  rcases hi with rfl | rfl | hi
  · exact h.lt
  · exact h.map.lt
  · exact (h.row.lt hi).2
theorem Gd.carry {w w' : World} {p m : Nat} {T : Rc} {v : Value} {L : List Bl} (h : Gd w p m T v L) (hb : ∀ i, Gb p m v i → w'.heap[i]? = w.heap[i]?) : Gd w' p m T v L :=
  ⟨by rw [hb p (Or.inl rfl)]; exact h.heap, h.row.carry (fun g hg => hb g (Or.inr (Or.inr hg))), h.map.carry (hb m (Or.inr (Or.inl rfl))), h.tok, h.fit, h.nm, h.nv⟩
theorem Gd.to {w w' : World} {p m : Nat} {T : Rc} {v : Value} {L : List Bl} (h : Gd w p m T v L) (hb : Below w.heap.size w w') : Gd w' p m T v L := h.carry fun i hi => hb.block i (h.blt hi)
theorem Gd.cell {w : World} {p m : Nat} {T : Rc} {v : Value} {L : List Bl} (h : Gd w p m T v L) (j : Nat) (x : Value) (hx : #[Value.int .i64 T.1, .int .i64 T.2.1, .int .i64 T.2.2.1, .int .i64 T.2.2.2, v, .map (some m)][j]? = some x) : w.cell? ⟨p, j, none⟩ = some x := by
  simp only [World.cell?, h.heap]
  exact hx
theorem Gd.cl {w : World} {p m : Nat} {T : Rc} {v : Value} {L : List Bl} (h : Gd w p m T v L) : Cl4 w p T := ⟨h.cell 0 _ rfl, h.cell 1 _ rfl, h.cell 2 _ rfl, h.cell 3 _ rfl⟩
theorem Gd.c4 {w : World} {p m : Nat} {T : Rc} {v : Value} {L : List Bl} (h : Gd w p m T v L) : w.cell? ⟨p, 4, none⟩ = some v := h.cell 4 _ rfl
theorem Gd.c5 {w : World} {p m : Nat} {T : Rc} {v : Value} {L : List Bl} (h : Gd w p m T v L) : w.cell? ⟨p, 5, none⟩ = some (.map (some m)) := h.cell 5 _ rfl
theorem Gd.thaw {w : World} {p m : Nat} {T : Rc} {v : Value} {L : List Bl} (h : Gd w p m T v L) (j : Nat) : w.frozen? ⟨p, j, none⟩ = false := by simp [World.frozen?, h.heap]
theorem Try.info40 : (Try.prog.info? 40).map (·.size) = some 23 := by kernel_rfl
theorem all_none (f : Int → Int → Option Nat) (l : List (Int × Int)) : (l.all fun c => (f c.1 c.2).isNone) = !(l.any fun c => (f c.1 c.2).isSome) := by
  induction l with
  | nil => rfl
  | cons c l ih =>
    rw [List.all_cons, List.any_cons, ih]
    cases f c.1 c.2 <;> simp
theorem tile_b {T : Rc} (h : TOk T) : (0 ≤ T.1 ∧ T.1 + T.2.2.1 ≤ 256) ∧ (0 ≤ T.2.1 ∧ T.2.1 + T.2.2.2 ≤ 256) := by
  have h1 := mr_of h.1
  have h2 := mr_of h.2
  omega
theorem cls_i64 {T : Rc} {b : Bl} (ht : TOk T) (h : Fit T b) : ∀ q ∈ cls b, I64 q.1 ∧ I64 q.2 := by
  intro q hq
  obtain ⟨x, y⟩ := q
  have h1 := (mem_cls h x y).1 hq
  have h2 := tile_b ht
  obtain ⟨a1, a2, a3, a4, a5, a6, a7, a8⟩ := h
  unfold inB at h1
  rw [decide_eq_true_eq] at h1
  unfold I64
  simp only
  omega
/-- what a block that fits is, by cells -/
theorem fit_cells {T : Rc} {b : Bl} (ht : TOk T) (h : Fit T b) : ∃ (X Y : Int) (I J : Nat), b.x = 8 * X ∧ b.y = 8 * Y ∧ b.w = 8 * (I : Int) ∧ b.h = 8 * (J : Int) ∧ 0 ≤ X ∧ X ≤ 1000 ∧ 0 ≤ Y ∧ Y ≤ 1000 ∧ I ≤ 8 ∧ J ≤ 8 ∧ clp X Y I J 0 = cls b := by
  have h2 := tile_b ht
  obtain ⟨a1, a2, a3, a4, a5, a6, a7, a8⟩ := h
  exact ⟨b.x / 8, b.y / 8, (b.w / 8).toNat, (b.h / 8).toNat, by omega, by omega, by omega, by omega, by omega, by omega, by omega, by omega, by omega, by omega, (cls_clp b).symm⟩
theorem cellsOf_fit {w : World} {T : Rc} {b : Bl} (ht : TOk T) (h : Fit T b) : Calls Try.prog 26 #[.agg b.cs.toArray] w fun e w' => ∃ a c, e = .returned (.slice a (cls b).length c) ∧ Sc w' a (cls b) ∧ Below w.heap.size w w' := by
  obtain ⟨X, Y, I, J, h1, h2, h3, h4, h5, h6, h7, h8, h9, h10, h11⟩ := fit_cells ht h
  refine (cellsOf_any h1 h2 h3 h4 (by omega) h6 (by omega) h8 h9 h10).mono ?_
  rintro e w' ⟨a, c, rfl, ho, hb⟩
  have hl : (cls b).length = J * I := by rw [← h11, clp_len]; rfl
  exact ⟨a, c, by rw [hl], by rw [← h11]; exact ho.sc, hb⟩
theorem cls_len {T : Rc} {b : Bl} (ht : TOk T) (h : Fit T b) : (cls b).length ≤ 64 := by
  obtain ⟨X, Y, I, J, h1, h2, h3, h4, h5, h6, h7, h8, h9, h10, h11⟩ := fit_cells ht h
  rw [← h11, clp_len]
  have : J * I ≤ 8 * 8 := Nat.mul_le_mul h10 h9
  omega
set_option maxRecDepth 100000 in
set_option maxHeartbeats 4000000 in
theorem mayPut_any {w : World} {p m : Nat} {T : Rc} {v : Value} {L : List Bl} {b : Bl} (hg : Gd w p m T v L) : Calls Try.prog 25 #[.pointer (some ⟨p, 0, none⟩), .agg b.cs.toArray] w fun e w' => e = .returned (.bool (mp T L b)) ∧ Below w.heap.size w w' := by
  have HB : Hid (Below w.heap.size w (w.alloc (.cells b.cs.toArray 40))) := from_alloc _ _
  have HC : Hid (Bc (w.alloc (.cells b.cs.toArray 40)) w.heap.size 0 b) := Bc.box w b
  have HZ : Hid (w.heap.size < (w.alloc (.cells b.cs.toArray 40)).heap.size) := by show _ < _; simp
  have HG : Hid (∀ u, Below w.heap.size w u → Gd u p m T v L) := fun u hb => hg.to hb
  have HS : Hid (∀ u n, Calls Try.prog 45 #[.int .i64 n] u fun e w' => e = .returned (.bool (sdB n)) ∧ u = w') := fun u n => isSide_any
  have HH : Hid (∀ u X Y, Below w.heap.size w u → Calls Try.prog 46 #[.pointer (some ⟨p, 0, none⟩), .int .i64 X, .int .i64 Y] u fun e w' => e = .returned (.bool (hasT T X Y)) ∧ Below u.heap.size u w') := fun u X Y hb => has_any (hg.to hb).cl hg.tok
  have HT : Hid (TOk T) := hg.tok
  have HCO : Hid (∀ u, Fit T b → Calls Try.prog 26 #[.agg b.cs.toArray] u fun e w' => ∃ a c, e = .returned (.slice a (cls b).length c) ∧ Sc w' a (cls b) ∧ Below u.heap.size u w') := fun u h => cellsOf_fit hg.tok h
  have HR : Hid (mp T L b = (decide (b.x % 8 = 0) && (decide (b.y % 8 = 0) && (sdB b.w && (sdB b.h && (hasT T b.x b.y && (hasT T (b.x + b.w - 1) (b.y + b.h - 1) && !(cls b).any fun c => (ow L c.1 c.2).isSome))))))) := by
    show _ = _
    unfold mp fitB
    rw [all_none]
    simp only [Bool.and_assoc]
  have HF : Hid (fitB T b = true → Fit T b) := fit_of
  have HE : Hid (fitB T b = (decide (b.x % 8 = 0) && (decide (b.y % 8 = 0) && (sdB b.w && (sdB b.h && (hasT T b.x b.y && hasT T (b.x + b.w - 1) (b.y + b.h - 1))))))) := rfl
  rw [HR.out]
  clear hg HR
  have HO : Hid (∀ t, t = w.alloc (.cells b.cs.toArray 40) → t = t) := fun _ _ => rfl
  clear HO
  have HRG : Hid (∀ (u : World) (z : Nat), Bc u z 0 b → u.cell? ⟨z, 0, none⟩ = some (.int .i64 b.x) ∧ u.cell? ⟨z, 1, none⟩ = some (.int .i64 b.y) ∧ u.cell? ⟨z, 2, none⟩ = some (.int .i64 b.w) ∧ u.cell? ⟨z, 3, none⟩ = some (.int .i64 b.h)) := fun u z h => by
    have k0 := h.at 0 _ rfl
    have k1 := h.at 1 _ rfl
    have k2 := h.at 2 _ rfl
    have k3 := h.at 3 _ rfl
    exact ⟨by simpa using k0, by simpa using k1, by simpa using k2, by simpa using k3⟩
  obtain ⟨k0, k1, k2, k3⟩ := HRG.out _ _ HC.out
  have HBS : Hid (b.cs.toArray.toList = b.cs) := by show _ = _; simp
  generalize hRR : (decide (b.x % 8 = 0) && (decide (b.y % 8 = 0) && (sdB b.w && (sdB b.h && (hasT T b.x b.y && (hasT T (b.x + b.w - 1) (b.y + b.h - 1) && !(cls b).any fun c => (ow L c.1 c.2).isSome)))))) = R at *
  have HRR : Hid ((decide (b.x % 8 = 0) && (decide (b.y % 8 = 0) && (sdB b.w && (sdB b.h && (hasT T b.x b.y && (hasT T (b.x + b.w - 1) (b.y + b.h - 1) && !(cls b).any fun c => (ow L c.1 c.2).isSome)))))) = R) := hRR
  clear hRR
  generalize hX : b.x = X at *
  generalize hY : b.y = Y at *
  generalize hW : b.w = W at *
  generalize hH : b.h = H at *
  clear hX hY hW hH
  go_enter Try.func25, Try.ntmps25
  go_upto_region 1 with fail
  generalize hV : (w.alloc (.cells b.cs.toArray 40)) = V at *
  clear hV
  generalize hP : w.heap.size = z at *
  have HPz : Hid (w.heap.size = z) := hP
  clear hP
  have t8 : ∀ n : Int, n % 8 = 0 → n.tmod 8 = 0 := fun n h => tmod_yes h
  have n8 : ∀ n : Int, ¬ n % 8 = 0 → (n.tmod 8 != 0) = true := fun n h => tmod_no' h
  have HT8 : Hid _ := t8
  have HN8 : Hid _ := n8
  clear t8 n8
  by_cases h1 : X % 8 = 0
  · rw [decide_eq_true h1] at HRR
    have g1 := HT8.out _ h1
    by_cases h2 : Y % 8 = 0
    · rw [decide_eq_true h2] at HRR
      have g2 := HT8.out _ h2
      have HSw : Hid (∀ u, Calls Try.prog 45 #[.int .i64 W] u fun e w' => e = .returned (.bool (sdB W)) ∧ u = w') := fun u => HS.out u W
      have HSh : Hid (∀ u, Calls Try.prog 45 #[.int .i64 H] u fun e w' => e = .returned (.bool (sdB H)) ∧ u = w') := fun u => HS.out u H
      have H1 : Hid (X % 8 = 0 ∧ Y % 8 = 0) := ⟨h1, h2⟩
      clear h1 h2
      cases e3 : sdB W
      · rw [e3] at HSw HRR
        have HQ : Hid (R = false) := HRR.out.symm
        clear e3
        go_wp2_with (first | ((with_reducible refine (HSw.out _).mono ?_); rintro e w5 ⟨rfl, rfl⟩) | ((with_reducible refine (HSh.out _).mono ?_); rintro e w5 ⟨rfl, rfl⟩))
        go_ret
        exact ⟨by rw [HQ.out]; rfl, by rw [HPz.out]; exact HB.out⟩
      · rw [e3] at HSw
        cases e4 : sdB H
        · rw [e4] at HSh HRR
          rw [e3] at HRR
          have HQ : Hid (R = false) := HRR.out.symm
          clear e3 e4
          go_wp2_with (first | ((with_reducible refine (HSw.out _).mono ?_); rintro e w5 ⟨rfl, rfl⟩) | ((with_reducible refine (HSh.out _).mono ?_); rintro e w5 ⟨rfl, rfl⟩))
          go_ret
          exact ⟨by rw [HQ.out]; rfl, by rw [HPz.out]; exact HB.out⟩
        · rw [e4] at HSh HRR
          rw [e3] at HRR
          have HSD : Hid (sdB W = true ∧ sdB H = true) := ⟨e3, e4⟩
          clear e3 e4
          go_upto_region 3 with (first | ((with_reducible refine (HSw.out _).mono ?_); rintro e w5 ⟨rfl, rfl⟩) | ((with_reducible refine (HSh.out _).mono ?_); rintro e w5 ⟨rfl, rfl⟩))
          cases e5 : hasT T X Y
          · rw [e5] at HRR
            have HQ : Hid (R = false) := HRR.out.symm
            go_wp2_with fail
            refine (HH.out _ X Y HB.out).mono ?_
            rintro e w1 ⟨rfl, hb⟩
            have HB1 : Hid (Below z w w1) := HB.out.trans (hb.mono (Nat.le_of_lt HZ.out))
            rw [e5]
            clear e5 hb k0 k1 k2 k3
            go_wp2_with fail
            go_ret
            exact ⟨by rw [HQ.out]; rfl, by rw [HPz.out]; exact HB1.out⟩
          · rw [e5] at HRR
            have hx := has_of e5
            have hw := sd_of HSD.out.1
            have hh := sd_of HSD.out.2
            have htb := tile_b HT.out
            have bx : 0 ≤ X ∧ X ≤ 256 ∧ 0 ≤ Y ∧ Y ≤ 256 ∧ 8 ≤ W ∧ W ≤ 64 ∧ 8 ≤ H ∧ H ≤ 64 := by omega
            obtain ⟨x0, x1, y0, y1, w0, w1', h0, h1'⟩ := bx
            clear hx hw hh htb
            go_wp2_with fail
            refine (HH.out _ X Y HB.out).mono ?_
            rintro e w1 ⟨rfl, hb⟩
            have HB1 : Hid (Below z w w1) := HB.out.trans (hb.mono (Nat.le_of_lt HZ.out))
            have HC1 : Hid (Bc w1 z 0 b) := HC.out.below hb HZ.out
            have HZ1 : Hid (z < w1.heap.size) := Nat.lt_of_lt_of_le HZ.out hb.size
            rw [e5]
            clear hb k0 k1 k2 k3
            obtain ⟨k0, k1, k2, k3⟩ := HRG.out _ _ HC1.out
            go_wp2_with fail
            refine (HH.out _ _ _ HB1.out).mono ?_
            rintro e w2 ⟨rfl, hb⟩
            have HB2 : Hid (Below z w w2) := HB1.out.trans (hb.mono (Nat.le_of_lt HZ1.out))
            have HC2 : Hid (Bc w2 z 0 b) := HC1.out.below hb HZ1.out
            have HZ2 : Hid (z < w2.heap.size) := Nat.lt_of_lt_of_le HZ1.out hb.size
            clear hb k0 k1 k2 k3
            cases e6 : hasT T (X + W - 1) (Y + H - 1)
            · rw [e6] at HRR
              have HQ : Hid (R = false) := HRR.out.symm
              go_wp2_with fail
              go_ret
              exact ⟨by rw [HQ.out]; rfl, by rw [HPz.out]; exact HB2.out⟩
            · rw [e6] at HRR
              have hfit : Fit T b := HF.out (by rw [HE.out, decide_eq_true H1.out.1, decide_eq_true H1.out.2, HSD.out.1, HSD.out.2, e5, e6]; rfl)
              have HFI : Hid (Fit T b) := hfit
              clear hfit e5 e6
              have HCF : Hid (∀ (u : World) (a : Option Addr) (c : Nat), Below z w u → Sc u a (cls b) → Calls Try.prog 47 #[.slice a (cls b).length c, knF p] u fun e w' => e = .returned (.bool ((cls b).any (fun q => (ow L q.1 q.2).isSome))) ∧ Below u.heap.size u w') := fun u a c hb hs => containsFunc_any (HG.out u hb).c5 (HG.out u hb).map hs rfl (Nat.le_trans (cls_len HT.out HFI.out) (by omega)) (cls_i64 HT.out HFI.out)
              unfold knF at HCF
              go_wp2_with (refine wpList_load_mid (by rfl) 40 _ (by rfl) z 0 (by rfl) b.cs _ HC2.out.rng Try.underlying40 rfl (by rw [Try.info40, Bl.cs_length]) ?_)
              refine (HCO.out _ HFI.out).mono ?_
              rintro e w3 ⟨a, c, rfl, hs, hb⟩
              have HB3 : Hid (Below z w w3) := HB2.out.trans (hb.mono (Nat.le_of_lt HZ2.out))
              have HS3 : Hid (Sc w3 a (cls b)) := hs
              clear hs hb
              have HQ : Hid (R = !(cls b).any fun c => (ow L c.1 c.2).isSome) := HRR.out.symm
              clear HRR
              generalize hq : (cls b).any (fun q => (ow L q.1 q.2).isSome) = q at *
              clear hq
              go_wp2_with fail
              refine (HCF.out _ _ _ HB3.out HS3.out).mono ?_
              rintro e w4 ⟨rfl, hb⟩
              have HB4 : Hid (Below z w w4) := HB3.out.trans (hb.mono (by have := HB3.out.size; rw [HPz.out] at this; exact this))
              clear hb
              go_wp2_with fail
              go_ret
              exact ⟨by rw [HQ.out]; rfl, by rw [HPz.out]; exact HB4.out⟩
    · rw [decide_eq_false h2] at HRR
      have HQ : Hid (R = false) := HRR.out.symm
      have g2 := HN8.out _ h2
      clear h1 h2
      go_wp2_with fail
      go_ret
      exact ⟨by rw [HQ.out]; rfl, by rw [HPz.out]; exact HB.out⟩
  · rw [decide_eq_false h1] at HRR
    have HQ : Hid (R = false) := HRR.out.symm
    have g1 := HN8.out _ h1
    clear h1
    go_wp2_with fail
    go_ret
    exact ⟨by rw [HQ.out]; rfl, by rw [HPz.out]; exact HB.out⟩
end Go.Proofs.Ytppofodijlofdaa
