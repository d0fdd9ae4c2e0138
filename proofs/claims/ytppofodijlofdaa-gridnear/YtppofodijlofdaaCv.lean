/- DERIVED. The walk of GridNear. -/
import Derived.Test.YtppofodijlofdaaCu
namespace Go.Proofs.Ytppofodijlofdaa
open Go.RowKit

theorem near_bc {w : World} {z t : Nat} {N : Nat → Bl} (h : w.heap[z]? = some (.cells (bs [N 0, N 1, N 2, N 3]).toArray t (0, 0))) (k : Nat) (hk : k < 4) : Bc w z (k * 23) (N k) := ⟨fun j v hv => by
  have hj : j < 23 := by have := (List.getElem?_eq_some_iff.1 hv).1; rwa [Bl.cs_length] at this
  have h1 := bs_at [N 0, N 1, N 2, N 3] k j hj (by simpa using hk)
  have h2 : [N 0, N 1, N 2, N 3].getD k bz = N k := by
    match k, hk with
    | 0, _ | 1, _ | 2, _ | 3, _ => rfl
  rw [h2, hv] at h1
  simp only [World.cell?, h]
  simpa using h1⟩
/-- the beginning: two new grids -/
theorem nw_mk {w V a b : World} {p m p' m' : Nat} {N : Nat → Bl} {F : Bl} (hV : Below w.heap.size w V) (hn : ∀ k, k < 4 → Bc V w.heap.size (k * 23) (N k)) (hf : Ob V (w.heap.size + 1) F) (hs : w.heap.size + 2 ≤ V.heap.size)
    (h1 : Gd a p m tA (.slice none 0 0) []) (hp : V.heap.size ≤ p) (hm : V.heap.size ≤ m) (ha : Below V.heap.size V a)
    (h2 : Gd b p' m' tA (.slice none 0 0) []) (hp' : a.heap.size ≤ p') (hm' : a.heap.size ≤ m') (hb : Below a.heap.size a b) :
    Nw w ((b.alloc (.cells #[.int .i64 16, .int .i64 24, .int .i64 32, .int .i64 16] 54)).alloc (.cells #[.int .i64 24, .int .i64 16, .int .i64 16, .int .i64 16] 54)) b.heap.size (b.heap.size + 1) p m p' m' (.slice none 0 0) (.slice none 0 0) N F [] [] := by
  have sa := ha.size
  have sb := hb.size
  have hab : Below V.heap.size V b := ha.trans (hb.mono sa)
  have hx : Below b.heap.size b ((b.alloc (.cells #[.int .i64 16, .int .i64 24, .int .i64 32, .int .i64 16] 54)).alloc (.cells #[.int .i64 24, .int .i64 16, .int .i64 16, .int .i64 16] 54)) := to_alloc (from_alloc _ _) _
  have hx1 : Ri 54 (b.alloc (.cells #[.int .i64 16, .int .i64 24, .int .i64 32, .int .i64 16] 54)) b.heap.size nxs := Ri.built 54 b [16, 24, 32, 16] rfl
  have hg : ∀ i, Gb p m (.slice none 0 0) i → i = p ∨ i = m := fun i hi => by
    rcases hi with h | h | h
    · exact Or.inl h
    · exact Or.inr h
    · cases h
  have hg' : ∀ i, Gb p' m' (.slice none 0 0) i → i = p' ∨ i = m' := fun i hi => by
    rcases hi with h | h | h
    · exact Or.inl h
    · exact Or.inr h
    · cases h
  have l1 := h1.lt
  have l2 := h1.map.lt
  have l3 := h2.lt
  have l4 := h2.map.lt
  exact ⟨(h1.to hb).to hx, h2.to hx, fun i a b => by have := hg i a; have := hg' i b; omega, fun k hk => ((hn k hk).to hab).to hx, (hf.to hab).to hx, hx1.to (from_alloc _ _), Ri.built 54 _ [24, 16, 16, 16] (by simp), (hV.trans (hab.mono (by omega))).trans (hx.mono (by omega)), fun i a => by have := hg i a; omega, fun i a => by have := hg' i a; omega⟩
set_option maxRecDepth 100000 in
set_option maxHeartbeats 8000000 in
theorem near_walk {w : World} {N : Nat → Bl} {nc : Array Value} {F : Bl} {th : Bool} (hnc : nc = (bs [N 0, N 1, N 2, N 3]).toArray) :
    Calls Try.prog 5 #[.agg nc, .agg F.cs.toArray, .bool th] w fun e w' => e = .returned (.bool true) ∧ Below w.heap.size w w' := by
  have HAw : Hid (∀ u, Calls Try.prog 9 #[] u fun e w' => e = .returned (.bool true) ∧ Below u.heap.size u w') := fun u => awake_any
  have HNew : Hid (∀ u, Calls Try.prog 7 #[.agg #[.int .i64 0, .int .i64 0, .int .i64 64, .int .i64 64]] u fun e w' => Nq u w' e tA) := fun u => new_ok (T := tA) tA_ok
  have HPut : Hid (∀ u p m v k, k < 4 → Gd u p m tA v (LN N k) → Calls Try.prog 10 #[.pointer (some ⟨p, 0, none⟩), .agg (nb N k).cs.toArray] u fun e w' => Pq p m tA v (LN N k) (nb N k) u w' e) := fun u p m v k hk h => put_ok h (mpN N k hk) (by unfold LN; rw [List.length_map, List.length_range]; omega)
  have HPuF : Hid (∀ u p m v, Gd u p m tA v (LN N 4) → Calls Try.prog 10 #[.pointer (some ⟨p, 0, none⟩), .agg (fF F).cs.toArray] u fun e w' => Pq p m tA v (LN N 4) (fF F) u w' e) := fun u p m v h => put_ok h (mpF N F) (by unfold LN; rw [List.length_map, List.length_range]; omega)
  have HVe : Hid (∀ u p m v E r, E.length ≤ 1 → 0 ≤ r → r ≤ 2 → Gd u p m tA v (LN N 4 ++ E) → Calls Try.prog 18 #[.pointer (some ⟨p, 0, none⟩), .agg #[.int .i64 24, .int .i64 24, .int .i64 8, .int .i64 8], .int .i64 r] u fun e w' => Vq u w' e (wst N r 4) 0) := fun u p m v E r hE h0 h2 h => by
    have h1 := vecs_ok (H := 8) h ask_n im_n h0 h2 (by rw [List.length_append]; unfold LN; rw [List.length_map, List.length_range]; omega)
    rw [vcsN] at h1
    exact h1
  have HSk : Hid (∀ u p m v E, E.length ≤ 1 → Gd u p m tA v (LN N 4 ++ E) → Calls Try.prog 19 #[.pointer (some ⟨p, 0, none⟩), .int .i64 24, .int .i64 24] u fun e w' => e = .returned (.tuple #[.int .i64 ((ctN (fun b => b.sk) N 4 : Nat) : Int), .int .i64 0]) ∧ Below u.heap.size u w') := fun u p m v E hE h => by
    have h1 := skip_ok h ask_n (by rw [List.length_append]; unfold LN; rw [List.length_map, List.length_range]; omega)
    rw [ct_sum (fun b => b.sk) (fun _ _ => rfl)] at h1
    exact h1
  have HIn : Hid (∀ u p m v E, E.length ≤ 1 → Gd u p m tA v (LN N 4 ++ E) → Calls Try.prog 20 #[.pointer (some ⟨p, 0, none⟩), .int .i64 24, .int .i64 24] u fun e w' => e = .returned (.tuple #[.int .i64 ((ctN (fun b => b.it) N 4 : Nat) : Int), .int .i64 0]) ∧ Below u.heap.size u w') := fun u p m v E hE h => by
    have h1 := inter_ok h ask_n (by rw [List.length_append]; unfold LN; rw [List.length_map, List.length_range]; omega)
    rw [ct_sum (fun b => b.it) (fun _ _ => rfl)] at h1
    exact h1
  have HB0 : Hid (Below w.heap.size w ((w.alloc (.cells nc 53)).alloc (.cells F.cs.toArray 40))) := to_alloc (from_alloc _ _) _
  have HN0 : Hid (∀ k, k < 4 → Bc ((w.alloc (.cells nc 53)).alloc (.cells F.cs.toArray 40)) w.heap.size (k * 23) (N k)) := fun k hk => (near_bc (t := 53) (by rw [← hnc]; exact heap_alloc_new w _) k hk).to (from_alloc _ _)
  have HF0 : Hid (Ob ((w.alloc (.cells nc 53)).alloc (.cells F.cs.toArray 40)) (w.heap.size + 1) F) := Ob.new _ F (by simp)
  have HS0 : Hid (w.heap.size + 2 ≤ ((w.alloc (.cells nc 53)).alloc (.cells F.cs.toArray 40)).heap.size) := by show _ ≤ _; simp
  clear hnc
  go_enter Try.func5, Try.ntmps5
  go_upto_region 1 with fail
  generalize ((w.alloc (.cells nc 53)).alloc (.cells F.cs.toArray 40)) = V at *
  obtain ⟨fc, hfc⟩ : ∃ fc, fc = F.cs.toArray := ⟨_, rfl⟩
  rw [← hfc]
  clear hfc
  go_wp2_with fail
  refine (HAw.out _).mono ?_
  rintro e V1 ⟨rfl, hb⟩
  have HB1 : Hid (Below w.heap.size w V1) := HB0.out.trans (hb.mono HB0.out.size)
  have HN1 : Hid (∀ k, k < 4 → Bc V1 w.heap.size (k * 23) (N k)) := fun k hk => (HN0.out k hk).to hb
  have HF1 : Hid (Ob V1 (w.heap.size + 1) F) := HF0.out.to hb
  have HS1 : Hid (w.heap.size + 2 ≤ V1.heap.size) := Nat.le_trans HS0.out hb.size
  clear hb HB0 HN0 HF0 HS0 HAw
  go_wp2_with fail
  refine (HNew.out _).mono ?_
  rintro e V2 ⟨p, m, rfl, hgd, hp, hm, hb⟩
  have HG2 : Hid (Gd V2 p m tA (.slice none 0 0) []) := hgd
  have HPM : Hid (V1.heap.size ≤ p ∧ V1.heap.size ≤ m ∧ Below V1.heap.size V1 V2) := ⟨hp, hm, hb⟩
  clear hgd hp hm hb
  go_wp2_with fail
  refine (HNew.out _).mono ?_
  rintro e V3 ⟨p', m', rfl, hgd, hp, hm, hb⟩
  have HNw := nw_mk HB1.out HN1.out HF1.out HS1.out HG2.out HPM.out.1 HPM.out.2.1 HPM.out.2.2 hgd hp hm hb
  have HNw0 : Hid _ := HNw
  have HZ3 : Hid (w.heap.size + 2 ≤ V3.heap.size) := Nat.le_trans HS1.out (Nat.le_trans HPM.out.2.2.size hb.size)
  clear HNw hgd hp hm hb HB1 HN1 HF1 HS1 HG2 HPM HNew
  go_upto_region 9 with fail
  generalize ((V3.alloc (.cells #[.int .i64 16, .int .i64 24, .int .i64 32, .int .i64 16] 54)).alloc (.cells #[.int .i64 24, .int .i64 16, .int .i64 16, .int .i64 16] 54)) = V4 at *
  generalize hzx : V3.heap.size = zx at *
  clear hzx
  go_wp2_with fail
  go_loopw [13, 14, 15] (fun sv iv kv wr => ∃ (k : Nat) (v v' : Value), k ≤ 4 ∧ kv = .int .i64 (k : Int) ∧ sv = .int .i64 ((ctN (fun b => b.sk) N k : Nat) : Int) ∧ iv = .int .i64 ((ctN (fun b => b.it) N k : Nat) : Int) ∧ Nw w wr zx (zx + 1) p m p' m' v v' N F (LN N k) (LN N k)) (fun _ _ kv _ => 4 - (intOf kv).toNat)
  case atStart => exact ⟨0, _, _, by omega, by simp, by rfl, by rfl, HNw0.out⟩
  case round =>
    clear HNw0
    obtain ⟨k, v, v', hk, rfl, rfl, rfl, hnw⟩ := hrel
    have HNw : Hid _ := hnw
    clear hnw
    by_cases hlt : k < 4
    · as_aux_lemma =>
      have HK : Hid (k < 4) := hlt
      have k0 : (0 : Int) ≤ (k : Int) := by omega
      have k4 : (k : Int) < 4 := by omega
      have HZr : Hid (w.heap.size + 2 ≤ wr.heap.size) := HNw.out.size
      have HNoG : Hid (∀ i, Gb p m v i → i < wr.heap.size) := fun i hi => HNw.out.gd.blt hi
      have HNoH : Hid (∀ i, Gb p' m' v' i → i < wr.heap.size) := fun i hi => HNw.out.hd.blt hi
      have HOb : Hid (Ob (wr.alloc (.cells bz.cs.toArray 40)) wr.heap.size bz) := Ob.new wr bz rfl
      have HBb : Hid (Below wr.heap.size wr (wr.alloc (.cells bz.cs.toArray 40))) := from_alloc _ _
      have HBk : Hid (Bc wr w.heap.size (k * 23) (N k)) := HNw.out.nb k hlt
      have zx1 := HNw.out.xs.lt
      have zy1 := HNw.out.ys.lt
      have hz1 : ¬ wr.heap.size = zx := by omega
      have hz2 : ¬ zx = wr.heap.size := by omega
      have hz3 : ¬ wr.heap.size = zx + 1 := by omega
      have hz4 : ¬ zx + 1 = wr.heap.size := by omega
      have hT1 : ctN (fun b => b.sk) N (k + 1) = ctN (fun b => b.sk) N k + (if k < 2 ∧ (N k).sk = true then 1 else 0) := rfl
      have hT2 : ctN (fun b => b.it) N (k + 1) = ctN (fun b => b.it) N k + (if k < 2 ∧ (N k).it = true then 1 else 0) := rfl
      have hS1 := ctN_le (fun b => b.sk) N k
      have hS2 := ctN_le (fun b => b.it) N k
      have s1 : ((ctN (fun b => b.sk) N k : Nat) : Int) ≤ 4 := by omega
      have s2 : ((ctN (fun b => b.it) N k : Nat) : Int) ≤ 4 := by omega
      have s1' : (0 : Int) ≤ ((ctN (fun b => b.sk) N k : Nat) : Int) := by omega
      have s2' : (0 : Int) ≤ ((ctN (fun b => b.it) N k : Nat) : Int) := by omega
      have HT1 : Hid _ := hT1
      have HT2 : Hid _ := hT2
      clear hT1 hT2 hS1 hS2 zx1 zy1 hlt hk
      generalize ctN (fun b => b.sk) N k = ns at *
      generalize ctN (fun b => b.it) N k = ni at *
      have HFr : Hid (∀ u, Below wr.heap.size wr u → Nw w u zx (zx + 1) p m p' m' v v' N F (LN N k) (LN N k)) := fun u hb => HNw.out.to hb
      go_upto_region 14 with (first | (refine wpList_load_block (by rfl) _ (by rfl) w.heap.size (k * 23) (by rfl) (N k) HBk.out ?_) | (refine wpList_store_block (by rfl) _ _ (by rfl) wr.heap.size bz (N k) HOb.out (by rfl) (by rfl) ?_; intro w2 hob hsw; have HO2 : Hid (Ob w2 wr.heap.size (N k)) := hob; have HB2 : Hid (Below wr.heap.size wr w2) := hsw.below HBb.out (Nat.le_refl _); clear hob hsw))
      have qx := (HFr.out _ HB2.out).xs.cell k (by show k < 4; exact HK.out)
      have qy := (HFr.out _ HB2.out).ys.cell k (by show k < 4; exact HK.out)
      obtain ⟨x, hx⟩ : ∃ x, nxs.getD k 0 = x := ⟨_, rfl⟩
      obtain ⟨y, hy⟩ : ∃ y, nys.getD k 0 = y := ⟨_, rfl⟩
      rw [hx] at qx
      rw [hy] at qy
      have HX : Hid (nxs.getD k 0 = x) := hx
      have HY : Hid (nys.getD k 0 = y) := hy
      clear hx hy HOb HBb HBk HNw
      have d0 := HO2.out.c 0 _ rfl
      have d1 := HO2.out.c 1 _ rfl
      have d2 := HO2.out.c 2 _ rfl
      have d3 := HO2.out.c 3 _ rfl
      have f0 := HO2.out.thaw 0
      have f1 := HO2.out.thaw 1
      have f2 := HO2.out.thaw 2
      have f3 := HO2.out.thaw 3
      have HO5 : Hid (Ob ((((w2.setCell ⟨wr.heap.size, 0, none⟩ (.int .i64 x)).setCell ⟨wr.heap.size, 1, none⟩ (.int .i64 y)).setCell ⟨wr.heap.size, 2, none⟩ (.int .i64 8)).setCell ⟨wr.heap.size, 3, none⟩ (.int .i64 8)) wr.heap.size (nb N k)) := by
        have := (((HO2.out.fx x).fy y).fw 8).fh 8
        show Ob _ _ _
        unfold nb
        rw [HX.out, HY.out]
        exact this
      have HB5 : Hid (Below wr.heap.size wr ((((w2.setCell ⟨wr.heap.size, 0, none⟩ (.int .i64 x)).setCell ⟨wr.heap.size, 1, none⟩ (.int .i64 y)).setCell ⟨wr.heap.size, 2, none⟩ (.int .i64 8)).setCell ⟨wr.heap.size, 3, none⟩ (.int .i64 8))) := below_set (below_set (below_set (below_set HB2.out (Nat.le_refl _) _) (Nat.le_refl _) _) (Nat.le_refl _) _) (Nat.le_refl _) _
      go_upto_region 18 with fail
      generalize ((((w2.setCell ⟨wr.heap.size, 0, none⟩ (.int .i64 x)).setCell ⟨wr.heap.size, 1, none⟩ (.int .i64 y)).setCell ⟨wr.heap.size, 2, none⟩ (.int .i64 8)).setCell ⟨wr.heap.size, 3, none⟩ (.int .i64 8)) = w5 at *
      have HNw5 : Hid (Nw w w5 zx (zx + 1) p m p' m' v v' N F (LN N k) (LN N k)) := HFr.out _ HB5.out
      clear d0 d1 d2 d3 f0 f1 f2 f3 qx qy hz1 hz2 hz3 hz4 HO2 HB2 HX HY HFr HB5
      generalize wr.heap.size = zb at *
      go_wp2_with (refine wpList_load_block (by rfl) _ (by rfl) zb 0 (by rfl) (nb N k) HO5.out.bc ?_)
      refine (HPut.out _ _ _ _ _ HK.out HNw5.out.gd).mono ?_
      rintro e wa ⟨rfl, v2, hgd, hgt⟩
      have HNw6 : Hid (Nw w wa zx (zx + 1) p m p' m' v2 v' N F (LN N k ++ [nb N k]) (LN N k)) := HNw5.out.putg hgd hgt
      have HO6 : Hid (Ob wa zb (nb N k)) := HO5.out.carry (hgt.block zb HO5.out.lt (fun q => by have := HNoG.out zb q; omega))
      clear hgd hgt HNw5 HO5 HNoG
      go_wp2_with (refine wpList_load_block (by rfl) _ (by rfl) zb 0 (by rfl) (nb N k) HO6.out.bc ?_)
      refine (HPut.out _ _ _ _ _ HK.out HNw6.out.hd).mono ?_
      rintro e wb ⟨rfl, v3, hgd, hgt⟩
      have HNw7 : Hid (Nw w wb zx (zx + 1) p m p' m' v2 v3 N F (LN N (k + 1)) (LN N (k + 1))) := by
        show Nw _ _ _ _ _ _ _ _ _ _ _ _ _ _
        rw [LN_succ]
        exact HNw6.out.puth hgd hgt
      have HO7 : Hid (Ob wb zb (nb N k)) := HO6.out.carry (hgt.block zb HO6.out.lt (fun q => by have := HNoH.out zb q; omega))
      clear hgd hgt HNw6 HO6 HNoH
      have g4 : wb.cell? ⟨zb, 4, none⟩ = some (.bool (N k).sk) := HO7.out.c 4 _ rfl
      have g5 : wb.cell? ⟨zb, 5, none⟩ = some (.bool (N k).it) := HO7.out.c 5 _ rfl
      obtain ⟨T1, hT1⟩ : ∃ T1, ctN (fun b => b.sk) N (k + 1) = T1 := ⟨_, rfl⟩
      obtain ⟨T2, hT2⟩ : ∃ T2, ctN (fun b => b.it) N (k + 1) = T2 := ⟨_, rfl⟩
      rw [hT1] at HT1
      rw [hT2] at HT2
      have HT1' : Hid (ctN (fun b => b.sk) N (k + 1) = T1) := hT1
      have HT2' : Hid (ctN (fun b => b.it) N (k + 1) = T2) := hT2
      clear hT1 hT2
      by_cases h2 : (k : Int) < 2
      · have h2' : k < 2 := by omega
        cases hs : (N k).sk
        · rw [hs] at g4 HT1
          cases hi : (N k).it
          · as_aux_lemma =>
            rw [hi] at g5 HT2
            have HT1a : Hid (T1 = ns) := by show _ = _; rw [HT1.out]; simp
            have HT2a : Hid (T2 = ni) := by show _ = _; rw [HT2.out]; simp
            clear HT1 HT2 hs hi h2'
            go_wp2_with fail
            go_roundw
            case rel => exact ⟨k + 1, v2, v3, by have := HK.out; omega, by go_num, by rw [HT1'.out, HT1a.out] <;> go_num, by rw [HT2'.out, HT2a.out] <;> go_num, HNw7.out⟩
            case measure => have := HK.out; simp [intOf]; omega
          · as_aux_lemma =>
            rw [hi] at g5 HT2
            have HT1a : Hid (T1 = ns) := by show _ = _; rw [HT1.out]; simp
            have HT2a : Hid (T2 = ni + 1) := by show _ = _; rw [HT2.out]; simp [h2']
            clear HT1 HT2 hs hi h2'
            go_wp2_with fail
            go_roundw
            case rel => exact ⟨k + 1, v2, v3, by have := HK.out; omega, by go_num, by rw [HT1'.out, HT1a.out] <;> go_num, by rw [HT2'.out, HT2a.out] <;> go_num, HNw7.out⟩
            case measure => have := HK.out; simp [intOf]; omega
        · rw [hs] at g4 HT1
          cases hi : (N k).it
          · as_aux_lemma =>
            rw [hi] at g5 HT2
            have HT1a : Hid (T1 = ns + 1) := by show _ = _; rw [HT1.out]; simp [h2']
            have HT2a : Hid (T2 = ni) := by show _ = _; rw [HT2.out]; simp
            clear HT1 HT2 hs hi h2'
            go_wp2_with fail
            go_roundw
            case rel => exact ⟨k + 1, v2, v3, by have := HK.out; omega, by go_num, by rw [HT1'.out, HT1a.out] <;> go_num, by rw [HT2'.out, HT2a.out] <;> go_num, HNw7.out⟩
            case measure => have := HK.out; simp [intOf]; omega
          · as_aux_lemma =>
            rw [hi] at g5 HT2
            have HT1a : Hid (T1 = ns + 1) := by show _ = _; rw [HT1.out]; simp [h2']
            have HT2a : Hid (T2 = ni + 1) := by show _ = _; rw [HT2.out]; simp [h2']
            clear HT1 HT2 hs hi h2'
            go_wp2_with fail
            go_roundw
            case rel => exact ⟨k + 1, v2, v3, by have := HK.out; omega, by go_num, by rw [HT1'.out, HT1a.out] <;> go_num, by rw [HT2'.out, HT2a.out] <;> go_num, HNw7.out⟩
            case measure => have := HK.out; simp [intOf]; omega
      · as_aux_lemma =>
        have h2' : ¬ k < 2 := by omega
        have HT1a : Hid (T1 = ns) := by show _ = _; rw [HT1.out]; simp [h2']
        have HT2a : Hid (T2 = ni) := by show _ = _; rw [HT2.out]; simp [h2']
        clear HT1 HT2 h2'
        go_wp2_with fail
        go_roundw
        case rel => exact ⟨k + 1, v2, v3, by have := HK.out; omega, by go_num, by rw [HT1'.out, HT1a.out] <;> go_num, by rw [HT2'.out, HT2a.out] <;> go_num, HNw7.out⟩
        case measure => have := HK.out; simp [intOf]; omega
    · as_aux_lemma =>
      obtain rfl : k = 4 := by omega
      rw [show ((4 : Nat) : Int) = 4 from rfl]
      clear hlt hk
      have HOf : Hid (Ob wr (w.heap.size + 1) F) := HNw.out.fb
      have d0 := HOf.out.c 0 _ rfl
      have d1 := HOf.out.c 1 _ rfl
      have d2 := HOf.out.c 2 _ rfl
      have d3 := HOf.out.c 3 _ rfl
      have f0 := HOf.out.thaw 0
      have f1 := HOf.out.thaw 1
      have f2 := HOf.out.thaw 2
      have f3 := HOf.out.thaw 3
      have HO5 : Hid (Ob ((((wr.setCell ⟨w.heap.size + 1, 0, none⟩ (.int .i64 48)).setCell ⟨w.heap.size + 1, 1, none⟩ (.int .i64 40)).setCell ⟨w.heap.size + 1, 2, none⟩ (.int .i64 8)).setCell ⟨w.heap.size + 1, 3, none⟩ (.int .i64 8)) (w.heap.size + 1) (fF F)) := (((HOf.out.fx 48).fy 40).fw 8).fh 8
      have HNwF : Hid (Nw w ((((wr.setCell ⟨w.heap.size + 1, 0, none⟩ (.int .i64 48)).setCell ⟨w.heap.size + 1, 1, none⟩ (.int .i64 40)).setCell ⟨w.heap.size + 1, 2, none⟩ (.int .i64 8)).setCell ⟨w.heap.size + 1, 3, none⟩ (.int .i64 8)) zx (zx + 1) p m p' m' v v' N (fF F) (LN N 4) (LN N 4)) := HNw.out.far HO5.out ((((Sw.set _ _ 0 _).trans (Sw.set _ _ 1 _)).trans (Sw.set _ _ 2 _)).trans (Sw.set _ _ 3 _)) (by have := HZ3.out; omega) (by have := HZ3.out; omega)
      go_upto_region 28 with fail
      generalize ((((wr.setCell ⟨w.heap.size + 1, 0, none⟩ (.int .i64 48)).setCell ⟨w.heap.size + 1, 1, none⟩ (.int .i64 40)).setCell ⟨w.heap.size + 1, 2, none⟩ (.int .i64 8)).setCell ⟨w.heap.size + 1, 3, none⟩ (.int .i64 8)) = w5 at *
      clear d0 d1 d2 d3 f0 f1 f2 f3 HOf HNw
      go_cut [112] (fun s T => ∃ (v2 : Value) (E : List Bl), s = .bool false ∧ E.length ≤ 1 ∧ Nw w T zx (zx + 1) p m p' m' v v2 N (fF F) (LN N 4) (LN N 4 ++ E))
      case first =>
        cases th
        · go_wp2_with fail
          go_meet
          exact ⟨v', [], rfl, by simp, by rw [List.append_nil]; exact HNwF.out⟩
        · as_aux_lemma =>
          go_wp2_with (refine wpList_load_block (by rfl) _ (by rfl) (w.heap.size + 1) 0 (by rfl) (fF F) HO5.out.bc ?_)
          refine (HPuF.out _ _ _ _ HNwF.out.hd).mono ?_
          rintro e wa ⟨rfl, v2, hgd, hgt⟩
          have HNwa : Hid (Nw w wa zx (zx + 1) p m p' m' v v2 N (fF F) (LN N 4) (LN N 4 ++ [fF F])) := HNwF.out.puth hgd hgt
          clear hgd hgt
          go_wp2_with fail
          go_meet
          exact ⟨v2, [fF F], rfl, by simp, HNwa.out⟩
      obtain ⟨v2, E, rfl, hE, hnw⟩ := hcut
      have HE : Hid (E.length ≤ 1) := hE
      have HNwc : Hid (Nw w wc zx (zx + 1) p m p' m' v v2 N (fF F) (LN N 4) (LN N 4 ++ E)) := hnw
      clear hE hnw HNwF HO5 HPut HPuF
      have HVg : Hid (∀ (u : World) (r : Int), 0 ≤ r → r ≤ 2 → Gd u p m tA v (LN N 4) → Calls Try.prog 18 #[.pointer (some ⟨p, 0, none⟩), .agg #[.int .i64 24, .int .i64 24, .int .i64 8, .int .i64 8], .int .i64 r] u fun e w' => Vq u w' e (wst N r 4) 0) := fun u r h0 h2 h => HVe.out u p m v [] r (by simp) h0 h2 (by rw [List.append_nil]; exact h)
      have HVh : Hid (∀ (u : World) (r : Int), 0 ≤ r → r ≤ 2 → Gd u p' m' tA v2 (LN N 4 ++ E) → Calls Try.prog 18 #[.pointer (some ⟨p', 0, none⟩), .agg #[.int .i64 24, .int .i64 24, .int .i64 8, .int .i64 8], .int .i64 r] u fun e w' => Vq u w' e (wst N r 4) 0) := fun u r h0 h2 h => HVe.out u p' m' v2 E r HE.out h0 h2 h
      clear HVe
      generalize wc = wq at *
      obtain ⟨n1, hn1⟩ : ∃ n1 : Int, ((ctN (fun b => b.sk) N 4 : Nat) : Int) = n1 := ⟨_, rfl⟩
      obtain ⟨n2, hn2⟩ : ∃ n2 : Int, ((ctN (fun b => b.it) N 4 : Nat) : Int) = n2 := ⟨_, rfl⟩
      rw [hn1] at HSk
      rw [hn2] at HIn
      rw [hn1, hn2]
      clear hn1 hn2
      go_wp2_with fail
      go_loopw [17] (fun rv wr => ∃ r : Nat, r ≤ 3 ∧ rv = .int .i64 (r : Int) ∧ Nw w wr zx (zx + 1) p m p' m' v v2 N (fF F) (LN N 4) (LN N 4 ++ E)) (fun rv _ => 3 - (intOf rv).toNat)
      case atStart => exact ⟨0, by omega, by simp, HNwc.out⟩
      case round =>
        clear HNwc
        obtain ⟨r, hr, rfl, hnw⟩ := hrel
        generalize wr = wo at *
        have HNw2 : Hid (Nw w wo zx (zx + 1) p m p' m' v v2 N (fF F) (LN N 4) (LN N 4 ++ E)) := hnw
        clear hnw
        by_cases hlt : r < 3
        · as_aux_lemma =>
          have HRr : Hid (r < 3) := hlt
          have r0 : (0 : Int) ≤ (r : Int) := by omega
          have r3 : (r : Int) < 3 := by omega
          clear hlt hr
          have HFr : Hid (∀ u, Below wo.heap.size wo u → Nw w u zx (zx + 1) p m p' m' v v2 N (fF F) (LN N 4) (LN N 4 ++ E)) := fun u hb => HNw2.out.to hb
          have HR0 : Hid (Ri 38 (wo.alloc (.cells #[.int .i64 0, .int .i64 0, .int .i64 0, .int .i64 0] 38)) wo.heap.size (vc [])) := Ri.built 38 wo [0, 0, 0, 0] rfl
          have HBx0 : Hid (Below wo.heap.size wo (wo.alloc (.cells #[.int .i64 0, .int .i64 0, .int .i64 0, .int .i64 0] 38))) := from_alloc _ _
          have HZx0 : Hid (wo.heap.size < (wo.alloc (.cells #[.int .i64 0, .int .i64 0, .int .i64 0, .int .i64 0] 38)).heap.size) := by show _ < _; simp
          go_upto_region 34 with fail
          generalize (wo.alloc (.cells #[.int .i64 0, .int .i64 0, .int .i64 0, .int .i64 0] 38)) = wx0 at *
          generalize hzw : wo.heap.size = zw at *
          have HZW : Hid (wo.heap.size = zw) := hzw
          clear hzw
          go_wp2_with fail
          go_loopw [19, 20] (fun nv kv wx => ∃ k : Nat, k ≤ 4 ∧ kv = .int .i64 (k : Int) ∧ nv = .int .i64 ((wst N (r : Int) k).length : Int) ∧ Ri 38 wx zw (vc (wst N (r : Int) k)) ∧ Below zw wo wx ∧ zw < wx.heap.size) (fun _ kv _ => 4 - (intOf kv).toNat)
          case atStart => exact ⟨0, by omega, by simp, by rfl, HR0.out, HBx0.out, HZx0.out⟩
          case round =>
            clear HR0 HBx0 HZx0
            obtain ⟨k, hk, rfl, rfl, hri, hbx, hzx⟩ := hrel
            have HRx : Hid _ := hri
            have HBx : Hid (Below zw wo wr) := hbx
            have HZx : Hid (zw < wr.heap.size) := hzx
            have HZr : Hid (wo.heap.size ≤ wr.heap.size) := hbx.size
            clear hri hbx hzx
            by_cases hlt : k < 4
            · as_aux_lemma =>
              have HK : Hid (k < 4) := hlt
              have k0 : (0 : Int) ≤ (k : Int) := by omega
              have k4 : (k : Int) < 4 := by omega
              have HNx : Hid (wst N (r : Int) (k + 1) = vadd (wst N (r : Int) k) (vo (N k) (r : Int))) := rfl
              have HLe : Hid ((wst N (r : Int) k).length ≤ 2) := wst_le N (r : Int) k
              obtain ⟨s', hs'⟩ : ∃ s', wst N (r : Int) (k + 1) = s' := ⟨_, rfl⟩
              have HS' : Hid (wst N (r : Int) (k + 1) = s') := hs'
              rw [hs'] at HNx
              generalize hsk : wst N (r : Int) k = s at *
              have HSK : Hid (wst N (r : Int) k = s) := hsk
              clear hs' hsk hlt hk
              generalize hln : (s.length : Int) = ln at *
              have HLN : Hid ((s.length : Int) = ln) := hln
              clear hln
              have HBk : Hid (Bc wr w.heap.size (k * 23) (N k)) := (HFr.out _ HBx.out).nb k HK.out
              have HOb : Hid (Ob (wr.alloc (.cells bz.cs.toArray 40)) wr.heap.size bz) := Ob.new wr bz rfl
              have HBb : Hid (Below wr.heap.size wr (wr.alloc (.cells bz.cs.toArray 40))) := from_alloc _ _
              go_upto_region 39 with (first | (refine wpList_load_block (by rfl) _ (by rfl) w.heap.size (k * 23) (by rfl) (N k) HBk.out ?_) | (refine wpList_store_block (by rfl) _ _ (by rfl) wr.heap.size bz (N k) HOb.out (by rfl) (by rfl) ?_; intro w2 hob hsw; have HO2 : Hid (Ob w2 wr.heap.size (N k)) := hob; have HB2 : Hid (Below wr.heap.size wr w2) := hsw.below HBb.out (Nat.le_refl _); clear hob hsw))
              have HZb : Hid (zw < wr.heap.size ∧ wr.heap.size < w2.heap.size) := ⟨HZx.out, HO2.out.lt⟩
              have HR2 : Hid (Ri 38 w2 zw (vc s)) := HRx.out.to HB2.out
              have HB3 : Hid (Below zw wo w2) := HBx.out.trans (HB2.out.mono (Nat.le_of_lt HZx.out))
              clear HBk HOb HBb HRx HBx HZx HB2
              generalize wr.heap.size = zb at *
              have HR3 : Hid (Ri 38 (w2.alloc (.cells #[.int .i64 (N k).u0, .int .i64 (N k).u1] 37)) zw (vc s)) := HR2.out.to (from_alloc _ _)
              have HO3 : Hid (Ob (w2.alloc (.cells #[.int .i64 (N k).u0, .int .i64 (N k).u1] 37)) zb (N k)) := HO2.out.to (from_alloc _ _)
              have HU3 : Hid (Ri 37 (w2.alloc (.cells #[.int .i64 (N k).u0, .int .i64 (N k).u1] 37)) w2.heap.size [(N k).u0, (N k).u1]) := Ri.built 37 w2 [(N k).u0, (N k).u1] rfl
              have HB4 : Hid (Below zw wo (w2.alloc (.cells #[.int .i64 (N k).u0, .int .i64 (N k).u1] 37))) := below_alloc HB3.out (Nat.le_of_eq HZW.out.symm) _
              have HZ4 : Hid (w2.heap.size < (w2.alloc (.cells #[.int .i64 (N k).u0, .int .i64 (N k).u1] 37)).heap.size) := by show _ < _; simp
              obtain ⟨c5, c13, c14, c15, c17, c18, c19, c20⟩ := HO2.out.bc.vec
              go_upto_region 40 with fail
              generalize (w2.alloc (.cells #[.int .i64 (N k).u0, .int .i64 (N k).u1] 37)) = w3 at *
              clear c5 c13 c14 c15 c17 c18 c19 c20 HO2 HR2 HB3
              generalize w2.heap.size = zu at *
              obtain ⟨c5, c13, c14, c15, c17, c18, c19, c20⟩ := HO3.out.bc.vec
              have e0 := HU3.out.cell 0 (by simp)
              have e1 := HU3.out.cell 1 (by simp)
              have g0 := HU3.out.thaw 0
              have g1 := HU3.out.thaw 1
              simp only [List.getD_cons_zero, List.getD_cons_succ] at e0 e1
              generalize hlo : N k = l at *
              clear hlo
              by_cases hr : l.r0 = (r : Int)
              · as_aux_lemma =>
                have hr' : (l.r0 != (r : Int)) = false := by simp [hr]
                have hr2 : (l.r0 == (r : Int)) = true := by simp [hr]
                have HRi : Hid (Ri 38 w3 zw (vc s)) := HR3.out
                have HBw : Hid (Below zw wo w3) := HB4.out
                have HZw : Hid (zw < w3.heap.size) := by have := HZb.out; have := HZ4.out; show _ < _; omega
                cases hi : l.it
                · as_aux_lemma =>
                  rw [hi] at c5
                  have hv : vo l (r : Int) = none := by unfold vo; rw [hi]; rfl
                  rw [hv] at HNx
                  have HR : Hid (s' = s) := HNx.out
                  clear HNx hv hr hi
                  go_wp2_with fail
                  go_roundw
                  case rel => exact ⟨k + 1, by have := HK.out; omega, by go_num, by rw [HS'.out, HR.out, HLN.out], by rw [HS'.out, HR.out]; exact HRi.out, HBw.out, HZw.out⟩
                  case measure => have := HK.out; simp [intOf]; omega
                · as_aux_lemma =>
                  rw [hi] at c5
                  have hv : vo l (r : Int) = some (l.u0, l.u1) := by unfold vo; rw [hi, if_pos rfl, if_pos hr]
                  rw [hv] at HNx
                  have HX2 := HNx
                  clear HNx hv hr hi
                  match s, HRi, HX2, HSK, HLe, HLN with
                  | [], HRi, HX2, HSK, HLe, HLN =>
                    as_aux_lemma =>
                    obtain rfl : ln = 0 := by rw [← HLN.out]; rfl
                    have HR : Hid (s' = [(l.u0, l.u1)]) := HX2.out
                    have y0 := HRi.out.thaw 0
                    have y1 := HRi.out.thaw 1
                    have h0 := HRi.out.cell 0 (by rw [vc_len]; omega)
                    have h1 := HRi.out.cell 1 (by rw [vc_len]; omega)
                    have HF2 : Hid (Ri 38 ((w3.setCell ⟨zw, 0, none⟩ (.int .i64 l.u0)).setCell ⟨zw, 1, none⟩ (.int .i64 l.u1)) zw (vc [(l.u0, l.u1)])) := (HRi.out.set 0 l.u0).set 1 l.u1
                    have HB2 : Hid (Below zw wo ((w3.setCell ⟨zw, 0, none⟩ (.int .i64 l.u0)).setCell ⟨zw, 1, none⟩ (.int .i64 l.u1))) := below_set (below_set HBw.out (Nat.le_refl _) _) (Nat.le_refl _) _
                    clear HX2 HLe HLN
                    go_wp2_with fail
                    go_roundw
                    case rel => exact ⟨k + 1, by have := HK.out; omega, by go_num, by rw [HS'.out, HR.out]; rfl, by rw [HS'.out, HR.out]; exact HF2.out, HB2.out, by simpa using HZw.out⟩
                    case measure => have := HK.out; simp [intOf]; omega
                  | [u], HRi, HX2, HSK, HLe, HLN =>
                    as_aux_lemma =>
                    obtain rfl : ln = 1 := by rw [← HLN.out]; rfl
                    obtain ⟨u0, u1⟩ := u
                    have h0 : w3.cell? ⟨zw, 0, none⟩ = some (.int .i64 u0) := HRi.out.cell 0 (by rw [vc_len]; omega)
                    have h1 : w3.cell? ⟨zw, 1, none⟩ = some (.int .i64 u1) := HRi.out.cell 1 (by rw [vc_len]; omega)
                    have hE := fun t => eqv l.u0 l.u1 u0 u1 t
                    by_cases he : (l.u0, l.u1) = (u0, u1)
                    · as_aux_lemma =>
                      rw [decide_eq_true he] at hE
                      have HR : Hid (s' = [(u0, u1)]) := by show _ = _; rw [HX2.out]; show (if (l.u0, l.u1) = (u0, u1) then _ else _) = _; rw [if_pos he]
                      clear HX2 HLe he
                      go_wp2_with fail
                      go_roundw
                      case rel => exact ⟨k + 1, by have := HK.out; omega, by go_num, by rw [HS'.out, HR.out]; rfl, by rw [HS'.out, HR.out]; exact HRi.out, HBw.out, HZw.out⟩
                      case measure => have := HK.out; simp [intOf]; omega
                    · as_aux_lemma =>
                      rw [decide_eq_false he] at hE
                      have HR : Hid (s' = [(u0, u1), (l.u0, l.u1)]) := by show _ = _; rw [HX2.out]; show (if (l.u0, l.u1) = (u0, u1) then _ else _) = _; rw [if_neg he]
                      have y2 := HRi.out.thaw 2
                      have y3 := HRi.out.thaw 3
                      have h2 := HRi.out.cell 2 (by rw [vc_len]; omega)
                      have h3 := HRi.out.cell 3 (by rw [vc_len]; omega)
                      have HF2 : Hid (Ri 38 ((w3.setCell ⟨zw, 2, none⟩ (.int .i64 l.u0)).setCell ⟨zw, 3, none⟩ (.int .i64 l.u1)) zw (vc [(u0, u1), (l.u0, l.u1)])) := (HRi.out.set 2 l.u0).set 3 l.u1
                      have HB2 : Hid (Below zw wo ((w3.setCell ⟨zw, 2, none⟩ (.int .i64 l.u0)).setCell ⟨zw, 3, none⟩ (.int .i64 l.u1))) := below_set (below_set HBw.out (Nat.le_refl _) _) (Nat.le_refl _) _
                      clear HX2 HLe he
                      go_wp2_with fail
                      go_roundw
                      case rel => exact ⟨k + 1, by have := HK.out; omega, by go_num, by rw [HS'.out, HR.out]; rfl, by rw [HS'.out, HR.out]; exact HF2.out, HB2.out, by simpa using HZw.out⟩
                      case measure => have := HK.out; simp [intOf]; omega
                  | [u, u'], HRi, HX2, HSK, HLe, HLN =>
                    as_aux_lemma =>
                    obtain rfl : ln = 2 := by rw [← HLN.out]; rfl
                    have HR : Hid (s' = [u, u']) := HX2.out
                    clear HX2 HLe HLN
                    go_wp2_with fail
                    go_roundw
                    case rel => exact ⟨k + 1, by have := HK.out; omega, by go_num, by rw [HS'.out, HR.out]; rfl, by rw [HS'.out, HR.out]; exact HRi.out, HBw.out, HZw.out⟩
                    case measure => have := HK.out; simp [intOf]; omega
                  | _ :: _ :: _ :: _, _, _, _, HLe, _ => have := HLe.out; simp at this
              · as_aux_lemma =>
                have hr' : (l.r0 != (r : Int)) = true := by rw [bne_iff_ne]; exact hr
                have hr2 : (l.r0 == (r : Int)) = false := by rw [beq_eq_false_iff_ne]; exact hr
                have hnb : zb ≠ zu := by have := HZb.out; omega
                have hnw : zw ≠ zu := by have := HZb.out; omega
                have HU4 : Hid (Ri 37 ((w3.setCell ⟨zu, 0, none⟩ (.int .i64 l.u2)).setCell ⟨zu, 1, none⟩ (.int .i64 l.u3)) zu [l.u2, l.u3]) := (HU3.out.set 0 l.u2).set 1 l.u3
                have HRi : Hid (Ri 38 ((w3.setCell ⟨zu, 0, none⟩ (.int .i64 l.u2)).setCell ⟨zu, 1, none⟩ (.int .i64 l.u3)) zw (vc s)) := (HR3.out.far hnw _).far hnw _
                have HO4 : Hid (Ob ((w3.setCell ⟨zu, 0, none⟩ (.int .i64 l.u2)).setCell ⟨zu, 1, none⟩ (.int .i64 l.u3)) zb l) := (HO3.out.carry (Below.heap_setCell _ _ _ _ hnb)).carry (Below.heap_setCell _ _ _ _ hnb)
                have HBw : Hid (Below zw wo ((w3.setCell ⟨zu, 0, none⟩ (.int .i64 l.u2)).setCell ⟨zu, 1, none⟩ (.int .i64 l.u3))) := below_set (below_set HB4.out (by have := HZb.out; show zw ≤ zu; omega) _) (by have := HZb.out; show zw ≤ zu; omega) _
                have HZw : Hid (zw < ((w3.setCell ⟨zu, 0, none⟩ (.int .i64 l.u2)).setCell ⟨zu, 1, none⟩ (.int .i64 l.u3)).heap.size) := by have := HZb.out; have := HZ4.out; show _ < _; simp; omega
                go_upto_region 42 with fail
                generalize ((w3.setCell ⟨zu, 0, none⟩ (.int .i64 l.u2)).setCell ⟨zu, 1, none⟩ (.int .i64 l.u3)) = w4 at *
                clear c5 c13 c14 c15 c17 c18 c19 c20 e0 e1 g0 g1 HU3 HR3 HO3 HB4
                obtain ⟨c5, c13, c14, c15, c17, c18, c19, c20⟩ := HO4.out.bc.vec
                have e0 := HU4.out.cell 0 (by simp)
                have e1 := HU4.out.cell 1 (by simp)
                simp only [List.getD_cons_zero, List.getD_cons_succ] at e0 e1
                cases hi : l.it
                · as_aux_lemma =>
                  rw [hi] at c5
                  have hv : vo l (r : Int) = none := by unfold vo; rw [hi]; rfl
                  rw [hv] at HNx
                  have HR : Hid (s' = s) := HNx.out
                  clear HNx hv hr hi
                  go_wp2_with fail
                  go_roundw
                  case rel => exact ⟨k + 1, by have := HK.out; omega, by go_num, by rw [HS'.out, HR.out, HLN.out], by rw [HS'.out, HR.out]; exact HRi.out, HBw.out, HZw.out⟩
                  case measure => have := HK.out; simp [intOf]; omega
                · as_aux_lemma =>
                  rw [hi] at c5
                  cases hcp : l.cp
                  · as_aux_lemma =>
                    rw [hcp] at c13
                    have hv : vo l (r : Int) = none := by unfold vo; rw [hi, if_pos rfl, if_neg hr, hcp]; rfl
                    rw [hv] at HNx
                    have HR : Hid (s' = s) := HNx.out
                    clear HNx hv hr hi hcp
                    go_wp2_with fail
                    go_roundw
                    case rel => exact ⟨k + 1, by have := HK.out; omega, by go_num, by rw [HS'.out, HR.out, HLN.out], by rw [HS'.out, HR.out]; exact HRi.out, HBw.out, HZw.out⟩
                    case measure => have := HK.out; simp [intOf]; omega
                  · as_aux_lemma =>
                    rw [hcp] at c13
                    by_cases h1 : l.r1 = (r : Int)
                    · as_aux_lemma =>
                      have h1' : (l.r1 == (r : Int)) = true := by simp [h1]
                      have hv : vo l (r : Int) = some (l.u2, l.u3) := by unfold vo; rw [hi, if_pos rfl, if_neg hr, if_pos ⟨hcp, h1⟩]
                      rw [hv] at HNx
                      have HX2 := HNx
                      clear HNx hv hr hi hcp h1
                      match s, HRi, HX2, HSK, HLe, HLN with
                      | [], HRi, HX2, HSK, HLe, HLN =>
                        as_aux_lemma =>
                        obtain rfl : ln = 0 := by rw [← HLN.out]; rfl
                        have HR : Hid (s' = [(l.u2, l.u3)]) := HX2.out
                        have y0 := HRi.out.thaw 0
                        have y1 := HRi.out.thaw 1
                        have h0 := HRi.out.cell 0 (by rw [vc_len]; omega)
                        have h1 := HRi.out.cell 1 (by rw [vc_len]; omega)
                        have HF2 : Hid (Ri 38 ((w4.setCell ⟨zw, 0, none⟩ (.int .i64 l.u2)).setCell ⟨zw, 1, none⟩ (.int .i64 l.u3)) zw (vc [(l.u2, l.u3)])) := (HRi.out.set 0 l.u2).set 1 l.u3
                        have HB2 : Hid (Below zw wo ((w4.setCell ⟨zw, 0, none⟩ (.int .i64 l.u2)).setCell ⟨zw, 1, none⟩ (.int .i64 l.u3))) := below_set (below_set HBw.out (Nat.le_refl _) _) (Nat.le_refl _) _
                        clear HX2 HLe HLN
                        go_wp2_with fail
                        go_roundw
                        case rel => exact ⟨k + 1, by have := HK.out; omega, by go_num, by rw [HS'.out, HR.out]; rfl, by rw [HS'.out, HR.out]; exact HF2.out, HB2.out, by simpa using HZw.out⟩
                        case measure => have := HK.out; simp [intOf]; omega
                      | [u], HRi, HX2, HSK, HLe, HLN =>
                        as_aux_lemma =>
                        obtain rfl : ln = 1 := by rw [← HLN.out]; rfl
                        obtain ⟨u0, u1⟩ := u
                        have h0 : w4.cell? ⟨zw, 0, none⟩ = some (.int .i64 u0) := HRi.out.cell 0 (by rw [vc_len]; omega)
                        have h1 : w4.cell? ⟨zw, 1, none⟩ = some (.int .i64 u1) := HRi.out.cell 1 (by rw [vc_len]; omega)
                        have hE := fun t => eqv l.u2 l.u3 u0 u1 t
                        by_cases he : (l.u2, l.u3) = (u0, u1)
                        · as_aux_lemma =>
                          rw [decide_eq_true he] at hE
                          have HR : Hid (s' = [(u0, u1)]) := by show _ = _; rw [HX2.out]; show (if (l.u2, l.u3) = (u0, u1) then _ else _) = _; rw [if_pos he]
                          clear HX2 HLe he
                          go_wp2_with fail
                          go_roundw
                          case rel => exact ⟨k + 1, by have := HK.out; omega, by go_num, by rw [HS'.out, HR.out]; rfl, by rw [HS'.out, HR.out]; exact HRi.out, HBw.out, HZw.out⟩
                          case measure => have := HK.out; simp [intOf]; omega
                        · as_aux_lemma =>
                          rw [decide_eq_false he] at hE
                          have HR : Hid (s' = [(u0, u1), (l.u2, l.u3)]) := by show _ = _; rw [HX2.out]; show (if (l.u2, l.u3) = (u0, u1) then _ else _) = _; rw [if_neg he]
                          have y2 := HRi.out.thaw 2
                          have y3 := HRi.out.thaw 3
                          have h2 := HRi.out.cell 2 (by rw [vc_len]; omega)
                          have h3 := HRi.out.cell 3 (by rw [vc_len]; omega)
                          have HF2 : Hid (Ri 38 ((w4.setCell ⟨zw, 2, none⟩ (.int .i64 l.u2)).setCell ⟨zw, 3, none⟩ (.int .i64 l.u3)) zw (vc [(u0, u1), (l.u2, l.u3)])) := (HRi.out.set 2 l.u2).set 3 l.u3
                          have HB2 : Hid (Below zw wo ((w4.setCell ⟨zw, 2, none⟩ (.int .i64 l.u2)).setCell ⟨zw, 3, none⟩ (.int .i64 l.u3))) := below_set (below_set HBw.out (Nat.le_refl _) _) (Nat.le_refl _) _
                          clear HX2 HLe he
                          go_wp2_with fail
                          go_roundw
                          case rel => exact ⟨k + 1, by have := HK.out; omega, by go_num, by rw [HS'.out, HR.out]; rfl, by rw [HS'.out, HR.out]; exact HF2.out, HB2.out, by simpa using HZw.out⟩
                          case measure => have := HK.out; simp [intOf]; omega
                      | [u, u'], HRi, HX2, HSK, HLe, HLN =>
                        as_aux_lemma =>
                        obtain rfl : ln = 2 := by rw [← HLN.out]; rfl
                        have HR : Hid (s' = [u, u']) := HX2.out
                        clear HX2 HLe HLN
                        go_wp2_with fail
                        go_roundw
                        case rel => exact ⟨k + 1, by have := HK.out; omega, by go_num, by rw [HS'.out, HR.out]; rfl, by rw [HS'.out, HR.out]; exact HRi.out, HBw.out, HZw.out⟩
                        case measure => have := HK.out; simp [intOf]; omega
                      | _ :: _ :: _ :: _, _, _, _, HLe, _ => have := HLe.out; simp at this
                    · as_aux_lemma =>
                      have h1' : (l.r1 == (r : Int)) = false := by rw [beq_eq_false_iff_ne]; exact h1
                      have hv : vo l (r : Int) = none := by unfold vo; rw [hi, if_pos rfl, if_neg hr, if_neg (fun q => h1 q.2)]
                      rw [hv] at HNx
                      have HR : Hid (s' = s) := HNx.out
                      clear HNx hv hr hi hcp h1
                      go_wp2_with fail
                      go_roundw
                      case rel => exact ⟨k + 1, by have := HK.out; omega, by go_num, by rw [HS'.out, HR.out, HLN.out], by rw [HS'.out, HR.out]; exact HRi.out, HBw.out, HZw.out⟩
                      case measure => have := HK.out; simp [intOf]; omega
            · as_aux_lemma =>
              obtain rfl : k = 4 := by omega
              clear hlt hk
              have HNwT : Hid (Nw w wr zx (zx + 1) p m p' m' v v2 N (fF F) (LN N 4) (LN N 4 ++ E)) := HFr.out _ HBx.out
              have HLe : Hid ((wst N (r : Int) 4).length ≤ 2) := wst_le N (r : Int) 4
              have HDf : Hid (∀ a b, wst N (r : Int) 4 = [a, b] → a ≠ b) := wst_df N (r : Int) 4
              have HVs : Hid (∀ u, Gd u p m tA v (LN N 4) → Calls Try.prog 18 #[.pointer (some ⟨p, 0, none⟩), .agg #[.int .i64 24, .int .i64 24, .int .i64 8, .int .i64 8], .int .i64 (r : Int)] u fun e w' => Vq u w' e (wst N (r : Int) 4) 0) := fun u h => HVg.out u (r : Int) r0 (by have := HRr.out; omega) h
              have HVt : Hid (∀ u, Gd u p' m' tA v2 (LN N 4 ++ E) → Calls Try.prog 18 #[.pointer (some ⟨p', 0, none⟩), .agg #[.int .i64 24, .int .i64 24, .int .i64 8, .int .i64 8], .int .i64 (r : Int)] u fun e w' => Vq u w' e (wst N (r : Int) 4) 0) := fun u h => HVh.out u (r : Int) r0 (by have := HRr.out; omega) h
              clear HBx HZr HZW HFr HNw2
              generalize wst N (r : Int) 4 = s at *
              match s, HRx, HVs, HVt, HDf, HLe with
              | [], HRx, HVs, HVt, HDf, HLe =>
                as_aux_lemma =>
                have hE0 := fun t => eqv 0 0 0 0 t
                rw [decide_eq_true rfl] at hE0
                have HG1 : Hid (∀ u, Gd u p m tA v (LN N 4) → Calls Try.prog 18 #[.pointer (some ⟨p, 0, none⟩), .agg #[.int .i64 24, .int .i64 24, .int .i64 8, .int .i64 8], .int .i64 (r : Int)] u fun e w' => e = .returned (.tuple #[.agg #[.int .i64 0, .int .i64 0, .int .i64 0, .int .i64 0], .int .i64 0, .int .i64 0]) ∧ Below u.heap.size u w') := fun u h => (HVs.out u h).mono fun e w' ⟨h1, h2⟩ => ⟨h1, h2⟩
                have HH1 : Hid (∀ u, Gd u p' m' tA v2 (LN N 4 ++ E) → Calls Try.prog 18 #[.pointer (some ⟨p', 0, none⟩), .agg #[.int .i64 24, .int .i64 24, .int .i64 8, .int .i64 8], .int .i64 (r : Int)] u fun e w' => e = .returned (.tuple #[.agg #[.int .i64 0, .int .i64 0, .int .i64 0, .int .i64 0], .int .i64 0, .int .i64 0]) ∧ Below u.heap.size u w') := fun u h => (HVt.out u h).mono fun e w' ⟨h1, h2⟩ => ⟨h1, h2⟩
                have HRy : Hid (Ri 38 wr zw [0, 0, 0, 0]) := HRx.out
                clear HVs HVt HRx
                have hEs := fun t => eqvs_same 0 0 0 0 t
                go_wp2_with fail
                refine (HG1.out _ HNwT.out.gd).mono ?_
                rintro e wa ⟨rfl, hb⟩
                have HNa : Hid (Nw w wa zx (zx + 1) p m p' m' v v2 N (fF F) (LN N 4) (LN N 4 ++ E)) := HNwT.out.to hb
                have HRa : Hid (Ri 38 wa zw [0, 0, 0, 0]) := HRy.out.to hb
                clear hb HRy
                have HNb : Hid (Nw w (wa.alloc (.cells #[.int .i64 0, .int .i64 0, .int .i64 0, .int .i64 0] 38)) zx (zx + 1) p m p' m' v v2 N (fF F) (LN N 4) (LN N 4 ++ E)) := HNa.out.to (from_alloc _ _)
                have HRb : Hid (Ri 38 (wa.alloc (.cells #[.int .i64 0, .int .i64 0, .int .i64 0, .int .i64 0] 38)) zw [0, 0, 0, 0]) := HRa.out.to (from_alloc _ _)
                have HQb : Hid (Ri 38 (wa.alloc (.cells #[.int .i64 0, .int .i64 0, .int .i64 0, .int .i64 0] 38)) wa.heap.size [0, 0, 0, 0]) := Ri.built 38 wa [0, 0, 0, 0] rfl
                go_upto_region 47 with fail
                generalize (wa.alloc (.cells #[.int .i64 0, .int .i64 0, .int .i64 0, .int .i64 0] 38)) = wb at *
                generalize wa.heap.size = za at *
                clear HNa HRa
                have q0 := HRb.out.cell 0 (by simp)
                have q1 := HRb.out.cell 1 (by simp)
                have q2 := HRb.out.cell 2 (by simp)
                have q3 := HRb.out.cell 3 (by simp)
                have z0 := HQb.out.cell 0 (by simp)
                have z1 := HQb.out.cell 1 (by simp)
                have z2 := HQb.out.cell 2 (by simp)
                have z3 := HQb.out.cell 3 (by simp)
                simp only [List.getD_cons_zero, List.getD_cons_succ] at q0 q1 q2 q3 z0 z1 z2 z3
                go_wp2_with fail
                refine (HG1.out _ HNb.out.gd).mono ?_
                rintro e wc ⟨rfl, hb⟩
                have HNc : Hid (Nw w wc zx (zx + 1) p m p' m' v v2 N (fF F) (LN N 4) (LN N 4 ++ E)) := HNb.out.to hb
                clear hb HRb HQb q0 q1 q2 q3 z0 z1 z2 z3 HNb
                have HNd : Hid (Nw w (wc.alloc (.cells #[.int .i64 0, .int .i64 0, .int .i64 0, .int .i64 0] 38)) zx (zx + 1) p m p' m' v v2 N (fF F) (LN N 4) (LN N 4 ++ E)) := HNc.out.to (from_alloc _ _)
                have HQd : Hid (Ri 38 (wc.alloc (.cells #[.int .i64 0, .int .i64 0, .int .i64 0, .int .i64 0] 38)) wc.heap.size [0, 0, 0, 0]) := Ri.built 38 wc [0, 0, 0, 0] rfl
                go_upto_region 50 with fail
                generalize (wc.alloc (.cells #[.int .i64 0, .int .i64 0, .int .i64 0, .int .i64 0] 38)) = wd at *
                generalize wc.heap.size = zc at *
                clear HNc
                go_wp2_with fail
                refine (HH1.out _ HNd.out.hd).mono ?_
                rintro e we ⟨rfl, hb⟩
                have HNe : Hid (Nw w we zx (zx + 1) p m p' m' v v2 N (fF F) (LN N 4) (LN N 4 ++ E)) := HNd.out.to hb
                have HQe : Hid (Ri 38 we zc [0, 0, 0, 0]) := HQd.out.to hb
                clear hb HNd HQd
                have HNf : Hid (Nw w (we.alloc (.cells #[.int .i64 0, .int .i64 0, .int .i64 0, .int .i64 0] 38)) zx (zx + 1) p m p' m' v v2 N (fF F) (LN N 4) (LN N 4 ++ E)) := HNe.out.to (from_alloc _ _)
                have HQf : Hid (Ri 38 (we.alloc (.cells #[.int .i64 0, .int .i64 0, .int .i64 0, .int .i64 0] 38)) zc [0, 0, 0, 0]) := HQe.out.to (from_alloc _ _)
                have HSf : Hid (Ri 38 (we.alloc (.cells #[.int .i64 0, .int .i64 0, .int .i64 0, .int .i64 0] 38)) we.heap.size [0, 0, 0, 0]) := Ri.built 38 we [0, 0, 0, 0] rfl
                go_upto_region 51 with fail
                generalize (we.alloc (.cells #[.int .i64 0, .int .i64 0, .int .i64 0, .int .i64 0] 38)) = wf at *
                generalize we.heap.size = ze at *
                clear HNe HQe
                have q0 := HQf.out.cell 0 (by simp)
                have q1 := HQf.out.cell 1 (by simp)
                have q2 := HQf.out.cell 2 (by simp)
                have q3 := HQf.out.cell 3 (by simp)
                have z0 := HSf.out.cell 0 (by simp)
                have z1 := HSf.out.cell 1 (by simp)
                have z2 := HSf.out.cell 2 (by simp)
                have z3 := HSf.out.cell 3 (by simp)
                simp only [List.getD_cons_zero, List.getD_cons_succ] at q0 q1 q2 q3 z0 z1 z2 z3
                go_wp2_with fail
                go_roundw
                case rel => exact ⟨r + 1, by have := HRr.out; omega, by go_num, HNf.out⟩
                case measure => have := HRr.out; simp [intOf]; omega
              | [a], HRx, HVs, HVt, HDf, HLe =>
                as_aux_lemma =>
                obtain ⟨a1, a2⟩ := a
                have hE0 := fun t => eqv 0 0 0 0 t
                rw [decide_eq_true rfl] at hE0
                have HG1 : Hid (∀ u, Gd u p m tA v (LN N 4) → Calls Try.prog 18 #[.pointer (some ⟨p, 0, none⟩), .agg #[.int .i64 24, .int .i64 24, .int .i64 8, .int .i64 8], .int .i64 (r : Int)] u fun e w' => e = .returned (.tuple #[.agg #[.int .i64 a1, .int .i64 a2, .int .i64 0, .int .i64 0], .int .i64 1, .int .i64 0]) ∧ Below u.heap.size u w') := fun u h => (HVs.out u h).mono fun e w' ⟨h1, h2⟩ => ⟨h1, h2⟩
                have HH1 : Hid (∀ u, Gd u p' m' tA v2 (LN N 4 ++ E) → Calls Try.prog 18 #[.pointer (some ⟨p', 0, none⟩), .agg #[.int .i64 24, .int .i64 24, .int .i64 8, .int .i64 8], .int .i64 (r : Int)] u fun e w' => e = .returned (.tuple #[.agg #[.int .i64 a1, .int .i64 a2, .int .i64 0, .int .i64 0], .int .i64 1, .int .i64 0]) ∧ Below u.heap.size u w') := fun u h => (HVt.out u h).mono fun e w' ⟨h1, h2⟩ => ⟨h1, h2⟩
                have HRy : Hid (Ri 38 wr zw [a1, a2, 0, 0]) := HRx.out
                clear HVs HVt HRx
                have hEs := fun t => eqvs_same a1 a2 0 0 t
                go_wp2_with fail
                refine (HG1.out _ HNwT.out.gd).mono ?_
                rintro e wa ⟨rfl, hb⟩
                have HNa : Hid (Nw w wa zx (zx + 1) p m p' m' v v2 N (fF F) (LN N 4) (LN N 4 ++ E)) := HNwT.out.to hb
                have HRa : Hid (Ri 38 wa zw [a1, a2, 0, 0]) := HRy.out.to hb
                clear hb HRy
                have HNb : Hid (Nw w (wa.alloc (.cells #[.int .i64 a1, .int .i64 a2, .int .i64 0, .int .i64 0] 38)) zx (zx + 1) p m p' m' v v2 N (fF F) (LN N 4) (LN N 4 ++ E)) := HNa.out.to (from_alloc _ _)
                have HRb : Hid (Ri 38 (wa.alloc (.cells #[.int .i64 a1, .int .i64 a2, .int .i64 0, .int .i64 0] 38)) zw [a1, a2, 0, 0]) := HRa.out.to (from_alloc _ _)
                have HQb : Hid (Ri 38 (wa.alloc (.cells #[.int .i64 a1, .int .i64 a2, .int .i64 0, .int .i64 0] 38)) wa.heap.size [a1, a2, 0, 0]) := Ri.built 38 wa [a1, a2, 0, 0] rfl
                go_upto_region 47 with fail
                generalize (wa.alloc (.cells #[.int .i64 a1, .int .i64 a2, .int .i64 0, .int .i64 0] 38)) = wb at *
                generalize wa.heap.size = za at *
                clear HNa HRa
                have q0 := HRb.out.cell 0 (by simp)
                have q1 := HRb.out.cell 1 (by simp)
                have q2 := HRb.out.cell 2 (by simp)
                have q3 := HRb.out.cell 3 (by simp)
                have z0 := HQb.out.cell 0 (by simp)
                have z1 := HQb.out.cell 1 (by simp)
                have z2 := HQb.out.cell 2 (by simp)
                have z3 := HQb.out.cell 3 (by simp)
                simp only [List.getD_cons_zero, List.getD_cons_succ] at q0 q1 q2 q3 z0 z1 z2 z3
                go_wp2_with fail
                refine (HG1.out _ HNb.out.gd).mono ?_
                rintro e wc ⟨rfl, hb⟩
                have HNc : Hid (Nw w wc zx (zx + 1) p m p' m' v v2 N (fF F) (LN N 4) (LN N 4 ++ E)) := HNb.out.to hb
                clear hb HRb HQb q0 q1 q2 q3 z0 z1 z2 z3 HNb
                have HNd : Hid (Nw w (wc.alloc (.cells #[.int .i64 a1, .int .i64 a2, .int .i64 0, .int .i64 0] 38)) zx (zx + 1) p m p' m' v v2 N (fF F) (LN N 4) (LN N 4 ++ E)) := HNc.out.to (from_alloc _ _)
                have HQd : Hid (Ri 38 (wc.alloc (.cells #[.int .i64 a1, .int .i64 a2, .int .i64 0, .int .i64 0] 38)) wc.heap.size [a1, a2, 0, 0]) := Ri.built 38 wc [a1, a2, 0, 0] rfl
                go_upto_region 50 with fail
                generalize (wc.alloc (.cells #[.int .i64 a1, .int .i64 a2, .int .i64 0, .int .i64 0] 38)) = wd at *
                generalize wc.heap.size = zc at *
                clear HNc
                go_wp2_with fail
                refine (HH1.out _ HNd.out.hd).mono ?_
                rintro e we ⟨rfl, hb⟩
                have HNe : Hid (Nw w we zx (zx + 1) p m p' m' v v2 N (fF F) (LN N 4) (LN N 4 ++ E)) := HNd.out.to hb
                have HQe : Hid (Ri 38 we zc [a1, a2, 0, 0]) := HQd.out.to hb
                clear hb HNd HQd
                have HNf : Hid (Nw w (we.alloc (.cells #[.int .i64 a1, .int .i64 a2, .int .i64 0, .int .i64 0] 38)) zx (zx + 1) p m p' m' v v2 N (fF F) (LN N 4) (LN N 4 ++ E)) := HNe.out.to (from_alloc _ _)
                have HQf : Hid (Ri 38 (we.alloc (.cells #[.int .i64 a1, .int .i64 a2, .int .i64 0, .int .i64 0] 38)) zc [a1, a2, 0, 0]) := HQe.out.to (from_alloc _ _)
                have HSf : Hid (Ri 38 (we.alloc (.cells #[.int .i64 a1, .int .i64 a2, .int .i64 0, .int .i64 0] 38)) we.heap.size [a1, a2, 0, 0]) := Ri.built 38 we [a1, a2, 0, 0] rfl
                go_upto_region 51 with fail
                generalize (we.alloc (.cells #[.int .i64 a1, .int .i64 a2, .int .i64 0, .int .i64 0] 38)) = wf at *
                generalize we.heap.size = ze at *
                clear HNe HQe
                have q0 := HQf.out.cell 0 (by simp)
                have q1 := HQf.out.cell 1 (by simp)
                have q2 := HQf.out.cell 2 (by simp)
                have q3 := HQf.out.cell 3 (by simp)
                have z0 := HSf.out.cell 0 (by simp)
                have z1 := HSf.out.cell 1 (by simp)
                have z2 := HSf.out.cell 2 (by simp)
                have z3 := HSf.out.cell 3 (by simp)
                simp only [List.getD_cons_zero, List.getD_cons_succ] at q0 q1 q2 q3 z0 z1 z2 z3
                go_wp2_with fail
                go_roundw
                case rel => exact ⟨r + 1, by have := HRr.out; omega, by go_num, HNf.out⟩
                case measure => have := HRr.out; simp [intOf]; omega
              | [a, b], HRx, HVs, HVt, HDf, HLe =>
                as_aux_lemma =>
                obtain ⟨a1, a2⟩ := a
                obtain ⟨b1, b2⟩ := b
                have hE2 := fun t => eqv a1 a2 b1 b2 t
                rw [decide_eq_false (HDf.out _ _ rfl)] at hE2
                have HG1 : Hid (∀ u, Gd u p m tA v (LN N 4) → Calls Try.prog 18 #[.pointer (some ⟨p, 0, none⟩), .agg #[.int .i64 24, .int .i64 24, .int .i64 8, .int .i64 8], .int .i64 (r : Int)] u fun e w' => e = .returned (.tuple #[.agg #[.int .i64 a1, .int .i64 a2, .int .i64 b1, .int .i64 b2], .int .i64 2, .int .i64 0]) ∧ Below u.heap.size u w') := fun u h => (HVs.out u h).mono fun e w' ⟨h1, h2⟩ => ⟨h1, h2⟩
                have HH1 : Hid (∀ u, Gd u p' m' tA v2 (LN N 4 ++ E) → Calls Try.prog 18 #[.pointer (some ⟨p', 0, none⟩), .agg #[.int .i64 24, .int .i64 24, .int .i64 8, .int .i64 8], .int .i64 (r : Int)] u fun e w' => e = .returned (.tuple #[.agg #[.int .i64 a1, .int .i64 a2, .int .i64 b1, .int .i64 b2], .int .i64 2, .int .i64 0]) ∧ Below u.heap.size u w') := fun u h => (HVt.out u h).mono fun e w' ⟨h1, h2⟩ => ⟨h1, h2⟩
                have HRy : Hid (Ri 38 wr zw [a1, a2, b1, b2]) := HRx.out
                clear HVs HVt HRx
                have hEs := fun t => eqvs_same a1 a2 b1 b2 t
                go_wp2_with fail
                refine (HG1.out _ HNwT.out.gd).mono ?_
                rintro e wa ⟨rfl, hb⟩
                have HNa : Hid (Nw w wa zx (zx + 1) p m p' m' v v2 N (fF F) (LN N 4) (LN N 4 ++ E)) := HNwT.out.to hb
                have HRa : Hid (Ri 38 wa zw [a1, a2, b1, b2]) := HRy.out.to hb
                clear hb HRy
                have HNb : Hid (Nw w (wa.alloc (.cells #[.int .i64 a1, .int .i64 a2, .int .i64 b1, .int .i64 b2] 38)) zx (zx + 1) p m p' m' v v2 N (fF F) (LN N 4) (LN N 4 ++ E)) := HNa.out.to (from_alloc _ _)
                have HRb : Hid (Ri 38 (wa.alloc (.cells #[.int .i64 a1, .int .i64 a2, .int .i64 b1, .int .i64 b2] 38)) zw [a1, a2, b1, b2]) := HRa.out.to (from_alloc _ _)
                have HQb : Hid (Ri 38 (wa.alloc (.cells #[.int .i64 a1, .int .i64 a2, .int .i64 b1, .int .i64 b2] 38)) wa.heap.size [a1, a2, b1, b2]) := Ri.built 38 wa [a1, a2, b1, b2] rfl
                go_upto_region 47 with fail
                generalize (wa.alloc (.cells #[.int .i64 a1, .int .i64 a2, .int .i64 b1, .int .i64 b2] 38)) = wb at *
                generalize wa.heap.size = za at *
                clear HNa HRa
                have q0 := HRb.out.cell 0 (by simp)
                have q1 := HRb.out.cell 1 (by simp)
                have q2 := HRb.out.cell 2 (by simp)
                have q3 := HRb.out.cell 3 (by simp)
                have z0 := HQb.out.cell 0 (by simp)
                have z1 := HQb.out.cell 1 (by simp)
                have z2 := HQb.out.cell 2 (by simp)
                have z3 := HQb.out.cell 3 (by simp)
                simp only [List.getD_cons_zero, List.getD_cons_succ] at q0 q1 q2 q3 z0 z1 z2 z3
                go_wp2_with fail
                refine (HG1.out _ HNb.out.gd).mono ?_
                rintro e wc ⟨rfl, hb⟩
                have HNc : Hid (Nw w wc zx (zx + 1) p m p' m' v v2 N (fF F) (LN N 4) (LN N 4 ++ E)) := HNb.out.to hb
                clear hb HRb HQb q0 q1 q2 q3 z0 z1 z2 z3 HNb
                have HNd : Hid (Nw w (wc.alloc (.cells #[.int .i64 a1, .int .i64 a2, .int .i64 b1, .int .i64 b2] 38)) zx (zx + 1) p m p' m' v v2 N (fF F) (LN N 4) (LN N 4 ++ E)) := HNc.out.to (from_alloc _ _)
                have HQd : Hid (Ri 38 (wc.alloc (.cells #[.int .i64 a1, .int .i64 a2, .int .i64 b1, .int .i64 b2] 38)) wc.heap.size [a1, a2, b1, b2]) := Ri.built 38 wc [a1, a2, b1, b2] rfl
                go_upto_region 50 with fail
                generalize (wc.alloc (.cells #[.int .i64 a1, .int .i64 a2, .int .i64 b1, .int .i64 b2] 38)) = wd at *
                generalize wc.heap.size = zc at *
                clear HNc
                go_wp2_with fail
                refine (HH1.out _ HNd.out.hd).mono ?_
                rintro e we ⟨rfl, hb⟩
                have HNe : Hid (Nw w we zx (zx + 1) p m p' m' v v2 N (fF F) (LN N 4) (LN N 4 ++ E)) := HNd.out.to hb
                have HQe : Hid (Ri 38 we zc [a1, a2, b1, b2]) := HQd.out.to hb
                clear hb HNd HQd
                have HNf : Hid (Nw w (we.alloc (.cells #[.int .i64 a1, .int .i64 a2, .int .i64 b1, .int .i64 b2] 38)) zx (zx + 1) p m p' m' v v2 N (fF F) (LN N 4) (LN N 4 ++ E)) := HNe.out.to (from_alloc _ _)
                have HQf : Hid (Ri 38 (we.alloc (.cells #[.int .i64 a1, .int .i64 a2, .int .i64 b1, .int .i64 b2] 38)) zc [a1, a2, b1, b2]) := HQe.out.to (from_alloc _ _)
                have HSf : Hid (Ri 38 (we.alloc (.cells #[.int .i64 a1, .int .i64 a2, .int .i64 b1, .int .i64 b2] 38)) we.heap.size [a1, a2, b1, b2]) := Ri.built 38 we [a1, a2, b1, b2] rfl
                go_upto_region 51 with fail
                generalize (we.alloc (.cells #[.int .i64 a1, .int .i64 a2, .int .i64 b1, .int .i64 b2] 38)) = wf at *
                generalize we.heap.size = ze at *
                clear HNe HQe
                have q0 := HQf.out.cell 0 (by simp)
                have q1 := HQf.out.cell 1 (by simp)
                have q2 := HQf.out.cell 2 (by simp)
                have q3 := HQf.out.cell 3 (by simp)
                have z0 := HSf.out.cell 0 (by simp)
                have z1 := HSf.out.cell 1 (by simp)
                have z2 := HSf.out.cell 2 (by simp)
                have z3 := HSf.out.cell 3 (by simp)
                simp only [List.getD_cons_zero, List.getD_cons_succ] at q0 q1 q2 q3 z0 z1 z2 z3
                go_wp2_with fail
                go_roundw
                case rel => exact ⟨r + 1, by have := HRr.out; omega, by go_num, HNf.out⟩
                case measure => have := HRr.out; simp [intOf]; omega
              | _ :: _ :: _ :: _, _, _, _, _, HLe => have := HLe.out; simp at this
        · as_aux_lemma =>
          obtain rfl : r = 3 := by omega
          clear hlt hr
          go_wp2_with fail
          refine (HSk.out _ _ _ _ [] (by simp) (by rw [List.append_nil]; exact HNw2.out.gd)).mono ?_
          rintro e wa ⟨rfl, hb⟩
          have HNa : Hid (Nw w wa zx (zx + 1) p m p' m' v v2 N (fF F) (LN N 4) (LN N 4 ++ E)) := HNw2.out.to hb
          clear hb HNw2
          go_wp2_with fail
          refine (HSk.out _ _ _ _ E HE.out HNa.out.hd).mono ?_
          rintro e wb ⟨rfl, hb⟩
          have HNb : Hid (Nw w wb zx (zx + 1) p m p' m' v v2 N (fF F) (LN N 4) (LN N 4 ++ E)) := HNa.out.to hb
          clear hb HNa
          go_wp2_with fail
          refine (HIn.out _ _ _ _ [] (by simp) (by rw [List.append_nil]; exact HNb.out.gd)).mono ?_
          rintro e wc ⟨rfl, hb⟩
          have HNc : Hid (Nw w wc zx (zx + 1) p m p' m' v v2 N (fF F) (LN N 4) (LN N 4 ++ E)) := HNb.out.to hb
          clear hb HNb
          go_wp2_with fail
          refine (HIn.out _ _ _ _ E HE.out HNc.out.hd).mono ?_
          rintro e wd ⟨rfl, hb⟩
          have HNd : Hid (Nw w wd zx (zx + 1) p m p' m' v v2 N (fF F) (LN N 4) (LN N 4 ++ E)) := HNc.out.to hb
          clear hb HNc
          go_wp2_with fail
          go_ret
          exact ⟨rfl, HNd.out.bel⟩
end Go.Proofs.Ytppofodijlofdaa
