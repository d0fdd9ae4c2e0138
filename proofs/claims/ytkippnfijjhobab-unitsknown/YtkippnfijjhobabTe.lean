/- DERIVED. Split. -/
import Derived.Test.YtkippnfijjhobabTd
namespace Go.Proofs.Ytkippnfijjhobab
open Go.RowKit

theorem cutS_stop {f q e : Nat} {b : List Nat} (hq : q < b.length) (hf : b.length ≤ q + f) (he : (pick (b.drop q)).1 = e) (h0 : e ≠ 0) : cutS f (b.drop q) q = ([], q, e) := by
  cases f with
  | zero => omega
  | succ f =>
    rw [cutS, if_neg (by intro h; have := congrArg List.length h; rw [List.length_drop] at this; simp at this; omega), if_pos (by rw [he]; exact h0), he]
theorem cutS_done {f q : Nat} {b : List Nat} (hq : b.length ≤ q) : cutS f (b.drop q) q = ([], q, 0) := by
  have e : b.drop q = [] := List.drop_eq_nil_of_le hq
  rw [e]
  cases f <;> simp [cutS]
theorem cutS_go {f q m s : Nat} {b : List Nat} (hq : q < b.length) (he : pick (b.drop q) = (0, m, s)) : cutS (f + 1) (b.drop q) q = (pc (b.drop q) m s :: (cutS f (b.drop (q + m + s)) (q + m + s)).1, (cutS f (b.drop (q + m + s)) (q + m + s)).2) := by
  rw [cutS, if_neg (by intro h; have := congrArg List.length h; rw [List.length_drop] at this; simp at this; omega), he, if_neg (by simp)]
  simp only [List.drop_drop]
  rw [show q + (m + s) = q + m + s from by omega]
theorem pick_at {b : List Nat} {q : Nat} : pick (b.drop q) = if ¬ (b.getD q 0 = 16 ∨ b.getD q 0 = 32 ∨ b.getD q 0 = 48) then (4, 0, 0)
  else if (rLeb ((b.drop (q + 1)).take 5) 0).2.1 ≠ 0 then ((rLeb ((b.drop (q + 1)).take 5) 0).2.1, 0, 0)
  else if 16777216 < (rLeb ((b.drop (q + 1)).take 5) 0).1 then (5, 0, 0)
  else if b.length - (q + 1 + (rLeb ((b.drop (q + 1)).take 5) 0).2.2 / 8) < (rLeb ((b.drop (q + 1)).take 5) 0).1 then (3, 0, 0)
  else (0, 1 + (rLeb ((b.drop (q + 1)).take 5) 0).2.2 / 8, (rLeb ((b.drop (q + 1)).take 5) 0).1) := by
  unfold pick
  rw [getD_drop, Nat.add_zero, List.drop_drop, List.length_drop, Nat.sub_sub, ← Nat.add_assoc]
/-- what Split answers -/
def SplQ (B : Nat) (w0 : World) (R : List Pc × Nat × Nat) (e : Ending) (w' : World) : Prop := ∃ v, e = .returned (.tuple #[v, .int .i64 (R.2.1 : Nat), .int .i64 (R.2.2 : Nat)]) ∧ Ol w' B v R.1 ∧ Below B w0 w'
def SpI (B : Nat) (w0 : World) (b : List Nat) (lv av : Value) (wr : World) : Prop :=
  ∃ (q f : Nat) (P : List Pc), av = .int .i64 (q : Nat) ∧ q ≤ b.length ∧ b.length ≤ q + f ∧ 2 * P.length ≤ q ∧ Ol wr B lv P ∧ Below B w0 wr ∧ Hid (splitP b = (P ++ (cutS f (b.drop q) q).1, (cutS f (b.drop q) q).2))
theorem split_end {B q f e : Nat} {w0 w' : World} {b : List Nat} {P : List Pc} {v : Value} (hs : splitP b = (P ++ (cutS f (b.drop q) q).1, (cutS f (b.drop q) q).2)) (hc : cutS f (b.drop q) q = ([], q, e)) (ho : Ol w' B v P) (hb : Below B w0 w') {E : Int} (hE : E = (e : Int)) :
    SplQ B w0 (splitP b) (.returned (.tuple #[v, .int .i64 (q : Int), .int .i64 E])) w' := by
  subst hE
  rw [hs, hc, List.append_nil]
  exact ⟨v, rfl, ho, hb⟩
theorem split_step {B q f m s n c : Nat} {w0 w1 w' : World} {b : List Nat} {P : List Pc} {L : List Oh} {v v' : Value} {a : Option Addr} {t : Int} (hs : splitP b = (P ++ (cutS f (b.drop q) q).1, (cutS f (b.drop q) q).2)) (hq : q < b.length) (hp : pick (b.drop q) = (0, m, s)) (hm : 2 ≤ m) (hms : q + m + s ≤ b.length) (hf : b.length ≤ q + f) (hP : 2 * P.length ≤ q)
    (ht : t = ((b.getD q 0 / 16 : Nat) : Int)) (ho : Ow w1 B v L) (hbo : Bo w1 B L P) (hn : n = s) (hw : w1.ownsRow B 5 1 (.slice a n c) n (bs (((b.drop q).drop m).take s))) (hz : ∀ i, b.getD i 0 < 256) (hlen : b.length ≤ 140737488355328)
    (hw' : Ow w' B v' (L ++ [(t, a, n, c)])) (hg : w1.grownBy w' v.ownBlock) (hb : Below B w0 w') {Q : Int} (hQ : Q = ((q + m + s : Nat) : Int)) : SpI B w0 b v' (.int .i64 Q) w' := by
  subst hQ
  obtain ⟨f, rfl⟩ : ∃ f', f = f' + 1 := ⟨f - 1, by omega⟩
  rw [cutS_go hq hp] at hs
  have hl : (((b.drop q).drop m).take s).length = s := by rw [List.length_take, List.length_drop, List.length_drop]; omega
  have hz' : ∀ i, (((b.drop q).drop m).take s).getD i 0 < 256 := by
    rw [List.drop_drop]; exact byt_part hz _ _
  have h1 := hbo.snoc (t := t) (by rw [hl, hn]) hw hz' (by omega)
  refine ⟨q + m + s, f, P ++ [pc (b.drop q) m s], rfl, hms, by omega, by simp; omega, ⟨_, hw', ?_⟩, hb, ?_⟩
  · have h2 := h1.grown ho.own hg
    have e : pc (b.drop q) m s = (t, ((b.drop q).drop m).take s) := by
      unfold pc
      rw [ht, getD_drop, Nat.add_zero]
    rw [e]
    exact h2
  · show _ = _
    rw [hs]
    simp

set_option maxHeartbeats 4000000 in
set_option maxRecDepth 100000 in
theorem split_any {w : World} {N : Nat} {v : Value} {b : List Nat} (h : By w N v b) (hN : N ≤ w.heap.size) (hL : b.length ≤ 1099511627776) :
    Calls Try.prog 11 #[v] w fun e w' => SplQ w.heap.size w (splitP b) e w' := by
  obtain ⟨a, c, rfl, hc, hnc, hsb⟩ := h.ex
  obtain ⟨B, hB⟩ : ∃ B, B = w.heap.size := ⟨_, rfl⟩
  rw [← hB] at hN ⊢
  have HH : Hid (By w N (.slice a b.length c) b) := h
  have HBz : Hid (B = w.heap.size) := hB
  clear h hsb hB
  go_enter Try.func11, Try.ntmps11
  go_wp2_with fail
  go_step3
  go_wp2_with fail
  go_step3
  go_wp2_with fail
  go_loopw [5, 6, 7] (fun lv av ev wr => ev = .int .i64 0 ∧ SpI B w b lv av wr) (fun _ av _ _ => b.length - (intOf av).toNat)
  case atStart => exact ⟨rfl, 0, b.length, [], rfl, by omega, by omega, by simp, Ol.nil _ _, by rw [HBz.out]; exact Below.refl _ _, by show _ = _; simp [splitP]⟩
  case round =>
    obtain ⟨rfl, q, f, P, rfl, hq, hf, hP, hol, hb, HS⟩ := hrel
    have HO : Hid (Ol wr B u5 P) := hol
    have HB : Hid (Below B w wr) := hb
    clear hol hb
    by_cases hlt : q < b.length
    · have HP0 : Hid (pick (b.drop q) = _) := pick_at
      obtain ⟨bb, oo, rfl, hbN, hcell⟩ := HH.out.cell (by omega)
      have hx : wr.cell? ⟨bb, oo + q, none⟩ = some (.int .u8 (b.getD q 0 : Nat)) := by rw [newCell HB.out bb _ (by omega)]; exact hcell q hlt
      have hxb := HH.out.byt q
      have hi1 : (0 : Int) ≤ (q : Int) := by omega
      have hi2 : (q : Int) < (b.length : Int) := by omega
      have hby : By w N (.slice (pa (some ⟨bb, oo, none⟩) c (q + 1) 1) (b.length - (q + 1)) (c - (q + 1))) (b.drop (q + 1)) := by
        have := HH.out.part (q + 1) (b.length - (q + 1)) (by omega)
        rw [List.take_of_length_le (by rw [List.length_drop]; omega)] at this
        exact this
      have hct1 : ∀ t : World, (Instr.sliceAt 24 (.slice (some ⟨bb, oo, none⟩) b.length c) (some (.int .i64 ((q : Int) + 1))) none none).run Try.prog t = .ok (.slice (pa (some ⟨bb, oo, none⟩) c (q + 1) 1) (b.length - (q + 1)) (c - (q + 1))) t := fun t => cut_from (by omega) (by omega) t
      obtain ⟨s1, s2, s3, s4⟩ := rLeb_says (byt_part HH.out.byt (q + 1) 5)
      rw [List.length_take, List.length_drop] at s3
      have HLN : Hid (∀ u : World, Below B w u → Calls Try.prog 16 #[.slice (pa (some ⟨bb, oo, none⟩) c (q + 1) 1) (b.length - (q + 1)) (c - (q + 1))] u fun e w' => e = .returned (.tuple #[.int .u32 (rLeb ((b.drop (q + 1)).take 5) 0).1, .int .i64 ((rLeb ((b.drop (q + 1)).take 5) 0).2.2 / 8 : Nat), .int .i64 (rLeb ((b.drop (q + 1)).take 5) 0).2.1]) ∧ Below u.heap.size u w') := fun u hu => length_any (hby.below hu hN)
      clear hby hcell
      generalize hR1 : (rLeb ((b.drop (q + 1)).take 5) 0).1 = sz at *
      generalize hR2 : (rLeb ((b.drop (q + 1)).take 5) 0).2.1 = er at *
      generalize hR3 : (rLeb ((b.drop (q + 1)).take 5) 0).2.2 / 8 = kk at *
      have HR1 : Hid (_ = sz) := hR1
      have HR2 : Hid (_ = er) := hR2
      have HR3 : Hid (_ = kk) := hR3
      have hkk : q + 1 + kk ≤ b.length := by omega
      clear hR1 hR2 hR3 s2 s3
      have hct2 : ∀ t : World, (Instr.sliceAt 24 (.slice (some ⟨bb, oo, none⟩) b.length c) (some (.int .i64 ((q : Int) + 1 + (kk : Int)))) none none).run Try.prog t = .ok (.slice (pa (some ⟨bb, oo, none⟩) c (q + 1 + kk) 1) (b.length - (q + 1 + kk)) (c - (q + 1 + kk))) t := fun t => cut_from (by omega) (by omega) t
      have hkb : kk ≤ 1099511627776 := by omega
      generalize hA1 : pa (some ⟨bb, oo, none⟩) c (q + 1) 1 = A1 at *
      generalize hn1 : b.length - (q + 1) = n1 at *
      generalize hc1 : c - (q + 1) = c1 at *
      generalize hxe : b.getD q 0 = x at *
      have HXE : Hid (b.getD q 0 = x) := hxe
      clear hA1 hn1 hc1 hxe
      have HF : Hid (∀ (e : Nat) (E : Int), E = (e : Int) → (pick (b.drop q)).1 = e → e ≠ 0 → ∀ w', Below wr.heap.size wr w' → SplQ B w (splitP b) (.returned (.tuple #[u5, .int .i64 (q : Int), .int .i64 E])) w') := fun e E hE h1 h2 w' h3 => split_end HS.out (cutS_stop hlt hf h1 h2) (HO.out.to h3) (HB.out.trans (h3.mono (by have := HB.out.size; have := HBz.out; omega))) hE
      by_cases hx16 : x % 16 = 0
      · have hx1 : ((x : Int) % 16 != 0) = false := by rw [bne_eq_false_iff_eq]; omega
        have HTY : Hid (∀ u : World, Calls Try.prog 12 #[.int .i64 ((x : Int) / 16)] u fun e w' => e = .returned (.bool (tyB ((x : Int) / 16))) ∧ w' = u) := fun u => isType_any _ u
        cases hty : tyB ((x : Int) / 16) with
        | false =>
          rw [hty] at HTY
          go_wp2_with fail
          refine (HLN.out _ HB.out).mono ?_; rintro e w1 ⟨rfl, hb1⟩
          have hx' : w1.cell? ⟨bb, oo + q, none⟩ = some (.int .u8 x) := by rw [newCell hb1 bb _ (by have := HB.out.size; have := HBz.out; omega)]; exact hx
          go_wp2_with fail
          refine (HTY.out _).mono ?_; rintro e w2 ⟨rfl, rfl⟩
          go_wp2_with fail
          go_ret3
          show SplQ B w (splitP b) (.returned (.tuple #[u5, .int .i64 (q : Int), .int .i64 4])) _
          refine HF.out 4 4 rfl ?_ (by omega) _ hb1
          rw [HP0.out, if_pos (by have := mt (tyB_iff ((x : Int) / 16)).2 (by rw [hty]; simp); omega)]
        | true =>
          rw [hty] at HTY
          have HX : Hid (x = 16 ∨ x = 32 ∨ x = 48) := by
            have := (tyB_iff ((x : Int) / 16)).1 hty
            show _ ∨ _
            omega
          clear hty
          by_cases her : er = 0
          · subst her
            by_cases hmx : 16777216 < sz
            · go_wp2_with fail
              refine (HLN.out _ HB.out).mono ?_; rintro e w1 ⟨rfl, hb1⟩
              have hx' : w1.cell? ⟨bb, oo + q, none⟩ = some (.int .u8 x) := by rw [newCell hb1 bb _ (by have := HB.out.size; have := HBz.out; omega)]; exact hx
              go_wp2_with fail
              refine (HTY.out _).mono ?_; rintro e w2 ⟨rfl, rfl⟩
              go_wp2_with fail
              go_ret3
              show SplQ B w (splitP b) (.returned (.tuple #[u5, .int .i64 (q : Int), .int .i64 5])) _
              refine HF.out 5 5 rfl ?_ (by omega) _ hb1
              rw [HP0.out, if_neg (fun k => k HX.out), if_neg (by simp), if_pos hmx]
            · by_cases htr : b.length - (q + 1 + kk) < sz
              · have htr' : ((b.length - (q + 1 + kk) : Nat) : Int) < (sz : Int) := by omega
                go_wp2_with fail
                refine (HLN.out _ HB.out).mono ?_; rintro e w1 ⟨rfl, hb1⟩
                have hx' : w1.cell? ⟨bb, oo + q, none⟩ = some (.int .u8 x) := by rw [newCell hb1 bb _ (by have := HB.out.size; have := HBz.out; omega)]; exact hx
                go_wp2_with fail
                refine (HTY.out _).mono ?_; rintro e w2 ⟨rfl, rfl⟩
                go_wp2_with fail
                go_ret3
                show SplQ B w (splitP b) (.returned (.tuple #[u5, .int .i64 (q : Int), .int .i64 3])) _
                refine HF.out 3 3 rfl ?_ (by omega) _ hb1
                rw [HP0.out, if_neg (fun k => k HX.out), if_neg (by simp), if_neg hmx, if_pos htr]
              · have hms : q + (1 + kk) + sz ≤ b.length := by omega
                have HPK : Hid (pick (b.drop q) = (0, 1 + kk, sz)) := by
                  show _ = _
                  rw [HP0.out, if_neg (fun k => k HX.out), if_neg (by simp), if_neg hmx, if_neg htr]
                have hct3 : ∀ t : World, (Instr.sliceAt 24 (.slice (pa (some ⟨bb, oo, none⟩) c (q + 1 + kk) 1) (b.length - (q + 1 + kk)) (c - (q + 1 + kk))) none (some (.int .u32 (sz : Int))) none).run Try.prog t = .ok (.slice (pa (pa (some ⟨bb, oo, none⟩) c (q + 1 + kk) 1) (c - (q + 1 + kk)) 0 1) sz (c - (q + 1 + kk))) t := fun t => cut_to rfl (by omega) t
                have HBY : Hid (By w N (.slice (pa (pa (some ⟨bb, oo, none⟩) c (q + 1 + kk) 1) (c - (q + 1 + kk)) 0 1) sz (c - (q + 1 + kk))) (((b.drop q).drop (1 + kk)).take sz)) := by
                  have := (HH.out.part (q + 1 + kk) (b.length - (q + 1 + kk)) (by omega)).part 0 sz (by rw [List.length_take, List.length_drop]; omega)
                  rw [List.drop_zero, List.take_take, Nat.min_eq_left (by omega), Nat.sub_zero] at this
                  rw [List.drop_drop, ← Nat.add_assoc]
                  exact this
                have hln : (((b.drop q).drop (1 + kk)).take sz).length = sz := by rw [List.length_take, List.length_drop, List.length_drop]; omega
                have HLN2 : Hid _ := hln
                have htr' : ((sz : Nat) : Int) ≤ ((b.length - (q + 1 + kk) : Nat) : Int) := by omega
                generalize hA2 : pa (some ⟨bb, oo, none⟩) c (q + 1 + kk) 1 = A2 at *
                generalize hn2 : b.length - (q + 1 + kk) = n2 at *
                generalize hc2 : c - (q + 1 + kk) = c2 at *
                generalize hA3 : pa A2 c2 0 1 = A3 at *
                clear hA2 hn2 hc2 hA3 hln
                obtain ⟨L, hL1, hL2⟩ := HO.out
                have HL1 : Hid (Ow wr B u5 L) := hL1
                have HL2 : Hid (Bo wr B L P) := hL2
                clear hL1 hL2
                go_wp2_with fail
                refine (HLN.out _ HB.out).mono ?_; rintro e w1 ⟨rfl, hb1⟩
                have hx' : w1.cell? ⟨bb, oo + q, none⟩ = some (.int .u8 x) := by rw [newCell hb1 bb _ (by have := HB.out.size; have := HBz.out; omega)]; exact hx
                go_wp2_with fail
                refine (HTY.out _).mono ?_; rintro e w2 ⟨rfl, rfl⟩
                go_wp2_with fail
                refine (bclone_any (HBY.out.below (HB.out.trans (hb1.mono (by have := HB.out.size; have := HBz.out; omega))) hN)).mono ?_; rintro e w3 ⟨a3, c3, rfl, hown3, hb3⟩
                rw [HLN2.out] at hown3 ⊢
                have hb13 : Below wr.heap.size wr w3 := below_to hb1 hb3
                have HBW : Hid (B ≤ w2.heap.size) := by have := HB.out.size; have := hb1.size; have := HBz.out; show _ ≤ _; omega
                have hBs : B ≤ w3.heap.size := by have := HB.out.size; have := hb13.size; have := HBz.out; omega
                have hO3 : Ow w3 B u5 L := HL1.out.to hb13
                have HO3 : Hid (Ow w3 B u5 L) := hO3
                have HW3 : Hid _ := hown3
                have HB13 : Hid (Below wr.heap.size wr w3) := hb13
                clear hown3 hb3 hb1 hb13
                go_wp2_with (at_builtin; refine wpList_append_pc _ (by rfl) _ _ (by rfl) B L u5 ((x : Int) / 16, a3, sz, c3) _ (by rfl) hO3 hBs (by have := HL2.out.len; omega) (by rfl) _ (by rfl) (by rfl) ?_; intro g cap w4 hO4 hgr4 hat4 hb4)
                go_roundw
                case rel =>
                  have hz0 : ∀ i, (b.drop q).getD i 0 < 256 := fun i => by rw [getD_drop]; exact HH.out.byt _
                  have hne : b.drop q ≠ [] := fun h => by have := congrArg List.length h; rw [List.length_drop] at this; simp at this; omega
                  have hm2 := (pick_front hne hz0 (by rw [HPK.out])).2.2.1
                  rw [HPK.out] at hm2
                  have hbb : Below B w w3 := HB.out.trans (HB13.out.mono (by have := HB.out.size; have := HBz.out; omega))
                  exact ⟨rfl, split_step HS.out hlt HPK.out hm2 hms hf hP (by rw [HXE.out]; simp) HO3.out (HL2.out.to HB13.out) rfl (own_mono HW3.out HBW.out) HH.out.byt HH.out.len hO4 hgr4 (hbb.trans hb4) (by omega)⟩
                case measure => simp [intOf]; omega
          · have her' : ((er : Int) != 0) = true := by rw [bne_iff_ne]; omega
            go_wp2_with fail
            refine (HLN.out _ HB.out).mono ?_; rintro e w1 ⟨rfl, hb1⟩
            have hx' : w1.cell? ⟨bb, oo + q, none⟩ = some (.int .u8 x) := by rw [newCell hb1 bb _ (by have := HB.out.size; have := HBz.out; omega)]; exact hx
            go_wp2_with fail
            refine (HTY.out _).mono ?_; rintro e w2 ⟨rfl, rfl⟩
            go_wp2_with fail
            go_ret3
            show SplQ B w (splitP b) (.returned (.tuple #[u5, .int .i64 (q : Int), .int .i64 (er : Int)])) _
            refine HF.out er er rfl ?_ her _ hb1
            rw [HP0.out, if_neg (fun k => k HX.out), if_pos her]
      · have hx1 : ((x : Int) % 16 != 0) = true := by rw [bne_iff_ne]; omega
        go_wp2_with fail
        refine (HLN.out _ HB.out).mono ?_; rintro e w1 ⟨rfl, hb1⟩
        have hx' : w1.cell? ⟨bb, oo + q, none⟩ = some (.int .u8 x) := by rw [newCell hb1 bb _ (by have := HB.out.size; have := HBz.out; omega)]; exact hx
        go_wp2_with fail
        go_ret3
        show SplQ B w (splitP b) (.returned (.tuple #[u5, .int .i64 (q : Int), .int .i64 4])) _
        refine HF.out 4 4 rfl ?_ (by omega) _ hb1
        rw [HP0.out, if_pos (by omega)]
    · go_wp2_with fail
      go_ret3
      show SplQ B w (splitP b) (.returned (.tuple #[u5, .int .i64 (q : Int), .int .i64 0])) _
      exact split_end HS.out (cutS_done (by omega)) HO.out HB.out rfl
end Go.Proofs.Ytkippnfijjhobab
