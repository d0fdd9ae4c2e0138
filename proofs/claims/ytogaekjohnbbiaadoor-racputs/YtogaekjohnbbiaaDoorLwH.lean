/- DERIVED. The walk of the statement RacPuts: an encoder does as the document's. -/
import Derived.Test.YtogaekjohnbbiaaDoorRpC
import Derived.Test.YtogaekjohnbbiaaDoorLwG
namespace Go.Proofs.YtogaekjohnbbiaaDoor
open Go.RowKit

/-- what Put answers, and what it makes of an encoder -/
def eDo (T g k lo hi : Nat) : Nat × Nat × Nat × Nat := if lo < hi ∧ hi ≤ 32768 then (0, ePut T g k lo hi) else (2, T, g, k)
theorem eDo_ok {T g k lo hi : Nat} (h : Ev T g k) : Ev (eDo T g k lo hi).2.1 (eDo T g k lo hi).2.2.1 (eDo T g k lo hi).2.2.2 ∧ (eDo T g k lo hi).2.2.2 ≤ k + 2 := by
  unfold eDo
  split
  · rename_i hm
    have := ePut_ok h hm.1 hm.2
    exact ⟨this.1, this.2.2⟩
  · exact ⟨h, by simp⟩
theorem put_do {w : World} {B x : Nat} {d : Value} {T g k : Nat} (h : EnS w B x d T g k) (hE : Ev T g k) (hk : k ≤ 1099511626000) (lo hi : Nat) :
    Calls Tryd.prog 11 #[.pointer (some ⟨x, 0, none⟩), .int .u32 lo, .int .u32 hi] w fun e w' => e = .returned (.int .i64 (eDo T g k lo hi).1) ∧ EnK w w' B x d (eDo T g k lo hi).2.1 (eDo T g k lo hi).2.2.1 (eDo T g k lo hi).2.2.2 := by
  by_cases hm : lo < hi ∧ hi ≤ 32768
  · unfold eDo
    rw [if_pos hm]
    exact put_yes h hE hk lo hi hm.1 hm.2
  · unfold eDo
    rw [if_neg hm]
    refine (put_no h.rng (by have := hE.least; omega) lo hi hm).mono ?_
    rintro e w' ⟨rfl, rfl⟩
    exact ⟨rfl, d, h, Kw.refl _ _ _⟩
theorem rput_do {w : World} {B x : Nat} {d : Value} {T g k : Nat} (h : EfS w B x d T g k) (hE : Ev T g k) (hk : k ≤ 1099511626000) (lo hi : Nat) :
    Calls Tryd.prog 12 #[.pointer (some ⟨x, 0, none⟩), .int .u32 lo, .int .u32 hi] w fun e w' => e = .returned (.int .i64 (eDo T g k lo hi).1) ∧ EfK w w' B x d (eDo T g k lo hi).2.1 (eDo T g k lo hi).2.2.1 (eDo T g k lo hi).2.2.2 := by
  by_cases hm : lo < hi ∧ hi ≤ 32768
  · unfold eDo
    rw [if_pos hm]
    exact rput_yes h hE hk lo hi hm.1 hm.2
  · unfold eDo
    rw [if_neg hm]
    refine (rput_no lo hi hm).mono ?_
    rintro e w' ⟨rfl, rfl⟩
    exact ⟨rfl, d, h, Kw.refl _ _ _⟩

theorem EfS.bnd {w : World} {B x : Nat} {d : Value} {T g k : Nat} (h : EfS w B x d T g k) : ∀ i, EB x d i → B ≤ i ∧ i < w.heap.size := by
  rintro i (rfl | e)
  · exact h.lies
  · exact ⟨(h.own_lt i e).1, (h.own_lt i e).2.1⟩
theorem EfS.kw {w w' : World} {B x y : Nat} {d e e' : Value} {T g k : Nat} (h : EfS w B x d T g k) (hk : Kw y e e' w w') (hn : ∀ k, EB x d k → ¬ EB y e k) : EfS w' B x d T g k :=
  h.carry (hk.block x h.lies.2 (fun e => hn x (Or.inl rfl) (Or.inl e)) (fun e => hn x (Or.inl rfl) (Or.inr e)))
    (fun b hb => hk.block b (h.own_lt b hb).2.1 (fun e => hn b (Or.inr hb) (Or.inl e)) (fun e => hn b (Or.inr hb) (Or.inr e))) hk.size
theorem EfS.kp {w w' : World} {B x y : Nat} {d : Value} {T g k : Nat} (h : EfS w B x d T g k) (hk : Kp y w w') (hn : ¬ EB x d y) : EfS w' B x d T g k :=
  h.carry (hk.block x (fun e => hn (Or.inl e.symm))) (fun b hb => hk.block b (fun e => hn (Or.inr (by rw [hb, e])))) (Nat.le_of_eq hk.size.symm)
theorem efLow {w : World} {B B' x : Nat} {d : Value} {T g k : Nat} (h : EfS w B x d T g k) (hb : B' ≤ B) : EfS w B' x d T g k := by
  obtain ⟨ys, low, h1, h2⟩ := h
  exact ⟨ys, low, ⟨h1.data, own_mono h1.own hb, h1.apart, h1.low, h1.rng, h1.thaw0, h1.thaw1, h1.thaw2, ⟨Nat.le_trans hb h1.lies.1, h1.lies.2⟩, h1.byt⟩, h2⟩

/-- both encoders beside one another -/
structure Pu (W w : World) (x1 : Nat) (d1 : Value) (T1 g1 k1 : Nat) (x2 : Nat) (d2 : Value) (T2 g2 k2 : Nat) : Prop where
  e : EnS w W.heap.size x1 d1 T1 g1 k1
  f : EfS w W.heap.size x2 d2 T2 g2 k2
  a12 : ∀ k, EB x1 d1 k → ¬ EB x2 d2 k
  bel : Below W.heap.size W w
section
variable {W w w' : World} {x1 : Nat} {d1 : Value} {T1 g1 k1 x2 : Nat} {d2 : Value} {T2 g2 k2 : Nat}
theorem Pu.below (h : Pu W w x1 d1 T1 g1 k1 x2 d2 T2 g2 k2) (hb : Below w.heap.size w w') : Pu W w' x1 d1 T1 g1 k1 x2 d2 T2 g2 k2 :=
  ⟨h.e.below hb, h.f.below hb, h.a12, h.bel.trans (hb.mono h.bel.size)⟩
theorem Pu.step1 (h : Pu W w x1 d1 T1 g1 k1 x2 d2 T2 g2 k2) {d : Value} {T g k : Nat} (hk : Kw x1 d1 d w w') (he : EnS w' W.heap.size x1 d T g k) : Pu W w' x1 d T g k x2 d2 T2 g2 k2 :=
  ⟨he, h.f.kw hk (fun i a b => h.a12 i b a), fun i a b => by rcases EB.grow hk a with e | e; exact h.a12 i e b; have := (h.f.bnd i b).2; omega, h.bel.trans (h.e.kwBelow hk)⟩
theorem Pu.step2 (h : Pu W w x1 d1 T1 g1 k1 x2 d2 T2 g2 k2) {d : Value} {T g k : Nat} (hk : Kw x2 d2 d w w') (he : EfS w' W.heap.size x2 d T g k) : Pu W w' x1 d1 T1 g1 k1 x2 d T g k :=
  ⟨h.e.kw hk h.a12, he, fun i a b => by rcases EB.grow hk b with e | e; exact h.a12 i a e; have := (h.e.bnd i a).2; omega, h.bel.trans (h.f.kwBelow hk)⟩
theorem Pu.kp (h : Pu W w x1 d1 T1 g1 k1 x2 d2 T2 g2 k2) {y : Nat} (hk : Kp y w w') (h1 : ¬ EB x1 d1 y) (h2 : ¬ EB x2 d2 y) (hy : W.heap.size ≤ y) : Pu W w' x1 d1 T1 g1 k1 x2 d2 T2 g2 k2 :=
  ⟨h.e.kp hk h1, h.f.kp hk h2, h.a12, h.bel.trans (hk.toBelow hy)⟩
end

def PuInv (W : World) (n x1 x2 : Nat) (i : Value) (wr : World) : Prop :=
  ∃ (k T g e : Nat) (d1 d2 : Value), i = .int .i64 k ∧ k ≤ n ∧ k ≤ 300 ∧ Ev T g e ∧ e ≤ 2 * k ∧ Pu W wr x1 d1 T g e x2 d2 T g e
def XpInv (W : World) (n b x1 : Nat) (d1 : Value) (x2 : Nat) (d2 : Value) (T g e : Nat) (i : Value) (wr : World) : Prop :=
  ∃ (m : Nat) (ys : List Nat), i = .int .i64 m ∧ m ≤ n ∧ (∀ j, j < n → wr.cell? ⟨b, j, none⟩ = some (.int .u8 (ys.getD j 0 : Nat))) ∧ (∀ j, wr.frozen? ⟨b, j, none⟩ = false) ∧ (∀ j, ys.getD j 0 < 256) ∧ ys.length = n ∧ Pu W wr x1 d1 T g e x2 d2 T g e

set_option maxHeartbeats 4000000 in
set_option maxRecDepth 100000 in
theorem puts_walk (W : World) (a : Option Addr) (cp : Nat) (L : List (Nat × Nat)) (hL : PtAt W (.slice a L.length cp) L) (hLl : L.length ≤ 140737488355328) :
    Calls Tryd.prog 3 #[.slice a L.length cp] W fun e w' => e = .returned (.bool true) ∧ Below W.heap.size W w' := by
  have HPt : Hid (PtAt W (.slice a L.length cp) L) := hL
  clear hL
  go_enter Tryd.func3, Tryd.ntmps3
  go_wp2_with fail
  refine (new_ens W).mono ?_; rintro e u2 ⟨rfl, hE1, hb2⟩
  have hs1 := hE1.lies
  have hsz2 := hb2.size
  go_wp2_with fail
  refine (rnew_efs u2).mono ?_; rintro e u3 ⟨rfl, hw3, hb3⟩
  have hP : Pu W u3 W.heap.size (.slice none 0 0) 0 4294967295 0 u2.heap.size (.slice none 0 0) 0 4294967295 0 := by
    refine ⟨hE1.below hb3, efLow hw3 hsz2, ?_, hb2.trans (hb3.mono hsz2)⟩
    rintro k (rfl | e) (h | h)
    · omega
    · cases h
    · cases e
    · cases e
  clear hE1 hb2 hw3 hb3 hs1 hsz2
  generalize u2.heap.size = x2 at *
  go_wp2_with fail
  go_loopw [5] (fun i wr => PuInv W L.length W.heap.size x2 i wr) (fun i _ => L.length - (intOf i).toNat)
  case atStart => exact ⟨0, 0, 4294967295, 0, _, _, rfl, by omega, by omega, Ev.first, by omega, hP⟩
  case round =>
    clear hP
    obtain ⟨k, T, g, e, d1, d2, rfl, hk1, hk2, hev, hek, hT⟩ := hrel
    have HE : Hid _ := hev
    have HEK : Hid _ := hek
    clear hev hek
    by_cases hlt : k < L.length ∧ k < 300
    · obtain ⟨hlt1, hlt2⟩ := hlt
      obtain ⟨pb, off, rfl, hbl, hq0, hq1, hP, hQ⟩ := HPt.out.cells k hlt1
      generalize L.getD k (0, 0) = el at hq0 hq1 hP hQ
      obtain ⟨P, Q⟩ := el
      simp only at hq0 hq1 hP hQ
      replace hq0 : Hid _ := hq0
      replace hq1 : Hid _ := hq1
      have HP1 : Hid (∀ u d, EnS u W.heap.size W.heap.size d T g e → Calls Tryd.prog 11 #[.pointer (some ⟨W.heap.size, 0, none⟩), .int .u32 P, .int .u32 Q] u fun ee w' => ee = .returned (.int .i64 (eDo T g e P Q).1) ∧ EnK u w' W.heap.size W.heap.size d (eDo T g e P Q).2.1 (eDo T g e P Q).2.2.1 (eDo T g e P Q).2.2.2) := fun u d h => put_do h HE.out (by have := HEK.out; omega) P Q
      have HP2 : Hid (∀ u d, EfS u W.heap.size x2 d T g e → Calls Tryd.prog 12 #[.pointer (some ⟨x2, 0, none⟩), .int .u32 P, .int .u32 Q] u fun ee w' => ee = .returned (.int .i64 (eDo T g e P Q).1) ∧ EfK u w' W.heap.size x2 d (eDo T g e P Q).2.1 (eDo T g e P Q).2.2.1 (eDo T g e P Q).2.2.2) := fun u d h => rput_do h HE.out (by have := HEK.out; omega) P Q
      have HOK : Hid _ := eDo_ok (lo := P) (hi := Q) HE.out
      generalize eDo T g e P Q = s at *
      obtain ⟨R, T', g', e'⟩ := s
      simp only at HP1 HP2 HOK
      have hTd := hT.below (Below.drew (Below.refl _ _))
      clear hT
      obtain ⟨cc0, cc1⟩ := ptCells hTd.bel hbl hq0 hq1
      have hi1 : (0 : Int) ≤ (k : Int) := by omega
      have hi2 : (k : Int) < (L.length : Int) := by omega
      go_wp2_with fail
      go_region_held3 (fun u => u.cell? ⟨pb, off + k * 2, none⟩ = some (.int .u32 (P : Nat)) ∧ u.cell? ⟨pb, off + k * 2 + 1, none⟩ = some (.int .u32 (Q : Nat))) (((try dsimp only); first | assumption | (refine ⟨?_, ?_⟩ <;> first | assumption | go_keep) | go_keep)) (first
        | (go_at_call 11; refine (HP1.out _ _ (Pu.e (by assumption))).mono ?_; rintro ee wA ⟨rfl, dA, hEA, hKA⟩; have hTA := Pu.step1 (by assumption) hKA hEA; obtain ⟨pA0, pA1⟩ := ptCells hTA.bel hbl hq0 hq1)
        | (go_at_call 12; refine (HP2.out _ _ (Pu.f (by assumption))).mono ?_; rintro ee wB ⟨rfl, dB, hEB, hKB⟩; have hTB := Pu.step2 (by assumption) hKB hEB; obtain ⟨pB0, pB1⟩ := ptCells hTB.bel hbl hq0 hq1))
      all_goals
        have hRR : ((R : Int) != (R : Int)) = false := by simp
        by_cases h20 : k < 20
        · have h20' : (k : Int) < 20 := by omega
          first
            | (have hT0 : Pu W wB W.heap.size dA T' g' e' x2 dB T' g' e' := hTB)
            | (have hT0 : Pu W wA W.heap.size dA T' g' e' x2 dB T' g' e' := hTA)
          clear hTA hTB
          go_wp2_with fail
          refine (bytes_ens hT0.e HOK.out.1 (by have h1 := HOK.out.2; have h2 := HEK.out; omega)).mono ?_; rintro ee w5 ⟨v5, rfl, y5, z5, hby5, hy5, hb5⟩
          have hT5 := hT0.below hb5
          have HN5 : Hid (¬ EB W.heap.size dA y5 ∧ ¬ EB x2 dB y5 ∧ W.heap.size ≤ y5) := ⟨fun h => by have := (hT0.e.bnd _ h).2; omega, fun h => by have := (hT0.f.bnd _ h).2; omega, Nat.le_trans hT0.bel.size hy5⟩
          clear hT0 hb5
          go_wp2_with fail
          refine (rbytes_efs hT5.f HOK.out.1 (by have h1 := HOK.out.2; have h2 := HEK.out; omega)).mono ?_; rintro ee w6 ⟨v6, rfl, y6, z6, hby6, hy6, hb6⟩
          have hT6 := hT5.below hb6
          have hby5' := hby5.below hb6 hby5.lies
          have HU : Hid (z5 = z6) := hby5'.uniq hby6
          clear hT5 hb6 hby5
          go_wp2_with fail
          have c7 := eqBytes_rr hby5'.rr hby6.rr (by have := hby5'.len; have h1 := HOK.out.2; have h2 := HEK.out; omega) hby5'.byt hby6.byt
          rw [show decide (z5 = z6) = true from by simp [HU.out]] at c7
          refine c7.mono ?_; rintro ee w7 ⟨rfl, hb7⟩
          have hT7 := hT6.below hb7
          have hby7 := hby5'.below hb7 hby5'.lies
          clear c7 hT6 hb7 hby5' hby6 HU
          obtain ⟨c5, rfl, _⟩ := hby7.form
          have hcell := hby7.cell
          have hthaw := hby7.thaw
          have hbyt := hby7.byt
          have hzl : z5.length ≤ 140737488355328 := by have := hby7.len; have h1 := HOK.out.2; have h2 := HEK.out; omega
          clear hby7
          generalize hn : z5.length = n at *
          have HNL : Hid _ := hn
          clear hn
          go_wp2_with fail
          go_loopw [7] (fun i wr => XpInv W n y5 W.heap.size dA x2 dB T' g' e' i wr) (fun i _ => n - (intOf i).toNat)
          case atStart => exact ⟨0, z5, rfl, by omega, hcell, hthaw, hbyt, HNL.out, hT7⟩
          case round =>
            clear hcell hthaw hbyt hT7
            obtain ⟨m, ys, rfl, hm, hcell, hthaw, hbyt, hyl, hT⟩ := hrel
            by_cases hltm : m < n
            · have hc := hcell m hltm
              have hf := hthaw m
              have hz := hbyt m
              have HCE : Hid _ := hcell
              have HTH : Hid _ := hthaw
              have HBY : Hid _ := hbyt
              have HT : Hid _ := hT
              have HYL : Hid _ := hyl
              clear hcell hthaw hbyt hT hyl
              generalize ys.getD m 0 = z at *
              have HX : Hid _ := u8_xor255 z hz
              go_wp2_with fail
              go_roundw
              case rel =>
                rw [HX.out]
                have hyl := HYL.out
                refine ⟨m + 1, ys.set m (255 - z), by go_num, by omega, fun j hj => ?_, fun j => by rw [World.frozen?_setCell]; exact HTH.out j, byt_set HBY.out (by omega) (by omega), by rw [List.length_set]; exact hyl, HT.out.kp (Kp.set _ _ _ _) HN5.out.1 HN5.out.2.1 HN5.out.2.2⟩
                rw [getD_set _ _ _ _ (by omega)]
                split
                · rename_i e
                  subst e
                  exact World.cell?_setCell_same _ _ _ hc
                · rename_i e
                  rw [World.cell?_setCell_other _ _ _ _ (fun h => e (by have := (Addr.mk.inj h).2.1; omega))]
                  exact HCE.out j hj
              case measure => simp [intOf]; omega
            · clear hcell hthaw hbyt
              go_wp2_with fail
              go_roundw
              case rel => exact ⟨k + 1, T', g', e', dA, dB, by go_num, by omega, by omega, HOK.out.1, by have h1 := HOK.out.2; have h2 := HEK.out; omega, hT⟩
              case measure => simp [intOf]; omega
        · by_cases h16 : k % 16 = 0
          · have h20' : decide ((k : Int) < 20) = false := by simp; omega
            have h16' : (((k : Int) % 16) == 0) = true := by simp; omega
            have hx16 : Int.tmod (k : Int) 16 = (k : Int) % 16 := Int.tmod_eq_emod_of_nonneg (by omega)
            first
              | (have hT0 : Pu W wB W.heap.size dA T' g' e' x2 dB T' g' e' := hTB)
              | (have hT0 : Pu W wA W.heap.size dA T' g' e' x2 dB T' g' e' := hTA)
            clear hTA hTB
            go_wp2_with fail
            refine (bytes_ens hT0.e HOK.out.1 (by have h1 := HOK.out.2; have h2 := HEK.out; omega)).mono ?_; rintro ee w5 ⟨v5, rfl, y5, z5, hby5, hy5, hb5⟩
            have hT5 := hT0.below hb5
            have HN5 : Hid (¬ EB W.heap.size dA y5 ∧ ¬ EB x2 dB y5 ∧ W.heap.size ≤ y5) := ⟨fun h => by have := (hT0.e.bnd _ h).2; omega, fun h => by have := (hT0.f.bnd _ h).2; omega, Nat.le_trans hT0.bel.size hy5⟩
            clear hT0 hb5
            go_wp2_with fail
            refine (rbytes_efs hT5.f HOK.out.1 (by have h1 := HOK.out.2; have h2 := HEK.out; omega)).mono ?_; rintro ee w6 ⟨v6, rfl, y6, z6, hby6, hy6, hb6⟩
            have hT6 := hT5.below hb6
            have hby5' := hby5.below hb6 hby5.lies
            have HU : Hid (z5 = z6) := hby5'.uniq hby6
            clear hT5 hb6 hby5
            go_wp2_with fail
            have c7 := eqBytes_rr hby5'.rr hby6.rr (by have := hby5'.len; have h1 := HOK.out.2; have h2 := HEK.out; omega) hby5'.byt hby6.byt
            rw [show decide (z5 = z6) = true from by simp [HU.out]] at c7
            refine c7.mono ?_; rintro ee w7 ⟨rfl, hb7⟩
            have hT7 := hT6.below hb7
            have hby7 := hby5'.below hb7 hby5'.lies
            clear c7 hT6 hb7 hby5' hby6 HU
            obtain ⟨c5, rfl, _⟩ := hby7.form
            have hcell := hby7.cell
            have hthaw := hby7.thaw
            have hbyt := hby7.byt
            have hzl : z5.length ≤ 140737488355328 := by have := hby7.len; have h1 := HOK.out.2; have h2 := HEK.out; omega
            clear hby7
            generalize hn : z5.length = n at *
            have HNL : Hid _ := hn
            clear hn
            go_wp2_with fail
            go_loopw [7] (fun i wr => XpInv W n y5 W.heap.size dA x2 dB T' g' e' i wr) (fun i _ => n - (intOf i).toNat)
            case atStart => exact ⟨0, z5, rfl, by omega, hcell, hthaw, hbyt, HNL.out, hT7⟩
            case round =>
              clear hcell hthaw hbyt hT7
              obtain ⟨m, ys, rfl, hm, hcell, hthaw, hbyt, hyl, hT⟩ := hrel
              by_cases hltm : m < n
              · have hc := hcell m hltm
                have hf := hthaw m
                have hz := hbyt m
                have HCE : Hid _ := hcell
                have HTH : Hid _ := hthaw
                have HBY : Hid _ := hbyt
                have HT : Hid _ := hT
                have HYL : Hid _ := hyl
                clear hcell hthaw hbyt hT hyl
                generalize ys.getD m 0 = z at *
                have HX : Hid _ := u8_xor255 z hz
                go_wp2_with fail
                go_roundw
                case rel =>
                  rw [HX.out]
                  have hyl := HYL.out
                  refine ⟨m + 1, ys.set m (255 - z), by go_num, by omega, fun j hj => ?_, fun j => by rw [World.frozen?_setCell]; exact HTH.out j, byt_set HBY.out (by omega) (by omega), by rw [List.length_set]; exact hyl, HT.out.kp (Kp.set _ _ _ _) HN5.out.1 HN5.out.2.1 HN5.out.2.2⟩
                  rw [getD_set _ _ _ _ (by omega)]
                  split
                  · rename_i e
                    subst e
                    exact World.cell?_setCell_same _ _ _ hc
                  · rename_i e
                    rw [World.cell?_setCell_other _ _ _ _ (fun h => e (by have := (Addr.mk.inj h).2.1; omega))]
                    exact HCE.out j hj
                case measure => simp [intOf]; omega
              · clear hcell hthaw hbyt
                go_wp2_with fail
                go_roundw
                case rel => exact ⟨k + 1, T', g', e', dA, dB, by go_num, by omega, by omega, HOK.out.1, by have h1 := HOK.out.2; have h2 := HEK.out; omega, hT⟩
                case measure => simp [intOf]; omega
          · have h20' : decide ((k : Int) < 20) = false := by simp; omega
            have h16' : (((k : Int) % 16) == 0) = false := by rw [beq_eq_false_iff_ne]; omega
            go_wp2_with fail
            refine ⟨⟨k + 1, T', g', e', dA, dB, by go_num, by omega, by omega, HOK.out.1, by have h1 := HOK.out.2; have h2 := HEK.out; omega, ?_⟩, by simp [intOf]; omega⟩
            first | exact hTB | exact hTA
    · by_cases h1 : k < L.length
      · have h2 : ¬ k < 300 := by omega
        clear hlt
        have hT0 := hT
        clear hT
        go_wp2_with fail
        refine (bytes_ens hT0.e HE.out (by have := HEK.out; omega)).mono ?_; rintro ee w5 ⟨v5, rfl, y5, z5, hby5, hy5, hb5⟩
        have hT5 := hT0.below hb5
        have HN5 : Hid (¬ EB W.heap.size d1 y5 ∧ ¬ EB x2 d2 y5 ∧ W.heap.size ≤ y5) := ⟨fun h => by have := (hT0.e.bnd _ h).2; omega, fun h => by have := (hT0.f.bnd _ h).2; omega, Nat.le_trans hT0.bel.size hy5⟩
        clear hT0 hb5
        go_wp2_with fail
        refine (rbytes_efs hT5.f HE.out (by have := HEK.out; omega)).mono ?_; rintro ee w6 ⟨v6, rfl, y6, z6, hby6, hy6, hb6⟩
        have hT6 := hT5.below hb6
        have hby5' := hby5.below hb6 hby5.lies
        have HU : Hid (z5 = z6) := hby5'.uniq hby6
        clear hT5 hb6 hby5
        go_wp2_with fail
        have c7 := eqBytes_rr hby5'.rr hby6.rr (by have := hby5'.len; have := HEK.out; omega) hby5'.byt hby6.byt
        rw [show decide (z5 = z6) = true from by simp [HU.out]] at c7
        refine c7.mono ?_; rintro ee w7 ⟨rfl, hb7⟩
        have hT7 := hT6.below hb7
        have hby7 := hby5'.below hb7 hby5'.lies
        clear c7 hT6 hb7 hby5' hby6 HU
        go_wp2_with fail
        refine (works_true w7).mono ?_; rintro ee w8 ⟨rfl, hb8⟩
        have HB8 : Hid (Below W.heap.size W w8) := hT7.bel.trans (hb8.mono hT7.bel.size)
        clear hT7 hb8 hby7
        go_wp2_with fail
        go_ret
        exact ⟨rfl, HB8.out⟩
      · clear hlt
        have hT0 := hT
        clear hT
        go_wp2_with fail
        refine (bytes_ens hT0.e HE.out (by have := HEK.out; omega)).mono ?_; rintro ee w5 ⟨v5, rfl, y5, z5, hby5, hy5, hb5⟩
        have hT5 := hT0.below hb5
        have HN5 : Hid (¬ EB W.heap.size d1 y5 ∧ ¬ EB x2 d2 y5 ∧ W.heap.size ≤ y5) := ⟨fun h => by have := (hT0.e.bnd _ h).2; omega, fun h => by have := (hT0.f.bnd _ h).2; omega, Nat.le_trans hT0.bel.size hy5⟩
        clear hT0 hb5
        go_wp2_with fail
        refine (rbytes_efs hT5.f HE.out (by have := HEK.out; omega)).mono ?_; rintro ee w6 ⟨v6, rfl, y6, z6, hby6, hy6, hb6⟩
        have hT6 := hT5.below hb6
        have hby5' := hby5.below hb6 hby5.lies
        have HU : Hid (z5 = z6) := hby5'.uniq hby6
        clear hT5 hb6 hby5
        go_wp2_with fail
        have c7 := eqBytes_rr hby5'.rr hby6.rr (by have := hby5'.len; have := HEK.out; omega) hby5'.byt hby6.byt
        rw [show decide (z5 = z6) = true from by simp [HU.out]] at c7
        refine c7.mono ?_; rintro ee w7 ⟨rfl, hb7⟩
        have hT7 := hT6.below hb7
        have hby7 := hby5'.below hb7 hby5'.lies
        clear c7 hT6 hb7 hby5' hby6 HU
        go_wp2_with fail
        refine (works_true w7).mono ?_; rintro ee w8 ⟨rfl, hb8⟩
        have HB8 : Hid (Below W.heap.size W w8) := hT7.bel.trans (hb8.mono hT7.bel.size)
        clear hT7 hb8 hby7
        go_wp2_with fail
        go_ret
        exact ⟨rfl, HB8.out⟩

end Go.Proofs.YtogaekjohnbbiaaDoor
