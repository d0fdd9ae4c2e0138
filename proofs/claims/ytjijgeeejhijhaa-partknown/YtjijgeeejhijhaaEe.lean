/- DERIVED. The closure that grows the tree: of 8; all sizes. -/
import Derived.Test.YtjijgeeejhijhaaEc
import Derived.Test.YtjijgeeejhijhaaEd
namespace Go.Proofs.Ytjijgeeejhijhaa
open Go.RowKit

set_option maxRecDepth 100000 in
set_option maxHeartbeats 4000000 in
theorem grow_leaf8 {A : Ad} {Z : Nat → Prop} {w : World} {L ML : List Rc} {u kd : Nat} {x y sk : Int} (hsk : sk = 8) (hz : Zs A Z) (h : St A Z w L u) (ha : ArOk A.ar) (hr : rgn x y sk sk = true) (hrb : Rb x y sk sk) (hL : L.length ≤ 300)
    (hm : meet (x, y, sk, sk) A.ar = true) (hi : wthn (x, y, sk, sk) A.ar = true) (hp3 : kd = 0) (hML : cutR kd x y sk = ML) :
    Calls Try.prog 31 #[.agg #[.int .i64 x, .int .i64 y, .int .i64 sk, .int .i64 sk], .pointer (some ⟨A.pa, 0, none⟩), .pointer (some ⟨A.pp, 0, none⟩), .pointer (some ⟨A.pl, 0, none⟩), .pointer (some ⟨A.pg, 0, none⟩)] w fun e w' => Gq A Z w w' e L (ML, u) := by
  have HA1 : Hid (Zs A (Za Z w.heap.size)) := (h.more hz (from_alloc w (.cells #[] 23)) (Nat.le_refl _) (by simp)).1
  have HS0 : Hid (St A (Za Z w.heap.size) (w.alloc (.cells #[.int .i64 x, .int .i64 y, .int .i64 sk, .int .i64 sk] 23)) L u) := (h.more hz (from_alloc w _) (Nat.le_refl _) (by simp)).2
  have HK0 : Hid (Kz Z w (w.alloc (.cells #[.int .i64 x, .int .i64 y, .int .i64 sk, .int .i64 sk] 23))) := Kz.ofBelow h.zlt (from_alloc _ _)
  have HF0 : Hid (Fr (w.alloc (.cells #[.int .i64 x, .int .i64 y, .int .i64 sk, .int .i64 sk] 23)) w.heap.size x y sk sk) := Fr.box _ _ _ _ _
  have HZP : Hid (Za Z w.heap.size w.heap.size) := Or.inr rfl
  have HSub : Hid (∀ i, Z i → Za Z w.heap.size i) := fun _ q => Or.inl q
  have HM : Hid (∀ t, Calls Try.prog 32 #[.agg #[.int .i64 x, .int .i64 y, .int .i64 sk, .int .i64 sk], .agg #[.int .i64 A.ar.1, .int .i64 A.ar.2.1, .int .i64 A.ar.2.2.1, .int .i64 A.ar.2.2.2]] t fun e w' => e = .returned (.bool true) ∧ Below t.heap.size t w') := fun t => by rw [← hm]; exact meets_any hrb ha
  have HW : Hid (∀ t, Calls Try.prog 33 #[.agg #[.int .i64 x, .int .i64 y, .int .i64 sk, .int .i64 sk], .agg #[.int .i64 A.ar.1, .int .i64 A.ar.2.1, .int .i64 A.ar.2.2.1, .int .i64 A.ar.2.2.2]] t fun e w' => e = .returned (.bool true) ∧ Below t.heap.size t w') := fun t => by rw [← hi]; exact within_any hrb ha
  have HPk : Hid (∀ t, St A (Za Z w.heap.size) t L u → Calls Try.prog 30 #[.int .i64 sk, .pointer (some ⟨A.pu, 0, none⟩), .pointer (some ⟨A.pc, 0, none⟩)] t fun e w' => e = .returned (.int .i64 (kd : Int)) ∧ St A (Za Z w.heap.size) w' L u ∧ Kz (Za Z w.heap.size) t w') := fun t ht => by
    rw [hsk, hp3]
    refine pick_0.mono ?_
    rintro e w' ⟨rfl, rfl⟩
    exact ⟨rfl, ht, Kz.refl _ _⟩
  have HCu : Hid (∀ t, Calls Try.prog 11 #[.agg #[.int .i64 x, .int .i64 y, .int .i64 sk, .int .i64 sk], .int .i64 (kd : Int)] t fun e w' => Cq t w' e ML) := fun t => by
    rw [← hML]; exact cuts_ok hr (by rw [hsk, hp3]; decide)
  have hml := prt_len kd
  rw [← cutR_len kd x y sk, hML] at hml
  have HML : Hid (1 ≤ ML.length ∧ ML.length ≤ 4) := hml
  have k3 : ((kd : Int) != 3) = true := by rw [bne_iff_ne]; omega
  clear h hz ha hr hrb hm hi hp3 hML hsk hml
  unfold Gq
  go_enter Try.func31, Try.ntmps31
  go_upto_region 1 with fail
  generalize (w.alloc (.cells #[.int .i64 x, .int .i64 y, .int .i64 sk, .int .i64 sk] 23)) = w0 at *
  generalize w.heap.size = pr at *
  generalize Za Z pr = Z1 at *
  obtain ⟨a0, a1, a2, a3, a4, a5⟩ := HS0.out.fa
  obtain ⟨r0, r1, r2, r3⟩ := HF0.out
  go_wp2_with fail
  refine (HM.out _).mono ?_
  rintro e w1 ⟨rfl, hb⟩
  have HS1 : Hid (St A Z1 w1 L u) := HS0.out.to HA1.out hb
  have hk1 := Kz.ofBelow HS0.out.zlt hb
  have HK1 : Hid (Kz Z w w1) := HK0.out.trans (hk1.mono HSub.out)
  have HF1 : Hid (Fr w1 pr x y sk sk) := HF0.out.kz hk1 HZP.out
  clear hb hk1 HS0 HK0 HF0 a0 a1 a2 a3 a4 a5 r0 r1 r2 r3 HM
  obtain ⟨a0, a1, a2, a3, a4, a5⟩ := HS1.out.fa
  obtain ⟨r0, r1, r2, r3⟩ := HF1.out
  go_wp2_with fail
  refine (HW.out _).mono ?_
  rintro e w2 ⟨rfl, hb⟩
  have HS2 : Hid (St A Z1 w2 L u) := HS1.out.to HA1.out hb
  have hk1 := Kz.ofBelow HS1.out.zlt hb
  have HK2 : Hid (Kz Z w w2) := HK1.out.trans (hk1.mono HSub.out)
  have HF2 : Hid (Fr w2 pr x y sk sk) := HF1.out.kz hk1 HZP.out
  clear hb hk1 HS1 HK1 HF1 a0 a1 a2 a3 a4 a5 r0 r1 r2 r3 HW
  obtain ⟨a0, a1, a2, a3, a4, a5⟩ := HS2.out.fa
  obtain ⟨r0, r1, r2, r3⟩ := HF2.out
  go_wp2_with fail
  refine (HPk.out _ HS2.out).mono ?_
  rintro e w3 ⟨rfl, hs, hk1⟩
  have HS3 : Hid (St A Z1 w3 L u) := hs
  have HK3 : Hid (Kz Z w w3) := HK2.out.trans (hk1.mono HSub.out)
  have HF3 : Hid (Fr w3 pr x y sk sk) := HF2.out.kz hk1 HZP.out
  clear hs hk1 HS2 HK2 HF2 a0 a1 a2 a3 a4 a5 r0 r1 r2 r3 HPk
  obtain ⟨a0, a1, a2, a3, a4, a5⟩ := HS3.out.fa
  obtain ⟨r0, r1, r2, r3⟩ := HF3.out
  go_wp2_with fail
  refine (HCu.out _).mono ?_
  rintro e w4 ⟨gp, rfl, hrow, hgp, hb⟩
  have HA2 : Hid (Zs A (Za Z1 gp)) := (HS3.out.more HA1.out hb hgp hrow.lt).1
  have HS4 : Hid (St A (Za Z1 gp) w4 L u) := (HS3.out.more HA1.out hb hgp hrow.lt).2
  have hk1 := Kz.ofBelow HS3.out.zlt hb
  have HK4 : Hid (Kz Z w w4) := HK3.out.trans (hk1.mono HSub.out)
  have HR4 : Hid (Hr w4 gp ML) := hrow
  have HSub2 : Hid (∀ i, Z i → Za Z1 gp i) := fun i q => Or.inl (HSub.out i q)
  have HGP : Hid (Za Z1 gp gp) := Or.inr rfl
  clear hrow hgp hb hk1 HS3 HK3 HF3 a0 a1 a2 a3 a4 a5 r0 r1 r2 r3 HCu
  generalize Za Z1 gp = Z2 at *
  obtain ⟨v, l0, HO, _⟩ := HS4.out.leaf
  have HV : Hid (w4.cell? ⟨A.pl, 0, none⟩ = some v) := l0
  have HOw : Hid (Or4 w4 0 v L) := HO
  have HL : Hid (L.length ≤ 300) := hL
  have lf0 := HS4.out.leaff
  clear HO hL
  have HG : Hid (∀ w5 g n cap, Or4 w5 0 (.slice (some ⟨g, 0, none⟩) n cap) (L ++ ML) → w4.grownBy w5 v.ownBlock → (v.ownBlock = some g ∨ g = w4.heap.size) → g < w5.heap.size → St A Z2 (w5.setCell ⟨A.pl, 0, none⟩ (.slice (some ⟨g, 0, none⟩) n cap)) (L ++ ML) u ∧ Kz Z2 w4 (w5.setCell ⟨A.pl, 0, none⟩ (.slice (some ⟨g, 0, none⟩) n cap)) ∧ w5.cell? ⟨A.pl, 0, none⟩ = some v ∧ w5.frozen? ⟨A.pl, 0, none⟩ = false) := fun w5 g n cap h1 h2 h3 h4 => by
    have q := HS4.out.grown HA2.out HV.out HOw.out h1 h2 h3 h4
    have l3 := HS4.out.leaf
    obtain ⟨v', m1, _, m3⟩ := l3
    rw [HV.out] at m1
    obtain rfl := Option.some.inj m1
    have bl : w5.heap[A.pl]? = w4.heap[A.pl]? := h2.block _ HS4.out.llt (fun e => (m3 _ e.symm).2.1 rfl)
    exact ⟨q.1, q.2, by rw [World.cell?_of_block (by exact bl)]; exact HV.out, by rw [World.frozen?_of_block (by exact bl)]; exact HS4.out.leaff⟩
  go_wp2_with (at_builtin; refine wpList_append_rc _ (by rfl) _ _ (by rfl) v L ML gp _ HOw.out HR4.out HML.out.1 (by have := HL.out; omega) (by have := HML.out.2; omega) (by rfl) (by rfl) ?_; intro g cap w5 h1 h2 h3 h4; obtain ⟨q1, q2, q3, q4⟩ := HG.out w5 g _ cap h1 h2 h3 h4; have Q1 : Hid _ := q1; have Q2 : Hid _ := q2; clear q1 q2 h1 h2 h3 h4)
  refine bodyPost_ret (results_none rfl _ _ _) rfl ?_
  exact ⟨rfl, Q1.out.sub HSub2.out, HK4.out.trans (Q2.out.mono HSub2.out)⟩

set_option maxRecDepth 100000 in
set_option maxHeartbeats 4000000 in
theorem grow_part8 {A : Ad} {Z : Nat → Prop} {w : World} {L : List Rc} {u : Nat} {x y sk : Int} (hsk : sk = 8) (hz : Zs A Z) (h : St A Z w L u) (ha : ArOk A.ar) (hrb : Rb x y sk sk)
    (hm : meet (x, y, sk, sk) A.ar = true) (hi : wthn (x, y, sk, sk) A.ar = false) :
    Calls Try.prog 31 #[.agg #[.int .i64 x, .int .i64 y, .int .i64 sk, .int .i64 sk], .pointer (some ⟨A.pa, 0, none⟩), .pointer (some ⟨A.pp, 0, none⟩), .pointer (some ⟨A.pl, 0, none⟩), .pointer (some ⟨A.pg, 0, none⟩)] w fun e w' => Gq A Z w w' e L ([], u) := by
  have HA1 : Hid (Zs A (Za Z w.heap.size)) := (h.more hz (from_alloc w (.cells #[] 23)) (Nat.le_refl _) (by simp)).1
  have HS0 : Hid (St A (Za Z w.heap.size) (w.alloc (.cells #[.int .i64 x, .int .i64 y, .int .i64 sk, .int .i64 sk] 23)) L u) := (h.more hz (from_alloc w _) (Nat.le_refl _) (by simp)).2
  have HK0 : Hid (Kz Z w (w.alloc (.cells #[.int .i64 x, .int .i64 y, .int .i64 sk, .int .i64 sk] 23))) := Kz.ofBelow h.zlt (from_alloc _ _)
  have HF0 : Hid (Fr (w.alloc (.cells #[.int .i64 x, .int .i64 y, .int .i64 sk, .int .i64 sk] 23)) w.heap.size x y sk sk) := Fr.box _ _ _ _ _
  have HZP : Hid (Za Z w.heap.size w.heap.size) := Or.inr rfl
  have HSub : Hid (∀ i, Z i → Za Z w.heap.size i) := fun _ q => Or.inl q
  have HM : Hid (∀ t, Calls Try.prog 32 #[.agg #[.int .i64 x, .int .i64 y, .int .i64 sk, .int .i64 sk], .agg #[.int .i64 A.ar.1, .int .i64 A.ar.2.1, .int .i64 A.ar.2.2.1, .int .i64 A.ar.2.2.2]] t fun e w' => e = .returned (.bool true) ∧ Below t.heap.size t w') := fun t => by rw [← hm]; exact meets_any hrb ha
  have HW : Hid (∀ t, Calls Try.prog 33 #[.agg #[.int .i64 x, .int .i64 y, .int .i64 sk, .int .i64 sk], .agg #[.int .i64 A.ar.1, .int .i64 A.ar.2.1, .int .i64 A.ar.2.2.1, .int .i64 A.ar.2.2.2]] t fun e w' => e = .returned (.bool false) ∧ Below t.heap.size t w') := fun t => by rw [← hi]; exact within_any hrb ha
  have HCu : Hid (∀ t, Calls Try.prog 11 #[.agg #[.int .i64 x, .int .i64 y, .int .i64 sk, .int .i64 sk], .int .i64 3] t fun e w' => Cn t w' e) := fun t => cuts_no (fun q => by have := q.2.2; rw [hsk] at this; exact absurd this (by decide))
  clear h hz ha hrb hm hi hsk
  unfold Gq
  go_enter Try.func31, Try.ntmps31
  go_upto_region 1 with fail
  generalize (w.alloc (.cells #[.int .i64 x, .int .i64 y, .int .i64 sk, .int .i64 sk] 23)) = w0 at *
  generalize w.heap.size = pr at *
  generalize Za Z pr = Z1 at *
  obtain ⟨a0, a1, a2, a3, a4, a5⟩ := HS0.out.fa
  obtain ⟨r0, r1, r2, r3⟩ := HF0.out
  go_wp2_with fail
  refine (HM.out _).mono ?_
  rintro e w1 ⟨rfl, hb⟩
  have HS1 : Hid (St A Z1 w1 L u) := HS0.out.to HA1.out hb
  have hk1 := Kz.ofBelow HS0.out.zlt hb
  have HK1 : Hid (Kz Z w w1) := HK0.out.trans (hk1.mono HSub.out)
  have HF1 : Hid (Fr w1 pr x y sk sk) := HF0.out.kz hk1 HZP.out
  clear hb hk1 HS0 HK0 HF0 a0 a1 a2 a3 a4 a5 r0 r1 r2 r3 HM
  obtain ⟨a0, a1, a2, a3, a4, a5⟩ := HS1.out.fa
  obtain ⟨r0, r1, r2, r3⟩ := HF1.out
  go_wp2_with fail
  refine (HW.out _).mono ?_
  rintro e w2 ⟨rfl, hb⟩
  have HS2 : Hid (St A Z1 w2 L u) := HS1.out.to HA1.out hb
  have hk1 := Kz.ofBelow HS1.out.zlt hb
  have HK2 : Hid (Kz Z w w2) := HK1.out.trans (hk1.mono HSub.out)
  have HF2 : Hid (Fr w2 pr x y sk sk) := HF1.out.kz hk1 HZP.out
  clear hb hk1 HS1 HK1 HF1 a0 a1 a2 a3 a4 a5 r0 r1 r2 r3 HW
  obtain ⟨a0, a1, a2, a3, a4, a5⟩ := HS2.out.fa
  obtain ⟨r0, r1, r2, r3⟩ := HF2.out
  go_wp2_with fail
  refine (HCu.out _).mono ?_
  rintro e w4 ⟨rfl, hb⟩
  have HS4 : Hid (St A Z1 w4 L u) := HS2.out.to HA1.out hb
  have HK4 : Hid (Kz Z w w4) := HK2.out.trans ((Kz.ofBelow HS2.out.zlt hb).mono HSub.out)
  clear hb HS2 HK2 HF2 a0 a1 a2 a3 a4 a5 r0 r1 r2 r3 HCu
  go_wp2_with fail
  go_loopw [35] (fun i wr => i = .int .i64 0 ∧ wr = w4) (fun _ _ => 0)
  case atStart => exact ⟨rfl, rfl⟩
  case round =>
    obtain ⟨rfl, rfl⟩ := hrel
    go_wp2_with fail
    go_end0
    exact ⟨rfl, by rw [List.append_nil]; exact HS4.out.sub HSub.out, HK4.out⟩

theorem grow_all : ∀ k, k < 4 → Gk k
  | 0, _ => fun A Z w L u x y hz h ha hr hx hy hC hL => by
    by_cases hm : meet (x, y, sd 0, sd 0) A.ar = true
    · by_cases hi : wthn (x, y, sd 0, sd 0) A.ar = true
      · rw [tree_0 hm hi]
        exact grow_leaf8 rfl hz h ha hr (rgn_rb (by omega) hr) (by have := lf_pos 0; omega) hm hi rfl rfl
      · rw [tree_0n (by simpa using hi)]
        exact grow_part8 rfl hz h ha (rgn_rb (by omega) hr) hm (by simpa using hi)
    · exact grow_off (by omega) hz h ha hr (by simpa using hm)
  | k + 1, hk => fun A Z w L u x y hz h ha hr hx hy hC hL => by
    have ih := grow_all k (by omega)
    have e : lf (k + 1) = 4 * lf k := rfl
    by_cases hm : meet (x, y, sd (k + 1), sd (k + 1)) A.ar = true
    · by_cases hi : wthn (x, y, sd (k + 1), sd (k + 1)) A.ar = true
      · by_cases hp : pkV (k + 1) A.C u = 3
        · rw [tree_split hm hi hp]
          exact grow_split (by omega) ih rfl rfl hz h ha hr (rgn_rb hk hr) hC (by omega) hx hy hm hi hp rfl
        · rw [tree_in hm hi hp]
          exact grow_leaf (by omega) rfl hz h ha hr (rgn_rb hk hr) hC (by have := lf_pos k; omega) hm hi rfl hp rfl
      · rw [tree_part hm (by simpa using hi)]
        exact grow_part (by omega) ih rfl rfl hz h ha hr (rgn_rb hk hr) hC (by omega) hx hy hm (by simpa using hi) rfl
    · exact grow_off hk hz h ha hr (by simpa using hm)
end Go.Proofs.Ytjijgeeejhijhaa
