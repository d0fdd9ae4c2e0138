/- DERIVED. The closure that grows the tree: quarters. -/
import Derived.Test.YtjijgeeejhijhaaEc
import Derived.Test.YtjijgeeejhijhaaCf
namespace Go.Proofs.Ytjijgeeejhijhaa
open Go.RowKit

set_option maxRecDepth 100000 in
set_option maxHeartbeats 4000000 in
theorem grow_split {k : Nat} (hk3 : k < 3) {A : Ad} {Z : Nat → Prop} {w : World} {L : List Rc} {u u' : Nat} {x y sk hf : Int} (ih : Gk k) (hsk : sd (k + 1) = sk) (hhf : sd k = hf) (hz : Zs A Z) (h : St A Z w L u) (ha : ArOk A.ar) (hr : rgn x y sk sk = true) (hrb : Rb x y sk sk) (hC : A.C.length ≤ 140737488355328) (hL : L.length + 4 * lf k ≤ 300) (hx : x + sk ≤ 2048) (hy : y + sk ≤ 2048)
    (hm : meet (x, y, sk, sk) A.ar = true) (hi : wthn (x, y, sk, sk) A.ar = true) (hp : pkV (k + 1) A.C u = 3) (hu' : pkU A.C u = u') :
    Calls Try.prog 31 #[.agg #[.int .i64 x, .int .i64 y, .int .i64 sk, .int .i64 sk], .pointer (some ⟨A.pa, 0, none⟩), .pointer (some ⟨A.pp, 0, none⟩), .pointer (some ⟨A.pl, 0, none⟩), .pointer (some ⟨A.pg, 0, none⟩)] w fun e w' => Gq A Z w w' e L (qsq (tree A.ar A.C k) x y hf u' 4) := by
  have hk : k + 1 < 4 := by omega
  have HA1 : Hid (Zs A (Za Z w.heap.size)) := (h.more hz (from_alloc w (.cells #[] 23)) (Nat.le_refl _) (by simp)).1
  have HS0 : Hid (St A (Za Z w.heap.size) (w.alloc (.cells #[.int .i64 x, .int .i64 y, .int .i64 sk, .int .i64 sk] 23)) L u) := (h.more hz (from_alloc w _) (Nat.le_refl _) (by simp)).2
  have HK0 : Hid (Kz Z w (w.alloc (.cells #[.int .i64 x, .int .i64 y, .int .i64 sk, .int .i64 sk] 23))) := Kz.ofBelow h.zlt (from_alloc _ _)
  have HF0 : Hid (Fr (w.alloc (.cells #[.int .i64 x, .int .i64 y, .int .i64 sk, .int .i64 sk] 23)) w.heap.size x y sk sk) := Fr.box _ _ _ _ _
  have HZP : Hid (Za Z w.heap.size w.heap.size) := Or.inr rfl
  have HSub : Hid (∀ i, Z i → Za Z w.heap.size i) := fun _ q => Or.inl q
  have HM : Hid (∀ t, Calls Try.prog 32 #[.agg #[.int .i64 x, .int .i64 y, .int .i64 sk, .int .i64 sk], .agg #[.int .i64 A.ar.1, .int .i64 A.ar.2.1, .int .i64 A.ar.2.2.1, .int .i64 A.ar.2.2.2]] t fun e w' => e = .returned (.bool true) ∧ Below t.heap.size t w') := fun t => by rw [← hm]; exact meets_any hrb ha
  have HW : Hid (∀ t, Calls Try.prog 33 #[.agg #[.int .i64 x, .int .i64 y, .int .i64 sk, .int .i64 sk], .agg #[.int .i64 A.ar.1, .int .i64 A.ar.2.1, .int .i64 A.ar.2.2.1, .int .i64 A.ar.2.2.2]] t fun e w' => e = .returned (.bool true) ∧ Below t.heap.size t w') := fun t => by rw [← hi]; exact within_any hrb ha
  have HPk : Hid (∀ t, St A (Za Z w.heap.size) t L u → Calls Try.prog 30 #[.int .i64 sk, .pointer (some ⟨A.pu, 0, none⟩), .pointer (some ⟨A.pc, 0, none⟩)] t fun e w' => e = .returned (.int .i64 3) ∧ St A (Za Z w.heap.size) w' L (pkU A.C u) ∧ Kz (Za Z w.heap.size) t w') := fun t ht => by
    have := pick_any HA1.out ht hk (by omega) hC
    rw [hp, hsk] at this; exact this
  have HCu : Hid (∀ t, Calls Try.prog 11 #[.agg #[.int .i64 x, .int .i64 y, .int .i64 sk, .int .i64 sk], .int .i64 3] t fun e w' => Cq t w' e (cutR 3 x y sk)) := fun t => cuts_ok (kd := 3) hr (by rw [← hsk, tyN_sd hk]; match k, hk3 with
    | 0, _ | 1, _ | 2, _ => decide)
  have hsh : sk = 2 * hf := by rw [← hsk, ← hhf]; exact sd_half hk3
  have hq4 : cutR 3 x y sk = [(x, y, hf, hf), (x + hf, y, hf, hf), (x, y + hf, hf, hf), (x + hf, y + hf, hf, hf)] := by
    have hs4 : sk % 8 = 0 := by rcases sd_cases hk with q | q | q | q <;> omega
    rw [cutR_cutH (q := sk / 4) (h := hf) (by omega) (by omega)]; rfl
  have HLen : Hid ((cutR 3 x y sk).length = 4) := by show _ = _; rw [hq4]; rfl
  have HQr : Hid (∀ i, i < 4 → (cutR 3 x y sk).getD i rz = (x + ((i % 2 : Nat) : Int) * hf, y + ((i / 2 : Nat) : Int) * hf, hf, hf)) := by
    intro i hi
    rw [hq4]
    match i, hi with
    | 0, _ => simp
    | 1, _ => simp
    | 2, _ => simp
    | 3, _ => simp
  have HRg : Hid (∀ i, i < 4 → rgn (x + ((i % 2 : Nat) : Int) * hf) (y + ((i / 2 : Nat) : Int) * hf) (sd k) (sd k) = true) := by
    intro i hi
    obtain ⟨-, -, ⟨x0, x1, x2⟩, ⟨y0, y1, y2⟩⟩ := rgn_in hr
    have e1 := sd_cases (show k < 4 by omega)
    rw [hhf] at e1 ⊢
    have e2 : (((i % 2 : Nat) : Int) * hf = 0 ∨ ((i % 2 : Nat) : Int) * hf = hf) := by
      match i, hi with
      | 0, _ | 1, _ | 2, _ | 3, _ => simp
    have e3 : (((i / 2 : Nat) : Int) * hf = 0 ∨ ((i / 2 : Nat) : Int) * hf = hf) := by
      match i, hi with
      | 0, _ | 1, _ | 2, _ | 3, _ => simp
    generalize ((i % 2 : Nat) : Int) * hf = m1 at *
    generalize ((i / 2 : Nat) : Int) * hf = m2 at *
    exact rgn_mk (by omega) (by omega) (by omega)
  have HRx : Hid (∀ i, i < 4 → x + ((i % 2 : Nat) : Int) * hf + hf ≤ 2048 ∧ y + ((i / 2 : Nat) : Int) * hf + hf ≤ 2048) := by
    intro i hi
    have e1 := sd_cases (show k < 4 by omega)
    rw [hhf] at e1
    match i, hi with
    | 0, _ | 1, _ | 2, _ | 3, _ => simp; omega
  have HIh : Hid (∀ (Z' : Nat → Prop) (t : World) (L' : List Rc) (v i : Nat), i < 4 → Zs A Z' → St A Z' t L' v → L'.length + lf k ≤ 300 → Calls Try.prog 31 #[.agg #[.int .i64 (x + ((i % 2 : Nat) : Int) * hf), .int .i64 (y + ((i / 2 : Nat) : Int) * hf), .int .i64 hf, .int .i64 hf], .pointer (some ⟨A.pa, 0, none⟩), .pointer (some ⟨A.pp, 0, none⟩), .pointer (some ⟨A.pl, 0, none⟩), .pointer (some ⟨A.pg, 0, none⟩)] t fun e w' => Gq A Z' t w' e L' (tree A.ar A.C k (x + ((i % 2 : Nat) : Int) * hf) (y + ((i / 2 : Nat) : Int) * hf) v)) := fun Z' t L' v i hi hz' hs' hl' => by
    have := ih A Z' t L' v _ _ hz' hs' ha (HRg.out i hi) (by rw [hhf]; exact (HRx.out i hi).1) (by rw [hhf]; exact (HRx.out i hi).2) hC hl'
    rwa [hhf] at this
  have HTl : Hid (∀ i, (qsq (tree A.ar A.C k) x y hf u' i).1.length ≤ i * lf k) := fun i => qsq_len (fun x y z => tree_len k x y z) i
  have HL : Hid (L.length + 4 * lf k ≤ 300) := hL
  have HQS : Hid (∀ i, qsq (tree A.ar A.C k) x y hf u' (i + 1) = ((qsq (tree A.ar A.C k) x y hf u' i).1 ++ (tree A.ar A.C k (x + ((i % 2 : Nat) : Int) * hf) (y + ((i / 2 : Nat) : Int) * hf) (qsq (tree A.ar A.C k) x y hf u' i).2).1, (tree A.ar A.C k (x + ((i % 2 : Nat) : Int) * hf) (y + ((i / 2 : Nat) : Int) * hf) (qsq (tree A.ar A.C k) x y hf u' i).2).2)) := fun i => rfl
  have HQ0 : Hid (qsq (tree A.ar A.C k) x y hf u' 0 = ([], u')) := rfl
  generalize qsq (tree A.ar A.C k) x y hf u' = qf at *
  have HI0 : Hid (St A (Za Z w.heap.size) (w.alloc (.cells #[] 23)) L u → True) := fun _ => trivial
  clear HI0
  generalize cutR 3 x y sk = ML at *
  clear h hz ha hr hrb hC hm hi hp  hsk hk hk3 hq4 hL ih hsh hhf HRg HRx hx hy
  unfold Gq
  go_enter Try.func31, Try.ntmps31
  go_upto_region 1 with fail
  generalize (w.alloc (.cells #[.int .i64 x, .int .i64 y, .int .i64 sk, .int .i64 sk] 23)) = w0 at *
  generalize w.heap.size = pr at *
  generalize Za Z pr = Z1 at *
  obtain ⟨a0, a1, a2, a3, a4, a5⟩ := HS0.out.fa
  obtain ⟨r0, r1, r2, r3⟩ := HF0.out
  go_wp2_with fail
  refine (HM.out _).mono ?_
  rintro e w1 ⟨rfl, hb⟩
  have HS1 : Hid (St A Z1 w1 L u) := HS0.out.to HA1.out hb
  have hk1 := Kz.ofBelow HS0.out.zlt hb
  have HK1 : Hid (Kz Z w w1) := HK0.out.trans (hk1.mono HSub.out)
  have HF1 : Hid (Fr w1 pr x y sk sk) := HF0.out.kz hk1 HZP.out
  clear hb hk1 HS0 HK0 HF0 a0 a1 a2 a3 a4 a5 r0 r1 r2 r3 HM
  obtain ⟨a0, a1, a2, a3, a4, a5⟩ := HS1.out.fa
  obtain ⟨r0, r1, r2, r3⟩ := HF1.out
  go_wp2_with fail
  refine (HW.out _).mono ?_
  rintro e w2 ⟨rfl, hb⟩
  have HS2 : Hid (St A Z1 w2 L u) := HS1.out.to HA1.out hb
  have hk1 := Kz.ofBelow HS1.out.zlt hb
  have HK2 : Hid (Kz Z w w2) := HK1.out.trans (hk1.mono HSub.out)
  have HF2 : Hid (Fr w2 pr x y sk sk) := HF1.out.kz hk1 HZP.out
  clear hb hk1 HS1 HK1 HF1 a0 a1 a2 a3 a4 a5 r0 r1 r2 r3 HW
  obtain ⟨a0, a1, a2, a3, a4, a5⟩ := HS2.out.fa
  obtain ⟨r0, r1, r2, r3⟩ := HF2.out
  go_wp2_with fail
  refine (HPk.out _ HS2.out).mono ?_
  rintro e w3 ⟨rfl, hs, hk1⟩
  have HS3 : Hid (St A Z1 w3 L (pkU A.C u)) := hs
  have HK3 : Hid (Kz Z w w3) := HK2.out.trans (hk1.mono HSub.out)
  have HF3 : Hid (Fr w3 pr x y sk sk) := HF2.out.kz hk1 HZP.out
  clear hs hk1 HS2 HK2 HF2 a0 a1 a2 a3 a4 a5 r0 r1 r2 r3 HPk
  obtain ⟨a0, a1, a2, a3, a4, a5⟩ := HS3.out.fa
  obtain ⟨r0, r1, r2, r3⟩ := HF3.out
  go_wp2_with fail
  refine (HCu.out _).mono ?_
  rintro e w4 ⟨gp, rfl, hrow, hgp, hb⟩
  have HA2 : Hid (Zs A (Za Z1 gp)) := (HS3.out.more HA1.out hb hgp hrow.lt).1
  have HS4 : Hid (St A (Za Z1 gp) w4 L (pkU A.C u)) := (HS3.out.more HA1.out hb hgp hrow.lt).2
  have hk1 := Kz.ofBelow HS3.out.zlt hb
  have HK4 : Hid (Kz Z w w4) := HK3.out.trans (hk1.mono HSub.out)
  have HR4 : Hid (Hr w4 gp ML) := hrow
  have HSub2 : Hid (∀ i, Z i → Za Z1 gp i) := fun i q => Or.inl (HSub.out i q)
  have HGP : Hid (Za Z1 gp gp) := Or.inr rfl
  clear hrow hgp hb hk1 HS3 HK3 HF3 a0 a1 a2 a3 a4 a5 r0 r1 r2 r3 HCu
  generalize Za Z1 gp = Z2 at *
  go_wp2_with fail
  have I0 : Hid (St A Z2 w4 (L ++ (qf 0).1) (qf 0).2) := by show St _ _ _ _ _; rw [HQ0.out, List.append_nil]; rw [← hu'];  exact HS4.out
  generalize hq0 : ML.length = n4 at *
  have HQL : Hid (ML.length = n4) := hq0
  clear hq0 HS4
  go_loopw [35] (fun i wr => ∃ j : Nat, j ≤ n4 ∧ i = .int .i64 j ∧ St A Z2 wr (L ++ (qf j).1) (qf j).2 ∧ Kz Z2 w4 wr) (fun i _ => n4 - (intOf i).toNat)
  case atStart => exact ⟨0, by omega, rfl, I0.out, Kz.refl _ _⟩
  case round =>
    clear I0
    obtain ⟨j, hj, rfl, hs, hkr⟩ := hrel
    have HSr : Hid _ := hs
    have HKr : Hid _ := hkr
    by_cases hln : j < n4
    · have hlt : j < 4 := by have := HLen.out; omega
      have hrow : Hr wr gp ML := HR4.out.carry (hkr.block _ HGP.out)
      have hcl := hrow.cl (j := j) (by rw [HQL.out]; exact hln)
      rw [HQr.out j hlt] at hcl
      obtain ⟨q0, q1, q2, q3⟩ := hcl
      simp only at q0 q1 q2 q3
      have HCl := HIh.out Z2
      have HLj : Hid ((L ++ (qf j).1).length + lf k ≤ 300) := by
        show _ ≤ _
        have h1 := HTl.out j
        have h2 := HL.out
        have h3 : j * lf k + lf k ≤ 4 * lf k := by rw [← Nat.succ_mul]; exact Nat.mul_le_mul_right _ hlt
        rw [List.length_append]; omega
      have HC2 : Hid (∀ t, St A Z2 t (L ++ (qf j).1) (qf j).2 → Calls Try.prog 31 #[.agg #[.int .i64 (x + ((j % 2 : Nat) : Int) * hf), .int .i64 (y + ((j / 2 : Nat) : Int) * hf), .int .i64 hf, .int .i64 hf], .pointer (some ⟨A.pa, 0, none⟩), .pointer (some ⟨A.pp, 0, none⟩), .pointer (some ⟨A.pl, 0, none⟩), .pointer (some ⟨A.pg, 0, none⟩)] t fun e w' => Gq A Z2 t w' e (L ++ (qf j).1) (tree A.ar A.C k (x + ((j % 2 : Nat) : Int) * hf) (y + ((j / 2 : Nat) : Int) * hf) (qf j).2)) := fun t ht => HIh.out Z2 t _ _ j hlt HA2.out ht HLj.out
      have HQj := HQS.out j
      have HQJ : Hid _ := HQj
      clear HQj HCl HLj
      generalize x + ((j % 2 : Nat) : Int) * hf = X at *
      generalize y + ((j / 2 : Nat) : Int) * hf = Y at *
      have HWa : Hid (Below wr.heap.size wr (wr.alloc (.cells #[.int .i64 X, .int .i64 Y, .int .i64 hf, .int .i64 hf] 23))) := from_alloc _ _
      have HSa : Hid (St A Z2 (wr.alloc (.cells #[.int .i64 X, .int .i64 Y, .int .i64 hf, .int .i64 hf] 23)) (L ++ (qf j).1) (qf j).2) := HSr.out.to HA2.out HWa.out
      have HKa : Hid (Kz Z2 w4 (wr.alloc (.cells #[.int .i64 X, .int .i64 Y, .int .i64 hf, .int .i64 hf] 23))) := HKr.out.trans (Kz.ofBelow HSr.out.zlt HWa.out)
      have g5 : (wr.alloc (.cells #[.int .i64 X, .int .i64 Y, .int .i64 hf, .int .i64 hf] 23)).cell? ⟨A.pg, 0, none⟩ = some (.func (.func 31) #[] #[.pointer (some ⟨A.pa, 0, none⟩), .pointer (some ⟨A.pp, 0, none⟩), .pointer (some ⟨A.pl, 0, none⟩), .pointer (some ⟨A.pg, 0, none⟩)]) := HSa.out.fa.grow
      have g4 : wr.cell? ⟨A.pg, 0, none⟩ = some (.func (.func 31) #[] #[.pointer (some ⟨A.pa, 0, none⟩), .pointer (some ⟨A.pp, 0, none⟩), .pointer (some ⟨A.pl, 0, none⟩), .pointer (some ⟨A.pg, 0, none⟩)]) := HSr.out.fa.grow
      have j0 : (0 : Int) ≤ (j : Int) := by omega
      have j1 : (j : Int) < (n4 : Int) := by omega
      clear hs hkr hrow HWa
      go_wp2_with fail
      refine (HC2.out _ HSa.out).mono ?_
      rintro e w6 ⟨rfl, hs6, hk6⟩
      have HS6 : Hid _ := hs6
      have HK6 : Hid (Kz Z2 w4 w6) := HKa.out.trans hk6
      clear hs6 hk6 g4 g5
      go_wp2_with fail
      go_roundw
      case rel => exact ⟨j + 1, by omega, by go_num, by rw [HQJ.out, ← List.append_assoc]; exact HS6.out, HK6.out⟩
      case measure => simp [intOf]; omega
    · obtain rfl : j = n4 := by omega
      rw [HLen.out] at HSr
      clear HQL HLen
      clear hs hkr
      go_wp2_with fail
      go_end0
      exact ⟨rfl, HSr.out.sub HSub2.out, HK4.out.trans (HKr.out.mono HSub2.out)⟩

set_option maxRecDepth 100000 in
set_option maxHeartbeats 4000000 in
theorem grow_part {k : Nat} (hk3 : k < 3) {A : Ad} {Z : Nat → Prop} {w : World} {L : List Rc} {u u' : Nat} {x y sk hf : Int} (ih : Gk k) (hsk : sd (k + 1) = sk) (hhf : sd k = hf) (hz : Zs A Z) (h : St A Z w L u) (ha : ArOk A.ar) (hr : rgn x y sk sk = true) (hrb : Rb x y sk sk) (hC : A.C.length ≤ 140737488355328) (hL : L.length + 4 * lf k ≤ 300) (hx : x + sk ≤ 2048) (hy : y + sk ≤ 2048)
    (hm : meet (x, y, sk, sk) A.ar = true) (hi : wthn (x, y, sk, sk) A.ar = false) (hu' : u = u') :
    Calls Try.prog 31 #[.agg #[.int .i64 x, .int .i64 y, .int .i64 sk, .int .i64 sk], .pointer (some ⟨A.pa, 0, none⟩), .pointer (some ⟨A.pp, 0, none⟩), .pointer (some ⟨A.pl, 0, none⟩), .pointer (some ⟨A.pg, 0, none⟩)] w fun e w' => Gq A Z w w' e L (qsq (tree A.ar A.C k) x y hf u' 4) := by
  have hk : k + 1 < 4 := by omega
  have HA1 : Hid (Zs A (Za Z w.heap.size)) := (h.more hz (from_alloc w (.cells #[] 23)) (Nat.le_refl _) (by simp)).1
  have HS0 : Hid (St A (Za Z w.heap.size) (w.alloc (.cells #[.int .i64 x, .int .i64 y, .int .i64 sk, .int .i64 sk] 23)) L u) := (h.more hz (from_alloc w _) (Nat.le_refl _) (by simp)).2
  have HK0 : Hid (Kz Z w (w.alloc (.cells #[.int .i64 x, .int .i64 y, .int .i64 sk, .int .i64 sk] 23))) := Kz.ofBelow h.zlt (from_alloc _ _)
  have HF0 : Hid (Fr (w.alloc (.cells #[.int .i64 x, .int .i64 y, .int .i64 sk, .int .i64 sk] 23)) w.heap.size x y sk sk) := Fr.box _ _ _ _ _
  have HZP : Hid (Za Z w.heap.size w.heap.size) := Or.inr rfl
  have HSub : Hid (∀ i, Z i → Za Z w.heap.size i) := fun _ q => Or.inl q
  have HM : Hid (∀ t, Calls Try.prog 32 #[.agg #[.int .i64 x, .int .i64 y, .int .i64 sk, .int .i64 sk], .agg #[.int .i64 A.ar.1, .int .i64 A.ar.2.1, .int .i64 A.ar.2.2.1, .int .i64 A.ar.2.2.2]] t fun e w' => e = .returned (.bool true) ∧ Below t.heap.size t w') := fun t => by rw [← hm]; exact meets_any hrb ha
  have HW : Hid (∀ t, Calls Try.prog 33 #[.agg #[.int .i64 x, .int .i64 y, .int .i64 sk, .int .i64 sk], .agg #[.int .i64 A.ar.1, .int .i64 A.ar.2.1, .int .i64 A.ar.2.2.1, .int .i64 A.ar.2.2.2]] t fun e w' => e = .returned (.bool false) ∧ Below t.heap.size t w') := fun t => by rw [← hi]; exact within_any hrb ha
  have HCu : Hid (∀ t, Calls Try.prog 11 #[.agg #[.int .i64 x, .int .i64 y, .int .i64 sk, .int .i64 sk], .int .i64 3] t fun e w' => Cq t w' e (cutR 3 x y sk)) := fun t => cuts_ok (kd := 3) hr (by rw [← hsk, tyN_sd hk]; match k, hk3 with
    | 0, _ | 1, _ | 2, _ => decide)
  have hsh : sk = 2 * hf := by rw [← hsk, ← hhf]; exact sd_half hk3
  have hq4 : cutR 3 x y sk = [(x, y, hf, hf), (x + hf, y, hf, hf), (x, y + hf, hf, hf), (x + hf, y + hf, hf, hf)] := by
    have hs4 : sk % 8 = 0 := by rcases sd_cases hk with q | q | q | q <;> omega
    rw [cutR_cutH (q := sk / 4) (h := hf) (by omega) (by omega)]; rfl
  have HLen : Hid ((cutR 3 x y sk).length = 4) := by show _ = _; rw [hq4]; rfl
  have HQr : Hid (∀ i, i < 4 → (cutR 3 x y sk).getD i rz = (x + ((i % 2 : Nat) : Int) * hf, y + ((i / 2 : Nat) : Int) * hf, hf, hf)) := by
    intro i hi
    rw [hq4]
    match i, hi with
    | 0, _ => simp
    | 1, _ => simp
    | 2, _ => simp
    | 3, _ => simp
  have HRg : Hid (∀ i, i < 4 → rgn (x + ((i % 2 : Nat) : Int) * hf) (y + ((i / 2 : Nat) : Int) * hf) (sd k) (sd k) = true) := by
    intro i hi
    obtain ⟨-, -, ⟨x0, x1, x2⟩, ⟨y0, y1, y2⟩⟩ := rgn_in hr
    have e1 := sd_cases (show k < 4 by omega)
    rw [hhf] at e1 ⊢
    have e2 : (((i % 2 : Nat) : Int) * hf = 0 ∨ ((i % 2 : Nat) : Int) * hf = hf) := by
      match i, hi with
      | 0, _ | 1, _ | 2, _ | 3, _ => simp
    have e3 : (((i / 2 : Nat) : Int) * hf = 0 ∨ ((i / 2 : Nat) : Int) * hf = hf) := by
      match i, hi with
      | 0, _ | 1, _ | 2, _ | 3, _ => simp
    generalize ((i % 2 : Nat) : Int) * hf = m1 at *
    generalize ((i / 2 : Nat) : Int) * hf = m2 at *
    exact rgn_mk (by omega) (by omega) (by omega)
  have HRx : Hid (∀ i, i < 4 → x + ((i % 2 : Nat) : Int) * hf + hf ≤ 2048 ∧ y + ((i / 2 : Nat) : Int) * hf + hf ≤ 2048) := by
    intro i hi
    have e1 := sd_cases (show k < 4 by omega)
    rw [hhf] at e1
    match i, hi with
    | 0, _ | 1, _ | 2, _ | 3, _ => simp; omega
  have HIh : Hid (∀ (Z' : Nat → Prop) (t : World) (L' : List Rc) (v i : Nat), i < 4 → Zs A Z' → St A Z' t L' v → L'.length + lf k ≤ 300 → Calls Try.prog 31 #[.agg #[.int .i64 (x + ((i % 2 : Nat) : Int) * hf), .int .i64 (y + ((i / 2 : Nat) : Int) * hf), .int .i64 hf, .int .i64 hf], .pointer (some ⟨A.pa, 0, none⟩), .pointer (some ⟨A.pp, 0, none⟩), .pointer (some ⟨A.pl, 0, none⟩), .pointer (some ⟨A.pg, 0, none⟩)] t fun e w' => Gq A Z' t w' e L' (tree A.ar A.C k (x + ((i % 2 : Nat) : Int) * hf) (y + ((i / 2 : Nat) : Int) * hf) v)) := fun Z' t L' v i hi hz' hs' hl' => by
    have := ih A Z' t L' v _ _ hz' hs' ha (HRg.out i hi) (by rw [hhf]; exact (HRx.out i hi).1) (by rw [hhf]; exact (HRx.out i hi).2) hC hl'
    rwa [hhf] at this
  have HTl : Hid (∀ i, (qsq (tree A.ar A.C k) x y hf u' i).1.length ≤ i * lf k) := fun i => qsq_len (fun x y z => tree_len k x y z) i
  have HL : Hid (L.length + 4 * lf k ≤ 300) := hL
  have HQS : Hid (∀ i, qsq (tree A.ar A.C k) x y hf u' (i + 1) = ((qsq (tree A.ar A.C k) x y hf u' i).1 ++ (tree A.ar A.C k (x + ((i % 2 : Nat) : Int) * hf) (y + ((i / 2 : Nat) : Int) * hf) (qsq (tree A.ar A.C k) x y hf u' i).2).1, (tree A.ar A.C k (x + ((i % 2 : Nat) : Int) * hf) (y + ((i / 2 : Nat) : Int) * hf) (qsq (tree A.ar A.C k) x y hf u' i).2).2)) := fun i => rfl
  have HQ0 : Hid (qsq (tree A.ar A.C k) x y hf u' 0 = ([], u')) := rfl
  generalize qsq (tree A.ar A.C k) x y hf u' = qf at *
  have HI0 : Hid (St A (Za Z w.heap.size) (w.alloc (.cells #[] 23)) L u → True) := fun _ => trivial
  clear HI0
  generalize cutR 3 x y sk = ML at *
  clear h hz ha hr hrb hC hm hi  hsk hk hk3 hq4 hL ih hsh hhf HRg HRx hx hy
  unfold Gq
  go_enter Try.func31, Try.ntmps31
  go_upto_region 1 with fail
  generalize (w.alloc (.cells #[.int .i64 x, .int .i64 y, .int .i64 sk, .int .i64 sk] 23)) = w0 at *
  generalize w.heap.size = pr at *
  generalize Za Z pr = Z1 at *
  obtain ⟨a0, a1, a2, a3, a4, a5⟩ := HS0.out.fa
  obtain ⟨r0, r1, r2, r3⟩ := HF0.out
  go_wp2_with fail
  refine (HM.out _).mono ?_
  rintro e w1 ⟨rfl, hb⟩
  have HS1 : Hid (St A Z1 w1 L u) := HS0.out.to HA1.out hb
  have hk1 := Kz.ofBelow HS0.out.zlt hb
  have HK1 : Hid (Kz Z w w1) := HK0.out.trans (hk1.mono HSub.out)
  have HF1 : Hid (Fr w1 pr x y sk sk) := HF0.out.kz hk1 HZP.out
  clear hb hk1 HS0 HK0 HF0 a0 a1 a2 a3 a4 a5 r0 r1 r2 r3 HM
  obtain ⟨a0, a1, a2, a3, a4, a5⟩ := HS1.out.fa
  obtain ⟨r0, r1, r2, r3⟩ := HF1.out
  go_wp2_with fail
  refine (HW.out _).mono ?_
  rintro e w2 ⟨rfl, hb⟩
  have HS2 : Hid (St A Z1 w2 L u) := HS1.out.to HA1.out hb
  have hk1 := Kz.ofBelow HS1.out.zlt hb
  have HK2 : Hid (Kz Z w w2) := HK1.out.trans (hk1.mono HSub.out)
  have HF2 : Hid (Fr w2 pr x y sk sk) := HF1.out.kz hk1 HZP.out
  clear hb hk1 HS1 HK1 HF1 a0 a1 a2 a3 a4 a5 r0 r1 r2 r3 HW
  obtain ⟨a0, a1, a2, a3, a4, a5⟩ := HS2.out.fa
  obtain ⟨r0, r1, r2, r3⟩ := HF2.out
  go_wp2_with fail
  refine (HCu.out _).mono ?_
  rintro e w4 ⟨gp, rfl, hrow, hgp, hb⟩
  have HA2 : Hid (Zs A (Za Z1 gp)) := (HS2.out.more HA1.out hb hgp hrow.lt).1
  have HS4 : Hid (St A (Za Z1 gp) w4 L (u)) := (HS2.out.more HA1.out hb hgp hrow.lt).2
  have hk1 := Kz.ofBelow HS2.out.zlt hb
  have HK4 : Hid (Kz Z w w4) := HK2.out.trans (hk1.mono HSub.out)
  have HR4 : Hid (Hr w4 gp ML) := hrow
  have HSub2 : Hid (∀ i, Z i → Za Z1 gp i) := fun i q => Or.inl (HSub.out i q)
  have HGP : Hid (Za Z1 gp gp) := Or.inr rfl
  clear hrow hgp hb hk1 HS2 HK2 HF2 a0 a1 a2 a3 a4 a5 r0 r1 r2 r3 HCu
  generalize Za Z1 gp = Z2 at *
  go_wp2_with fail
  have I0 : Hid (St A Z2 w4 (L ++ (qf 0).1) (qf 0).2) := by show St _ _ _ _ _; rw [HQ0.out, List.append_nil]; rw [← hu'];  exact HS4.out
  generalize hq0 : ML.length = n4 at *
  have HQL : Hid (ML.length = n4) := hq0
  clear hq0 HS4
  go_loopw [35] (fun i wr => ∃ j : Nat, j ≤ n4 ∧ i = .int .i64 j ∧ St A Z2 wr (L ++ (qf j).1) (qf j).2 ∧ Kz Z2 w4 wr) (fun i _ => n4 - (intOf i).toNat)
  case atStart => exact ⟨0, by omega, rfl, I0.out, Kz.refl _ _⟩
  case round =>
    clear I0
    obtain ⟨j, hj, rfl, hs, hkr⟩ := hrel
    have HSr : Hid _ := hs
    have HKr : Hid _ := hkr
    by_cases hln : j < n4
    · have hlt : j < 4 := by have := HLen.out; omega
      have hrow : Hr wr gp ML := HR4.out.carry (hkr.block _ HGP.out)
      have hcl := hrow.cl (j := j) (by rw [HQL.out]; exact hln)
      rw [HQr.out j hlt] at hcl
      obtain ⟨q0, q1, q2, q3⟩ := hcl
      simp only at q0 q1 q2 q3
      have HCl := HIh.out Z2
      have HLj : Hid ((L ++ (qf j).1).length + lf k ≤ 300) := by
        show _ ≤ _
        have h1 := HTl.out j
        have h2 := HL.out
        have h3 : j * lf k + lf k ≤ 4 * lf k := by rw [← Nat.succ_mul]; exact Nat.mul_le_mul_right _ hlt
        rw [List.length_append]; omega
      have HC2 : Hid (∀ t, St A Z2 t (L ++ (qf j).1) (qf j).2 → Calls Try.prog 31 #[.agg #[.int .i64 (x + ((j % 2 : Nat) : Int) * hf), .int .i64 (y + ((j / 2 : Nat) : Int) * hf), .int .i64 hf, .int .i64 hf], .pointer (some ⟨A.pa, 0, none⟩), .pointer (some ⟨A.pp, 0, none⟩), .pointer (some ⟨A.pl, 0, none⟩), .pointer (some ⟨A.pg, 0, none⟩)] t fun e w' => Gq A Z2 t w' e (L ++ (qf j).1) (tree A.ar A.C k (x + ((j % 2 : Nat) : Int) * hf) (y + ((j / 2 : Nat) : Int) * hf) (qf j).2)) := fun t ht => HIh.out Z2 t _ _ j hlt HA2.out ht HLj.out
      have HQj := HQS.out j
      have HQJ : Hid _ := HQj
      clear HQj HCl HLj
      generalize x + ((j % 2 : Nat) : Int) * hf = X at *
      generalize y + ((j / 2 : Nat) : Int) * hf = Y at *
      have HWa : Hid (Below wr.heap.size wr (wr.alloc (.cells #[.int .i64 X, .int .i64 Y, .int .i64 hf, .int .i64 hf] 23))) := from_alloc _ _
      have HSa : Hid (St A Z2 (wr.alloc (.cells #[.int .i64 X, .int .i64 Y, .int .i64 hf, .int .i64 hf] 23)) (L ++ (qf j).1) (qf j).2) := HSr.out.to HA2.out HWa.out
      have HKa : Hid (Kz Z2 w4 (wr.alloc (.cells #[.int .i64 X, .int .i64 Y, .int .i64 hf, .int .i64 hf] 23))) := HKr.out.trans (Kz.ofBelow HSr.out.zlt HWa.out)
      have g5 : (wr.alloc (.cells #[.int .i64 X, .int .i64 Y, .int .i64 hf, .int .i64 hf] 23)).cell? ⟨A.pg, 0, none⟩ = some (.func (.func 31) #[] #[.pointer (some ⟨A.pa, 0, none⟩), .pointer (some ⟨A.pp, 0, none⟩), .pointer (some ⟨A.pl, 0, none⟩), .pointer (some ⟨A.pg, 0, none⟩)]) := HSa.out.fa.grow
      have g4 : wr.cell? ⟨A.pg, 0, none⟩ = some (.func (.func 31) #[] #[.pointer (some ⟨A.pa, 0, none⟩), .pointer (some ⟨A.pp, 0, none⟩), .pointer (some ⟨A.pl, 0, none⟩), .pointer (some ⟨A.pg, 0, none⟩)]) := HSr.out.fa.grow
      have j0 : (0 : Int) ≤ (j : Int) := by omega
      have j1 : (j : Int) < (n4 : Int) := by omega
      clear hs hkr hrow HWa
      go_wp2_with fail
      refine (HC2.out _ HSa.out).mono ?_
      rintro e w6 ⟨rfl, hs6, hk6⟩
      have HS6 : Hid _ := hs6
      have HK6 : Hid (Kz Z2 w4 w6) := HKa.out.trans hk6
      clear hs6 hk6 g4 g5
      go_wp2_with fail
      go_roundw
      case rel => exact ⟨j + 1, by omega, by go_num, by rw [HQJ.out, ← List.append_assoc]; exact HS6.out, HK6.out⟩
      case measure => simp [intOf]; omega
    · obtain rfl : j = n4 := by omega
      rw [HLen.out] at HSr
      clear HQL HLen
      clear hs hkr
      go_wp2_with fail
      go_end0
      exact ⟨rfl, HSr.out.sub HSub2.out, HK4.out.trans (HKr.out.mono HSub2.out)⟩
end Go.Proofs.Ytjijgeeejhijhaa
