/- DERIVED. A coder that reads: Symbol, bit, Bits, Count, Set. -/
import Derived.Test.YtppanogpeengnabGreatDoorSn
namespace Go.Proofs.YtppanogpeengnabGreatDoor
open Go.RowKit L3
variable {Z : Nat → Option Obj}

def SymR (Z : Nat → Option Obj) (w w' : World) (lo x bt : Nat) (K : List (Nat × List Tb)) (ad : Bool) (n : Int) (xd b : Nat) (zs : List Nat) (q c g kk cx v pa pe : Nat) : Prop :=
  ∃ K', CR Z w' lo x bt K' ad (n + 1) xd b zs (L2.dTake zs c g q pa pe).2.2 (L2.dTake zs c g q pa pe).1 (L2.dTake zs c g q pa pe).2.1 ∧ Adp K ad kk cx v K' ∧ Below lo w w'

set_option maxRecDepth 100000 in
set_option maxHeartbeats 4000000 in
theorem symbol_r {w : World} {lo x bt : Nat} {K : List (Nat × List Tb)} {ad : Bool} {n : Int} {xd b : Nat} {zs : List Nat} {q c g : Nat} (h : CR Z w lo x bt K ad n xd b zs q c g) (hsh : Sh w) (hn0 : 0 ≤ n) (hn1 : n ≤ 1152921504606846976) {kk cx : Nat} {z : Int} (hk : kk < 32) (hc : cx < sC kk) {p : Nat × List Tb} {s : Tb} (hp : K[kk]? = some p) (hs : p.2[cx]? = some s) :
    Calls Tryz.prog 4 #[.pointer (some ⟨x, 0, none⟩), .int .i64 kk, .int .i64 cx, .int .i64 z] w fun e w' => ∃ v, e = .returned (.tuple #[.int .i64 (v : Nat), .int .i64 0]) ∧ L3.Fd s.C (L2.dVal c g) v ∧ SymR Z w w' lo x bt K ad n xd b zs q c g kk cx v (eb s.C v) (ee s.C v) := by
  have hlo : lo ≤ w.heap.size := Nat.le_trans h.co.xlo (Nat.le_of_lt h.co.low)
  have HPL : Hid (p.2.length = sC kk) := (h.co.ok.2 kk p hp).1
  have HCR : Hid (CR Z w lo x bt K ad n xd b zs q c g) := h
  have HP : Hid (K[kk]? = some p) := hp
  have HS : Hid (p.2[cx]? = some s) := hs
  have q0 := h.co.o
  have q1 := h.co.i
  have b0 : ¬ (cx : Int) < 0 := by omega
  have b1 : ¬ (sC kk : Int) ≤ (cx : Int) := by omega
  have b4 : 0 ≤ (kk : Int) := by omega
  have b5 : (kk : Int) < 32 := by omega
  have b6 : 0 ≤ (cx : Int) := by omega
  have b7 : (cx : Int) < (sC kk : Int) := by omega
  clear h hp hs
  go_enter Tryz.func4, Tryz.ntmps4
  go_wp2_with fail
  refine (none_r q0 q1).mono ?_
  rintro e w1 ⟨rfl, rfl⟩
  go_wp2_with fail
  refine (shape_ok hsh hk).mono ?_
  rintro e w2 ⟨rfl, hb2⟩
  have HC2 : Hid (CR Z w2 lo x bt K ad n xd b zs q c g) := HCR.out.to hb2
  have HB2 : Hid (Below lo _ w2) := hb2.mono hlo
  have HS2 : Hid (lo ≤ w2.heap.size) := Nat.le_trans hlo hb2.size
  clear hb2 q0 q1
  have q0 := HC2.out.co.o
  have q1 := HC2.out.co.i
  have q2 := HC2.out.co.t
  have qt : w2.cell? ⟨bt, kk, none⟩ = some (.slice (some ⟨p.1, 0, none⟩) (sC kk) (sC kk)) := by have := HC2.out.co.st.hd kk p HP.out; rw [HPL.out] at this; exact this
  go_wp2_with fail
  refine (writes_r q0 q1).mono ?_
  rintro e w3 ⟨rfl, rfl⟩
  go_wp2_with fail
  refine (code_r HC2.out HP.out HS.out HS2.out).mono ?_
  rintro e w4 ⟨v, rfl, hfd, K', hc4, ha4, hb4⟩
  have HFd : Hid (L3.Fd s.C (L2.dVal c g) v) := hfd
  have HC4 : Hid (CR Z w4 lo x bt K' ad n xd b zs (L2.dTake zs c g q (eb s.C v) (ee s.C v)).2.2 (L2.dTake zs c g q (eb s.C v) (ee s.C v)).1 (L2.dTake zs c g q (eb s.C v) (ee s.C v)).2.1) := hc4
  have HB4 : Hid (Below lo _ w4) := HB2.out.trans hb4
  have HF : Hid (SymR Z _ (w4.setCell ⟨x, 4, none⟩ (.int .i64 (n + 1))) lo x bt K ad n xd b zs q c g kk cx v (eb s.C v) (ee s.C v)) := ⟨K', hc4.count, ha4, below_set HB4.out hc4.co.xlo _⟩
  clear hc4 ha4 hb4 q0 q1 q2 qt HC2 HB2 HB4 hfd
  have q4 := HC4.out.co.c
  have q5 := HC4.out.co.th
  go_wp2_with fail
  exact bodyPost_ret (v := .tuple #[.int .i64 v, .int .i64 0]) (by simp [results, Tryz.results4, go_sem]) rfl ⟨v, rfl, HFd.out, HF.out⟩

theorem u32_nat (a : Nat) (h : a < 4294967296) : IntKind.u32.wrap (a : Int) = (a : Int) := by rw [IntKind.wrap_u32]; omega
set_option maxRecDepth 100000 in
set_option maxHeartbeats 1000000 in
theorem bit_r {w : World} {lo x bt : Nat} {K : List (Nat × List Tb)} {ad : Bool} {n : Int} {xd b : Nat} {zs : List Nat} {q c g : Nat} (h : CR Z w lo x bt K ad n xd b zs q c g) {z : Int} {bb pa pe : Nat} (hb : bb = L2.dVal c g / 16384) (hpa : pa = 16384 * bb) (hpe : pe = pa + 16384) :
    Calls Tryz.prog 21 #[.pointer (some ⟨x, 0, none⟩), .int .i64 z] w fun e w' => e = .returned (.int .i64 (bb : Nat)) ∧ bb < 2 ∧ NarR Z w w' lo x bt K ad n xd b zs q c g pa pe := by
  have HCR : Hid (CR Z w lo x bt K ad n xd b zs q c g) := h
  have q0 := h.co.o
  have q1 := h.co.i
  have hlt := L2.dVal_lt c g
  have HMay : Hid (L2.dMay c g pa pe) := ⟨by omega, by omega, by omega⟩
  have HB2 : Hid (bb < 2) := by show _ < _; omega
  have HPA : Hid (pa = 16384 * bb) := hpa
  have HPE : Hid (pe = pa + 16384) := hpe
  have e1 : ((L2.dVal c g : Nat) : Int) / 16384 = (bb : Int) := by omega
  have e2 : (0 : Int) ≤ ((L2.dVal c g : Nat) : Int) := by omega
  have e3 : ((L2.dVal c g : Nat) : Int) < 32768 := by omega
  have e4 : (bb : Int) < 2 := by omega
  have e5 : (0 : Int) ≤ (bb : Int) := by omega
  clear h hpa hpe hb hlt
  generalize hdv : L2.dVal c g = dv at *
  have HDv : Hid (L2.dVal c g = dv) := hdv
  clear hdv
  go_enter Tryz.func21, Tryz.ntmps21
  go_wp2_with fail
  refine (writes_r q0 q1).mono ?_
  rintro e w1 ⟨rfl, rfl⟩
  go_wp2_with fail
  refine (L2.value_dc HCR.out.dc HCR.out.dk).mono ?_
  rintro e w2 ⟨rfl, m2, hm2⟩
  rw [HDv.out]
  have HC2 : Hid (CR Z w2 lo x bt K ad n xd b zs q c g) := by show CR Z _ _ _ _ _ _ _ _ _ _ _ _ _; rw [hm2]; exact HCR.out.drewN m2
  have HB2' : Hid (Below lo w1 w2) := by show Below _ _ _; rw [hm2]; exact ⟨rfl, rfl, rfl, Nat.le_refl _, fun _ _ => rfl⟩
  clear hm2 q0 q1
  go_wp2_with fail
  rw [show (16384 : Int) * (bb : Int) = (pa : Int) from by have := HPA.out; omega, show (pa : Int) + 16384 = (pe : Int) from by have := HPE.out; omega]
  refine (narrow_r HC2.out pa pe HMay.out).mono ?_
  rintro e w3 ⟨rfl, hc3, hb3⟩
  have HF : Hid (NarR Z w1 w3 lo x bt K ad n xd b zs q c g pa pe) := ⟨hc3, HB2'.out.trans hb3⟩
  clear hc3 hb3
  go_wp2_with fail
  go_ret
  exact ⟨rfl, HB2.out, HF.out⟩

/-- one bit more: the number, what was asked for, the code, the range -/
def st1 (zs : List Nat) (s : Nat × Nat × Nat × Nat) : Nat × Nat × Nat × Nat :=
  (2 * s.1 + L2.dVal s.2.2.1 s.2.2.2 / 16384,
   (L2.dTake zs s.2.2.1 s.2.2.2 s.2.1 (16384 * (L2.dVal s.2.2.1 s.2.2.2 / 16384)) (16384 * (L2.dVal s.2.2.1 s.2.2.2 / 16384) + 16384)).2.2,
   (L2.dTake zs s.2.2.1 s.2.2.2 s.2.1 (16384 * (L2.dVal s.2.2.1 s.2.2.2 / 16384)) (16384 * (L2.dVal s.2.2.1 s.2.2.2 / 16384) + 16384)).1,
   (L2.dTake zs s.2.2.1 s.2.2.2 s.2.1 (16384 * (L2.dVal s.2.2.1 s.2.2.2 / 16384)) (16384 * (L2.dVal s.2.2.1 s.2.2.2 / 16384) + 16384)).2.1)
theorem st1_eq (zs : List Nat) (s : Nat × Nat × Nat × Nat) (bb pa pe : Nat) (hb : bb = L2.dVal s.2.2.1 s.2.2.2 / 16384) (ha : pa = 16384 * bb) (he : pe = pa + 16384) :
    st1 zs s = (2 * s.1 + bb, (L2.dTake zs s.2.2.1 s.2.2.2 s.2.1 pa pe).2.2, (L2.dTake zs s.2.2.1 s.2.2.2 s.2.1 pa pe).1, (L2.dTake zs s.2.2.1 s.2.2.2 s.2.1 pa pe).2.1) := by
  unfold st1
  rw [← hb, ← ha, ← he]
/-- what is read behind i bits -/
def dBs (zs : List Nat) (q c g : Nat) : Nat → Nat × Nat × Nat × Nat
  | 0 => (0, q, c, g)
  | i + 1 => st1 zs (dBs zs q c g i)
theorem dBs_zero (zs : List Nat) (q c g : Nat) : dBs zs q c g 0 = (0, q, c, g) := rfl
theorem dBs_succ (zs : List Nat) (q c g i bb pa pe : Nat) (hb : bb = L2.dVal (dBs zs q c g i).2.2.1 (dBs zs q c g i).2.2.2 / 16384) (ha : pa = 16384 * bb) (he : pe = pa + 16384) :
    dBs zs q c g (i + 1) = (2 * (dBs zs q c g i).1 + bb, (L2.dTake zs (dBs zs q c g i).2.2.1 (dBs zs q c g i).2.2.2 (dBs zs q c g i).2.1 pa pe).2.2, (L2.dTake zs (dBs zs q c g i).2.2.1 (dBs zs q c g i).2.2.2 (dBs zs q c g i).2.1 pa pe).1, (L2.dTake zs (dBs zs q c g i).2.2.1 (dBs zs q c g i).2.2.2 (dBs zs q c g i).2.1 pa pe).2.1) := st1_eq zs _ bb pa pe hb ha he
theorem dBs_lt (zs : List Nat) (q c g i : Nat) : (dBs zs q c g i).1 < 2 ^ i := by
  induction i with
  | zero => rw [dBs_zero]; simp
  | succ i ih =>
    have h1 := L2.dVal_lt (dBs zs q c g i).2.2.1 (dBs zs q c g i).2.2.2
    obtain ⟨bb, hb⟩ : ∃ bb, bb = L2.dVal (dBs zs q c g i).2.2.1 (dBs zs q c g i).2.2.2 / 16384 := ⟨_, rfl⟩
    rw [dBs_succ zs q c g i bb _ _ hb rfl rfl, Nat.pow_succ]
    show 2 * (dBs zs q c g i).1 + bb < _
    omega

structure BrI (Z : Nat → Option Obj) (w : World) (lo x bt : Nat) (K : List (Nat × List Tb)) (ad : Bool) (cn : Int) (xd b : Nat) (zs : List Nat) (q c g n : Nat) (s i : Value) (wr : World) : Prop where
  ex : ∃ j : Nat, j ≤ n ∧ i = .int .i64 j ∧ s = .int .i64 (((dBs zs q c g j).1 : Nat) : Int) ∧ CR Z wr lo x bt K ad cn xd b zs (dBs zs q c g j).2.1 (dBs zs q c g j).2.2.1 (dBs zs q c g j).2.2.2 ∧ Below lo w wr
def BitR (Z : Nat → Option Obj) (w w' : World) (lo x bt : Nat) (K : List (Nat × List Tb)) (ad : Bool) (cn : Int) (xd b : Nat) (zs : List Nat) (q c g n : Nat) : Prop :=
  CR Z w' lo x bt K ad (cn + n) xd b zs (dBs zs q c g n).2.1 (dBs zs q c g n).2.2.1 (dBs zs q c g n).2.2.2 ∧ Below lo w w'

set_option maxRecDepth 100000 in
set_option maxHeartbeats 2000000 in
theorem bits_r {w : World} {lo x bt : Nat} {K : List (Nat × List Tb)} {ad : Bool} {cn : Int} {xd b : Nat} {zs : List Nat} {q c g : Nat} (h : CR Z w lo x bt K ad cn xd b zs q c g) (hn0 : 0 ≤ cn) (hn1 : cn ≤ 1152921504606846976) {n : Nat} {z : Int} (hn : n ≤ 30) :
    Calls Tryz.prog 5 #[.pointer (some ⟨x, 0, none⟩), .int .i64 n, .int .i64 z] w fun e w' => e = .returned (.tuple #[.int .i64 (((dBs zs q c g n).1 : Nat) : Int), .int .i64 0]) ∧ BitR Z w w' lo x bt K ad cn xd b zs q c g n := by
  have HCR : Hid (CR Z w lo x bt K ad cn xd b zs q c g) := h
  have q0 := h.co.o
  have q1 := h.co.i
  have b0 : ¬ (n : Int) < 0 := by omega
  have b1 : ¬ (30 : Int) < (n : Int) := by omega
  have b4 : (n : Int) ≤ 30 := by omega
  have HN : Hid (n ≤ 30) := hn
  clear h hn
  go_enter Tryz.func5, Tryz.ntmps5
  go_wp2_with fail
  refine (none_r q0 q1).mono ?_
  rintro e w1 ⟨rfl, rfl⟩
  go_wp2_with fail
  refine (writes_r q0 q1).mono ?_
  rintro e w2 ⟨rfl, rfl⟩
  go_wp2_with fail
  go_loopw [8, 33] (fun s i wr => BrI Z w2 lo x bt K ad cn xd b zs q c g n s i wr) (fun _ i _ => n - (intOf i).toNat)
  case atStart => exact ⟨⟨0, by omega, rfl, by rw [dBs_zero]; rfl, by rw [dBs_zero]; exact HCR.out, Below.refl _ _⟩⟩
  case round =>
    obtain ⟨j, hj, rfl, rfl, hc, hb⟩ := hrel
    have j0 : (0 : Int) ≤ (j : Int) := by omega
    by_cases hlt : j < n
    · have j1 : (j : Int) < (n : Int) := by omega
      have HB : Hid (Below lo w2 wr) := hb
      have HJ : Hid (j < n) := hlt
      obtain ⟨m, hm⟩ : ∃ m, m = n - 1 - j := ⟨_, rfl⟩
      have e1 : (n : Int) - 1 - (j : Int) = (m : Int) := by omega
      have m0 : (0 : Int) ≤ (m : Int) := by omega
      have m1 : (m : Int) < 64 := by omega
      obtain ⟨bb, hbb⟩ : ∃ bb, bb = L2.dVal (dBs zs q c g j).2.2.1 (dBs zs q c g j).2.2.2 / 16384 := ⟨_, rfl⟩
      obtain ⟨pa, ha⟩ : ∃ pa, pa = 16384 * bb := ⟨_, rfl⟩
      obtain ⟨pe, he⟩ : ∃ pe, pe = pa + 16384 := ⟨_, rfl⟩
      have hdl := L2.dVal_lt (dBs zs q c g j).2.2.1 (dBs zs q c g j).2.2.2
      have hb2 : bb < 2 := by omega
      have HSt : Hid (dBs zs q c g (j + 1) = (2 * (dBs zs q c g j).1 + bb, (L2.dTake zs (dBs zs q c g j).2.2.1 (dBs zs q c g j).2.2.2 (dBs zs q c g j).2.1 pa pe).2.2, (L2.dTake zs (dBs zs q c g j).2.2.1 (dBs zs q c g j).2.2.2 (dBs zs q c g j).2.1 pa pe).1, (L2.dTake zs (dBs zs q c g j).2.2.1 (dBs zs q c g j).2.2.2 (dBs zs q c g j).2.1 pa pe).2.1)) := dBs_succ zs q c g j bb pa pe hbb ha he
      have hnl := dBs_lt zs q c g j
      have hp30 : 2 ^ j ≤ 2 ^ 30 := Nat.pow_le_pow_right (by omega) (by have := HN.out; omega)
      have e4 := or_bit (dBs zs q c g j).1 bb (by omega) hb2
      have e5 : (((dBs zs q c g j).1 : Nat) : Int) * 2 = ((2 * (dBs zs q c g j).1 : Nat) : Int) := by omega
      have n0 : (0 : Int) ≤ (((dBs zs q c g j).1 : Nat) : Int) := by omega
      have n1 : (((dBs zs q c g j).1 : Nat) : Int) ≤ 1073741824 := by omega
      have n2 : ((2 * (dBs zs q c g j).1 : Nat) : Int) ≤ 2147483648 := by omega
      have n3 : (0 : Int) ≤ ((2 * (dBs zs q c g j).1 : Nat) : Int) := by omega
      have HCall : Hid (∀ z : Int, Calls Tryz.prog 21 #[.pointer (some ⟨x, 0, none⟩), .int .i64 z] wr fun e w' => e = .returned (.int .i64 (bb : Nat)) ∧ bb < 2 ∧ NarR Z wr w' lo x bt K ad cn xd b zs (dBs zs q c g j).2.1 (dBs zs q c g j).2.2.1 (dBs zs q c g j).2.2.2 pa pe) := fun z => bit_r hc hbb ha he
      have HR1 : Hid ((dBs zs q c g (j + 1)).1 = 2 * (dBs zs q c g j).1 + bb) := by show _ = _; rw [HSt.out]
      generalize hq2 : 2 * (dBs zs q c g j).1 = q2 at *
      generalize hq1 : (dBs zs q c g j).1 = q1' at *
      clear hc hb hlt hj hm hbb ha he hdl hnl hp30 hb2 hq1 hq2
      go_wp2_with fail
      refine (HCall.out _).mono ?_
      rintro e w3 ⟨rfl, -, hc3, hb3⟩
      have HC3 : Hid (CR Z w3 lo x bt K ad cn xd b zs (dBs zs q c g (j + 1)).2.1 (dBs zs q c g (j + 1)).2.2.1 (dBs zs q c g (j + 1)).2.2.2) := by show CR Z _ _ _ _ _ _ _ _ _ _ _ _ _; rw [HSt.out]; exact hc3
      have HB3 : Hid (Below lo w2 w3) := HB.out.trans hb3
      clear hc3 hb3
      go_wp2_with fail
      have hlt := HJ.out
      go_roundw
      case rel => exact ⟨⟨j + 1, by omega, by go_num, by rw [HR1.out]; rfl, HC3.out, HB3.out⟩⟩
      case measure => simp [intOf]; omega
    · obtain rfl : j = n := by omega
      have HC : Hid (CR Z wr lo x bt K ad cn xd b zs (dBs zs q c g j).2.1 (dBs zs q c g j).2.2.1 (dBs zs q c g j).2.2.2) := hc
      have HF : Hid (BitR Z w2 (wr.setCell ⟨x, 4, none⟩ (.int .i64 (cn + (j : Int)))) lo x bt K ad cn xd b zs q c g j) := ⟨hc.count, below_set hb hc.co.xlo _⟩
      have q4 := hc.co.c
      have q5 := hc.co.th
      clear hc hb
      go_wp2_with fail
      refine bodyPost_ret (v := .tuple #[.int .i64 (((dBs zs q c g j).1 : Nat) : Int), .int .i64 0]) (by simp [results, Tryz.results5, go_sem]) rfl ⟨rfl, ?_⟩
      exact HF.out

theorem count_r {w : World} {lo x bt : Nat} {K : List (Nat × List Tb)} {ad : Bool} {cn : Int} {xd b : Nat} {zs : List Nat} {q c g : Nat} (h : CR Z w lo x bt K ad cn xd b zs q c g) :
    Calls Tryz.prog 9 #[.pointer (some ⟨x, 0, none⟩)] w fun e w' => e = .returned (.int .i64 cn) ∧ w' = w := by
  have q0 := h.co.o
  have q1 := h.co.i
  have q4 := h.co.c
  clear h
  go_enter Tryz.func9, Tryz.ntmps9
  go_wp2_with fail
  refine (none_r q0 q1).mono ?_
  rintro e w1 ⟨rfl, rfl⟩
  go_wp2_with fail
  go_ret
  exact ⟨rfl, rfl⟩
theorem set_r {w : World} {lo x bt : Nat} {K : List (Nat × List Tb)} {ad : Bool} {cn : Int} {xd b : Nat} {zs : List Nat} {q c g : Nat} (h : CR Z w lo x bt K ad cn xd b zs q c g) (hsh : Sh w) :
    Calls Tryz.prog 6 #[.pointer (some ⟨x, 0, none⟩)] w fun e w' => SetN w w' e K := set_any h.co hsh fun _ hu => none_r (h.co.to hu).o (h.co.to hu).i

end Go.Proofs.YtppanogpeengnabGreatDoor
