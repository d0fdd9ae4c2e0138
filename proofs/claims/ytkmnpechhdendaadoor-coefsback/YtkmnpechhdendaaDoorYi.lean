/- DERIVED. The walks of writable, Sign and Code. -/
import Derived.Test.YtkmnpechhdendaaDoorYh0
namespace Go.Proofs.YtkmnpechhdendaaDoor
open Go.RowKit L3

set_option maxRecDepth 100000 in
set_option maxHeartbeats 1000000 in
theorem writable_yes {w : World} {lb lf lc q : Nat} {L : List Int} (hq : q ≤ 1024) (hc : ∀ p, p < q → w.cell? ⟨lb, lf + p, none⟩ = some (.int .i64 (L.getD p 0))) (hL : ∀ p, -1048576 ≤ L.getD p 0 ∧ L.getD p 0 ≤ 1048576) :
    Calls Tryd.prog 27 #[.slice (some ⟨lb, lf, none⟩) q lc, .int .i64 (q : Int)] w fun e w' => e = .returned (.bool true) ∧ w' = w := by
  have HC : Hid (∀ p, p < q → w.cell? ⟨lb, lf + p, none⟩ = some (.int .i64 (L.getD p 0))) := hc
  have HL : Hid (∀ p, -1048576 ≤ L.getD p 0 ∧ L.getD p 0 ≤ 1048576) := hL
  have hqq : ((q : Int) != (q : Int)) = false := by simp
  clear hc hL
  go_enter Tryd.func27, Tryd.ntmps27
  go_wp2_with fail
  go_loopw [13] (fun i wr => ∃ k : Nat, k ≤ q ∧ i = .int .i64 k ∧ wr = w) (fun i _ => q - (intOf i).toNat)
  case atStart => exact ⟨0, by omega, rfl, rfl⟩
  case round =>
    obtain ⟨k, hk, rfl, rfl⟩ := hrel
    have k0 : (0 : Int) ≤ (k : Int) := by omega
    by_cases hlt : k < q
    · have k1 : (k : Int) < (q : Int) := by omega
      have c1 := HC.out k hlt
      obtain ⟨b1, b2⟩ := HL.out k
      generalize L.getD k 0 = v at *
      have d1 : ¬ v < -1048576 := by omega
      have d2 : ¬ (1048576 : Int) < v := by omega
      clear hk
      go_wp2_with fail
      go_roundw
      case rel => exact ⟨k + 1, by omega, by go_num, (by first | trivial | rfl)⟩
      case measure => simp [intOf]; omega
    · obtain rfl : k = q := by omega
      go_wp2_with fail
      go_ret
      exact ⟨rfl, rfl⟩

theorem biN_zero (s : Cs) (v : Nat) : biN s 0 v = s := by
  unfold biN
  rw [eBs_zero, dBs_zero]
  split <;> rfl
/-- what Code comes to -/
def Kc (w w' : World) (lo x : Nat) (O : Nat → Prop) (q : Nat) (r : Option (List Int) × Cs) (en : Ending) : Prop :=
  ∃ O', Cd w' lo x O' r.2 ∧ Trn O O' w w' ∧ Below lo w w' ∧ (∀ K, r.1 = some K → ∃ g, en = .returned (.tuple #[.slice (some ⟨g, 0, none⟩) q q, .int .i64 0]) ∧ L10.Ri 3 w' g K ∧ w.heap.size ≤ g ∧ ¬ O' g) ∧ (r.1 = none → en = .returned (.tuple #[.slice none 0 0, .int .i64 4]))
theorem Cod.kc {m : Pm} {w u w' : World} {O O1 : Nat → Prop} {r : Option (List Int) × Cs} {en : Ending} (h : Cod m O1 u r en w') (ht : Trn O O1 w u) (hb : Below m.lo w u) (hk : w.heap.size ≤ m.kb) : Kc w w' m.lo m.x O m.q r en := by
  obtain ⟨O2, K', g, t, b, hK⟩ := h.ex
  have t2 : Trn O O2 w w' := by
    refine ⟨⟨t.ke.os.trans ht.ke.os, t.ke.tape.trans ht.ke.tape, t.ke.output.trans ht.ke.output, Nat.le_trans ht.ke.size t.ke.size, fun k hk1 hk2 => ?_⟩, fun y hy => ?_⟩
    · rw [t.ke.block k (Nat.lt_of_lt_of_le hk1 ht.ke.size) (fun e => ?_)]
      · exact ht.ke.block k hk1 hk2
      · rcases e with e | e
        · rcases ht.new k e with e2 | e2
          · exact hk2 e2
          · omega
        · omega
    · rcases t.new y (Or.inl hy) with e | e
      · rcases e with e | e
        · exact ht.new y e
        · exact Or.inr (by omega)
      · exact Or.inr (Nat.le_trans ht.ke.size e)
  exact ⟨O2, g.cd, t2, hb.trans b, fun K hr => ⟨m.kb, h.yes K hr, by rw [← hK K hr]; exact g.bb.kn, hk, g.bb.nk⟩, h.no⟩
theorem cod_ran {s : Cs} (h : SOk s) (hn : s.n ≤ 900000000) {z : Int} {n col sg : Nat} (hz : L10.Sz z n) (hc : col ≤ 1) (hs : sg ≤ 2) {L : List Int} (hL : s.W = true → Lv n L) : Ran (Kn n) (fun K => K = L) (12 + 47 * (n * n)) s (codP z n col sg L (endN n L (n * n))) :=
  ran _ _ _ (cod_good hz hc hs L _) h (by have := hz.sd.sq; omega) (fun e => cod_wr hz (hL e))

theorem gd_new {w : World} {lo x : Nat} {O : Nat → Prop} {s : Cs} {z : Int} {n q col sg ob oc lb lf lc B : Nat} {L : List Int} (hc : Cd w lo x O s) (hsh : Sh w) (hnt : L10.Nt w) (hl : 1 < lo) (hz : L10.Sz z n) (hq : n * n = q) (hcol : col ≤ 1) (hsg : sg ≤ 2) (ho : L10.Oi w B (some ⟨ob, 0, none⟩) q oc (L10.ord n)) (hob : ¬ O ob) (hlb : lb < w.heap.size) (hlO : ¬ O lb) (hlc : ∀ p, p < q → w.cell? ⟨lb, lf + p, none⟩ = some (.int .i64 (L.getD p 0))) :
    Gd ⟨lo, x, w.heap.size + 1, z, n, q, col, sg, ob, oc, w.heap.size, lb, lf, lc, L⟩ (List.replicate q 0) O s ((w.alloc (.cells (madeCells #[.int .i64 0] q) 3)).alloc (.cells #[.pointer (some ⟨x, 0, none⟩), .int .i64 z, .int .i64 (col : Int), .int .i64 (sg : Int), .slice (some ⟨ob, 0, none⟩) q oc, .slice (some ⟨w.heap.size, 0, none⟩) q q] 68)) := by
  have h1 := L10.from_alloc w (.cells (madeCells #[.int .i64 0] q) 3)
  have hb := L10.to_alloc h1 (.cells #[.pointer (some ⟨x, 0, none⟩), .int .i64 z, .int .i64 (col : Int), .int .i64 (sg : Int), .slice (some ⟨ob, 0, none⟩) q oc, .slice (some ⟨w.heap.size, 0, none⟩) q q] 68)
  have hol := ho.lt.2
  have hkn := (L10.Ri.made 3 w q rfl).to (L10.from_alloc _ (.cells #[.pointer (some ⟨x, 0, none⟩), .int .i64 z, .int .i64 (col : Int), .int .i64 (sg : Int), .slice (some ⟨ob, 0, none⟩) q oc, .slice (some ⟨w.heap.size, 0, none⟩) q q] 68))
  refine ⟨hc.to hb, ⟨?_, ?_, ?_, ?_, ?_, ?_, ?_, ?_, ?_, fun i hi => ?_, hkn, by simp, fun p hp => ?_, fun e => ?_, hob, fun e => ?_, hlO, ⟨by simp, by simp only; omega, by simp only; omega⟩, ho.cap⟩, hsh.to hb, hnt.to hb, hl, hz, hq.symm, hcol, hsg⟩
  · simp [go_sem]
  · simp [go_sem]
  · simp [go_sem]
  · simp [go_sem]
  · simp [go_sem]
  · simp [go_sem]
  · simp
  · simp; omega
  · simp; omega
  · rw [L10.newCell hb _ _ hol, ho.cellAt i hi]
    obtain ⟨_, _, h3⟩ := plc_at hz.sd (i := i) (by rw [hq]; exact hi)
    simp only
    rw [h3]
  · rw [L10.newCell hb _ _ hlb]; exact hlc p hp
  · have := hc.lt e; simp only at this; omega
  · have := hc.lt e; simp only at this; omega

set_option maxRecDepth 100000 in
set_option maxHeartbeats 2000000 in
theorem kcode_w (hcl : CodeLaw) {w : World} {lo x : Nat} {O : Nat → Prop} {s : Cs} (h : Cd w lo x O s) (hsh : Sh w) (hnt : L10.Nt w) (hl : 1 < lo) (hn : s.n ≤ 900000000) {z : Int} {n : Nat} (hz : L10.Sz z n) {pl sg : Nat} (hp : pl ≤ 2) (hs : sg ≤ 2) (hW : s.W = true) {lb lf lc : Nat} {L : List Int} (hL : Lv n L) (hlb : lb < w.heap.size) (hlO : ¬ O lb) (hlc : ∀ p, p < n * n → w.cell? ⟨lb, lf + p, none⟩ = some (.int .i64 (L.getD p 0))) :
    Calls Tryd.prog 10 #[.pointer (some ⟨x, 0, none⟩), .int .i64 z, .int .i64 (pl : Int), .int .i64 (sg : Int), .slice (some ⟨lb, lf, none⟩) (n * n) lc] w fun en w' => Kc w w' lo x O (n * n) ((codP z n (min pl 1) sg L (endN n L (n * n))).run s) en := by
  have HCL : Hid CodeLaw := hcl
  clear hcl
  have hq : n * n ≤ 1024 := hz.sd.sq
  have HLv : Hid (∀ p, -1048576 ≤ L.getD p 0 ∧ L.getD p 0 ≤ 1048576) := hL.all
  have HR : Hid (Ran (Kn n) (fun K => K = L) (12 + 47 * (n * n)) s (codP z n (min pl 1) sg L (endN n L (n * n)))) := cod_ran h.so hn hz (by omega) hs (fun e => hL)
  have HZ : Hid (L10.Sz z n) := hz
  have HB0 : Hid (Calls Tryd.prog 24 #[.pointer (some ⟨x, 0, none⟩), .int .i64 (0 : Nat), .int .i64 0] w fun e w' => e = .returned (.tuple #[.int .i64 (biA s 0 0 : Nat), .int .i64 0]) ∧ Go w w' lo x O (biN s 0 (biA s 0 0))) := bits_cd h ⟨by omega, by omega, fun _ => ⟨by omega, by simp⟩⟩
  have HSh : Hid (∀ u, Below lo w u → Sh u ∧ L10.Nt u) := fun u hu => ⟨hsh.below hu (by omega), hnt.below hu hl⟩
  have HLw : Hid (lo ≤ w.heap.size) := by
    show lo ≤ _
    cases hW2 : s.W
    · obtain ⟨_, _, _, _, hc, _⟩ := h.rc hW2
      exact Nat.le_trans hc.co.xlo (Nat.le_of_lt hc.co.low)
    · obtain ⟨_, _, _, _, hc, _⟩ := h.wc hW2
      exact Nat.le_trans hc.co.xlo (Nat.le_of_lt hc.co.low)
  have HW : Hid (s.W = true) := hW
  have HS2 : Hid (sg ≤ 2) := hs
  have HL1 : Hid (1 < lo) := hl
  obtain ⟨col, hcol⟩ : ∃ col, min pl 1 = col := ⟨_, rfl⟩
  have hc1 : min (pl : Int) 1 = (col : Int) := by omega
  have HC1 : Hid (col ≤ 1) := by show _ ≤ _; omega
  rw [hcol] at HR ⊢
  obtain ⟨r, hr⟩ : ∃ r, (codP z n col sg L (endN n L (n * n))).run s = r := ⟨_, rfl⟩
  rw [hr]
  have HRr : Hid ((codP z n col sg L (endN n L (n * n))).run s = r) := hr
  obtain ⟨q, hqn⟩ : ∃ q, n * n = q := ⟨_, rfl⟩
  have HQ : Hid (n * n = q) := hqn
  have p0 : ¬ (pl : Int) < 0 := by omega
  have p1 : ¬ (2 : Int) < (pl : Int) := by omega
  have s0 : ¬ (sg : Int) < 0 := by omega
  have s1 : ¬ (2 : Int) < (sg : Int) := by omega
  have hq2 : (q : Int) ≤ 1024 := by omega
  have hq3 : (0 : Int) ≤ (q : Int) := by omega
  rw [hqn]
  have HOr : Hid (∀ u : World, Calls Tryd.prog 25 #[.int .i64 z] u fun e w' => L10.On u w' e n) := fun u => L10.order_yes hz
  have hmk := L10.mk_ints (n := q) (by omega)
  rw [hqn] at hlc
  have HLb : Hid (lb < w.heap.size ∧ ¬ O lb ∧ ∀ p, p < q → w.cell? ⟨lb, lf + p, none⟩ = some (.int .i64 (L.getD p 0))) := ⟨hlb, hlO, hlc⟩
  clear h hsh hnt hl hn hz hp hs hW hL hlb hlO hlc hcol hr hqn hq
  go_enter Tryd.func10, Tryd.ntmps10
  go_wp2_with fail
  refine HB0.out.mono ?_
  rintro en w1 ⟨rfl, O1, hc1', ht1, hb1⟩
  rw [biN_zero] at hc1'
  generalize biA s 0 0 = bz at *
  have HC : Hid (Cd w1 lo x O1 s) := hc1'
  have HT1 : Hid (Trn O O1 w w1) := ht1
  have HB1 : Hid (Below lo w w1) := hb1
  clear hc1' ht1 hb1 HB0
  go_wp2_with fail
  refine (HOr.out _).mono ?_
  rintro en w2 ⟨ob, oc, rfl, ho2, hb2⟩
  rw [HQ.out] at ho2 ⊢
  have HO2 : Hid (L10.Oi w2 w1.heap.size (some ⟨ob, 0, none⟩) q oc (L10.ord n)) := ho2
  have HB2 : Hid (Below w1.heap.size w1 w2) := hb2
  have HC2 : Hid (Cd w2 lo x O1 s) := HC.out.to hb2
  clear ho2 hb2
  go_wp2_with fail
  refine (writes_cd HC2.out).mono ?_
  rintro en w3 ⟨rfl, rfl⟩
  rw [HW.out]
  go_wp2_with fail
  have hlc3 : ∀ p, p < q → w3.cell? ⟨lb, lf + p, none⟩ = some (.int .i64 (L.getD p 0)) := fun p hp => by
    obtain ⟨l1, l2, l3⟩ := HLb.out
    rw [L10.newCell HB2.out _ _ (Nat.lt_of_lt_of_le l1 HT1.out.ke.size), HT1.out.ke.cell _ _ l1 l2]
    exact l3 p hp
  have HWr : Hid (Calls Tryd.prog 27 #[.slice (some ⟨lb, lf, none⟩) q lc, .int .i64 (q : Int)] w3 fun e w' => e = .returned (.bool true) ∧ w' = w3) := writable_yes (by omega) hlc3 HLv.out
  have HLl : Hid (lb < w3.heap.size ∧ ¬ O1 lb ∧ lb < w1.heap.size ∧ ∀ p, p < q → w3.cell? ⟨lb, lf + p, none⟩ = some (.int .i64 (L.getD p 0))) := by
    obtain ⟨l1, l2, l3⟩ := HLb.out
    have z1 := HT1.out.ke.size
    have z2 := HB2.out.size
    refine ⟨by omega, fun e => ?_, by omega, hlc3⟩
    rcases HT1.out.new _ e with e2 | e2
    · exact l2 e2
    · omega
  clear hlc3 HLb
  generalize hW3 : w3 = w4 at *
  clear hW3
  have HB4 : Hid (Below w1.heap.size w1 w4) := HB2.out
  have HO4 := HO2
  have HC4 := HC2
  refine HWr.out.mono ?_
  rintro en w5 ⟨rfl, rfl⟩
  clear HWr
  go_wp2_with fail
  have HZs : Hid (w1.heap.size ≤ w5.heap.size ∧ w.heap.size ≤ w1.heap.size) := ⟨HB4.out.size, HT1.out.ke.size⟩
  obtain ⟨sh5, nt5⟩ := HSh.out w5 (HB1.out.trans (HB4.out.mono (Nat.le_trans HLw.out HZs.out.2)))
  have hgd := gd_new HC4.out sh5 nt5 HL1.out HZ.out HQ.out HC1.out HS2.out HO4.out (fun e => by have h1 := HC.out.lt e; have h2 := HO4.out.lt.1; omega) HLl.out.1 HLl.out.2.1 HLl.out.2.2.2 (lf := lf) (lc := lc)
  have hok := HR.out.ok
  rw [HQ.out] at hok
  have HK := HCL.out hgd (by have h1 := HZs.out; have h2 := HLw.out; simp only; omega) HLv.out hok
  have HTf : Hid (∀ u, Below w5.heap.size w5 u → Trn O O1 w u ∧ Below lo w u) := fun u hu => by
    have hz := HZs.out
    have hl := HLw.out
    have hb5 : Below w1.heap.size w1 u := L10.below_to HB4.out hu
    exact ⟨HT1.out.trans (Trn.of hb5), HB1.out.trans (hb5.mono (by omega))⟩
  refine HK.mono ?_
  rintro en w6 hcod
  obtain ⟨tf, bf⟩ := HTf.out _ (L10.to_alloc (L10.from_alloc w5 (.cells (madeCells #[.int .i64 0] q) 3)) (.cells #[.pointer (some ⟨x, 0, none⟩), .int .i64 z, .int .i64 (col : Int), .int .i64 (sg : Int), .slice (some ⟨ob, 0, none⟩) q oc, .slice (some ⟨w5.heap.size, 0, none⟩) q q] 68))
  have hkc := hcod.kc tf bf (by have h1 := HZs.out; simp only; omega)
  simp only at hkc
  have hrr := HRr.out
  rw [HQ.out] at hrr
  rw [hrr] at hkc
  have HKc : Hid (Kc w w6 lo x O q r en) := hkc
  obtain ⟨O9, -, -, -, hy, hno⟩ := hkc
  clear hcod tf bf HK hgd hok hrr sh5 nt5
  rcases hr1 : r.1 with _ | K
  · obtain rfl := hno hr1
    clear hy hno
    go_wp2_with fail
    refine bodyPost_ret (v := .tuple #[.slice none 0 0, .int .i64 4]) (by simp [results, Tryd.results10, go_sem]) rfl ?_
    exact HKc.out
  · obtain ⟨g, rfl, -, -⟩ := hy K hr1
    clear hy hno
    go_wp2_with fail
    refine bodyPost_ret (v := .tuple #[.slice (some ⟨g, 0, none⟩) q q, .int .i64 0]) (by simp [results, Tryd.results10, go_sem]) rfl ?_
    exact HKc.out

set_option maxRecDepth 100000 in
set_option maxHeartbeats 2000000 in
theorem kcode_r (hcl : CodeLaw) {w : World} {lo x : Nat} {O : Nat → Prop} {s : Cs} (h : Cd w lo x O s) (hsh : Sh w) (hnt : L10.Nt w) (hl : 1 < lo) (hn : s.n ≤ 900000000) {z : Int} {n : Nat} (hz : L10.Sz z n) {pl sg : Nat} (hp : pl ≤ 2) (hs : sg ≤ 2) (hW : s.W = false) {la : Option Addr} {ll lc : Nat} :
    Calls Tryd.prog 10 #[.pointer (some ⟨x, 0, none⟩), .int .i64 z, .int .i64 (pl : Int), .int .i64 (sg : Int), .slice la ll lc] w fun en w' => Kc w w' lo x O (n * n) ((codP z n (min pl 1) sg (List.replicate (n * n) 0) (endN n (List.replicate (n * n) 0) (n * n))).run s) en := by
  obtain ⟨L, hLd⟩ : ∃ L, L = List.replicate (n * n) (0 : Int) := ⟨_, rfl⟩
  rw [← hLd]
  have hL0 : ∀ p, L.getD p 0 = 0 := fun p => by rw [hLd, List.getD_eq_getElem?_getD, List.getElem?_replicate]; split <;> rfl
  have HCL : Hid CodeLaw := hcl
  clear hcl
  have hq : n * n ≤ 1024 := hz.sd.sq
  have HLv : Hid (∀ p, -1048576 ≤ L.getD p 0 ∧ L.getD p 0 ≤ 1048576) := fun p => by rw [hL0 p]; omega
  have HR : Hid (Ran (Kn n) (fun K => K = L) (12 + 47 * (n * n)) s (codP z n (min pl 1) sg L (endN n L (n * n)))) := cod_ran h.so hn hz (by omega) hs (fun e => absurd (hW.symm.trans e) (by decide))
  have HZ : Hid (L10.Sz z n) := hz
  have HB0 : Hid (Calls Tryd.prog 24 #[.pointer (some ⟨x, 0, none⟩), .int .i64 (0 : Nat), .int .i64 0] w fun e w' => e = .returned (.tuple #[.int .i64 (biA s 0 0 : Nat), .int .i64 0]) ∧ Go w w' lo x O (biN s 0 (biA s 0 0))) := bits_cd h ⟨by omega, by omega, fun _ => ⟨by omega, by simp⟩⟩
  have HSh : Hid (∀ u, Below lo w u → Sh u ∧ L10.Nt u) := fun u hu => ⟨hsh.below hu (by omega), hnt.below hu hl⟩
  have HLw : Hid (lo ≤ w.heap.size) := by
    show lo ≤ _
    cases hW2 : s.W
    · obtain ⟨_, _, _, _, hc, _⟩ := h.rc hW2
      exact Nat.le_trans hc.co.xlo (Nat.le_of_lt hc.co.low)
    · obtain ⟨_, _, _, _, hc, _⟩ := h.wc hW2
      exact Nat.le_trans hc.co.xlo (Nat.le_of_lt hc.co.low)
  have HW : Hid (s.W = false) := hW
  have HS2 : Hid (sg ≤ 2) := hs
  have HL1 : Hid (1 < lo) := hl
  obtain ⟨col, hcol⟩ : ∃ col, min pl 1 = col := ⟨_, rfl⟩
  have hc1 : min (pl : Int) 1 = (col : Int) := by omega
  have HC1 : Hid (col ≤ 1) := by show _ ≤ _; omega
  rw [hcol] at HR ⊢
  obtain ⟨r, hr⟩ : ∃ r, (codP z n col sg L (endN n L (n * n))).run s = r := ⟨_, rfl⟩
  rw [hr]
  have HRr : Hid ((codP z n col sg L (endN n L (n * n))).run s = r) := hr
  obtain ⟨q, hqn⟩ : ∃ q, n * n = q := ⟨_, rfl⟩
  have HQ : Hid (n * n = q) := hqn
  have p0 : ¬ (pl : Int) < 0 := by omega
  have p1 : ¬ (2 : Int) < (pl : Int) := by omega
  have s0 : ¬ (sg : Int) < 0 := by omega
  have s1 : ¬ (2 : Int) < (sg : Int) := by omega
  have hq2 : (q : Int) ≤ 1024 := by omega
  have hq3 : (0 : Int) ≤ (q : Int) := by omega
  rw [hqn]
  have HOr : Hid (∀ u : World, Calls Tryd.prog 25 #[.int .i64 z] u fun e w' => L10.On u w' e n) := fun u => L10.order_yes hz
  have hmk := L10.mk_ints (n := q) (by omega)
  have HL0 : Hid (∀ p, L.getD p 0 = 0) := hL0
  clear h hsh hnt hl hn hz hp hs hW hcol hr hqn hLd hL0 hq
  go_enter Tryd.func10, Tryd.ntmps10
  go_wp2_with fail
  refine HB0.out.mono ?_
  rintro en w1 ⟨rfl, O1, hc1', ht1, hb1⟩
  rw [biN_zero] at hc1'
  generalize biA s 0 0 = bz at *
  have HC : Hid (Cd w1 lo x O1 s) := hc1'
  have HT1 : Hid (Trn O O1 w w1) := ht1
  have HB1 : Hid (Below lo w w1) := hb1
  clear hc1' ht1 hb1 HB0
  go_wp2_with fail
  refine (HOr.out _).mono ?_
  rintro en w2 ⟨ob, oc, rfl, ho2, hb2⟩
  rw [HQ.out] at ho2 ⊢
  have HO2 : Hid (L10.Oi w2 w1.heap.size (some ⟨ob, 0, none⟩) q oc (L10.ord n)) := ho2
  have HB2 : Hid (Below w1.heap.size w1 w2) := hb2
  have HC2 : Hid (Cd w2 lo x O1 s) := HC.out.to hb2
  clear ho2 hb2
  go_wp2_with fail
  refine (writes_cd HC2.out).mono ?_
  rintro en w3 ⟨rfl, rfl⟩
  rw [HW.out]
  go_wp2_with fail
  have HB4 : Hid (Below w1.heap.size w1 (w3.alloc (.cells (madeCells #[.int .i64 0] q) 3))) := L10.to_alloc HB2.out _
  have HO4 : Hid (L10.Oi (w3.alloc (.cells (madeCells #[.int .i64 0] q) 3)) w1.heap.size (some ⟨ob, 0, none⟩) q oc (L10.ord n)) := HO2.out.to (L10.from_alloc _ _)
  have HC4 : Hid (Cd (w3.alloc (.cells (madeCells #[.int .i64 0] q) 3)) lo x O1 s) := HC2.out.to (L10.from_alloc _ _)
  have hri := L10.Ri.made 3 w3 q rfl
  obtain ⟨lb, hlb⟩ : ∃ lb, lb = w3.heap.size := ⟨_, rfl⟩
  obtain ⟨lf, hlf⟩ : ∃ lf : Nat, lf = 0 := ⟨_, rfl⟩
  have hlc3 : ∀ p, p < q → (w3.alloc (.cells (madeCells #[.int .i64 0] q) 3)).cell? ⟨lb, lf + p, none⟩ = some (.int .i64 (L.getD p 0)) := fun p hp => by
    rw [HL0.out p, hlb, hlf, Nat.zero_add, hri.cell p (by simp; exact hp), List.getD_eq_getElem?_getD, List.getElem?_replicate, if_pos hp]; rfl
  have HLl : Hid (lb < (w3.alloc (.cells (madeCells #[.int .i64 0] q) 3)).heap.size ∧ ¬ O1 lb ∧ lb ≠ ob ∧ ∀ p, p < q → (w3.alloc (.cells (madeCells #[.int .i64 0] q) 3)).cell? ⟨lb, lf + p, none⟩ = some (.int .i64 (L.getD p 0))) := by
    refine ⟨by rw [hlb]; simp, fun e => ?_, ?_, hlc3⟩
    · have := HC2.out.lt e; omega
    · have := HO2.out.lt.2; omega
  have HWr : Hid (Calls Tryd.prog 27 #[.slice (some ⟨lb, lf, none⟩) q q, .int .i64 (q : Int)] (w3.alloc (.cells (madeCells #[.int .i64 0] q) 3)) fun e w' => e = .returned (.bool true) ∧ w' = w3.alloc (.cells (madeCells #[.int .i64 0] q) 3)) := writable_yes (by omega) hlc3 HLv.out
  rw [← hlb]
  have hl0 : (⟨lb, 0, none⟩ : Addr) = ⟨lb, lf, none⟩ := by rw [hlf]
  rw [hl0]
  obtain ⟨lc2, hlc2⟩ : ∃ c : Nat, c = q := ⟨_, rfl⟩
  generalize w3.alloc (.cells (madeCells #[.int .i64 0] q) 3) = w4 at *
  clear hri hlc3 hlb hlf hl0
  refine HWr.out.mono ?_
  rintro en w5 ⟨rfl, rfl⟩
  clear HWr
  go_wp2_with fail
  have HZs : Hid (w1.heap.size ≤ w5.heap.size ∧ w.heap.size ≤ w1.heap.size) := ⟨HB4.out.size, HT1.out.ke.size⟩
  obtain ⟨sh5, nt5⟩ := HSh.out w5 (HB1.out.trans (HB4.out.mono (Nat.le_trans HLw.out HZs.out.2)))
  have hgd := gd_new HC4.out sh5 nt5 HL1.out HZ.out HQ.out HC1.out HS2.out HO4.out (fun e => by have h1 := HC.out.lt e; have h2 := HO4.out.lt.1; omega) HLl.out.1 HLl.out.2.1 HLl.out.2.2.2 (lf := lf) (lc := q)
  have hok := HR.out.ok
  rw [HQ.out] at hok
  have HK := HCL.out hgd (by have h1 := HZs.out; have h2 := HLw.out; simp only; omega) HLv.out hok
  have HTf : Hid (∀ u, Below w5.heap.size w5 u → Trn O O1 w u ∧ Below lo w u) := fun u hu => by
    have hz := HZs.out
    have hl := HLw.out
    have hb5 : Below w1.heap.size w1 u := L10.below_to HB4.out hu
    exact ⟨HT1.out.trans (Trn.of hb5), HB1.out.trans (hb5.mono (by omega))⟩
  refine HK.mono ?_
  rintro en w6 hcod
  obtain ⟨tf, bf⟩ := HTf.out _ (L10.to_alloc (L10.from_alloc w5 (.cells (madeCells #[.int .i64 0] q) 3)) (.cells #[.pointer (some ⟨x, 0, none⟩), .int .i64 z, .int .i64 (col : Int), .int .i64 (sg : Int), .slice (some ⟨ob, 0, none⟩) q oc, .slice (some ⟨w5.heap.size, 0, none⟩) q q] 68))
  have hkc := hcod.kc tf bf (by have h1 := HZs.out; simp only; omega)
  simp only at hkc
  have hrr := HRr.out
  rw [HQ.out] at hrr
  rw [hrr] at hkc
  have HKc : Hid (Kc w w6 lo x O q r en) := hkc
  obtain ⟨O9, -, -, -, hy, hno⟩ := hkc
  clear hcod tf bf HK hgd hok hrr sh5 nt5
  rcases hr1 : r.1 with _ | K
  · obtain rfl := hno hr1
    clear hy hno
    go_wp2_with fail
    refine bodyPost_ret (v := .tuple #[.slice none 0 0, .int .i64 4]) (by simp [results, Tryd.results10, go_sem]) rfl ?_
    exact HKc.out
  · obtain ⟨g, rfl, -, -⟩ := hy K hr1
    clear hy hno
    go_wp2_with fail
    refine bodyPost_ret (v := .tuple #[.slice (some ⟨g, 0, none⟩) q q, .int .i64 0]) (by simp [results, Tryd.results10, go_sem]) rfl ?_
    exact HKc.out

end Go.Proofs.YtkmnpechhdendaaDoor
