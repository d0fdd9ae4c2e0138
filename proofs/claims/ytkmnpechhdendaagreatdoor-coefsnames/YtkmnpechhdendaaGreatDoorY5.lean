/- DERIVED. Several texts in one: The walks of writable, Sign and Code. Writers and readers that begin; how much a writer counts; the walk of may. The walks of may, Sign and awake. The walk of awake. -/
import Derived.Test.YtkmnpechhdendaaGreatDoorY3
import Derived.Test.YtkmnpechhdendaaGreatDoorL2LwA
namespace Go.Proofs.YtkmnpechhdendaaGreatDoor
open Go.RowKit L3

set_option maxRecDepth 100000 in
set_option maxHeartbeats 1000000 in
theorem writable_yes {w : World} {lb lf lc q : Nat} {L : List Int} (hq : q ≤ 1024) (hc : ∀ p, p < q → w.cell? ⟨lb, lf + p, none⟩ = some (.int .i64 (L.getD p 0))) (hL : ∀ p, -1048576 ≤ L.getD p 0 ∧ L.getD p 0 ≤ 1048576) :
    Calls Tryz.prog 41 #[.slice (some ⟨lb, lf, none⟩) q lc, .int .i64 (q : Int)] w fun e w' => e = .returned (.bool true) ∧ w' = w := by
  have HC : Hid (∀ p, p < q → w.cell? ⟨lb, lf + p, none⟩ = some (.int .i64 (L.getD p 0))) := hc
  have HL : Hid (∀ p, -1048576 ≤ L.getD p 0 ∧ L.getD p 0 ≤ 1048576) := hL
  have hqq : ((q : Int) != (q : Int)) = false := by simp
  clear hc hL
  go_enter Tryz.func41, Tryz.ntmps41
  go_wp2_with fail
  go_loopw [13] (fun i wr => ∃ k : Nat, k ≤ q ∧ i = .int .i64 k ∧ wr = w) (fun i _ => q - (intOf i).toNat)
  case atStart => exact ⟨0, by omega, rfl, rfl⟩
  case round =>
    obtain ⟨k, hk, rfl, rfl⟩ := hrel
    have k0 : (0 : Int) ≤ (k : Int) := by omega
    by_cases hlt : k < q
    · have k1 : (k : Int) < (q : Int) := by omega
      have c1 := HC.out k hlt
      obtain ⟨b1, b2⟩ := HL.out k
      generalize L.getD k 0 = v at *
      have d1 : ¬ v < -1048576 := by omega
      have d2 : ¬ (1048576 : Int) < v := by omega
      clear hk
      go_wp2_with fail
      go_roundw
      case rel => exact ⟨k + 1, by omega, by go_num, (by first | trivial | rfl)⟩
      case measure => simp [intOf]; omega
    · obtain rfl : k = q := by omega
      go_wp2_with fail
      go_ret
      exact ⟨rfl, rfl⟩

theorem biN_zero (s : Cs) (v : Nat) : biN s 0 v = s := by
  unfold biN
  rw [eBs_zero, dBs_zero]
  split <;> rfl
/-- what Code comes to -/
def Kc (w w' : World) (lo x : Nat) (O : Nat → Prop) (q : Nat) (r : Option (List Int) × Cs) (en : Ending) : Prop :=
  ∃ O', Cd w' lo x O' r.2 ∧ Trn O O' w w' ∧ Below lo w w' ∧ (∀ K, r.1 = some K → ∃ g, en = .returned (.tuple #[.slice (some ⟨g, 0, none⟩) q q, .int .i64 0]) ∧ L10.Ri 3 w' g K ∧ w.heap.size ≤ g ∧ ¬ O' g) ∧ (r.1 = none → en = .returned (.tuple #[.slice none 0 0, .int .i64 4]))
theorem Cod.kc {m : Pm} {w u w' : World} {O O1 : Nat → Prop} {r : Option (List Int) × Cs} {en : Ending} (h : Cod m O1 u r en w') (ht : Trn O O1 w u) (hb : Below m.lo w u) (hk : w.heap.size ≤ m.kb) : Kc w w' m.lo m.x O m.q r en := by
  obtain ⟨O2, K', g, t, b, hK⟩ := h.ex
  have t2 : Trn O O2 w w' := by
    refine ⟨⟨t.ke.os.trans ht.ke.os, t.ke.tape.trans ht.ke.tape, t.ke.output.trans ht.ke.output, Nat.le_trans ht.ke.size t.ke.size, fun k hk1 hk2 => ?_⟩, fun y hy => ?_⟩
    · rw [t.ke.block k (Nat.lt_of_lt_of_le hk1 ht.ke.size) (fun e => ?_)]
      · exact ht.ke.block k hk1 hk2
      · rcases e with e | e
        · rcases ht.new k e with e2 | e2
          · exact hk2 e2
          · omega
        · omega
    · rcases t.new y (Or.inl hy) with e | e
      · rcases e with e | e
        · exact ht.new y e
        · exact Or.inr (by omega)
      · exact Or.inr (Nat.le_trans ht.ke.size e)
  exact ⟨O2, g.cd, t2, hb.trans b, fun K hr => ⟨m.kb, h.yes K hr, by rw [← hK K hr]; exact g.bb.kn, hk, g.bb.nk⟩, h.no⟩
theorem cod_ran {s : Cs} (h : SOk s) (hn : s.n ≤ 900000000) {z : Int} {n col sg : Nat} (hz : L10.Sz z n) (hc : col ≤ 1) (hs : sg ≤ 2) {L : List Int} (hL : s.W = true → Lv n L) : Ran (Kn n) (fun K => K = L) (12 + 47 * (n * n)) s (codP z n col sg L (endN n L (n * n))) :=
  ran _ _ _ (cod_good hz hc hs L _) h (by have := hz.sd.sq; omega) (fun e => cod_wr hz (hL e))

theorem gd_new {w : World} {lo x : Nat} {O : Nat → Prop} {s : Cs} {z : Int} {n q col sg ob oc lb lf lc B : Nat} {L : List Int} (hc : Cd w lo x O s) (hsh : Sh w) (hnt : L10.Nt w) (hl : 1 < lo) (hz : L10.Sz z n) (hq : n * n = q) (hcol : col ≤ 1) (hsg : sg ≤ 2) (ho : L10.Oi w B (some ⟨ob, 0, none⟩) q oc (L10.ord n)) (hob : ¬ O ob) (hlb : lb < w.heap.size) (hlO : ¬ O lb) (hlc : ∀ p, p < q → w.cell? ⟨lb, lf + p, none⟩ = some (.int .i64 (L.getD p 0))) :
    Gd ⟨lo, x, w.heap.size + 1, z, n, q, col, sg, ob, oc, w.heap.size, lb, lf, lc, L⟩ (List.replicate q 0) O s ((w.alloc (.cells (madeCells #[.int .i64 0] q) 3)).alloc (.cells #[.pointer (some ⟨x, 0, none⟩), .int .i64 z, .int .i64 (col : Int), .int .i64 (sg : Int), .slice (some ⟨ob, 0, none⟩) q oc, .slice (some ⟨w.heap.size, 0, none⟩) q q] 86)) := by
  have h1 := L10.from_alloc w (.cells (madeCells #[.int .i64 0] q) 3)
  have hb := L10.to_alloc h1 (.cells #[.pointer (some ⟨x, 0, none⟩), .int .i64 z, .int .i64 (col : Int), .int .i64 (sg : Int), .slice (some ⟨ob, 0, none⟩) q oc, .slice (some ⟨w.heap.size, 0, none⟩) q q] 86)
  have hol := ho.lt.2
  have hkn := (L10.Ri.made 3 w q rfl).to (L10.from_alloc _ (.cells #[.pointer (some ⟨x, 0, none⟩), .int .i64 z, .int .i64 (col : Int), .int .i64 (sg : Int), .slice (some ⟨ob, 0, none⟩) q oc, .slice (some ⟨w.heap.size, 0, none⟩) q q] 86))
  refine ⟨hc.to hb, ⟨?_, ?_, ?_, ?_, ?_, ?_, ?_, ?_, ?_, fun i hi => ?_, hkn, by simp, fun p hp => ?_, fun e => ?_, hob, fun e => ?_, hlO, ⟨by simp, by simp only; omega, by simp only; omega⟩, ho.cap⟩, hsh.to hb, hnt.to hb, hl, hz, hq.symm, hcol, hsg⟩
  · simp [go_sem]
  · simp [go_sem]
  · simp [go_sem]
  · simp [go_sem]
  · simp [go_sem]
  · simp [go_sem]
  · simp
  · simp; omega
  · simp; omega
  · rw [L10.newCell hb _ _ hol, ho.cellAt i hi]
    obtain ⟨_, _, h3⟩ := plc_at hz.sd (i := i) (by rw [hq]; exact hi)
    simp only
    rw [h3]
  · rw [L10.newCell hb _ _ hlb]; exact hlc p hp
  · have := hc.lt e; simp only at this; omega
  · have := hc.lt e; simp only at this; omega

set_option maxRecDepth 100000 in
set_option maxHeartbeats 2000000 in
theorem kcode_w (hcl : CodeLaw) {w : World} {lo x : Nat} {O : Nat → Prop} {s : Cs} (h : Cd w lo x O s) (hsh : Sh w) (hnt : L10.Nt w) (hl : 1 < lo) (hn : s.n ≤ 900000000) {z : Int} {n : Nat} (hz : L10.Sz z n) {pl sg : Nat} (hp : pl ≤ 2) (hs : sg ≤ 2) (hW : s.W = true) {lb lf lc : Nat} {L : List Int} (hL : Lv n L) (hlb : lb < w.heap.size) (hlO : ¬ O lb) (hlc : ∀ p, p < n * n → w.cell? ⟨lb, lf + p, none⟩ = some (.int .i64 (L.getD p 0))) :
    Calls Tryz.prog 11 #[.pointer (some ⟨x, 0, none⟩), .int .i64 z, .int .i64 (pl : Int), .int .i64 (sg : Int), .slice (some ⟨lb, lf, none⟩) (n * n) lc] w fun en w' => Kc w w' lo x O (n * n) ((codP z n (min pl 1) sg L (endN n L (n * n))).run s) en := by
  have HCL : Hid CodeLaw := hcl
  clear hcl
  have hq : n * n ≤ 1024 := hz.sd.sq
  have HLv : Hid (∀ p, -1048576 ≤ L.getD p 0 ∧ L.getD p 0 ≤ 1048576) := hL.all
  have HR : Hid (Ran (Kn n) (fun K => K = L) (12 + 47 * (n * n)) s (codP z n (min pl 1) sg L (endN n L (n * n)))) := cod_ran h.so hn hz (by omega) hs (fun e => hL)
  have HZ : Hid (L10.Sz z n) := hz
  have HB0 : Hid (Calls Tryz.prog 38 #[.pointer (some ⟨x, 0, none⟩), .int .i64 (0 : Nat), .int .i64 0] w fun e w' => e = .returned (.tuple #[.int .i64 (biA s 0 0 : Nat), .int .i64 0]) ∧ Go w w' lo x O (biN s 0 (biA s 0 0))) := bits_cd h ⟨by omega, by omega, fun _ => ⟨by omega, by simp⟩⟩
  have HSh : Hid (∀ u, Below lo w u → Sh u ∧ L10.Nt u) := fun u hu => ⟨hsh.below hu (by omega), hnt.below hu hl⟩
  have HLw : Hid (lo ≤ w.heap.size) := by
    show lo ≤ _
    cases hW2 : s.W
    · obtain ⟨_, _, _, _, hc, _⟩ := h.rc hW2
      exact Nat.le_trans hc.co.xlo (Nat.le_of_lt hc.co.low)
    · obtain ⟨_, _, _, _, hc, _⟩ := h.wc hW2
      exact Nat.le_trans hc.co.xlo (Nat.le_of_lt hc.co.low)
  have HW : Hid (s.W = true) := hW
  have HS2 : Hid (sg ≤ 2) := hs
  have HL1 : Hid (1 < lo) := hl
  obtain ⟨col, hcol⟩ : ∃ col, min pl 1 = col := ⟨_, rfl⟩
  have hc1 : min (pl : Int) 1 = (col : Int) := by omega
  have HC1 : Hid (col ≤ 1) := by show _ ≤ _; omega
  rw [hcol] at HR ⊢
  obtain ⟨r, hr⟩ : ∃ r, (codP z n col sg L (endN n L (n * n))).run s = r := ⟨_, rfl⟩
  rw [hr]
  have HRr : Hid ((codP z n col sg L (endN n L (n * n))).run s = r) := hr
  obtain ⟨q, hqn⟩ : ∃ q, n * n = q := ⟨_, rfl⟩
  have HQ : Hid (n * n = q) := hqn
  have p0 : ¬ (pl : Int) < 0 := by omega
  have p1 : ¬ (2 : Int) < (pl : Int) := by omega
  have s0 : ¬ (sg : Int) < 0 := by omega
  have s1 : ¬ (2 : Int) < (sg : Int) := by omega
  have hq2 : (q : Int) ≤ 1024 := by omega
  have hq3 : (0 : Int) ≤ (q : Int) := by omega
  rw [hqn]
  have HOr : Hid (∀ u : World, Calls Tryz.prog 39 #[.int .i64 z] u fun e w' => L10.On u w' e n) := fun u => L10.order_yes hz
  have hmk := L10.mk_ints (n := q) (by omega)
  rw [hqn] at hlc
  have HLb : Hid (lb < w.heap.size ∧ ¬ O lb ∧ ∀ p, p < q → w.cell? ⟨lb, lf + p, none⟩ = some (.int .i64 (L.getD p 0))) := ⟨hlb, hlO, hlc⟩
  clear h hsh hnt hl hn hz hp hs hW hL hlb hlO hlc hcol hr hqn hq
  go_enter Tryz.func11, Tryz.ntmps11
  go_wp2_with fail
  refine HB0.out.mono ?_
  rintro en w1 ⟨rfl, O1, hc1', ht1, hb1⟩
  rw [biN_zero] at hc1'
  generalize biA s 0 0 = bz at *
  have HC : Hid (Cd w1 lo x O1 s) := hc1'
  have HT1 : Hid (Trn O O1 w w1) := ht1
  have HB1 : Hid (Below lo w w1) := hb1
  clear hc1' ht1 hb1 HB0
  go_wp2_with fail
  refine (HOr.out _).mono ?_
  rintro en w2 ⟨ob, oc, rfl, ho2, hb2⟩
  rw [HQ.out] at ho2 ⊢
  have HO2 : Hid (L10.Oi w2 w1.heap.size (some ⟨ob, 0, none⟩) q oc (L10.ord n)) := ho2
  have HB2 : Hid (Below w1.heap.size w1 w2) := hb2
  have HC2 : Hid (Cd w2 lo x O1 s) := HC.out.to hb2
  clear ho2 hb2
  go_wp2_with fail
  refine (writes_cd HC2.out).mono ?_
  rintro en w3 ⟨rfl, rfl⟩
  rw [HW.out]
  go_wp2_with fail
  have hlc3 : ∀ p, p < q → w3.cell? ⟨lb, lf + p, none⟩ = some (.int .i64 (L.getD p 0)) := fun p hp => by
    obtain ⟨l1, l2, l3⟩ := HLb.out
    rw [L10.newCell HB2.out _ _ (Nat.lt_of_lt_of_le l1 HT1.out.ke.size), HT1.out.ke.cell _ _ l1 l2]
    exact l3 p hp
  have HWr : Hid (Calls Tryz.prog 41 #[.slice (some ⟨lb, lf, none⟩) q lc, .int .i64 (q : Int)] w3 fun e w' => e = .returned (.bool true) ∧ w' = w3) := writable_yes (by omega) hlc3 HLv.out
  have HLl : Hid (lb < w3.heap.size ∧ ¬ O1 lb ∧ lb < w1.heap.size ∧ ∀ p, p < q → w3.cell? ⟨lb, lf + p, none⟩ = some (.int .i64 (L.getD p 0))) := by
    obtain ⟨l1, l2, l3⟩ := HLb.out
    have z1 := HT1.out.ke.size
    have z2 := HB2.out.size
    refine ⟨by omega, fun e => ?_, by omega, hlc3⟩
    rcases HT1.out.new _ e with e2 | e2
    · exact l2 e2
    · omega
  clear hlc3 HLb
  generalize hW3 : w3 = w4 at *
  clear hW3
  have HB4 : Hid (Below w1.heap.size w1 w4) := HB2.out
  have HO4 := HO2
  have HC4 := HC2
  refine HWr.out.mono ?_
  rintro en w5 ⟨rfl, rfl⟩
  clear HWr
  go_wp2_with fail
  have HZs : Hid (w1.heap.size ≤ w5.heap.size ∧ w.heap.size ≤ w1.heap.size) := ⟨HB4.out.size, HT1.out.ke.size⟩
  obtain ⟨sh5, nt5⟩ := HSh.out w5 (HB1.out.trans (HB4.out.mono (Nat.le_trans HLw.out HZs.out.2)))
  have hgd := gd_new HC4.out sh5 nt5 HL1.out HZ.out HQ.out HC1.out HS2.out HO4.out (fun e => by have h1 := HC.out.lt e; have h2 := HO4.out.lt.1; omega) HLl.out.1 HLl.out.2.1 HLl.out.2.2.2 (lf := lf) (lc := lc)
  have hok := HR.out.ok
  rw [HQ.out] at hok
  have HK := HCL.out hgd (by have h1 := HZs.out; have h2 := HLw.out; simp only; omega) HLv.out hok
  have HTf : Hid (∀ u, Below w5.heap.size w5 u → Trn O O1 w u ∧ Below lo w u) := fun u hu => by
    have hz := HZs.out
    have hl := HLw.out
    have hb5 : Below w1.heap.size w1 u := L10.below_to HB4.out hu
    exact ⟨HT1.out.trans (Trn.of hb5), HB1.out.trans (hb5.mono (by omega))⟩
  refine HK.mono ?_
  rintro en w6 hcod
  obtain ⟨tf, bf⟩ := HTf.out _ (L10.to_alloc (L10.from_alloc w5 (.cells (madeCells #[.int .i64 0] q) 3)) (.cells #[.pointer (some ⟨x, 0, none⟩), .int .i64 z, .int .i64 (col : Int), .int .i64 (sg : Int), .slice (some ⟨ob, 0, none⟩) q oc, .slice (some ⟨w5.heap.size, 0, none⟩) q q] 86))
  have hkc := hcod.kc tf bf (by have h1 := HZs.out; simp only; omega)
  simp only at hkc
  have hrr := HRr.out
  rw [HQ.out] at hrr
  rw [hrr] at hkc
  have HKc : Hid (Kc w w6 lo x O q r en) := hkc
  obtain ⟨O9, -, -, -, hy, hno⟩ := hkc
  clear hcod tf bf HK hgd hok hrr sh5 nt5
  rcases hr1 : r.1 with _ | K
  · obtain rfl := hno hr1
    clear hy hno
    go_wp2_with fail
    refine bodyPost_ret (v := .tuple #[.slice none 0 0, .int .i64 4]) (by simp [results, Tryz.results11, go_sem]) rfl ?_
    exact HKc.out
  · obtain ⟨g, rfl, -, -⟩ := hy K hr1
    clear hy hno
    go_wp2_with fail
    refine bodyPost_ret (v := .tuple #[.slice (some ⟨g, 0, none⟩) q q, .int .i64 0]) (by simp [results, Tryz.results11, go_sem]) rfl ?_
    exact HKc.out

set_option maxRecDepth 100000 in
set_option maxHeartbeats 2000000 in
theorem kcode_r (hcl : CodeLaw) {w : World} {lo x : Nat} {O : Nat → Prop} {s : Cs} (h : Cd w lo x O s) (hsh : Sh w) (hnt : L10.Nt w) (hl : 1 < lo) (hn : s.n ≤ 900000000) {z : Int} {n : Nat} (hz : L10.Sz z n) {pl sg : Nat} (hp : pl ≤ 2) (hs : sg ≤ 2) (hW : s.W = false) {la : Option Addr} {ll lc : Nat} :
    Calls Tryz.prog 11 #[.pointer (some ⟨x, 0, none⟩), .int .i64 z, .int .i64 (pl : Int), .int .i64 (sg : Int), .slice la ll lc] w fun en w' => Kc w w' lo x O (n * n) ((codP z n (min pl 1) sg (List.replicate (n * n) 0) (endN n (List.replicate (n * n) 0) (n * n))).run s) en := by
  obtain ⟨L, hLd⟩ : ∃ L, L = List.replicate (n * n) (0 : Int) := ⟨_, rfl⟩
  rw [← hLd]
  have hL0 : ∀ p, L.getD p 0 = 0 := fun p => by rw [hLd, List.getD_eq_getElem?_getD, List.getElem?_replicate]; split <;> rfl
  have HCL : Hid CodeLaw := hcl
  clear hcl
  have hq : n * n ≤ 1024 := hz.sd.sq
  have HLv : Hid (∀ p, -1048576 ≤ L.getD p 0 ∧ L.getD p 0 ≤ 1048576) := fun p => by rw [hL0 p]; omega
  have HR : Hid (Ran (Kn n) (fun K => K = L) (12 + 47 * (n * n)) s (codP z n (min pl 1) sg L (endN n L (n * n)))) := cod_ran h.so hn hz (by omega) hs (fun e => absurd (hW.symm.trans e) (by decide))
  have HZ : Hid (L10.Sz z n) := hz
  have HB0 : Hid (Calls Tryz.prog 38 #[.pointer (some ⟨x, 0, none⟩), .int .i64 (0 : Nat), .int .i64 0] w fun e w' => e = .returned (.tuple #[.int .i64 (biA s 0 0 : Nat), .int .i64 0]) ∧ Go w w' lo x O (biN s 0 (biA s 0 0))) := bits_cd h ⟨by omega, by omega, fun _ => ⟨by omega, by simp⟩⟩
  have HSh : Hid (∀ u, Below lo w u → Sh u ∧ L10.Nt u) := fun u hu => ⟨hsh.below hu (by omega), hnt.below hu hl⟩
  have HLw : Hid (lo ≤ w.heap.size) := by
    show lo ≤ _
    cases hW2 : s.W
    · obtain ⟨_, _, _, _, hc, _⟩ := h.rc hW2
      exact Nat.le_trans hc.co.xlo (Nat.le_of_lt hc.co.low)
    · obtain ⟨_, _, _, _, hc, _⟩ := h.wc hW2
      exact Nat.le_trans hc.co.xlo (Nat.le_of_lt hc.co.low)
  have HW : Hid (s.W = false) := hW
  have HS2 : Hid (sg ≤ 2) := hs
  have HL1 : Hid (1 < lo) := hl
  obtain ⟨col, hcol⟩ : ∃ col, min pl 1 = col := ⟨_, rfl⟩
  have hc1 : min (pl : Int) 1 = (col : Int) := by omega
  have HC1 : Hid (col ≤ 1) := by show _ ≤ _; omega
  rw [hcol] at HR ⊢
  obtain ⟨r, hr⟩ : ∃ r, (codP z n col sg L (endN n L (n * n))).run s = r := ⟨_, rfl⟩
  rw [hr]
  have HRr : Hid ((codP z n col sg L (endN n L (n * n))).run s = r) := hr
  obtain ⟨q, hqn⟩ : ∃ q, n * n = q := ⟨_, rfl⟩
  have HQ : Hid (n * n = q) := hqn
  have p0 : ¬ (pl : Int) < 0 := by omega
  have p1 : ¬ (2 : Int) < (pl : Int) := by omega
  have s0 : ¬ (sg : Int) < 0 := by omega
  have s1 : ¬ (2 : Int) < (sg : Int) := by omega
  have hq2 : (q : Int) ≤ 1024 := by omega
  have hq3 : (0 : Int) ≤ (q : Int) := by omega
  rw [hqn]
  have HOr : Hid (∀ u : World, Calls Tryz.prog 39 #[.int .i64 z] u fun e w' => L10.On u w' e n) := fun u => L10.order_yes hz
  have hmk := L10.mk_ints (n := q) (by omega)
  have HL0 : Hid (∀ p, L.getD p 0 = 0) := hL0
  clear h hsh hnt hl hn hz hp hs hW hcol hr hqn hLd hL0 hq
  go_enter Tryz.func11, Tryz.ntmps11
  go_wp2_with fail
  refine HB0.out.mono ?_
  rintro en w1 ⟨rfl, O1, hc1', ht1, hb1⟩
  rw [biN_zero] at hc1'
  generalize biA s 0 0 = bz at *
  have HC : Hid (Cd w1 lo x O1 s) := hc1'
  have HT1 : Hid (Trn O O1 w w1) := ht1
  have HB1 : Hid (Below lo w w1) := hb1
  clear hc1' ht1 hb1 HB0
  go_wp2_with fail
  refine (HOr.out _).mono ?_
  rintro en w2 ⟨ob, oc, rfl, ho2, hb2⟩
  rw [HQ.out] at ho2 ⊢
  have HO2 : Hid (L10.Oi w2 w1.heap.size (some ⟨ob, 0, none⟩) q oc (L10.ord n)) := ho2
  have HB2 : Hid (Below w1.heap.size w1 w2) := hb2
  have HC2 : Hid (Cd w2 lo x O1 s) := HC.out.to hb2
  clear ho2 hb2
  go_wp2_with fail
  refine (writes_cd HC2.out).mono ?_
  rintro en w3 ⟨rfl, rfl⟩
  rw [HW.out]
  go_wp2_with fail
  have HB4 : Hid (Below w1.heap.size w1 (w3.alloc (.cells (madeCells #[.int .i64 0] q) 3))) := L10.to_alloc HB2.out _
  have HO4 : Hid (L10.Oi (w3.alloc (.cells (madeCells #[.int .i64 0] q) 3)) w1.heap.size (some ⟨ob, 0, none⟩) q oc (L10.ord n)) := HO2.out.to (L10.from_alloc _ _)
  have HC4 : Hid (Cd (w3.alloc (.cells (madeCells #[.int .i64 0] q) 3)) lo x O1 s) := HC2.out.to (L10.from_alloc _ _)
  have hri := L10.Ri.made 3 w3 q rfl
  obtain ⟨lb, hlb⟩ : ∃ lb, lb = w3.heap.size := ⟨_, rfl⟩
  obtain ⟨lf, hlf⟩ : ∃ lf : Nat, lf = 0 := ⟨_, rfl⟩
  have hlc3 : ∀ p, p < q → (w3.alloc (.cells (madeCells #[.int .i64 0] q) 3)).cell? ⟨lb, lf + p, none⟩ = some (.int .i64 (L.getD p 0)) := fun p hp => by
    rw [HL0.out p, hlb, hlf, Nat.zero_add, hri.cell p (by simp; exact hp), List.getD_eq_getElem?_getD, List.getElem?_replicate, if_pos hp]; rfl
  have HLl : Hid (lb < (w3.alloc (.cells (madeCells #[.int .i64 0] q) 3)).heap.size ∧ ¬ O1 lb ∧ lb ≠ ob ∧ ∀ p, p < q → (w3.alloc (.cells (madeCells #[.int .i64 0] q) 3)).cell? ⟨lb, lf + p, none⟩ = some (.int .i64 (L.getD p 0))) := by
    refine ⟨by rw [hlb]; simp, fun e => ?_, ?_, hlc3⟩
    · have := HC2.out.lt e; omega
    · have := HO2.out.lt.2; omega
  have HWr : Hid (Calls Tryz.prog 41 #[.slice (some ⟨lb, lf, none⟩) q q, .int .i64 (q : Int)] (w3.alloc (.cells (madeCells #[.int .i64 0] q) 3)) fun e w' => e = .returned (.bool true) ∧ w' = w3.alloc (.cells (madeCells #[.int .i64 0] q) 3)) := writable_yes (by omega) hlc3 HLv.out
  rw [← hlb]
  have hl0 : (⟨lb, 0, none⟩ : Addr) = ⟨lb, lf, none⟩ := by rw [hlf]
  rw [hl0]
  obtain ⟨lc2, hlc2⟩ : ∃ c : Nat, c = q := ⟨_, rfl⟩
  generalize w3.alloc (.cells (madeCells #[.int .i64 0] q) 3) = w4 at *
  clear hri hlc3 hlb hlf hl0
  refine HWr.out.mono ?_
  rintro en w5 ⟨rfl, rfl⟩
  clear HWr
  go_wp2_with fail
  have HZs : Hid (w1.heap.size ≤ w5.heap.size ∧ w.heap.size ≤ w1.heap.size) := ⟨HB4.out.size, HT1.out.ke.size⟩
  obtain ⟨sh5, nt5⟩ := HSh.out w5 (HB1.out.trans (HB4.out.mono (Nat.le_trans HLw.out HZs.out.2)))
  have hgd := gd_new HC4.out sh5 nt5 HL1.out HZ.out HQ.out HC1.out HS2.out HO4.out (fun e => by have h1 := HC.out.lt e; have h2 := HO4.out.lt.1; omega) HLl.out.1 HLl.out.2.1 HLl.out.2.2.2 (lf := lf) (lc := q)
  have hok := HR.out.ok
  rw [HQ.out] at hok
  have HK := HCL.out hgd (by have h1 := HZs.out; have h2 := HLw.out; simp only; omega) HLv.out hok
  have HTf : Hid (∀ u, Below w5.heap.size w5 u → Trn O O1 w u ∧ Below lo w u) := fun u hu => by
    have hz := HZs.out
    have hl := HLw.out
    have hb5 : Below w1.heap.size w1 u := L10.below_to HB4.out hu
    exact ⟨HT1.out.trans (Trn.of hb5), HB1.out.trans (hb5.mono (by omega))⟩
  refine HK.mono ?_
  rintro en w6 hcod
  obtain ⟨tf, bf⟩ := HTf.out _ (L10.to_alloc (L10.from_alloc w5 (.cells (madeCells #[.int .i64 0] q) 3)) (.cells #[.pointer (some ⟨x, 0, none⟩), .int .i64 z, .int .i64 (col : Int), .int .i64 (sg : Int), .slice (some ⟨ob, 0, none⟩) q oc, .slice (some ⟨w5.heap.size, 0, none⟩) q q] 86))
  have hkc := hcod.kc tf bf (by have h1 := HZs.out; simp only; omega)
  simp only at hkc
  have hrr := HRr.out
  rw [HQ.out] at hrr
  rw [hrr] at hkc
  have HKc : Hid (Kc w w6 lo x O q r en) := hkc
  obtain ⟨O9, -, -, -, hy, hno⟩ := hkc
  clear hcod tf bf HK hgd hok hrr sh5 nt5
  rcases hr1 : r.1 with _ | K
  · obtain rfl := hno hr1
    clear hy hno
    go_wp2_with fail
    refine bodyPost_ret (v := .tuple #[.slice none 0 0, .int .i64 4]) (by simp [results, Tryz.results11, go_sem]) rfl ?_
    exact HKc.out
  · obtain ⟨g, rfl, -, -⟩ := hy K hr1
    clear hy hno
    go_wp2_with fail
    refine bodyPost_ret (v := .tuple #[.slice (some ⟨g, 0, none⟩) q q, .int .i64 0]) (by simp [results, Tryz.results11, go_sem]) rfl ?_
    exact HKc.out

end Go.Proofs.YtkmnpechhdendaaGreatDoor

namespace Go.Proofs.YtkmnpechhdendaaGreatDoor
open Go.RowKit L3

/-- a coder's numbers at its beginning -/
def wS (ad : Bool) : Cs := ⟨true, ad, dS, 0, [], 0, 4294967295, 0⟩
def rS (ad : Bool) (zs : List Nat) : Cs := ⟨false, ad, dS, 0, zs, 4, L2.dFirst zs, 4294967295⟩
theorem writer_cd {w : World} {lo bt : Nat} {B : Nat → Prop} {ad : Bool} (hsh : Sh w) (hs : Hs w lo bt B dS) :
    Calls Tryz.prog 6 #[.agg #[.slice (some ⟨bt, 0, none⟩) 32 32], .bool ad] w fun e w' => ∃ x O, e = .returned (.tuple #[.pointer (some ⟨x, 0, none⟩), .int .i64 0]) ∧ Cd w' w.heap.size x O (wS ad) ∧ (∀ y, O y → w.heap.size ≤ y) ∧ Below w.heap.size w w' := by
  refine (writer_wc hsh hs).mono ?_
  rintro e w' ⟨x, O, rfl, h1, h2⟩
  exact ⟨x, O, rfl, ⟨fun _ => h1, fun e => (by cases e), fun _ => Nat.le_refl _⟩, fun y hy => h1.ge hy, h2⟩
theorem reader_cd {w : World} {lo bt : Nat} {B : Nat → Prop} {ad : Bool} {vb : Value} {zs : List Nat} (hsh : Sh w) (hs : Hs w lo bt B dS) (hv : L2.SrcOf w vb zs) (hz : ∀ i, zs.getD i 0 < 256) (hl : zs.length ≤ 140737488355328) :
    Calls Tryz.prog 23 #[vb, .agg #[.slice (some ⟨bt, 0, none⟩) 32 32], .bool ad] w fun e w' => ∃ x O, e = .returned (.tuple #[.pointer (some ⟨x, 0, none⟩), .int .i64 0]) ∧ Cd w' w.heap.size x O (rS ad zs) ∧ (∀ y, O y → y = 0 ∨ w.heap.size ≤ y) ∧ Below w.heap.size w w' := by
  refine (reader_rc hsh hsh.low hs hv hz hl).mono ?_
  rintro e w' ⟨x, O, rfl, h1, h2, h3⟩
  exact ⟨x, O, rfl, ⟨fun e => (by cases e), fun _ => h1, fun e => (by cases e)⟩, h2, h3⟩
theorem bytes_cd {w : World} {lo x : Nat} {O : Nat → Prop} {s : Cs} (h : Cd w lo x O s) (hW : s.W = true) (hn : s.n ≤ 1000000000) :
    Calls Tryz.prog 17 #[.pointer (some ⟨x, 0, none⟩)] w fun e w' => ∃ v, e = .returned (.tuple #[v, .int .i64 0]) ∧ ∃ zs, L2.SrcOf w' v zs ∧ (∀ i, zs.getD i 0 < 256) ∧ zs.length ≤ 140737488355328 ∧ L2.pre zs (s.c + 4) = s.a ∧ Below w.heap.size w w' := by
  obtain ⟨bt, K, xe, d, hc, _⟩ := h.wc hW
  have hk := h.kb hW
  refine (bytes_w hc (by omega)).mono ?_
  rintro e w' ⟨v, rfl, b, zs, hby, _, hb⟩
  exact ⟨v, rfl, zs, hby.src, hby.byt, by have := hby.len; omega, hby.val, hb⟩
namespace Prg
/-- how much a writer counts -/
def wc {α : Type} : Prg α → Nat
  | .ret _ => 0
  | .stop => 0
  | .sym _ _ z k => 1 + (k z.toNat).wc
  | .bits n z k => n + (k z.toNat).wc
theorem run_wc {α : Type} (p : Prg α) : ∀ s, s.W = true → (p.run s).2.n = s.n + p.wc := by
  induction p with
  | ret a => intro s _; rfl
  | stop => intro s _; rfl
  | sym kk cx z k ih =>
    intro s hW
    have e : syA s kk cx z = z.toNat := by unfold syA; rw [if_pos hW]
    show ((k (syA s kk cx z)).run (syN s kk cx (syA s kk cx z))).2.n = s.n + (1 + (k z.toNat).wc)
    rw [e, ih _ _ (by rw [(syN_W s kk cx _).1]; exact hW), (syN_W s kk cx _).2.2.2.1]
    omega
  | bits n z k ih =>
    intro s hW
    have e : biA s n z = z.toNat := by unfold biA; rw [if_pos hW]
    show ((k (biA s n z)).run (biN s n (biA s n z))).2.n = s.n + (n + (k z.toNat).wc)
    rw [e, ih _ _ (by rw [(biN_W s n _).1]; exact hW), (biN_W s n _).2.2.2.1]
    omega
end Prg
/-- a block that is written, and read -/
def cw (z : Int) (n col sg : Nat) (L : List Int) : Prg (List Int) := codP z n col sg L (endN n L (n * n))
def cr (z : Int) (n col sg : Nat) : Prg (List Int) := codP z n col sg (List.replicate (n * n) 0) (endN n (List.replicate (n * n) 0) (n * n))
theorem cw_tw {z : Int} {n col sg : Nat} (hz : L10.Sz z n) (hc : col ≤ 1) (hs : sg ≤ 2) {L : List Int} (hL : Lv n L) : (cw z n col sg L).Tw (cr z n col sg) :=
  Prg.Eqv.tw _ _ _ (cod_eqv z n col sg L _ _ _) (cod_good hz hc hs L _) (cod_wr hz hL)
theorem cw_ran {s : Cs} (h : SOk s) (hn : s.n ≤ 900000000) {z : Int} {n col sg : Nat} (hz : L10.Sz z n) (hc : col ≤ 1) (hs : sg ≤ 2) {L : List Int} (hL : s.W = true → Lv n L) : Ran (Kn n) (fun K => K = L) (12 + 47 * (n * n)) s (cw z n col sg L) := cod_ran h hn hz hc hs hL
theorem syn_first {ad : Bool} {zs : List Nat} {T' g' k' : Nat} (hz : ∀ i, zs.getD i 0 < 256) (hI : L2.Inc 0 4294967295 0 T' g' k') (hg : 0 < g') (hp : L2.pre zs (k' + 4) = T') : Syn (wS ad) (rS ad zs) := ⟨rfl, rfl, rfl, rfl, rfl, Dw.first hz hI hg hp⟩
theorem okS_dS : OkS dS := by
  have h1 : ((List.range 32).map fun k => ((0 : Nat), List.replicate (sC k) (⟨none, 0, dfC k, 0⟩ : Tb))).length = 32 := by simp
  have h2 : ∀ (j : Nat) p, ((List.range 32).map fun k => ((0 : Nat), List.replicate (sC k) (⟨none, 0, dfC k, 0⟩ : Tb)))[j]? = some p → Dq j p := fun j p hp => by
    rw [List.getElem?_map] at hp
    by_cases hj : j < 32
    · rw [List.getElem?_range hj] at hp
      simp only [Option.map_some, Option.some.injEq] at hp
      subst hp
      refine ⟨by simp, fun t ht => ?_⟩
      obtain ⟨_, rfl⟩ := List.mem_replicate.1 ht
      exact ⟨rfl, rfl⟩
    · rw [List.getElem?_eq_none (by simp; omega)] at hp; cases hp
  have h := ab_okk (okk_default h1 h2)
  rw [ab_default h1 h2] at h
  exact h
theorem wS_ok (ad : Bool) : SOk (wS ad) := ⟨okS_dS, fun _ => ⟨L2.Ev.first, Nat.le_refl _⟩, fun e => (by cases e)⟩
theorem rS_ok (ad : Bool) {zs : List Nat} (hz : ∀ i, zs.getD i 0 < 256) : SOk (rS ad zs) := ⟨okS_dS, fun e => (by cases e), fun _ => ⟨L2.dFirst_ok, hz⟩⟩

/-! ### may -/
/-- levels as may brings them -/
def myL (L : List Int) (q i : Nat) : List Int := (List.range q).map fun j => if j < i then (L.getD j 0).tmod 1048576 else 0
theorem myL_len (L : List Int) (q i : Nat) : (myL L q i).length = q := by simp [myL]
theorem myL_zero (L : List Int) (q : Nat) : myL L q 0 = List.replicate q 0 := by
  refine L10.ext_getD (by simp [myL]) fun j hj => ?_
  rw [myL_len] at hj
  unfold myL
  have hr : (List.replicate q (0 : Int)).getD j 0 = 0 := by rw [List.getD_eq_getElem?_getD, List.getElem?_replicate, if_pos hj]; rfl
  rw [map_get _ hj, if_neg (by omega), hr]
theorem myL_set (L : List Int) {q i : Nat} (hi : i < q) : (myL L q i).set i ((L.getD i 0).tmod 1048576) = myL L q (i + 1) := by
  refine L10.ext_getD (by simp [myL]) fun j hj => ?_
  rw [List.length_set, myL_len] at hj
  rw [getD_setI, myL_len]
  unfold myL
  rw [map_get _ hj, map_get _ hj]
  by_cases e : i = j
  · subst e; rw [if_pos ⟨rfl, hi⟩, if_pos (by omega)]
  · rw [if_neg (by omega)]
    by_cases hl : j < i
    · rw [if_pos hl, if_pos (by omega)]
    · rw [if_neg hl, if_neg (by omega)]
theorem myL_end (L : List Int) {q i : Nat} (h : i = q ∨ i = L.length) (hi : i ≤ q) : myL L q i = myL L q q := by
  rcases h with rfl | h
  · rfl
  · unfold myL
    refine List.map_congr_left fun j hj => ?_
    have hjq : j < q := by simpa using hj
    by_cases hl : j < i
    · rw [if_pos hl, if_pos hjq]
    · rw [if_neg hl, if_pos hjq, List.getD_eq_getElem?_getD, List.getElem?_eq_none (by omega)]; rfl
theorem tmod_in (v : Int) : -1048576 ≤ v.tmod 1048576 ∧ v.tmod 1048576 ≤ 1048576 := by
  have h1 := Int.tmod_lt_of_pos v (b := 1048576) (by omega)
  have h2 := Int.lt_tmod_of_pos v (b := 1048576) (by omega)
  omega
theorem myL_lv (L : List Int) {n : Nat} : Lv n (myL L (n * n) (n * n)) := by
  refine ⟨myL_len _ _ _, fun p => ?_⟩
  by_cases hp : p < n * n
  · unfold myL
    rw [map_get _ hp, if_pos hp]
    exact tmod_in _
  · rw [List.getD_eq_getElem?_getD, List.getElem?_eq_none (by rw [myL_len]; omega)]
    simp
/-- a size out of any number -/
theorem size_of (a : Int) : ∃ (k n : Nat) (z : Int), a % 5 = (k : Int) ∧ k < 5 ∧ (4 : Int) * 2 ^ k = z ∧ L10.Sz z n ∧ min z 32 = (n : Int) := by
  have h0 := Int.emod_nonneg a (b := 5) (by omega)
  have h1 := Int.emod_lt_of_pos a (b := 5) (by omega)
  obtain ⟨k, hk⟩ : ∃ k : Nat, a % 5 = (k : Int) := ⟨(a % 5).toNat, by omega⟩
  have hk5 : k < 5 := by omega
  refine ⟨k, if k = 0 then 4 else if k = 1 then 8 else if k = 2 then 16 else 32, (4 : Int) * 2 ^ k, hk, hk5, rfl, ?_, ?_⟩
  · have : k = 0 ∨ k = 1 ∨ k = 2 ∨ k = 3 ∨ k = 4 := by omega
    rcases this with rfl | rfl | rfl | rfl | rfl <;> simp [L10.Sz]
  · have : k = 0 ∨ k = 1 ∨ k = 2 ∨ k = 3 ∨ k = 4 := by omega
    rcases this with rfl | rfl | rfl | rfl | rfl <;> decide
theorem three_of (a : Int) : ∃ k : Nat, a % 3 = (k : Int) ∧ k ≤ 2 := by
  have h0 := Int.emod_nonneg a (b := 3) (by omega)
  have h1 := Int.emod_lt_of_pos a (b := 3) (by omega)
  exact ⟨(a % 3).toNat, by omega, by omega⟩

end Go.Proofs.YtkmnpechhdendaaGreatDoor

namespace Go.Proofs.YtkmnpechhdendaaGreatDoor
open Go.RowKit L3


theorem sign_neg {w : World} {b o len c : Nat} {v : Int} (h0 : 0 < len) (hc : w.cell? ⟨b, o, none⟩ = some (.int .i64 v)) (hv : v < 0) : Calls Tryz.prog 15 #[.slice (some ⟨b, o, none⟩) len c] w fun e w' => e = .returned (.int .i64 1) ∧ w' = w := by
  have l0 : (0 : Int) < (len : Int) := by omega
  have l1 : ((len : Int) == 0) = false := by rw [beq_eq_false_iff_ne]; omega
  have l2 : (v == 0) = false := by rw [beq_eq_false_iff_ne]; omega
  go_enter Tryz.func15, Tryz.ntmps15
  go_wp2_with fail
  go_ret
  exact ⟨rfl, rfl⟩

end Go.Proofs.YtkmnpechhdendaaGreatDoor

namespace Go.Proofs.YtkmnpechhdendaaGreatDoor
open Go.RowKit L3

def wkL : List Int := [-20, 1, 0, 0, 0, 0, 0, 0, 0, 0, 0, 0, 0, 0, 0, 0]
theorem wk_lv : Lv 4 wkL := ⟨rfl, fun p => by
  by_cases hp : p < 16
  · have : ∀ p, p < 16 → -1048576 ≤ wkL.getD p 0 ∧ wkL.getD p 0 ≤ 1048576 := by decide +kernel
    exact this p hp
  · rw [List.getD_eq_getElem?_getD, List.getElem?_eq_none (by show 16 ≤ p; omega)]; simp⟩
theorem wk_count : (cw 4 4 1 2 wkL).wc = 15 := by decide +kernel
theorem wk_sz : L10.Sz 4 4 := Or.inl ⟨rfl, rfl⟩
theorem wk_run : (cw 4 4 1 2 wkL).run (wS true) = (some wkL, ((cw 4 4 1 2 wkL).run (wS true)).2) ∧ ((cw 4 4 1 2 wkL).run (wS true)).2.n = 15 ∧ ((cw 4 4 1 2 wkL).run (wS true)).2.W = true := by
  have r := cw_ran (wS_ok true) (by show (0 : Nat) ≤ _; omega) wk_sz (col := 1) (sg := 2) (by omega) (by omega) (fun _ => wk_lv)
  obtain ⟨a, h1, h2⟩ := r.wri rfl
  refine ⟨Prod.ext (by rw [h1, h2]) rfl, ?_, r.w⟩
  rw [Prg.run_wc _ _ rfl, wk_count]; rfl
/-- what a reader of a writer's bytes makes of one block -/
theorem one_read {ad : Bool} {zs : List Nat} (hz : ∀ i, zs.getD i 0 < 256) {z : Int} {n col sg : Nat} (hs : L10.Sz z n) (hc : col ≤ 1) (hg : sg ≤ 2) {L : List Int} (hL : Lv n L) (hp : L2.pre zs (((cw z n col sg L).run (wS ad)).2.c + 4) = ((cw z n col sg L).run (wS ad)).2.a) :
    ((cr z n col sg).run (rS ad zs)).1 = some L ∧ ((cr z n col sg).run (rS ad zs)).2.n = ((cw z n col sg L).run (wS ad)).2.n := by
  have r := cw_ran (wS_ok ad) (by show (0 : Nat) ≤ _; omega) hs hc hg (fun _ => hL)
  obtain ⟨a, h1, h2⟩ := r.wri rfl
  have htw := cw_tw hs hc hg hL
  have hev := (r.so.ev (by rw [r.w]; rfl)).1
  have hI := run_inc _ _ _ htw (wS_ok ad) rfl
  have hg0 : 0 < ((cw z n col sg L).run (wS ad)).2.b := by have := hev.least; omega
  have hy := run_syn hz hg0 hp _ _ _ _ htw (wS_ok ad) (rS_ok ad hz) rfl (syn_first hz hI hg0 hp) (L2.Inc.refl _ _ _)
  exact ⟨by rw [hy.1, h1, h2], hy.2.n⟩

theorem ri_si {w : World} {g : Nat} {C : List Int} (h : L10.Ri 3 w g C) : L10.Si w (some ⟨g, 0, none⟩) C := Or.inr ⟨g, 0, rfl, h.lt, fun j hj => by rw [Nat.zero_add]; exact h.cell j hj⟩

set_option maxRecDepth 100000 in
set_option maxHeartbeats 2000000 in
theorem awake_ok (hcl : CodeLaw) {w : World} (hsh : Sh w) (hnt : L10.Nt w) : Calls Tryz.prog 22 #[] w fun e w' => e = .returned (.bool true) ∧ Below w.heap.size w w' := by
  have HCL : Hid CodeLaw := hcl
  have HSh : Hid (∀ u, Below w.heap.size w u → Sh u ∧ L10.Nt u) := fun u hu => ⟨hsh.to hu, hnt.to hu⟩
  have HW2 : Hid (1 < w.heap.size) := hnt.low
  have hmk : ∀ u : World, (Instr.makeSlice 34 (.int .i64 16) (.int .i64 16)).run Tryz.prog u = .ok (.slice (some ⟨u.heap.size, 0, none⟩) 16 16) (u.alloc (.cells (madeCells #[.int .i64 0] 16) 3)) := fun u => L10.mk_ints (n := 16) (by omega) u
  have hr0 := L10.Ri.made 3 w 16 rfl
  have c0 := hr0.cell 0 (by simp)
  have f0 := hr0.thaw 0
  have he1 : ((madeCells #[.int .i64 0] 16).setIfInBounds 0 (.int .i64 (-20))) = (L10.is (-20 :: List.replicate 15 0)).toArray := by kernel_rfl
  have hr1 : L10.Ri 3 (w.alloc (.cells ((madeCells #[.int .i64 0] 16).setIfInBounds 0 (.int .i64 (-20))) 3)) w.heap.size (-20 :: List.replicate 15 0) := by rw [he1]; exact L10.Ri.built 3 w _ rfl
  have c1 := hr1.cell 1 (by simp)
  have f1 := hr1.thaw 1
  clear hr0 hr1 he1
  have he : (((madeCells #[.int .i64 0] 16).setIfInBounds 0 (.int .i64 (-20))).setIfInBounds 1 (.int .i64 1)) = (L10.is wkL).toArray := by kernel_rfl
  have HRi : Hid (L10.Ri 3 (w.alloc (.cells (((madeCells #[.int .i64 0] 16).setIfInBounds 0 (.int .i64 (-20))).setIfInBounds 1 (.int .i64 1)) 3)) w.heap.size wkL) := by show L10.Ri _ _ _ _; rw [he]; exact L10.Ri.built 3 w wkL rfl
  have HB0 : Hid (Below w.heap.size w (w.alloc (.cells (((madeCells #[.int .i64 0] 16).setIfInBounds 0 (.int .i64 (-20))).setIfInBounds 1 (.int .i64 1)) 3))) := L10.from_alloc w _
  clear he hcl hsh hnt
  go_enter Tryz.func22, Tryz.ntmps22
  go_wp2_with fail
  generalize (w.alloc (.cells (((madeCells #[.int .i64 0] 16).setIfInBounds 0 (.int .i64 (-20))).setIfInBounds 1 (.int .i64 1)) 3)) = w1 at *
  generalize hg : w.heap.size = g at *
  have HG : Hid (w.heap.size = g) := hg
  clear hg hmk c0 c1 f0 f1
  have hz1 : g ≤ w1.heap.size := by have := HB0.out.size; have := HG.out; omega
  obtain ⟨sh1, nt1⟩ := HSh.out _ HB0.out
  refine (default_hs sh1).mono ?_
  rintro e w2 ⟨bt2, B2, rfl, hs2, hb2⟩
  have HB2 : Hid (Below g w w2) := HB0.out.trans (hb2.mono hz1)
  have HR2 : Hid (L10.Ri 3 w2 g wkL) := HRi.out.to hb2
  obtain ⟨sh2, nt2⟩ := HSh.out _ HB2.out
  have HWr : Hid (Calls Tryz.prog 6 #[.agg #[.slice (some ⟨bt2, 0, none⟩) 32 32], .bool true] w2 fun e w' => ∃ x O, e = .returned (.tuple #[.pointer (some ⟨x, 0, none⟩), .int .i64 0]) ∧ Cd w' w2.heap.size x O (wS true) ∧ (∀ y, O y → w2.heap.size ≤ y) ∧ Below w2.heap.size w2 w') := writer_cd sh2 hs2
  clear hs2 hb2 sh1 nt1 sh2 nt2
  go_wp2_with fail
  refine HWr.out.mono ?_
  rintro e w3 ⟨x, O, rfl, hc3, ho3, hb3⟩
  have hz2 : g ≤ w2.heap.size := by have := HB2.out.size; have := HG.out; omega
  have hg2 : g < w2.heap.size := HR2.out.lt
  have HB3 : Hid (Below g w w3) := HB2.out.trans (hb3.mono hz2)
  have HR3 : Hid (L10.Ri 3 w3 g wkL) := HR2.out.to hb3
  obtain ⟨sh3, nt3⟩ := HSh.out _ HB3.out
  have HL2 : Hid (1 < w2.heap.size) := by show 1 < _; have := HW2.out; have := HB2.out.size; omega
  have HK3 : Hid (Calls Tryz.prog 11 #[.pointer (some ⟨x, 0, none⟩), .int .i64 4, .int .i64 ((1 : Nat) : Int), .int .i64 ((2 : Nat) : Int), .slice (some ⟨g, 0, none⟩) (4 * 4) 16] w3 fun en w' => Kc w3 w' w2.heap.size x O (4 * 4) ((cw 4 4 1 2 wkL).run (wS true)) en) :=
    kcode_w HCL.out hc3 sh3 nt3 HL2.out (by show (0 : Nat) ≤ _; omega) wk_sz (by omega) (by omega) rfl wk_lv HR3.out.lt (fun e => by have := ho3 _ e; omega) (fun p hp => by rw [Nat.zero_add]; exact HR3.out.cell p hp)
  have HOl : Hid (∀ y, O y → w2.heap.size ≤ y) := ho3
  have HZ3 : Hid (w2.heap.size ≤ w3.heap.size) := hb3.size
  have HOg : ¬ O g := fun e => by have := ho3 _ e; omega
  clear hc3 ho3 hb3 HWr sh3 nt3
  go_wp2_with fail
  refine HK3.out.mono ?_
  rintro e w4 ⟨O4, hc4, ht4, hb4, hy4, -⟩
  obtain ⟨g4, rfl, hr4, hl4, hn4⟩ := hy4 wkL (by rw [wk_run.1])
  have hz3 : g < w3.heap.size := HR3.out.lt
  obtain ⟨-, hn15, hWt⟩ := wk_run
  have HOn : Hid (¬ O g) := HOg
  generalize hs4 : ((cw 4 4 1 2 wkL).run (wS true)).2 = s4 at *
  have HB4 : Hid (Below g w w4) := HB3.out.trans (hb4.mono hz2)
  have HR4 : Hid (L10.Ri 3 w4 g wkL) := HR3.out.carry (ht4.ke.block g hz3 HOn.out)
  have HA4 : Hid (L10.Ri 3 w4 g4 wkL ∧ ¬ O4 g4) := ⟨hr4, hn4⟩
  have HC4 : Hid (Cd w4 w2.heap.size x O4 s4) := hc4
  have HN4 : Hid (¬ O4 g) := by
    intro e
    rcases ht4.new g e with e2 | e2
    · exact HOn.out e2
    · omega
  have HBy : Hid (Calls Tryz.prog 17 #[.pointer (some ⟨x, 0, none⟩)] w4 fun e w' => ∃ v, e = .returned (.tuple #[v, .int .i64 0]) ∧ ∃ zs, L2.SrcOf w' v zs ∧ (∀ i, zs.getD i 0 < 256) ∧ zs.length ≤ 140737488355328 ∧ L2.pre zs (s4.c + 4) = s4.a ∧ Below w4.heap.size w4 w') := bytes_cd hc4 hWt (by rw [hn15]; omega)
  have HS4 : Hid (((cw 4 4 1 2 wkL).run (wS true)).2 = s4) := hs4
  have HO4 : Hid (∀ y, O4 y → 1 < y ∧ y < w4.heap.size) := fun y hy => ⟨by
    rcases ht4.new y hy with e2 | e2
    · have h1 := HOl.out y e2; have h2 := HL2.out; omega
    · have h2 := HL2.out; have h3 := HZ3.out; omega, hc4.lt hy⟩
  have HG4 : Hid (1 < g4) := by show 1 < g4; have h2 := HL2.out; have h3 := HZ3.out; omega
  clear hc4 ht4 hb4 hr4 hl4 hn4 hs4 hy4 HK3 HOn
  go_wp2_with fail
  refine HBy.out.mono ?_
  rintro e w5 ⟨vb, rfl, zs, hsrc, hzb, hzl, hpre, hb5⟩
  have hz4 : g < w4.heap.size := HR4.out.lt
  have HZ45 : Hid (w4.heap.size ≤ w5.heap.size) := hb5.size
  have HB5 : Hid (Below g w w5) := HB4.out.trans (hb5.mono (by omega))
  have HR5 : Hid (L10.Ri 3 w5 g wkL) := HR4.out.to hb5
  have HA5 : Hid (L10.Ri 3 w5 g4 wkL ∧ ¬ O4 g4) := ⟨HA4.out.1.to hb5, HA4.out.2⟩
  have HC5 : Hid (Cd w5 w2.heap.size x O4 s4) := HC4.out.to hb5
  have HSr : Hid (L2.SrcOf w5 vb zs) := hsrc
  have HZ : Hid ((∀ i, zs.getD i 0 < 256) ∧ zs.length ≤ 140737488355328 ∧ L2.pre zs (s4.c + 4) = s4.a) := ⟨hzb, hzl, hpre⟩
  clear hsrc hzb hzl hpre hb5 HBy HC4 HA4
  obtain ⟨sh5, nt5⟩ := HSh.out _ HB5.out
  go_wp2_with fail
  refine (default_hs sh5).mono ?_
  rintro e w6 ⟨bt6, B6, rfl, hs6, hb6⟩
  have hz5 : g < w5.heap.size := HR5.out.lt
  have HZ56 : Hid (w5.heap.size ≤ w6.heap.size) := hb6.size
  have HB6 : Hid (Below g w w6) := HB5.out.trans (hb6.mono (by omega))
  have HR6 : Hid (L10.Ri 3 w6 g wkL) := HR5.out.to hb6
  have HA6 : Hid (L10.Ri 3 w6 g4 wkL ∧ ¬ O4 g4) := ⟨HA5.out.1.to hb6, HA5.out.2⟩
  have HC6 : Hid (Cd w6 w2.heap.size x O4 s4) := HC5.out.to hb6
  obtain ⟨sh6, nt6⟩ := HSh.out _ HB6.out
  have HRd : Hid (Calls Tryz.prog 23 #[vb, .agg #[.slice (some ⟨bt6, 0, none⟩) 32 32], .bool true] w6 fun e w' => ∃ x O, e = .returned (.tuple #[.pointer (some ⟨x, 0, none⟩), .int .i64 0]) ∧ Cd w' w6.heap.size x O (rS true zs) ∧ (∀ y, O y → y = 0 ∨ w6.heap.size ≤ y) ∧ Below w6.heap.size w6 w') := reader_cd sh6 hs6 (src_to HSr.out hb6) HZ.out.1 HZ.out.2.1
  clear hs6 hb6 sh5 nt5 sh6 nt6 HA5 HC5
  go_wp2_with fail
  refine HRd.out.mono ?_
  rintro e w7 ⟨r, Or7, rfl, hc7, ho7, hb7⟩
  have hz6 : g < w6.heap.size := HR6.out.lt
  have HB7 : Hid (Below g w w7) := HB6.out.trans (hb7.mono (by omega))
  have HR7 : Hid (L10.Ri 3 w7 g wkL) := HR6.out.to hb7
  have HA7 : Hid (L10.Ri 3 w7 g4 wkL) := HA6.out.1.to hb7
  have HC7 : Hid (Cd w7 w2.heap.size x O4 s4) := HC6.out.to hb7
  obtain ⟨sh7, nt7⟩ := HSh.out _ HB7.out
  have HO7 : Hid (∀ y, Or7 y → y = 0 ∨ w6.heap.size ≤ y) := ho7
  have HL6 : Hid (1 < w6.heap.size) := by show 1 < _; have := HL2.out; have := HB6.out.size; have := HW2.out; omega
  have HK7 : Hid (Calls Tryz.prog 11 #[.pointer (some ⟨r, 0, none⟩), .int .i64 4, .int .i64 ((1 : Nat) : Int), .int .i64 ((2 : Nat) : Int), .slice none 0 0] w7 fun en w' => Kc w7 w' w6.heap.size r Or7 (4 * 4) ((cr 4 4 1 2).run (rS true zs)) en) :=
    kcode_r HCL.out hc7 sh7 nt7 HL6.out (by show (0 : Nat) ≤ _; omega) wk_sz (by omega) (by omega) rfl
  have HOne : Hid (((cr 4 4 1 2).run (rS true zs)).1 = some wkL ∧ ((cr 4 4 1 2).run (rS true zs)).2.n = s4.n) := by
    have h1 := one_read (ad := true) HZ.out.1 wk_sz (col := 1) (sg := 2) (by omega) (by omega) wk_lv (by rw [HS4.out]; exact HZ.out.2.2)
    rw [HS4.out] at h1
    exact h1
  clear hc7 ho7 hb7 HRd sh7 nt7
  go_wp2_with fail
  refine HK7.out.mono ?_
  rintro e w8 ⟨O8, hc8, ht8, hb8, hy8, -⟩
  obtain ⟨g8, rfl, hr8, hl8, hn8⟩ := hy8 wkL HOne.out.1
  have hz7 : g < w7.heap.size := HR7.out.lt
  have hg1 : 1 < g := by have := HW2.out; have := HG.out; omega
  have nO : ∀ y, 1 < y → y < w6.heap.size → ¬ Or7 y := fun y h1 h2 e => by
    rcases HO7.out y e with e2 | e2
    · omega
    · omega
  have hg6 : g < w6.heap.size := HR6.out.lt
  have hg46 : g4 < w6.heap.size := HA6.out.1.lt
  have HB8 : Hid (Below g w w8) := HB7.out.trans (hb8.mono (by omega))
  have HR8 : Hid (L10.Ri 3 w8 g wkL) := HR7.out.carry (ht8.ke.block g hz7 (nO g hg1 hg6))
  have HA8 : Hid (L10.Ri 3 w8 g4 wkL) := HA7.out.carry (ht8.ke.block g4 HA7.out.lt (nO g4 HG4.out hg46))
  have HD8 : Hid (L10.Ri 3 w8 g8 wkL) := hr8
  have HW8 : Hid (Cd w8 w2.heap.size x O4 s4) := HC7.out.ke ht8.ke (fun y hy e => by
    have h1 := HO4.out y e
    have h2 := HZ45.out
    have h3 := HZ56.out
    exact nO y h1.1 (by omega) hy)
  have HC8 : Hid (Cd w8 w6.heap.size r O8 ((cr 4 4 1 2).run (rS true zs)).2) := hc8
  have HN8 : Hid (((cr 4 4 1 2).run (rS true zs)).2.n = 15 ∧ s4.n = 15) := ⟨HOne.out.2.trans hn15, hn15⟩
  have HSi : Hid (∀ u, Below w8.heap.size w8 u → L10.Si u (some ⟨g, 0, none⟩) wkL ∧ L10.Si u (some ⟨g4, 0, none⟩) wkL ∧ L10.Si u (some ⟨g8, 0, none⟩) wkL) := fun u hu => ⟨ri_si (HR8.out.to hu), ri_si (HA8.out.to hu), ri_si (HD8.out.to hu)⟩
  generalize ((cr 4 4 1 2).run (rS true zs)).2 = s8 at *
  clear hc8 ht8 hb8 hy8 hr8 hl8 hn8 HK7 HOne nO
  go_wp2_with fail
  obtain ⟨q1, q2, q3⟩ := HSi.out _ (Below.refl _ _)
  refine (L10.eqInts_at q2 q1 (n := 16) (m := 16) rfl rfl (by omega) (by omega)).mono ?_
  rintro e w9 ⟨rfl, hb9⟩
  rw [L10.eqI_self]
  have HB9 : Hid (Below w8.heap.size w8 w9) := hb9
  clear q1 q2 q3 hb9
  go_wp2_with fail
  obtain ⟨q1, q2, q3⟩ := HSi.out _ HB9.out
  refine (L10.eqInts_at q3 q1 (n := 16) (m := 16) rfl rfl (by omega) (by omega)).mono ?_
  rintro e w10 ⟨rfl, hb10⟩
  rw [L10.eqI_self]
  have HB10 : Hid (Below w8.heap.size w8 w10) := L10.below_to HB9.out hb10
  clear q1 q2 q3 hb10
  go_wp2_with fail
  refine (count_cd (HW8.out.to HB10.out)).mono ?_
  rintro e w11 ⟨rfl, rfl⟩
  rw [HN8.out.2]
  go_wp2_with fail
  refine (count_cd (HC8.out.to HB10.out)).mono ?_
  rintro e w11 ⟨rfl, rfl⟩
  rw [HN8.out.1]
  go_wp2_with fail
  refine (sign_neg (by omega) (v := -20) ((HR8.out.to HB10.out).cell 0 (by decide)) (by omega)).mono ?_
  rintro e w11 ⟨rfl, rfl⟩
  go_wp2_with fail
  go_ret
  refine ⟨rfl, ?_⟩
  rw [HG.out]
  exact HB8.out.trans (HB10.out.mono (by have := HR8.out.lt; omega))

end Go.Proofs.YtkmnpechhdendaaGreatDoor
