/- DERIVED. The walks of the statements' own 'reads' and 'told' and of EqInts. -/
import Derived.Test.YtiheldakkpbkgaaLwD
import Derived.Test.YtiheldakkpbkgaaMd
namespace Go.Proofs.Ytiheldakkpbkgaa
open Go.RowKit

/-- ints, as cells -/
def is (xs : List Nat) : List Value := xs.map fun z : Nat => .int .i64 (z : Int)
theorem is_length (xs : List Nat) : (is xs).length = xs.length := by simp [is]
theorem is_get (xs : List Nat) (j : Nat) (h : j < xs.length) : (is xs)[j]? = some (.int .i64 (xs.getD j 0 : Nat)) := by
  simp [is, List.getElem?_eq_getElem h]
theorem is_one (xs : List Nat) : ∀ u ∈ is xs, u.oneCell' = true := by
  intro u hu
  obtain ⟨z, _, rfl⟩ := List.mem_map.1 hu
  rfl
theorem is_append (xs ys : List Nat) : is (xs ++ ys) = is xs ++ is ys := by simp [is]
theorem Try.info3 : (Try.prog.info? 3).map (fun i => (i.zero, i.size, i.bytes)) = some (some (.int .i64 0), 1, 8) := by kernel_rfl

set_option maxHeartbeats 1000000 in
theorem eqInts_own {w : World} {B B' : Nat} {va vb : Value} {xs ys : List Nat} (ha : w.ownsRow B 3 1 va xs.length (is xs)) (hb : w.ownsRow B' 3 1 vb ys.length (is ys)) (hx : xs.length ≤ 140737488355328) :
    Calls Try.prog 57 #[va, vb] w fun e w' => e = .returned (.bool (decide (xs = ys))) ∧ Below w.heap.size w w' := by
  obtain ⟨a1, c1, rfl⟩ := own_slice ha
  obtain ⟨a2, c2, rfl⟩ := own_slice hb
  by_cases hl : xs.length = ys.length
  · by_cases h0 : xs.length = 0
    · obtain rfl : xs = [] := List.eq_nil_of_length_eq_zero h0
      obtain rfl : ys = [] := List.eq_nil_of_length_eq_zero (by rw [← hl]; rfl)
      go_enter Try.func57, Try.ntmps57
      go_wp2
      go_loop [5] (fun i => i = .int .i64 0) (fun _ => 0)
      case atStart => rfl
      case round =>
        subst hrel
        go_wp2
        go_ret
        exact ⟨rfl, Below.refl _ _⟩
    · obtain ⟨g1, cap1, e1, _, hg1⟩ := ha.form (by omega)
      obtain ⟨g2, cap2, e2, _, hg2⟩ := hb.form (by omega)
      simp only [Value.slice.injEq, true_and] at e1 e2
      obtain ⟨rfl, rfl⟩ := e1
      obtain ⟨rfl, rfl⟩ := e2
      have hca : Hid (∀ j, j < xs.length → w.cell? ⟨g1, j, none⟩ = some (.int .i64 (xs.getD j 0 : Nat))) := fun j hj => by
        rw [ha.cellAt j (by omega)]; exact is_get xs j hj
      have hcb : Hid (∀ j, j < xs.length → w.cell? ⟨g2, j, none⟩ = some (.int .i64 (ys.getD j 0 : Nat))) := fun j hj => by
        rw [hb.cellAt j (by omega)]; exact is_get ys j (by omega)
      have HL : Hid (xs.length = ys.length) := hl
      clear ha hb hl
      rw [← HL.out]
      go_enter Try.func57, Try.ntmps57
      go_wp2
      go_loopw [5] (fun i wr => ∃ k n : Nat, k ≤ xs.length ∧ i = .int .i64 k ∧ wr = w.drewN n ∧ Hid (∀ j, j < k → xs.getD j 0 = ys.getD j 0)) (fun i _ => xs.length - (intOf i).toNat)
      case atStart => exact ⟨0, 0, by omega, rfl, rfl, fun j hj => by omega⟩
      case round =>
        obtain ⟨k, n, hk, rfl, rfl, HK⟩ := hrel
        by_cases hlt : k < xs.length
        · have q1 : (w.drewN n).cell? ⟨g1, k, none⟩ = some (.int .i64 (xs.getD k 0 : Nat)) := hca.out k hlt
          have q2 : (w.drewN n).cell? ⟨g2, k, none⟩ = some (.int .i64 (ys.getD k 0 : Nat)) := hcb.out k hlt
          have hi1 : (0 : Int) ≤ (k : Int) := by omega
          have hi2 : (k : Int) < (xs.length : Int) := by omega
          generalize he1 : xs.getD k 0 = p1 at *
          generalize he2 : ys.getD k 0 = p2 at *
          have HE1 : Hid (xs.getD k 0 = p1) := he1
          have HE2 : Hid (ys.getD k 0 = p2) := he2
          clear he1 he2
          generalize hW : w.drewN n = W at *
          have HW : Hid (w.drewN n = W) := hW
          clear hW
          by_cases hne : p1 = p2
          · have hne' : ((p1 : Int) != (p2 : Int)) = false := by simp [hne]
            have HN : Hid (p1 = p2) := hne
            clear hne
            go_wp2
            go_quiet (fail)
            go_wp2
            go_roundw
            case rel => exact ⟨k + 1, n + nq, by omega, by go_num, by rw [← HW.out]; exact drewN_drewN _ _ _, fun j hj => by
              by_cases e : j = k
              · rw [e, HE1.out, HE2.out]; exact HN.out
              · exact HK.out j (by omega)⟩
            case measure => simp [intOf]; omega
          · have hne' : ((p1 : Int) != (p2 : Int)) = true := by rw [bne_iff_ne]; omega
            have hdec : decide (xs = ys) = false := by simp; exact fun e => hne (by rw [← HE1.out, ← HE2.out, e])
            have HD : Hid (decide (xs = ys) = false) := hdec
            clear hdec
            go_wp2
            go_quiet (fail)
            go_wp2
            go_ret
            exact ⟨by rw [HD.out]; rfl, by rw [← HW.out]; exact below_drewN (below_drewN (Below.refl _ _) n) nq⟩
        · go_wp2
          go_ret
          have e : xs = ys := list_eq_of_getD HL.out (fun j hj => HK.out j (by omega))
          exact ⟨by rw [e]; simp, below_drewN (Below.refl _ _) n⟩
  · have hne : (((xs.length : Nat) : Int) != ((ys.length : Nat) : Int)) = true := by rw [bne_iff_ne]; omega
    have hne2 : decide (xs = ys) = false := by simp; exact fun e => hl (by rw [e])
    rw [hne2]
    go_enter Try.func57, Try.ntmps57
    go_wp2
    go_ret
    exact ⟨rfl, Below.refl _ _⟩

set_option maxHeartbeats 400000 in
theorem reads_any (k n : Int) (w : World) : Calls Try.prog 59 #[.int .i64 k, .int .i64 n] w fun e w' => e = .returned (.agg #[.int .i64 k, .int .i64 n, .int .u32 0]) ∧ Below w.heap.size w w' := by
  go_enter Try.func59, Try.ntmps59
  go_wp2
  exact bodyPost_ret (v := .agg #[.int .i64 k, .int .i64 n, .int .u32 0]) (by simp [results, Try.results59, go_sem]) rfl ⟨rfl, by repeat (first | exact Below.refl _ _ | refine Below.setCell ?_ (by simp) _ | refine Below.alloc ?_ (by simp) _)⟩

theorem rLebFrom_err0 (zs : List Nat) (s p : Nat) : ∀ f i v, (rLebFrom zs s p f i v).2.1 ≠ 0 → (rLebFrom zs s p f i v).1 = 0 := by
  intro f
  induction f with
  | zero => intro i v; simp [rLebFrom]
  | succ f ih =>
    intro i v
    rw [rLebFrom]
    split
    · simp
    · split
      · simp
      · split
        · simp
        · exact ih _ _
theorem rdOne_err0 (zs : List Nat) (p : Nat) (k n : Int) : (rdOne zs p k n).2.1 ≠ 0 → (rdOne zs p k n).1 = 0 := by
  unfold rdOne
  split
  · unfold rFixed; split
    · simp
    · split <;> simp
  · unfold rSigned; split
    · simp
    · split
      · simp
      · split
        · split <;> simp
        · simp
  · unfold rUvlc; split
    · simp
    · split
      · simp
      · split <;> simp
  · unfold rLeb; split
    · exact rLebFrom_err0 _ _ _ _ _ _
    · simp
  · simp
theorem rdOne_lt {zs : List Nat} (hz : ∀ i, zs.getD i 0 < 256) (p : Nat) (k n : Int) : (rdOne zs p k n).1 < 4294967296 := by
  by_cases h : (rdOne zs p k n).2.1 = 0
  · exact (once_one hz (p' := (rdOne zs p k n).2.2) (val := (rdOne zs p k n).1) (by rw [← h])).2
  · rw [rdOne_err0 zs p k n h]; omega

/-- what the first k calls tell, and the place behind them -/
def tellTo (zs : List Nat) (L : List (Int × Int × Nat)) : Nat → List Nat × Nat
  | 0 => ([], 0)
  | k + 1 => ((tellTo zs L k).1 ++ [(rdOne zs (tellTo zs L k).2 (L.getD k (0, 0, 0)).1 (L.getD k (0, 0, 0)).2.1).1, (rdOne zs (tellTo zs L k).2 (L.getD k (0, 0, 0)).1 (L.getD k (0, 0, 0)).2.1).2.1], (rdOne zs (tellTo zs L k).2 (L.getD k (0, 0, 0)).1 (L.getD k (0, 0, 0)).2.1).2.2)
def tell (zs : List Nat) (L : List (Int × Int × Nat)) : List Nat := (tellTo zs L L.length).1 ++ [8 * zs.length - (tellTo zs L L.length).2]
theorem tellTo_length (zs : List Nat) (L : List (Int × Int × Nat)) : ∀ k, (tellTo zs L k).1.length = 2 * k := by
  intro k
  induction k with
  | zero => rfl
  | succ k ih => rw [tellTo]; simp [ih]; omega

def TdInv (w : World) (n r : Nat) (v : Value) (zs : List Nat) (L : List (Int × Int × Nat)) (ov i : Value) (wr : World) : Prop :=
  ∃ k : Nat, i = .int .i64 k ∧ k ≤ n ∧ Rd wr r v zs (tellTo zs L k).2 ∧ Below w.heap.size w wr ∧ wr.ownsRow w.heap.size 3 1 ov (2 * k) (is (tellTo zs L k).1) ∧ ov.ownBlock ≠ some r ∧ (∀ g, v.ownBlock = some g → ov.ownBlock ≠ some g)

theorem Rd.grown {a b : World} {o : Obj} {row : Option Nat} {r : Nat} {v : Value} {zs : List Nat} {p : Nat} (h : Rd a r v zs p) (hg : (a.alloc o).grownBy b row) (hr : row ≠ some r) (hv : ∀ g, v.ownBlock = some g → row ≠ some g) : Rd b r v zs p := by
  have hl := h.low
  refine h.carry ?_ (fun g hgg => ?_) (by have := hg.size; simp at this; omega)
  · rw [hg.block r (by simp; omega) (Ne.symm hr), Below.heap_alloc _ _ _ hl]
  · have hlt := (h.own_lt g hgg).1
    rw [hg.block g (by simp; omega) (Ne.symm (hv g hgg)), Below.heap_alloc _ _ _ hlt]

set_option maxHeartbeats 4000000 in
set_option maxRecDepth 100000 in
theorem told_any (w : World) (vb : Value) (zs : List Nat) (a : Option Addr) (c : Nat) (L : List (Int × Int × Nat)) (hb : SrcOf w vb zs) (hz : ∀ i, zs.getD i 0 < 256) (hzl : zs.length ≤ 100000) (hL : DoAt w (.slice a L.length c) L) (hLl : L.length ≤ 100000) :
    Calls Try.prog 58 #[vb, .slice a L.length c] w fun e w' => ∃ a' c', e = .returned (.slice a' (2 * L.length + 1) c') ∧ w'.ownsRow w.heap.size 3 1 (.slice a' (2 * L.length + 1) c') (2 * L.length + 1) (is (tell zs L)) ∧ Below w.heap.size w w' := by
  have HDo : Hid (DoAt w (.slice a L.length c) L) := hL
  clear hL
  obtain ⟨i, hi, hz0, hz1, hz2⟩ := info_parts Try.info3
  go_enter Try.func58, Try.ntmps58
  go_wp2_with fail
  refine (new_any hb hz (by omega)).mono ?_; rintro e u2 ⟨r, v, rfl, hr2, hrl, hvl, hb2⟩
  have HB2 : Hid (Below w.heap.size w u2) := hb2
  have HZ : Hid (∀ i, zs.getD i 0 < 256) := hz
  have HV : Hid (∀ g, v.ownBlock = some g → w.heap.size ≤ g) := hvl
  clear hb2 hvl hb hz
  go_wp2_with fail
  go_loopw [6, 7] (fun ov i wr => TdInv w L.length r v zs L ov i wr) (fun _ i _ => L.length - (intOf i).toNat)
  case atStart => exact ⟨0, rfl, by omega, hr2, HB2.out, World.ownsRow_nil _ _ _ _, by simp [Value.ownBlock], fun g _ => by simp [Value.ownBlock]⟩
  case round =>
    clear hr2 HB2
    obtain ⟨k, rfl, hk, hr, hbW, hown, ho1, ho2⟩ := hrel
    have HB : Hid (Below w.heap.size w wr) := hbW
    clear hbW
    obtain ⟨a6, c6, rfl⟩ := own_slice hown
    have hBs : w.heap.size ≤ wr.heap.size := HB.out.size
    by_cases hlt : k < L.length
    · obtain ⟨b, off, rfl, hbl, hq0, hq1, hq2, hVV⟩ := HDo.out.cells k hlt
      obtain ⟨y, hy⟩ : ∃ y, rdOne zs (tellTo zs L k).2 (L.getD k (0, 0, 0)).1 (L.getD k (0, 0, 0)).2.1 = y := ⟨_, rfl⟩
      have hstep : tellTo zs L (k + 1) = ((tellTo zs L k).1 ++ [y.1, y.2.1], y.2.2) := by rw [tellTo, hy]
      have HS : Hid (tellTo zs L (k + 1) = ((tellTo zs L k).1 ++ [y.1, y.2.1], y.2.2)) := hstep
      clear hstep
      generalize L.getD k (0, 0, 0) = el at hq0 hq1 hq2 hVV hy
      obtain ⟨K, N, VV⟩ := el
      simp only at hq0 hq1 hq2 hVV hy
      generalize tellTo zs L k = T at *
      obtain ⟨xs, p⟩ := T
      simp only at hy hr hown
      obtain ⟨val, er, p'⟩ := y
      replace hq0 : Hid _ := hq0
      replace hq1 : Hid _ := hq1
      replace hq2 : Hid _ := hq2
      have HRD : Hid (rdOne zs p K N = (val, er, p')) := hy
      have hval : val < 4294967296 := by have := rdOne_lt HZ.out p K N; rw [hy] at this; exact this
      clear hy
      obtain ⟨q0, q1, q2⟩ := doCells HB.out hbl hq0 hq1 hq2
      go_wp2_with fail
      have c4 := read_rd hr K N (VV : Nat)
      rw [HRD.out] at c4
      refine c4.mono ?_; rintro e w4 ⟨rfl, hr4, hk4⟩
      have hown4 := own_kq hown hk4 ho1
      have HB4 : Hid (Below w.heap.size w w4) := HB.out.trans (hk4.toBelow hrl hBs)
      have hBs4 : w.heap.size ≤ w4.heap.size := HB4.out.size
      clear c4 hk4 hown hr q0 q1 q2 HB hBs
      have hownA : (w4.alloc (.cells #[.int .i64 (val : Nat), .int .i64 (er : Nat)] 3)).ownsRow w.heap.size 3 1 (.slice a6 (2 * k) c6) (2 * k) (is xs) := hown4.alloc _
      have hnews : ∀ j u, (is [val, er])[j]? = some u → (w4.alloc (.cells #[.int .i64 (val : Nat), .int .i64 (er : Nat)] 3)).cell? ((⟨w4.heap.size, 0, none⟩ : Addr).add j) = some u := World.news_of_block (cs := #[.int .i64 (val : Nat), .int .i64 (er : Nat)]) (heap_alloc_new w4 _)
      go_wp2_with (at_builtin; refine wpList_append_lies _ (by rfl) _ _ _ (by rfl) w.heap.size 3 i (.int .i64 0) 1 8 Try.underlying61 hi hz0 hz1 hz2 rfl (by omega) _ (2 * k) (is xs) (by rfl) hownA ⟨w4.heap.size, 0, none⟩ 2 2 (is [val, er]) (by rfl) (by rfl) hnews (is_one _) (by omega) (by unfold maxLen; omega) (by omega) (by simp; omega) (w4.heap.size + 1) (by simp) ?_; intro g cap w7 hown7 hgrow hat hlt7)
      go_roundw
      case rel =>
        have hv4 : ∀ g', v.ownBlock = some g' → (Value.slice a6 (2 * k) c6).ownBlock ≠ some g' := ho2
        have hr4l := hr4.low
        refine ⟨k + 1, by go_num, by omega, ?_, ?_, ?_, ?_, ?_⟩
        · rw [HS.out]; exact hr4.grown hgrow ho1 hv4
        · exact (HB4.out.alloc hBs4 _).grown hgrow (by simp; omega) (fun g' hg' => (hown4.lt g' hg').1)
        · rw [HS.out]
          simp only
          rw [is_append]
          exact hown7
        · simp [Value.ownBlock]
          intro e
          subst e
          rcases hat with e | e
          · exact ho1 e
          · omega
        · intro g' hg' e
          simp [Value.ownBlock] at e
          subst e
          rcases hat with e | e
          · exact ho2 g hg' e
          · have := (hr4.own_lt g hg').1; omega
      case measure => simp [intOf]; omega
    · obtain rfl : k = L.length := by omega
      have HT : Hid (is (tell zs L) = is (tellTo zs L L.length).1 ++ is [8 * zs.length - (tellTo zs L L.length).2]) := by unfold tell; exact is_append _ _
      generalize tellTo zs L L.length = T at *
      obtain ⟨xs, p⟩ := T
      simp only at hr hown
      go_wp2_with fail
      refine (left_rd hr).mono ?_; rintro e w4 ⟨rfl, hr4, hk4⟩
      have hown4 := own_kq hown hk4.kq ho1
      have HB4 : Hid (Below w.heap.size w w4) := HB.out.trans (hk4.toBelow hrl)
      have hBs4 : w.heap.size ≤ w4.heap.size := HB4.out.size
      clear hk4 hown hr HB hBs hr4
      have hownA : (w4.alloc (.cells #[.int .i64 (8 * zs.length - p : Nat)] 3)).ownsRow w.heap.size 3 1 (.slice a6 (2 * L.length) c6) (2 * L.length) (is xs) := hown4.alloc _
      have hnews : ∀ j u, (is [8 * zs.length - p])[j]? = some u → (w4.alloc (.cells #[.int .i64 (8 * zs.length - p : Nat)] 3)).cell? ((⟨w4.heap.size, 0, none⟩ : Addr).add j) = some u := World.news_of_block (cs := #[.int .i64 (8 * zs.length - p : Nat)]) (heap_alloc_new w4 _)
      go_wp2_with (at_builtin; refine wpList_append_lies _ (by rfl) _ _ _ (by rfl) w.heap.size 3 i (.int .i64 0) 1 8 Try.underlying61 hi hz0 hz1 hz2 rfl (by omega) _ (2 * L.length) (is xs) (by rfl) hownA ⟨w4.heap.size, 0, none⟩ 1 1 (is [8 * zs.length - p]) (by rfl) (by rfl) hnews (is_one _) (by omega) (by unfold maxLen; omega) (by omega) (by simp; omega) (w4.heap.size + 1) (by simp) ?_; intro g cap w7 hown7 hgrow hat hlt7)
      go_ret
      refine ⟨_, _, rfl, ?_, (HB4.out.alloc hBs4 _).grown hgrow (by simp; omega) (fun g' hg' => (hown4.lt g' hg').1)⟩
      rw [HT.out]
      exact hown7

end Go.Proofs.Ytiheldakkpbkgaa
