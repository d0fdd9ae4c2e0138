/- DERIVED. Several texts in one: A region that is gone through in the order of the text, told by pairs of its operations: for regions of a hundred operations. The document's Check of a set of whatever shape. -/
import Derived.BigQuiet
import Derived.Test.YtppanogpeengnaaDoorWA
import Derived.Test.YtppanogpeengnaaDoorMF
import Derived.Deep.DeepCutAuto
namespace Go.Proofs.YtppanogpeengnaaDoor

/-- each operation waits for earlier ones alone -/
def depsOk : Nat → List Oper → Bool
  | _, [] => true
  | k, o :: r => (o.after.all fun e => !Region.binds .any e || Nat.blt e.on k) && depsOk (k + 1) r
/-- each later operation waits for this one, or has nothing to do with it -/
def freeOk (ops : Array Oper) : Nat → List Oper → Bool
  | _, [] => true
  | k, o :: r => (r.all fun oj => (oj.after.any fun e => Region.binds .any e && e.on == k) || o.apart ops oj) && freeOk ops (k + 1) r
theorem depsOk_at : ∀ (l : List Oper) (k : Nat), depsOk k l = true → ∀ (j : Nat) (o : Oper), l[j]? = some o → (o.after.all fun e => !Region.binds .any e || Nat.blt e.on (k + j)) = true
  | [], _, _, j, o, h => by simp at h
  | x :: l, k, h, j, o, ho => by
    simp only [depsOk, Bool.and_eq_true] at h
    cases j with
    | zero =>
      simp at ho
      subst ho
      exact h.1
    | succ j =>
      have := depsOk_at l (k + 1) h.2 j o (by simpa using ho)
      rw [show k + 1 + j = k + (j + 1) by omega] at this
      exact this
theorem freeOk_at {ops : Array Oper} : ∀ (l : List Oper) (k : Nat), freeOk ops k l = true → ∀ (i j : Nat) (oi oj : Oper), i < j → l[i]? = some oi → l[j]? = some oj → ((oj.after.any fun e => Region.binds .any e && e.on == k + i) || oi.apart ops oj) = true
  | [], _, _, i, j, oi, oj, _, h, _ => by simp at h
  | x :: l, k, h, i, j, oi, oj, hij, hi, hj => by
    simp only [freeOk, Bool.and_eq_true] at h
    obtain ⟨j, rfl⟩ : ∃ m, j = m + 1 := ⟨j - 1, by omega⟩
    have hj' : l[j]? = some oj := by simpa using hj
    cases i with
    | zero =>
      simp at hi
      subst hi
      exact List.all_eq_true.1 h.1 oj (List.mem_of_getElem? hj')
    | succ i =>
      have := freeOk_at l (k + 1) h.2 i j oi oj (by omega) (by simpa using hi) hj'
      rw [show k + 1 + i = k + (i + 1) by omega] at this
      exact this
/-- the first k of n are listed -/
def Lst (n k : Nat) (L : Array Bool) : Prop := L.size = n ∧ ∀ i, i < n → L[i]? = some (decide (i < k))
theorem Lst.getD {n k : Nat} {L : Array Bool} (h : Lst n k L) (i : Nat) (hi : i < n) (b : Bool) : L.getD i b = decide (i < k) := by
  have := h.2 i hi
  rw [Array.getD_eq_getD_getElem?, this]; rfl
theorem Lst.set {n k : Nat} {L : Array Bool} (h : Lst n k L) : Lst n (k + 1) (L.setIfInBounds k true) := by
  refine ⟨by simp [h.1], fun i hi => ?_⟩
  rw [Array.getElem?_setIfInBounds, h.1]
  by_cases e : k = i
  · subst e; simp [hi]
  · rw [if_neg e, h.2 i hi]
    congr 1
    exact decide_eq_decide.2 (by omega)
theorem lexFrom_ok {l : List Oper} (hd : depsOk 0 l = true) (hf : freeOk l.toArray 0 l = true) : ∀ fuel k L, k + fuel = l.length → Lst l.length k L → Region.lexFrom .any l.toArray fuel k L = true
  | 0, k, L, hk, hL => by
    unfold Region.lexFrom Region.ready
    simp only [List.isEmpty_iff, List.filter_eq_nil_iff, List.mem_range]
    intro i hi
    have hi' : i < l.length := by simpa using hi
    have hg := hL.getD i hi' true
    have e : decide (i < k) = true := by simp; omega
    rw [e] at hg
    rw [hg]
    simp
  | fuel + 1, k, L, hk, hL => by
    have hkl : k < l.length := by omega
    obtain ⟨o, ho⟩ : ∃ o, l[k]? = some o := ⟨_, List.getElem?_eq_getElem hkl⟩
    unfold Region.lexFrom
    simp only [Bool.and_eq_true]
    refine ⟨⟨?_, ?_⟩, lexFrom_ok hd hf fuel (k + 1) _ (by omega) hL.set⟩
    · simp only [List.contains_iff_mem, Region.ready, List.mem_filter, List.mem_range, Bool.and_eq_true]
      refine ⟨by simpa using hkl, ?_, ?_⟩
      · have hg := hL.getD k hkl true
        rw [hg]; simp
      · rw [show l.toArray[k]? = some o by simpa using ho]
        simp only [Option.map_some, Option.getD_some, Array.all_eq_true_iff_forall_mem]
        have := depsOk_at l 0 hd k o ho
        rw [Array.all_eq_true_iff_forall_mem] at this
        intro e he
        have h1 := this e he
        rw [Nat.zero_add] at h1
        simp only [Bool.or_eq_true] at h1 ⊢
        rcases h1 with h1 | h1
        · exact Or.inl h1
        · have hlt : e.on < k := by rw [Nat.blt_eq] at h1; exact h1
          right
          have hg := hL.getD e.on (by omega) false
          rw [hg]; simp [hlt]
    · unfold Region.free
      rw [show l.toArray[k]? = some o by simpa using ho]
      simp only [List.all_eq_true, List.mem_range]
      intro j hj
      have hj' : j < l.length := by simpa using hj
      obtain ⟨oj, hoj⟩ : ∃ oj, l[j]? = some oj := ⟨_, List.getElem?_eq_getElem hj'⟩
      rw [show l.toArray[j]? = some oj by simpa using hoj]
      have hg := hL.getD j hj' true
      rw [hg]
      rcases Nat.lt_trichotomy j k with e | e | e
      · simp [e]
      · simp [e]
      · have := freeOk_at l 0 hf k j o oj e ho hoj
        rw [Nat.zero_add] at this
        simp only [Bool.or_eq_true] at this ⊢
        exact Or.inr this
/-- the kit's test of a region, by pairs -/
theorem lexB_ok {l : List Oper} (hs : Region.noSelect l.toArray = true) (hd : depsOk 0 l = true) (hf : freeOk l.toArray 0 l = true) : Region.lexB .any l.toArray = true := by
  unfold Region.lexB
  rw [hs, Bool.true_and]
  refine lexFrom_ok hd hf _ 0 _ (by simp) ⟨by simp, fun i hi => ?_⟩
  simp [hi]
theorem wp_region_quiet_pairs {P : Program} {id : Nat} {Q : Exit → Act → World → Prop} {a : Act} {w : World} {l : List Oper} (hm : P.follows .mixedOrders = true) (hs : Region.noSelect l.toArray = true) (hd : depsOk 0 l = true) (hf : freeOk l.toArray 0 l = true)
    (h : wpQuiet P l.toArray (fun w' => ∃ n, w' = w.drewN n) (fun a' => ∀ w', (∃ n, w' = w.drewN n) → Q .normal a' w') l a) : (Code.region id l.toArray true).wp P Q a w :=
  wp_region_quiet_lit hm (lexB_ok hs hd hf) h

end Go.Proofs.YtppanogpeengnaaDoor

namespace Go.Proofs.YtppanogpeengnaaDoor
open Go.RowKit L3 Go.Sort Go.BigFrame

set_option maxRecDepth 100000 in
set_option maxHeartbeats 12000000 in
theorem rscheck_g {w : World} {a : Option Addr} {cT n : Nat} {X : List (List Px)} (h : Gv w a X) (hn : X.length = n) (hs : Sml X) :
    Calls Tryd.prog 28 #[.agg #[.slice a n cT]] w fun e w' => e = .returned (.int .i64 (ckX X)) ∧ Below w.heap.size w w' := by
  have HG : Hid (Gv w a X) := h
  have HSm : Hid (Sml X) := hs
  have HN : Hid (X.length = n) := hn
  have n1 : (n : Int) ≤ 32 := by have := hs.n; omega
  have HB0 : Hid (Below w.heap.size w (w.alloc (.cells #[.slice a n cT] 25))) := from_alloc _ _
  have HX0 : Hid (∀ v, Below (w.alloc (.cells #[.slice a n cT] 25)).heap.size (w.alloc (.cells #[.slice a n cT] 25)) v → v.cell? ⟨w.heap.size, 0, none⟩ = some (.slice a n cT)) := fun v hv => by rw [newCell hv _ _ (by simp)]; simp
  by_cases h32 : n = 32
  · have e32 : ((n : Int) != 32) = false := by simp [h32]
    have H32 : Hid (n = 32) := h32
    clear hn hs h h32
    go_enter Tryd.func28, Tryd.ntmps28
    go_wp2_with fail
    generalize w.alloc (.cells #[.slice a n cT] 25) = V0 at *
    refine rows_any.mono ?_
    rintro e W ⟨g, rfl, -, hr, hbW⟩
    have HR0 : Hid (Rw W g) := hr
    have HBW : Hid (Below w.heap.size w W) := below_to HB0.out hbW
    have HXW : Hid (∀ v, Below W.heap.size W v → v.cell? ⟨w.heap.size, 0, none⟩ = some (.slice a n cT)) := fun v hv => HX0.out v (below_to hbW hv)
    clear hr hbW HX0 HB0
    obtain ⟨x0, hx0⟩ : ∃ x0, w.heap.size = x0 := ⟨_, rfl⟩
    rw [hx0] at HXW
    have HX00 : Hid (w.heap.size = x0) := hx0
    simp only [hx0]
    go_wp2_with fail
    go_loopw [4] (fun iv wr => ∃ k : Nat, k ≤ 32 ∧ iv = .int .i64 k ∧ Below W.heap.size W wr ∧ ∀ (j : Nat) R, j < k → X[j]? = some R → okR j R) (fun iv _ => 32 - (intOf iv).toNat)
    case atStart => exact ⟨0, by omega, rfl, Below.refl _ _, fun j R hj => by omega⟩
    case round =>
      obtain ⟨k, hk, rfl, hb, hok⟩ := hrel
      have HB : Hid (Below W.heap.size W wr) := hb
      have HO : Hid (∀ (j : Nat) R, j < k → X[j]? = some R → okR j R) := hok
      clear hb hok
      have b0 : 0 ≤ (k : Int) := by omega
      by_cases hlt : k < 32
      · have b1 : (k : Int) < 32 := by omega
        have b2 : (k : Int) < (n : Int) := by have := H32.out; omega
        have hkl : k < X.length := by rw [HN.out, H32.out]; exact hlt
        have hget : X[k]? = some (X[k]'hkl) := List.getElem?_eq_getElem _
        generalize X[k]'hkl = R at *
        have HR : Hid (X[k]? = some R) := hget
        have hm := List.mem_of_getElem? hget
        obtain ⟨bt, rfl, hbl, x, hx, ra, rc, rfl, hrow⟩ : ∃ bt, a = some ⟨bt, 0, none⟩ ∧ bt < w.heap.size ∧ ∃ x, wr.cell? ⟨bt, k, none⟩ = some x ∧ Rv wr x R := by
          rcases HG.out with e | ⟨bt, e, hl, h3⟩
          · rw [e] at hget; simp at hget
          · obtain ⟨x, g1, g2⟩ := h3 k R hget
            have hbw := below_to HBW.out HB.out
            exact ⟨bt, e, hl, x, by rw [newCell hbw _ _ hl]; exact g1, g2.to hbw⟩
        have r16 := HSm.out.r R hm
        have HT16 : Hid (∀ t ∈ R, t.1.length ≤ 16) := HSm.out.t R hm
        have hc14 := (sC_le k hlt).2
        obtain ⟨rl, hrl⟩ : ∃ rl, R.length = rl := ⟨_, rfl⟩
        have HRl : Hid (R.length = rl) := hrl
        rw [hrl] at hx r16
        -- what is read in every world behind wr
        have HQ : Hid (∀ v, Below wr.heap.size wr v → v.cell? ⟨x0, 0, none⟩ = some (.slice (some ⟨bt, 0, none⟩) n cT) ∧ v.cell? ⟨bt, k, none⟩ = some (.slice ra rl rc) ∧ v.cell? ⟨g, k * 3, none⟩ = some (.int .i64 (sC k : Nat)) ∧ v.cell? ⟨g, k * 3 + 1, none⟩ = some (.int .i64 (sV k : Nat)) ∧ Rv v (.slice ra rl rc) R) := fun v hv => by
          have hvw := below_to HB.out hv
          exact ⟨HXW.out v hvw, by rw [newCell hv _ _ (Nat.lt_of_lt_of_le hbl (below_to HBW.out HB.out).size)]; exact hx, (HR0.out.to hvw).c k hlt, (HR0.out.to hvw).v k hlt, Rv.to ⟨ra, rc, by rw [hrl], hrow⟩ hv⟩
        have q1 : ∀ d os, (grow (redrawn wr d) os).cell? ⟨x0, 0, none⟩ = some (.slice (some ⟨bt, 0, none⟩) n cT) := fun d os => (HQ.out _ (below_regrown wr d os)).1
        have q2 : ∀ d os, (grow (redrawn wr d) os).cell? ⟨bt, k, none⟩ = some (.slice ra rl rc) := fun d os => (HQ.out _ (below_regrown wr d os)).2.1
        have q3 : ∀ d os, (grow (redrawn wr d) os).cell? ⟨g, k * 3, none⟩ = some (.int .i64 (sC k : Nat)) := fun d os => (HQ.out _ (below_regrown wr d os)).2.2.1
        clear hget hm hrow hx hrl
        by_cases hL : rl = sC k
        · have t1 : ((rl : Int) != ((sC k : Nat) : Int)) = false := by simp [hL]
          have HL : Hid (rl = sC k) := hL
          clear hL
          go_wp2_with fail
          refine wp_region_quiet_below (by kernel_rfl) (by kernel_rfl) ?_
          repeat (quiet_step (fail))
          refine wpQuiet_nil ?_
          intro _ hw'
          obtain ⟨⟨dq, osq⟩, hw''⟩ := hw'
          subst hw''
          have H1 : Hid (Below wr.heap.size wr (grow (redrawn wr dq) osq)) := below_regrown wr dq osq
          clear q1 q2 q3
          generalize hwo : wr = wo at *
          clear hwo
          generalize grow (redrawn wo dq) osq = v1 at *
          go_wp2_with fail
          go_loopw [5] (fun iv wr => ∃ c : Nat, c ≤ rl ∧ iv = .int .i64 c ∧ Below wo.heap.size wo wr ∧ ∀ (j : Nat) t, j < c → R[j]? = some t → t.1.length = sV k ∧ TOk t.1 t.2) (fun iv _ => rl - (intOf iv).toNat)
          case atStart => exact ⟨0, by omega, rfl, H1.out, fun j t hj => by omega⟩
          case round =>
            clear H1
            obtain ⟨c, hc, rfl, hb, hok⟩ := hrel
            have HB2 : Hid (Below wo.heap.size wo wr) := hb
            have HOk : Hid (∀ (j : Nat) t, j < c → R[j]? = some t → t.1.length = sV k ∧ TOk t.1 t.2) := hok
            clear hb hok
            have a0 : 0 ≤ (c : Int) := by omega
            obtain ⟨p1, p2, -, -, -⟩ := HQ.out _ HB2.out
            by_cases hcl : c < rl
            · have a1 : (c : Int) < (rl : Int) := by omega
              have hgt : R[c]? = some (R[c]'(by rw [HRl.out]; exact hcl)) := List.getElem?_eq_getElem _
              generalize R[c]'(by rw [HRl.out]; exact hcl) = t at *
              have HGt : Hid (R[c]? = some t) := hgt
              have ht16 := HT16.out t (List.mem_of_getElem? hgt)
              obtain ⟨pb, rfl, ta, tc, z0, z1, hsl⟩ : ∃ pb, ra = some ⟨pb, 0, none⟩ ∧ ∃ ta tc, wr.cell? ⟨pb, c * 2, none⟩ = some (.slice ta t.1.length tc) ∧ wr.cell? ⟨pb, c * 2 + 1, none⟩ = some (.int .i64 t.2) ∧ Sl wr .u16 ta t.1 := by
                obtain ⟨ra', rc', e0, hr⟩ := (HQ.out _ HB2.out).2.2.2.2
                simp only [Value.slice.injEq] at e0
                obtain ⟨rfl, _, rfl⟩ := e0
                rcases hr with e | ⟨pb, e, hl, h3⟩
                · rw [e] at hgt; simp at hgt
                · obtain ⟨x, y, g1, g2, ta, tc, rfl, rfl, g3⟩ := h3 c t hgt
                  exact ⟨pb, e, ta, tc, g1, g2, g3⟩
              obtain ⟨tC, tn⟩ := t
              simp only at z0 z1 hsl ht16
              have HSL : Hid (Sl wr .u16 ta tC) := hsl
              obtain ⟨m, hm2⟩ : ∃ m, tC.length = m := ⟨_, rfl⟩
              have HM : Hid (tC.length = m) := hm2
              rw [hm2] at z0 ht16
              have q1 : ∀ d os, (grow (redrawn wr d) os).cell? ⟨x0, 0, none⟩ = some (.slice (some ⟨bt, 0, none⟩) n cT) := fun d os => cell_regrown p1 d os
              have q2 : ∀ d os, (grow (redrawn wr d) os).cell? ⟨bt, k, none⟩ = some (.slice (some ⟨pb, 0, none⟩) rl rc) := fun d os => cell_regrown p2 d os
              have q3 : ∀ d os, (grow (redrawn wr d) os).cell? ⟨g, k * 3 + 1, none⟩ = some (.int .i64 (sV k : Nat)) := fun d os => cell_regrown (HQ.out _ HB2.out).2.2.2.1 d os
              have q4 : ∀ d os, (grow (redrawn wr d) os).cell? ⟨pb, c * 2, none⟩ = some (.slice ta m tc) := fun d os => cell_regrown z0 d os
              have q5 : ∀ d os, (grow (redrawn wr d) os).cell? ⟨pb, c * 2 + 1, none⟩ = some (.int .i64 tn) := fun d os => cell_regrown z1 d os
              have CK : Hid (∀ d os, Calls Tryd.prog 53 #[.agg #[.slice ta m tc, .int .i64 tn]] (grow (redrawn wr d) os) fun e w'' => e = .returned (.int .i64 (ck tC tn)) ∧ ∃ p : Regrown, w'' = grow (redrawn wr p.d) p.os) := fun d os => by
                have h1 := rcheck_any (w := grow (redrawn wr d) os) (c := tc) (n := tn) (HSL.out.to (below_regrown _ d os)) (by omega)
                rw [hm2] at h1
                exact Calls.regrown_of h1
              have HBw : Hid (Below w.heap.size w wr) := below_to (below_to HBW.out HB.out) HB2.out
              clear hgt hsl hm2
              go_upto_region 12 with fail
              by_cases hmv : m = sV k
              · have u1 : ((m : Int) != ((sV k : Nat) : Int)) = false := by simp [hmv]
                by_cases htok : TOk tC tn
                · have HCK0 : Hid (ck tC tn = 0) := ck_ok htok
                  have HNx : Hid (∀ (j : Nat) t, j < c + 1 → R[j]? = some t → t.1.length = sV k ∧ TOk t.1 t.2) := fun j t hj ht => by
                    by_cases e : j = c
                    · rw [e, HGt.out] at ht
                      obtain rfl := Option.some.inj ht
                      exact ⟨by rw [HM.out]; exact hmv, htok⟩
                    · exact HOk.out j t (by omega) ht
                  rw [HCK0.out] at CK
                  clear hmv htok
                  refine wp_region_quiet_below (by kernel_rfl) (lexB_ok (by kernel_rfl) (by kernel_rfl) (by kernel_rfl)) ?_
                  repeat (first | go_big_quiet_step (with_reducible exact CK.out _ _) | quiet_step (with_reducible exact CK.out _ _))
                  refine wpQuiet_nil ?_
                  intro _ hw'
                  obtain ⟨⟨dq, osq⟩, hw''⟩ := hw'
                  subst hw''
                  go_wp2_with fail
                  go_roundw
                  case rel => exact ⟨c + 1, by omega, by go_num, below_to HB2.out (below_regrown wr dq osq), HNx.out⟩
                  case measure => simp [intOf]; omega
                · have HNo : Hid (ckX X = 2) := ckX_no (fun hx => htok ((hx.2 k R HR.out).2 _ (List.mem_of_getElem? HGt.out)).2)
                  have HCK0 : Hid (ck tC tn = 2) := ck_no htok
                  rw [HCK0.out] at CK
                  clear hmv htok
                  refine wp_region_quiet_below (by kernel_rfl) (lexB_ok (by kernel_rfl) (by kernel_rfl) (by kernel_rfl)) ?_
                  repeat (first | go_big_quiet_step (with_reducible exact CK.out _ _) | quiet_step (with_reducible exact CK.out _ _))
                  refine wpQuiet_nil ?_
                  intro _ hw'
                  obtain ⟨⟨dq, osq⟩, hw''⟩ := hw'
                  subst hw''
                  go_wp2_with fail
                  go_ret
                  exact ⟨by rw [HNo.out]; rfl, below_to HBw.out (below_regrown wr dq osq)⟩
              · have u1 : ((m : Int) != ((sV k : Nat) : Int)) = true := by rw [bne_iff_ne]; omega
                have HNo : Hid (ckX X = 2) := ckX_no (fun hx => hmv (by rw [← HM.out]; exact ((hx.2 k R HR.out).2 _ (List.mem_of_getElem? HGt.out)).1))
                clear hmv
                refine wp_region_quiet_below (by kernel_rfl) (lexB_ok (by kernel_rfl) (by kernel_rfl) (by kernel_rfl)) ?_
                repeat (first | go_big_quiet_step (with_reducible exact CK.out _ _) | quiet_step (with_reducible exact CK.out _ _))
                refine wpQuiet_nil ?_
                intro _ hw'
                obtain ⟨⟨dq, osq⟩, hw''⟩ := hw'
                subst hw''
                go_wp2_with fail
                go_ret
                exact ⟨by rw [HNo.out]; rfl, below_to HBw.out (below_regrown wr dq osq)⟩
            · have a1 : ¬ (c : Int) < (rl : Int) := by omega
              have HNx : Hid (∀ (j : Nat) R', j < k + 1 → X[j]? = some R' → okR j R') := fun j R' hj hR' => by
                by_cases e : j = k
                · rw [e, HR.out] at hR'
                  obtain rfl := Option.some.inj hR'
                  rw [e]
                  refine ⟨by rw [HRl.out]; exact HL.out, fun t ht => ?_⟩
                  obtain ⟨j, hj2⟩ := List.getElem?_of_mem ht
                  exact HOk.out j t (by have := (List.getElem?_eq_some_iff.1 hj2).1; have := HRl.out; omega) hj2
                · exact HO.out j R' (by omega) hR'
              go_wp2_with fail
              go_roundw
              case rel => exact ⟨k + 1, by omega, by go_num, below_to HB.out HB2.out, HNx.out⟩
              case measure => simp [intOf]; omega
        · have t1 : ((rl : Int) != ((sC k : Nat) : Int)) = true := by rw [bne_iff_ne]; omega
          have HNo : Hid (ckX X = 2) := ckX_no (fun hx => hL (by rw [← HRl.out]; exact (hx.2 k R HR.out).1))
          have HBw : Hid (Below w.heap.size w wr) := below_to HBW.out HB.out
          clear hL
          go_wp2_with fail
          refine wp_region_quiet_below (by kernel_rfl) (by kernel_rfl) ?_
          repeat (quiet_step (fail))
          refine wpQuiet_nil ?_
          intro _ hw'
          obtain ⟨⟨dq, osq⟩, hw''⟩ := hw'
          subst hw''
          go_wp2_with fail
          go_ret
          exact ⟨by rw [HNo.out]; rfl, below_to HBw.out (below_regrown wr dq osq)⟩
      · have b1 : ¬ (k : Int) < 32 := by omega
        have HYes : Hid (ckX X = 0) := ckX_ok ⟨by rw [HN.out]; exact H32.out, fun j R hR => HO.out j R (by have := (List.getElem?_eq_some_iff.1 hR).1; have := HN.out; have := H32.out; omega) hR⟩
        go_wp2_with fail
        go_ret
        exact ⟨by rw [HYes.out]; rfl, by have := below_to HBW.out HB.out; rw [HX00.out] at this; exact this⟩
  · have e32 : ((n : Int) != 32) = true := by rw [bne_iff_ne]; omega
    have HNo : Hid (ckX X = 2) := ckX_no (fun hx => h32 (by rw [← hn]; exact hx.1))
    clear h hn hs h32
    go_enter Tryd.func28, Tryd.ntmps28
    go_wp2_with fail
    go_ret
    exact ⟨by rw [HNo.out]; rfl, HB0.out⟩

end Go.Proofs.YtppanogpeengnaaDoor
