/- DERIVED. Several texts in one: A set of whatever shape, read alone. The program's Check of a set of whatever shape. -/
import Derived.Test.YtppanogpeengnaaDoorS1
import Derived.Deep.LoopGhost
import Derived.Lib.QuietBelow
import Derived.Deep.DeepCutAuto
import Derived.Test.YtppanogpeengnaaDoorT1
namespace Go.Proofs.YtppanogpeengnaaDoor
open Go.RowKit L3

/-- a table: its numbers and its count -/
abbrev Px := List Nat × Int
/-- two cells hold a table -/
def Tv (w : World) (x y : Value) (t : Px) : Prop := ∃ a c, x = .slice a t.1.length c ∧ y = .int .i64 t.2 ∧ Sl w .u16 a t.1
/-- a slice holds tables -/
def Rv (w : World) (v : Value) (R : List Px) : Prop := ∃ a c, v = .slice a R.length c ∧ (R = [] ∨ ∃ b, a = some ⟨b, 0, none⟩ ∧ b < w.heap.size ∧ ∀ (j : Nat) t, R[j]? = some t → ∃ x y, w.cell? ⟨b, j * 2, none⟩ = some x ∧ w.cell? ⟨b, j * 2 + 1, none⟩ = some y ∧ Tv w x y t)
/-- a slice holds slices of tables -/
def Gv (w : World) (a : Option Addr) (X : List (List Px)) : Prop := X = [] ∨ ∃ b, a = some ⟨b, 0, none⟩ ∧ b < w.heap.size ∧ ∀ (k : Nat) R, X[k]? = some R → ∃ x, w.cell? ⟨b, k, none⟩ = some x ∧ Rv w x R
theorem Tv.to {w w' : World} {x y : Value} {t : Px} (h : Tv w x y t) (hb : Below w.heap.size w w') : Tv w' x y t := by
  obtain ⟨a, c, h1, h2, h3⟩ := h
  exact ⟨a, c, h1, h2, h3.to hb⟩
theorem Rv.to {w w' : World} {v : Value} {R : List Px} (h : Rv w v R) (hb : Below w.heap.size w w') : Rv w' v R := by
  obtain ⟨a, c, h1, h2⟩ := h
  refine ⟨a, c, h1, ?_⟩
  rcases h2 with h2 | ⟨b, e, hl, h3⟩
  · exact Or.inl h2
  · refine Or.inr ⟨b, e, Nat.lt_of_lt_of_le hl hb.size, fun j t ht => ?_⟩
    obtain ⟨x, y, g1, g2, g3⟩ := h3 j t ht
    exact ⟨x, y, by rw [newCell hb _ _ hl]; exact g1, by rw [newCell hb _ _ hl]; exact g2, g3.to hb⟩
theorem Gv.to {w w' : World} {a : Option Addr} {X : List (List Px)} (h : Gv w a X) (hb : Below w.heap.size w w') : Gv w' a X := by
  rcases h with h | ⟨b, e, hl, h3⟩
  · exact Or.inl h
  · refine Or.inr ⟨b, e, Nat.lt_of_lt_of_le hl hb.size, fun k R hR => ?_⟩
    obtain ⟨x, g1, g2⟩ := h3 k R hR
    exact ⟨x, by rw [newCell hb _ _ hl]; exact g1, g2.to hb⟩
/-- may row k be? -/
def okR (k : Nat) (R : List Px) : Prop := R.length = sC k ∧ ∀ t ∈ R, t.1.length = sV k ∧ TOk t.1 t.2
/-- may a set be? -/
def okX (X : List (List Px)) : Prop := X.length = 32 ∧ ∀ (k : Nat) R, X[k]? = some R → okR k R
noncomputable def ckX (X : List (List Px)) : Int := open Classical in if okX X then 0 else 2
theorem ckX_ok {X : List (List Px)} (h : okX X) : ckX X = 0 := by unfold ckX; rw [if_pos h]
theorem ckX_no {X : List (List Px)} (h : ¬ okX X) : ckX X = 2 := by unfold ckX; rw [if_neg h]
/-- nothing in it is long -/
structure Sml (X : List (List Px)) : Prop where
  n : X.length ≤ 32
  r : ∀ R ∈ X, R.length ≤ 16
  t : ∀ R ∈ X, ∀ t ∈ R, t.1.length ≤ 16

end Go.Proofs.YtppanogpeengnaaDoor

namespace Go.Proofs.YtppanogpeengnaaDoor
open Go.RowKit L3 Go.Sort

set_option maxRecDepth 100000 in
set_option maxHeartbeats 4000000 in
theorem scheck_g {w : World} {a : Option Addr} {cT n : Nat} {X : List (List Px)} (hsh : Sh w) (h : Gv w a X) (hn : X.length = n) (hs : Sml X) :
    Calls Tryd.prog 27 #[.agg #[.slice a n cT]] w fun e w' => e = .returned (.int .i64 (ckX X)) ∧ Below w.heap.size w w' := by
  have HSH : Hid (Sh w) := hsh
  have HG : Hid (Gv w a X) := h
  have HSm : Hid (Sml X) := hs
  have HN : Hid (X.length = n) := hn
  have n1 : (n : Int) ≤ 32 := by have := hs.n; omega
  have HB0 : Hid (Below w.heap.size w (w.alloc (.cells #[.slice a n cT] 25))) := from_alloc _ _
  by_cases h32 : n = 32
  · have e32 : ((n : Int) != 32) = false := by simp [h32]
    have H32 : Hid (n = 32) := h32
    clear hsh h hn hs h32
    go_enter Tryd.func27, Tryd.ntmps27
    go_wp2_with fail
    generalize w.alloc (.cells #[.slice a n cT] 25) = W at *
    go_loopw [14] (fun iv wr => ∃ k : Nat, k ≤ n ∧ iv = .int .i64 k ∧ Below w.heap.size w wr ∧ ∀ (j : Nat) R, j < k → X[j]? = some R → okR j R) (fun iv _ => n - (intOf iv).toNat)
    case atStart => exact ⟨0, by omega, rfl, HB0.out, fun j R hj => by omega⟩
    case round =>
      obtain ⟨k, hk, rfl, hb, hok⟩ := hrel
      have HB : Hid (Below w.heap.size w wr) := hb
      have HO : Hid (∀ (j : Nat) R, j < k → X[j]? = some R → okR j R) := hok
      clear hb HB0 hok
      have b0 : 0 ≤ (k : Int) := by omega
      by_cases hlt : k < n
      · have b1 : (k : Int) < (n : Int) := by omega
        have hget : X[k]? = some (X[k]'(by rw [HN.out]; exact hlt)) := List.getElem?_eq_getElem _
        generalize X[k]'(by rw [HN.out]; exact hlt) = R at *
        have HR : Hid (X[k]? = some R) := hget
        have hm := List.mem_of_getElem? hget
        obtain ⟨bt, rfl, hbl, x, hx, ra, rc, rfl, hrow⟩ : ∃ bt, a = some ⟨bt, 0, none⟩ ∧ bt < w.heap.size ∧ ∃ x, wr.cell? ⟨bt, k, none⟩ = some x ∧ Rv wr x R := by
          rcases HG.out with e | ⟨bt, e, hl, h3⟩
          · rw [e] at hget; simp at hget
          · obtain ⟨x, g1, g2⟩ := h3 k R hget
            exact ⟨bt, e, hl, x, by rw [newCell HB.out _ _ hl]; exact g1, g2.to HB.out⟩
        have cc : wr.cell? ⟨0, k * 3, none⟩ = some (.int .i64 (sC k : Nat)) := (HSH.out.to HB.out).c k (by have := H32.out; omega)
        have b2 : (k : Int) < 32 := by omega
        have r16 := HSm.out.r R hm
        have HT16 : Hid (∀ t ∈ R, t.1.length ≤ 16) := HSm.out.t R hm
        have hc14 := (sC_le k (by have := H32.out; omega)).2
        by_cases hL : R.length = sC k
        · have t1 : ((R.length : Int) != ((sC k : Nat) : Int)) = false := by simp [hL]
          have HL : Hid (R.length = sC k) := hL
          have HRow : Hid _ := hrow
          generalize hrl : R.length = rl at *
          have HRl : Hid (R.length = rl) := hrl
          clear hget hm hrow hL hrl
          go_wp2_with fail
          generalize hwo : wr = wo at *
          clear hwo
          go_loopw [28] (fun iv wr => ∃ c : Nat, c ≤ rl ∧ iv = .int .i64 c ∧ Below wo.heap.size wo wr ∧ ∀ (j : Nat) t, j < c → R[j]? = some t → t.1.length = sV k ∧ TOk t.1 t.2) (fun iv _ => rl - (intOf iv).toNat)
          case atStart => exact ⟨0, by omega, rfl, Below.refl _ _, fun j t hj => by omega⟩
          case round =>
            obtain ⟨c, hc, rfl, hb, hok⟩ := hrel
            clear hx cc
            have HB2 : Hid (Below wo.heap.size wo wr) := hb
            have HOk : Hid (∀ (j : Nat) t, j < c → R[j]? = some t → t.1.length = sV k ∧ TOk t.1 t.2) := hok
            clear hb hok
            have a0 : 0 ≤ (c : Int) := by omega
            by_cases hcl : c < rl
            · have a1 : (c : Int) < (rl : Int) := by omega
              have hgt : R[c]? = some (R[c]'(by rw [HRl.out]; exact hcl)) := List.getElem?_eq_getElem _
              generalize R[c]'(by rw [HRl.out]; exact hcl) = t at *
              have HGt : Hid (R[c]? = some t) := hgt
              have ht16 := HT16.out t (List.mem_of_getElem? hgt)
              obtain ⟨pb, rfl, ta, tc, hpl, z0, z1, hsl⟩ : ∃ pb, ra = some ⟨pb, 0, none⟩ ∧ ∃ ta tc, pb < wr.heap.size ∧ wr.cell? ⟨pb, c * 2, none⟩ = some (.slice ta t.1.length tc) ∧ wr.cell? ⟨pb, c * 2 + 1, none⟩ = some (.int .i64 t.2) ∧ Sl wr .u16 ta t.1 := by
                rcases HRow.out with e | ⟨pb, e, hl, h3⟩
                · rw [e] at hgt; simp at hgt
                · obtain ⟨x, y, g1, g2, ta, tc, rfl, rfl, g3⟩ := h3 c t hgt
                  exact ⟨pb, e, ta, tc, Nat.lt_of_lt_of_le hl HB2.out.size, by rw [newCell HB2.out _ _ hl]; exact g1, by rw [newCell HB2.out _ _ hl]; exact g2, g3.to HB2.out⟩
              obtain ⟨tC, tn⟩ := t
              simp only at z0 z1 hsl ht16
              have HSL : Hid (Sl wr .u16 ta tC) := hsl
              obtain ⟨m, hm2⟩ : ∃ m, tC.length = m := ⟨_, rfl⟩
              have HM : Hid (tC.length = m) := hm2
              rw [hm2] at z0 ht16
              have HBa : Hid (Below w.heap.size w (wr.alloc (.cells #[.slice ta m tc, .int .i64 tn] 63))) := to_alloc (below_to HB.out HB2.out) _
              have e0 : ∀ d os, (grow (redrawn (wr.alloc (.cells #[.slice ta m tc, .int .i64 tn] 63)) d) os).cell? ⟨wr.heap.size, 0, none⟩ = some (.slice ta m tc) := fun d os => cell_regrown (by simp) d os
              have e1 : ∀ d os, (grow (redrawn (wr.alloc (.cells #[.slice ta m tc, .int .i64 tn] 63)) d) os).cell? ⟨wr.heap.size, 1, none⟩ = some (.int .i64 tn) := fun d os => cell_regrown (by simp) d os
              have e2 : ∀ d os, (grow (redrawn (wr.alloc (.cells #[.slice ta m tc, .int .i64 tn] 63)) d) os).cell? ⟨0, k * 3 + 1, none⟩ = some (.int .i64 (sV k : Nat)) := fun d os => cell_regrown ((HSH.out.to HBa.out).v k (by have := H32.out; omega)) d os
              have CK : Hid (∀ d os, Calls Tryd.prog 52 #[.agg #[.slice ta m tc, .int .i64 tn]] (grow (redrawn (wr.alloc (.cells #[.slice ta m tc, .int .i64 tn] 63)) d) os) fun e w'' => e = .returned (.int .i64 (ck tC tn)) ∧ ∃ p : Regrown, w'' = grow (redrawn (wr.alloc (.cells #[.slice ta m tc, .int .i64 tn] 63)) p.d) p.os) := fun d os => by
                have h1 := check_any (w := grow (redrawn (wr.alloc (.cells #[.slice ta m tc, .int .i64 tn] 63)) d) os) (c := tc) (n := tn) ((HSL.out.to (from_alloc wr _)).to (below_regrown _ d os)) (by omega)
                rw [hm2] at h1
                exact Calls.regrown_of h1
              have HBo : Hid (Below wo.heap.size wo (wr.alloc (.cells #[.slice ta m tc, .int .i64 tn] 63))) := to_alloc HB2.out _
              clear hgt hsl hm2 HB2
              go_upto_region 11 with fail
              generalize wr.alloc (.cells #[.slice ta m tc, .int .i64 tn] 63) = V at *
              generalize wr.heap.size = xx at *
              by_cases hmv : m = sV k
              · have u1 : ((m : Int) != ((sV k : Nat) : Int)) = false := by simp [hmv]
                by_cases htok : TOk tC tn
                · have HCK0 : Hid (ck tC tn = 0) := ck_ok htok
                  have HNx : Hid (∀ (j : Nat) t, j < c + 1 → R[j]? = some t → t.1.length = sV k ∧ TOk t.1 t.2) := fun j t hj ht => by
                    by_cases e : j = c
                    · rw [e, HGt.out] at ht
                      obtain rfl := Option.some.inj ht
                      exact ⟨by rw [HM.out]; exact hmv, htok⟩
                    · exact HOk.out j t (by omega) ht
                  rw [HCK0.out] at CK
                  clear hmv htok
                  refine wp_region_quiet_below (by kernel_rfl) (by kernel_rfl) ?_
                  repeat (quiet_step (with_reducible exact CK.out _ _))
                  refine wpQuiet_nil ?_
                  intro _ hw'
                  obtain ⟨⟨dq, osq⟩, hw''⟩ := hw'
                  subst hw''
                  go_wp2_with fail
                  go_roundw
                  case rel => exact ⟨c + 1, by omega, by go_num, below_to HBo.out (below_regrown V dq osq), HNx.out⟩
                  case measure => simp [intOf]; omega
                · have HNo : Hid (ckX X = 2) := ckX_no (fun hx => htok ((hx.2 k R HR.out).2 _ (List.mem_of_getElem? HGt.out)).2)
                  have HCK0 : Hid (ck tC tn = 2) := ck_no htok
                  rw [HCK0.out] at CK
                  clear hmv htok
                  refine wp_region_quiet_below (by kernel_rfl) (by kernel_rfl) ?_
                  repeat (quiet_step (with_reducible exact CK.out _ _))
                  refine wpQuiet_nil ?_
                  intro _ hw'
                  obtain ⟨⟨dq, osq⟩, hw''⟩ := hw'
                  subst hw''
                  go_wp2_with fail
                  go_ret
                  exact ⟨by rw [HNo.out]; rfl, below_to HBa.out (below_regrown V dq osq)⟩
              · have u1 : ((m : Int) != ((sV k : Nat) : Int)) = true := by rw [bne_iff_ne]; omega
                have HNo : Hid (ckX X = 2) := ckX_no (fun hx => hmv (by rw [← HM.out]; exact ((hx.2 k R HR.out).2 _ (List.mem_of_getElem? HGt.out)).1))
                clear hmv
                refine wp_region_quiet_below (by kernel_rfl) (by kernel_rfl) ?_
                repeat (quiet_step (with_reducible exact CK.out _ _))
                refine wpQuiet_nil ?_
                intro _ hw'
                obtain ⟨⟨dq, osq⟩, hw''⟩ := hw'
                subst hw''
                go_wp2_with fail
                go_ret
                exact ⟨by rw [HNo.out]; rfl, below_to HBa.out (below_regrown V dq osq)⟩
            · have a1 : ¬ (c : Int) < (rl : Int) := by omega
              have HNx : Hid (∀ (j : Nat) R', j < k + 1 → X[j]? = some R' → okR j R') := fun j R' hj hR' => by
                by_cases e : j = k
                · rw [e, HR.out] at hR'
                  obtain rfl := Option.some.inj hR'
                  rw [e]
                  refine ⟨by rw [HRl.out]; exact HL.out, fun t ht => ?_⟩
                  obtain ⟨j, hj2⟩ := List.getElem?_of_mem ht
                  exact HOk.out j t (by have := (List.getElem?_eq_some_iff.1 hj2).1; have := HRl.out; omega) hj2
                · exact HO.out j R' (by omega) hR'
              go_wp2_with fail
              go_roundw
              case rel => exact ⟨k + 1, by omega, by go_num, below_to HB.out HB2.out, HNx.out⟩
              case measure => simp [intOf]; omega
        · have t1 : ((R.length : Int) != ((sC k : Nat) : Int)) = true := by rw [bne_iff_ne]; omega
          have HNo : Hid (ckX X = 2) := ckX_no (fun hx => hL (hx.2 k R hget).1)
          clear hget hm hrow hL
          generalize R.length = rl at *
          go_wp2_with fail
          go_ret
          exact ⟨by rw [HNo.out]; rfl, HB.out⟩
      · have b1 : ¬ (k : Int) < (n : Int) := by omega
        have HYes : Hid (ckX X = 0) := ckX_ok ⟨by rw [HN.out]; exact H32.out, fun j R hR => HO.out j R (by have := (List.getElem?_eq_some_iff.1 hR).1; have := HN.out; omega) hR⟩
        go_wp2_with fail
        go_ret
        exact ⟨by rw [HYes.out]; rfl, HB.out⟩
  · have e32 : ((n : Int) != 32) = true := by rw [bne_iff_ne]; omega
    have HNo : Hid (ckX X = 2) := ckX_no (fun hx => h32 (by rw [← hn]; exact hx.1))
    clear hsh h hn hs h32
    go_enter Tryd.func27, Tryd.ntmps27
    go_wp2_with fail
    go_ret
    exact ⟨by rw [HNo.out]; rfl, HB0.out⟩

end Go.Proofs.YtppanogpeengnaaDoor
