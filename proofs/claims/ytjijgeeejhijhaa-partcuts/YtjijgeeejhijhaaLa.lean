/- DERIVED. The walk of PartCuts. -/
import Derived.Test.YtjijgeeejhijhaaWa
import Derived.Test.YtjijgeeejhijhaaDb
namespace Go.Proofs.Ytjijgeeejhijhaa
open Go.RowKit

/-- a list is answered, in new memory, and an error -/
def Cv (w w' : World) (e : Ending) (L : List Rc) (er : Int) : Prop := ∃ a c, e = .returned (.tuple #[.slice a L.length c, .int .i64 er]) ∧ (L = [] ∨ ∃ g, a = some ⟨g, 0, none⟩ ∧ Hr w' g L ∧ w.heap.size ≤ g) ∧ Below w.heap.size w w'
theorem Cq.cv {w w' : World} {e : Ending} {L : List Rc} (h : Cq w w' e L) : Cv w w' e L 0 := by
  obtain ⟨g, rfl, hr, hg, hb⟩ := h
  exact ⟨_, _, rfl, Or.inr ⟨g, rfl, hr, hg⟩, hb⟩
theorem Cn.cv {w w' : World} {e : Ending} (h : Cn w w' e) : Cv w w' e [] 2 := ⟨none, 0, h.1, Or.inl rfl, h.2⟩
theorem both_cuts (x y a b c : Int) : ∃ L er, L.length ≤ 4 ∧ (∀ t, Calls Try.prog 11 #[.agg #[.int .i64 x, .int .i64 y, .int .i64 a, .int .i64 b], .int .i64 c] t fun e w' => Cv t w' e L er) ∧ (∀ t, Calls Try.prog 12 #[.agg #[.int .i64 x, .int .i64 y, .int .i64 a, .int .i64 b], .int .i64 c] t fun e w' => Cv t w' e L er) := by
  by_cases h : rgn x y a b = true ∧ 0 ≤ c ∧ c < tyN a
  · obtain ⟨hr, h0, h1⟩ := h
    obtain ⟨-, hab, -, -⟩ := rgn_in hr
    subst hab
    obtain ⟨kd, rfl⟩ : ∃ kd : Nat, c = (kd : Int) := ⟨c.toNat, by omega⟩
    exact ⟨cutR kd x y a, 0, by rw [cutR_len]; exact (prt_len kd).2, fun t => (cuts_ok hr h1).mono fun _ _ k => k.cv, fun t => (rcuts_ok hr h1).mono fun _ _ k => k.cv⟩
  · exact ⟨[], 2, by simp, fun t => (cuts_no h).mono fun _ _ k => k.cv, fun t => (rcuts_no h).mono fun _ _ k => k.cv⟩
theorem rsame_self {w : World} {a b : Option Addr} {c d : Nat} {C : List Rc} (h1 : Sr w a C) (h2 : Sr w b C) (hl : C.length ≤ 1000) :
    Calls Try.prog 13 #[.slice a C.length c, .slice b C.length d] w fun e w' => e = .returned (.bool true) ∧ Below w.heap.size w w' := by
  have := rsame_any (c := c) (d := d) h1 h2 (by omega) (by omega)
  rwa [eqR_self] at this
/-- a list that may be written -/
def Wq (w : World) (pr : Nat) (a : Option Addr) (L : List Rc) : Prop := L = [] ∨ ∃ g M, a = some ⟨g, 0, none⟩ ∧ M.length = L.length ∧ Hr w g M ∧ pr < g
theorem Wq.to {w w' : World} {pr : Nat} {a : Option Addr} {L : List Rc} (h : Wq w pr a L) (hb : Below w.heap.size w w') : Wq w' pr a L := by
  rcases h with h | ⟨g, M, h1, h2, h3, h4⟩
  · exact Or.inl h
  · exact Or.inr ⟨g, M, h1, h2, h3.to hb, h4⟩

set_option maxRecDepth 100000 in
set_option maxHeartbeats 8000000 in
theorem cuts_walk {W : World} {x y a b sz kd : Int} : Calls Try.prog 3 #[.agg #[.int .i64 x, .int .i64 y, .int .i64 a, .int .i64 b], .int .i64 sz, .int .i64 kd] W fun e w' => e = .returned (.bool true) ∧ Below W.heap.size W w' := by
  have HF0 : Hid (Fr (W.alloc (.cells #[.int .i64 x, .int .i64 y, .int .i64 a, .int .i64 b] 23)) W.heap.size x y a b) := Fr.box _ _ _ _ _
  have HB0 : Hid (Below W.heap.size W (W.alloc (.cells #[.int .i64 x, .int .i64 y, .int .i64 a, .int .i64 b] 23))) := from_alloc _ _
  have HS0 : Hid (W.heap.size < (W.alloc (.cells #[.int .i64 x, .int .i64 y, .int .i64 a, .int .i64 b] 23)).heap.size) := by show _ < _; simp
  go_enter Try.func3, Try.ntmps3
  go_wp2_with (first | ((with_reducible refine types_any.mono ?_); rintro e w5 ⟨rfl, rfl⟩) | ((with_reducible refine rtypes_any.mono ?_); rintro e w5 ⟨rfl, rfl⟩))
  generalize (W.alloc (.cells #[.int .i64 x, .int .i64 y, .int .i64 a, .int .i64 b] 23)) = V at *
  generalize hP : W.heap.size = pr at *
  have HP : Hid (W.heap.size = pr) := hP
  clear hP
  go_loopw [11] (fun i wr => ∃ n : Nat, n ≤ 13 ∧ i = .int .i64 ((n : Int) - 1) ∧ Below pr W wr ∧ Fr wr pr x y a b ∧ pr < wr.heap.size) (fun i _ => (12 - intOf i).toNat)
  case atStart => exact ⟨0, by omega, by simp, HB0.out, HF0.out, HS0.out⟩
  case round =>
    clear HF0 HB0 HS0
    obtain ⟨n, hn, rfl, hb, hf, hs⟩ := hrel
    have HBr : Hid (Below pr W wr) := hb
    have HFr : Hid (Fr wr pr x y a b) := hf
    have HSr : Hid (pr < wr.heap.size) := hs
    clear hb hf hs
    by_cases hlt : n < 13
    · have HN : Hid (n < 13) := hlt
      have i1 : (n : Int) - 1 < 12 := by omega
      have i0 : -1 ≤ (n : Int) - 1 := by omega
      go_upto_if 42 with fail
      go_cut [12] (fun s T => ∃ c : Int, s = .int .i64 c ∧ wr = T)
      case first =>
        by_cases h12 : n = 12
        · have e1 : ((n : Int) - 1 == 11) = true := by rw [beq_iff_eq]; omega
          go_wp2_with fail
          go_meet
          exact ⟨_, rfl, rfl⟩
        · have e1 : ((n : Int) - 1 == 11) = false := by rw [beq_eq_false_iff_ne]; omega
          go_wp2_with fail
          go_meet
          exact ⟨_, rfl, rfl⟩
      obtain ⟨c, rfl, rfl⟩ := hcut
      obtain ⟨L, er, hL, hc1, hc2⟩ := both_cuts x y a b c
      have HL : Hid (L.length ≤ 4) := hL
      have HC1 : Hid (∀ t, Calls Try.prog 11 #[.agg #[.int .i64 x, .int .i64 y, .int .i64 a, .int .i64 b], .int .i64 c] t fun e w' => Cv t w' e L er) := hc1
      have HC2 : Hid (∀ t, Calls Try.prog 12 #[.agg #[.int .i64 x, .int .i64 y, .int .i64 a, .int .i64 b], .int .i64 c] t fun e w' => Cv t w' e L er) := hc2
      clear hL hc1 hc2
      obtain ⟨r0, r1, r2, r3⟩ := HFr.out
      go_wp2_with fail
      refine (HC1.out _).mono ?_
      rintro e w1 ⟨a1, c1, rfl, h1, hb⟩
      have HB1 : Hid (Below pr W w1) := HBr.out.trans (hb.mono (Nat.le_of_lt HSr.out))
      have HF1 : Hid (Fr w1 pr x y a b) := HFr.out.below hb HSr.out
      have HS1 : Hid (pr < w1.heap.size) := Nat.lt_of_lt_of_le HSr.out hb.size
      have HW1 : Hid (Wq w1 pr a1 L) := by
        rcases h1 with h1 | ⟨g, e1, hr, hg⟩
        · exact Or.inl h1
        · exact Or.inr ⟨g, L, e1, rfl, hr, Nat.lt_of_lt_of_le HSr.out hg⟩
      have HR1 : Hid (Sr w1 a1 L) := by
        rcases h1 with h1 | ⟨g, e1, hr, hg⟩
        · exact Or.inl h1
        · rw [e1]; exact hr.sr
      clear hb h1 HC1 HBr HFr HSr r0 r1 r2 r3
      obtain ⟨r0, r1, r2, r3⟩ := HF1.out
      go_wp2_with fail
      refine (HC2.out _).mono ?_
      rintro e w2 ⟨a2, c2, rfl, h2, hb⟩
      have HB2 : Hid (Below pr W w2) := HB1.out.trans (hb.mono (Nat.le_of_lt HS1.out))
      have HF2 : Hid (Fr w2 pr x y a b) := HF1.out.below hb HS1.out
      have HS2 : Hid (pr < w2.heap.size) := Nat.lt_of_lt_of_le HS1.out hb.size
      have HW2 : Hid (Wq w2 pr a1 L) := HW1.out.to hb
      have HR2 : Hid (Sr w2 a1 L) := Sr.to HR1.out hb
      have HQ2 : Hid (Sr w2 a2 L) := by
        rcases h2 with h2 | ⟨g, e1, hr, hg⟩
        · exact Or.inl h2
        · rw [e1]; exact hr.sr
      clear hb h2 HC2 HB1 HF1 HS1 HW1 HR1 r0 r1 r2 r3
      go_wp2_with fail
      refine (rsame_self HR2.out HQ2.out (by have := HL.out; omega)).mono ?_
      rintro e w3 ⟨rfl, hb⟩
      have HB3 : Hid (Below pr W w3) := HB2.out.trans (hb.mono (Nat.le_of_lt HS2.out))
      have HF3 : Hid (Fr w3 pr x y a b) := HF2.out.below hb HS2.out
      have HS3 : Hid (pr < w3.heap.size) := Nat.lt_of_lt_of_le HS2.out hb.size
      have HW3 : Hid (Wq w3 pr a1 L) := HW2.out.to hb
      clear hb HB2 HF2 HS2 HW2 HR2 HQ2
      go_wp2_with fail
      go_loopw [17] (fun i wi => ∃ j : Nat, j ≤ L.length ∧ i = .int .i64 j ∧ Below pr W wi ∧ Fr wi pr x y a b ∧ pr < wi.heap.size ∧ Wq wi pr a1 L) (fun i _ => L.length - (intOf i).toNat)
      case atStart => exact ⟨0, by omega, rfl, HB3.out, HF3.out, HS3.out, HW3.out⟩
      case round =>
        clear HB3 HF3 HS3 HW3
        obtain ⟨j, hj, rfl, hb, hf, hs, hw⟩ := hrel
        have HBi : Hid (Below pr W wr) := hb
        have HFi : Hid (Fr wr pr x y a b) := hf
        have HSi : Hid (pr < wr.heap.size) := hs
        have HWi : Hid (Wq wr pr a1 L) := hw
        clear hb hf hs hw
        by_cases hlj : j < L.length
        · have hW := HWi.out
          rcases hW with hW | ⟨g, M, e1, hM, hr, hg⟩
          · rw [hW] at hlj; simp at hlj
          · subst e1
            have hcl := hr.cl (j := j) (by omega)
            obtain ⟨q0, q1, q2, q3⟩ := hcl
            have t0 := hr.thaw (j * 4)
            have t1 := hr.thaw (j * 4 + 1)
            have t2 := hr.thaw (j * 4 + 2)
            have t3 := hr.thaw (j * 4 + 3)
            have HRi : Hid (Hr wr g M) := hr
            have HM : Hid (M.length = L.length) := hM
            have HG : Hid (pr < g) := hg
            have j0 : (0 : Int) ≤ (j : Int) := by omega
            have j1 : (j : Int) < (L.length : Int) := by omega
            have hL4 : L.length ≤ 4 := HL.out
            generalize M.getD j rz = old at *
            clear hr hM hg
            go_wp2_with fail
            go_roundw
            case rel =>
              have hpg : pr ≠ g := Nat.ne_of_lt HG.out
              have hpl : pr ≤ g := Nat.le_of_lt HG.out
              have hf4 := Cl4.far (Cl4.far (Cl4.far (Cl4.far (b := pr) (o := 0) (r := (x, y, a, b)) ⟨HFi.out.r0, HFi.out.r1, HFi.out.r2, HFi.out.r3⟩ (a := ⟨g, j * 4, none⟩) hpg (.int .i64 0)) (a := ⟨g, j * 4 + 1, none⟩) hpg (.int .i64 0)) (a := ⟨g, j * 4 + 2, none⟩) hpg (.int .i64 0)) (a := ⟨g, j * 4 + 3, none⟩) hpg (.int .i64 0)
              refine ⟨j + 1, by omega, by go_num, below_set (below_set (below_set (below_set HBi.out hpl _) hpl _) hpl _) hpl _, ⟨hf4.c0, hf4.c1, hf4.c2, hf4.c3⟩, by simpa using HSi.out, Or.inr ⟨g, M.set j rz, rfl, by rw [List.length_set]; exact HM.out, HRi.out.set j rz, HG.out⟩⟩
            case measure => simp [intOf]; omega
        · have j1 : (L.length : Int) ≤ (j : Int) := by omega
          go_wp2_with fail
          go_roundw
          case rel => exact ⟨n + 1, HN.out, by go_num, HBi.out, HFi.out, HSi.out⟩
          case measure => have := HN.out; simp [intOf]; omega
    · obtain rfl : n = 13 := by omega
      go_wp2_with fail
      refine (works_true _).mono ?_
      rintro e w9 ⟨rfl, hb⟩
      have HB9 : Hid (Below pr W w9) := HBr.out.trans (hb.mono (Nat.le_of_lt HSr.out))
      clear hb
      go_wp2_with fail
      go_ret
      exact ⟨rfl, by rw [HP.out]; exact HB9.out⟩
end Go.Proofs.Ytjijgeeejhijhaa
