/- DERIVED. The walks of the document's Same and of the statements' own 'copied' and 'kept'. -/
import Derived.Test.YtpijgdfhkmailaaLb
namespace Go.Proofs.Ytpijgdfhkmailaa
open Go.RowKit

/-- a row grows, and again -/
theorem grown_trans {a b c : World} {r r' : Option Nat} (h : a.grownBy b r) (k : b.grownBy c r') (hr : ∀ g, r' = some g → r = some g ∨ a.heap.size ≤ g) : a.grownBy c r :=
  ⟨k.os.trans h.os, k.tape.trans h.tape, k.output.trans h.output, Nat.le_trans h.size k.size, fun i hi hne => by
    rw [k.block i (Nat.lt_of_lt_of_le hi h.size) (fun e => by rcases hr i e.symm with e | e; exact hne e.symm; omega)]
    exact h.block i hi hne⟩
theorem grown_below {B : Nat} {a b : World} {r : Option Nat} (h : a.grownBy b r) (hB : B ≤ a.heap.size) (hr : ∀ g, r = some g → B ≤ g) : Below B a b :=
  ⟨h.os, h.tape, h.output, h.size, fun i hi => h.block i (by omega) (fun e => by have := hr i e.symm; omega)⟩
theorem below_grown {a b : World} (h : Below a.heap.size a b) (r : Option Nat) : a.grownBy b r := ⟨h.os, h.tape, h.output, h.size, fun i hi _ => h.block i hi⟩

theorem Ow.drew {w : World} {B g n c : Nat} {C : List Nat} (h : Ow w B g n c C) : Ow w.drew B g n c C := h.carry rfl

/-- 'append(c, x)' on a row of 16-bit numbers -/
theorem wpList_append_num (wr : World) {ops : Array Oper} {rest : List Oper} {o : Oper} {a : Act} {Q : Exit → Act → World → Prop} (hgd : o.guard = none) (s x : Operand)
    (ho : o.op = .call { callee := .builtin .append, args := #[s, x], argTypes := #[22, 22] })
    (B n : Nat) (C : List Nat) (v : Value) (X : Int) (y : Nat) (hX : X = (y : Int)) (hn : C.length = n) (hown : wr.ownsRow B 49 1 v n (ns .u16 C)) (hB : B ≤ wr.heap.size) (hL : n < 70368744177664)
    (hs : a.eval s = v) (hx : a.eval x = .slice (some ⟨wr.heap.size, 0, none⟩) 1 1)
    (h : ∀ g cap w', Ow w' B g (n + 1) cap (C ++ [y]) → wr.grownBy w' v.ownBlock → (v.ownBlock = some g ∨ wr.heap.size ≤ g) → wpList Try.prog ops Q rest (a.put o.dst (.slice (some ⟨g, 0, none⟩) (n + 1) cap)) w') :
    wpList Try.prog ops Q (o :: rest) a (wr.alloc (.cells #[.int .u16 X] 49)) := by
  subst hX
  obtain ⟨i, hi, hz0, hz1, hz2⟩ := info_parts Try.info49
  have hnews : ∀ j u, (ns .u16 [y])[j]? = some u → (wr.alloc (.cells #[.int .u16 (y : Int)] 49)).cell? ((⟨wr.heap.size, 0, none⟩ : Addr).add j) = some u := World.news_of_block (cs := #[.int .u16 (y : Int)]) (heap_alloc_new wr _)
  refine wpList_append_lies _ hgd s x 22 ho B 49 i (.int .u16 0) 1 2 Try.underlying22 hi hz0 hz1 hz2 rfl (by omega) v n (ns .u16 C) hs (hown.alloc _) ⟨wr.heap.size, 0, none⟩ 1 1 (ns .u16 [y]) hx (by rfl) hnews (ns_one _ _) (by omega) (by unfold maxLen; omega) (by omega) (by simp; omega) (wr.heap.size + 1) (by simp) ?_
  intro g cap w' hown' hgrow hat _
  refine h g cap w' ⟨by rw [ns_append]; exact hown'⟩ ?_ ?_
  · exact grown_trans (below_grown (from_alloc wr _) _) hgrow (fun g hg => Or.inl hg)
  · rcases hat with e | e
    · exact Or.inl e
    · right; omega

set_option maxRecDepth 100000 in
set_option maxHeartbeats 1000000 in
theorem same_true {w : World} {a a2 : Option Addr} {c c2 : Nat} {C : List Nat} {n : Int} (h : Sl w .u16 a C) (h2 : Sl w .u16 a2 C) (hl : C.length ≤ 140737488355328) :
    Calls Try.prog 25 #[.agg #[.slice a C.length c, .int .i64 n], .agg #[.slice a2 C.length c2, .int .i64 n]] w fun e w' => e = .returned (.bool true) ∧ Below w.heap.size w w' := by
  by_cases h0 : C.length = 0
  · rw [h0]
    have HB : Hid (Below w.heap.size w ((w.alloc (.cells #[.slice a 0 c, .int .i64 n] 24)).alloc (.cells #[.slice a2 0 c2, .int .i64 n] 24))) := to_alloc (from_alloc _ _) _
    go_enter Try.func25, Try.ntmps25
    go_wp2
    go_loop [5] (fun i => i = .int .i64 0) (fun _ => 0)
    case atStart => rfl
    case round =>
      subst hrel
      go_wp2
      go_ret
      exact ⟨rfl, HB.out⟩
  · obtain ⟨b, o, rfl, hbl, hcell⟩ := h.form (by omega)
    obtain ⟨b2, o2, rfl, hbl2, hcell2⟩ := h2.form (by omega)
    have hbe : Below w.heap.size w ((w.alloc (.cells #[.slice (some ⟨b, o, none⟩) C.length c, .int .i64 n] 24)).alloc (.cells #[.slice (some ⟨b2, o2, none⟩) C.length c2, .int .i64 n] 24)) := to_alloc (from_alloc _ _) _
    have q1 : ∀ m, (((w.alloc (.cells #[.slice (some ⟨b, o, none⟩) C.length c, .int .i64 n] 24)).alloc (.cells #[.slice (some ⟨b2, o2, none⟩) C.length c2, .int .i64 n] 24)).drewN m).cell? ⟨w.heap.size, 0, none⟩ = some (.slice (some ⟨b, o, none⟩) C.length c) := fun m => by
      show ((w.alloc _).alloc _).cell? _ = _
      rw [World.cell?_alloc_lt _ _ _ (by simp)]; simp
    have q4 : ∀ m, (((w.alloc (.cells #[.slice (some ⟨b, o, none⟩) C.length c, .int .i64 n] 24)).alloc (.cells #[.slice (some ⟨b2, o2, none⟩) C.length c2, .int .i64 n] 24)).drewN m).cell? ⟨w.heap.size + 1, 0, none⟩ = some (.slice (some ⟨b2, o2, none⟩) C.length c2) := fun m => by simp
    have q2 : ∀ m j, j < C.length → (((w.alloc (.cells #[.slice (some ⟨b, o, none⟩) C.length c, .int .i64 n] 24)).alloc (.cells #[.slice (some ⟨b2, o2, none⟩) C.length c2, .int .i64 n] 24)).drewN m).cell? ⟨b, o + j, none⟩ = some (.int .u16 (C.getD j 0 : Nat)) := fun m j hj => by
      show ((w.alloc _).alloc _).cell? _ = _
      rw [newCell hbe b _ hbl]; exact hcell _ hj
    have q3 : ∀ m j, j < C.length → (((w.alloc (.cells #[.slice (some ⟨b, o, none⟩) C.length c, .int .i64 n] 24)).alloc (.cells #[.slice (some ⟨b2, o2, none⟩) C.length c2, .int .i64 n] 24)).drewN m).cell? ⟨b2, o2 + j, none⟩ = some (.int .u16 (C.getD j 0 : Nat)) := fun m j hj => by
      show ((w.alloc _).alloc _).cell? _ = _
      rw [newCell hbe b2 _ hbl2]; exact hcell2 _ hj
    have HB : Hid (∀ m, Below w.heap.size w (((w.alloc (.cells #[.slice (some ⟨b, o, none⟩) C.length c, .int .i64 n] 24)).alloc (.cells #[.slice (some ⟨b2, o2, none⟩) C.length c2, .int .i64 n] 24)).drewN m)) := fun m => below_drewN hbe m
    have Q1 : Hid _ := q1
    have Q2 : Hid _ := q2
    have Q3 : Hid _ := q3
    have Q4 : Hid _ := q4
    clear q1 q2 q3 q4 hcell hcell2 h h2 hbe
    go_enter Try.func25, Try.ntmps25
    go_wp2
    generalize (w.alloc (.cells #[.slice (some ⟨b, o, none⟩) C.length c, .int .i64 n] 24)).alloc (.cells #[.slice (some ⟨b2, o2, none⟩) C.length c2, .int .i64 n] 24) = W at *
    go_loopw [5] (fun i wr => ∃ k m : Nat, k ≤ C.length ∧ i = .int .i64 k ∧ wr = W.drewN m) (fun i _ => C.length - (intOf i).toNat)
    case atStart => exact ⟨0, 0, by omega, rfl, rfl⟩
    case round =>
      obtain ⟨k, m, hk, rfl, rfl⟩ := hrel
      have r0 := Q1.out m
      have r3 := Q4.out m
      by_cases hlt : k < C.length
      · have r1 := Q2.out m k hlt
        have r2 := Q3.out m k hlt
        have b0 : 0 ≤ (k : Int) := by omega
        have b1 : (k : Int) < (C.length : Int) := by omega
        generalize C.getD k 0 = p1 at *
        have hne : ((p1 : Int) != (p1 : Int)) = false := by simp
        generalize hW : W.drewN m = u at *
        have HW : Hid (W.drewN m = u) := hW
        clear hW
        go_wp2
        go_quiet (fail)
        go_wp2
        go_roundw
        case rel => exact ⟨k + 1, m + nq, by omega, by go_num, by rw [← HW.out]; exact drewN_drewN _ _ _⟩
        case measure => simp [intOf]; omega
      · have b1 : ¬ (k : Int) < (C.length : Int) := by omega
        go_wp2
        go_ret
        exact ⟨rfl, HB.out m⟩

/-- a copy with marked room behind it -/
structure Cp (w : World) (B g c : Nat) (C : List Nat) : Prop where
  own : Ow w B g (C.length + 3) c (C ++ [7777, 7777, 7777])
theorem Cp.to {w w' : World} {B g c : Nat} {C : List Nat} (h : Cp w B g c C) (hb : Below w.heap.size w w') : Cp w' B g c C := ⟨h.own.to hb⟩
theorem Cp.cell {w : World} {B g c : Nat} {C : List Nat} (h : Cp w B g c C) (j : Nat) (hj : j < C.length) : w.cell? ⟨g, j, none⟩ = some (.int .u16 (C.getD j 0 : Nat)) := by
  have := h.own.cell j (by omega)
  rw [List.getD_eq_getElem?_getD, List.getElem?_append_left hj, ← List.getD_eq_getElem?_getD] at this
  exact this
theorem Cp.room {w : World} {B g c : Nat} {C : List Nat} (h : Cp w B g c C) (j : Nat) (hj : j < 3) : w.cell? ⟨g, C.length + j, none⟩ = some (.int .u16 7777) := by
  have := h.own.cell (C.length + j) (by omega)
  rw [List.getD_eq_getElem?_getD, List.getElem?_append_right (by omega), show C.length + j - C.length = j from by omega] at this
  rcases (show j = 0 ∨ j = 1 ∨ j = 2 by omega) with rfl | rfl | rfl <;> simpa using this
theorem Cp.sl {w : World} {B g c : Nat} {C : List Nat} (h : Cp w B g c C) : Sl w .u16 (some ⟨g, 0, none⟩) C :=
  Or.inr ⟨g, 0, rfl, h.own.lies.2, fun j hj => by rw [Nat.zero_add]; exact h.cell j hj⟩

set_option maxRecDepth 100000 in
set_option maxHeartbeats 1000000 in
theorem copied_any {w : World} {a : Option Addr} {c : Nat} {C : List Nat} {n : Int} (h : Sl w .u16 a C) (hl : C.length ≤ 70368744175616) :
    Calls Try.prog 9 #[.agg #[.slice a C.length c, .int .i64 n]] w fun e w' => ∃ g c', e = .returned (.agg #[.slice (some ⟨g, 0, none⟩) C.length c', .int .i64 n]) ∧ Cp w' w.heap.size g c' C ∧ Below w.heap.size w w' := by
  obtain ⟨i, hi, hy0, hy1, hy2⟩ := info_parts Try.info49
  have hz0 : ((w.alloc (.cells #[.slice a C.length c, .int .i64 n] 24)).alloc (.cells #[.slice none 0 0, .int .i64 0] 24)).cell? ⟨w.heap.size, 0, none⟩ = some (.slice a C.length c) := by rw [World.cell?_alloc_lt _ _ _ (by simp)]; simp
  have hz1 : ((w.alloc (.cells #[.slice a C.length c, .int .i64 n] 24)).alloc (.cells #[.slice none 0 0, .int .i64 0] 24)).cell? ⟨w.heap.size, 1, none⟩ = some (.int .i64 n) := by rw [World.cell?_alloc_lt _ _ _ (by simp)]; simp
  have hz2 : ((w.alloc (.cells #[.slice a C.length c, .int .i64 n] 24)).alloc (.cells #[.slice none 0 0, .int .i64 0] 24)).cell? ⟨w.heap.size + 1, 0, none⟩ = some (.slice none 0 0) := by simp
  have hz3 : ((w.alloc (.cells #[.slice a C.length c, .int .i64 n] 24)).alloc (.cells #[.slice none 0 0, .int .i64 0] 24)).cell? ⟨w.heap.size + 1, 1, none⟩ = some (.int .i64 0) := by simp
  have hz4 : ((w.alloc (.cells #[.slice a C.length c, .int .i64 n] 24)).alloc (.cells #[.slice none 0 0, .int .i64 0] 24)).frozen? ⟨w.heap.size + 1, 0, none⟩ = false := by simp
  have hz5 : ((w.alloc (.cells #[.slice a C.length c, .int .i64 n] 24)).alloc (.cells #[.slice none 0 0, .int .i64 0] 24)).frozen? ⟨w.heap.size + 1, 1, none⟩ = false := by simp
  have hws : ((w.alloc (.cells #[.slice a C.length c, .int .i64 n] 24)).alloc (.cells #[.slice none 0 0, .int .i64 0] 24)).heap.size = w.heap.size + 2 := by simp
  have HWs : Hid _ := hws
  have HBW : Hid (Below w.heap.size w ((w.alloc (.cells #[.slice a C.length c, .int .i64 n] 24)).alloc (.cells #[.slice none 0 0, .int .i64 0] 24))) := to_alloc (from_alloc _ _) _
  have HSL : Hid (Sl ((w.alloc (.cells #[.slice a C.length c, .int .i64 n] 24)).alloc (.cells #[.slice none 0 0, .int .i64 0] 24)) .u16 a C) := h.to HBW.out
  clear h hws
  by_cases h0 : C.length = 0
  · obtain rfl : C = [] := List.eq_nil_of_length_eq_zero h0
    have hBW : Below (w.heap.size + 2) ((w.alloc (.cells #[.slice a 0 c, .int .i64 n] 24)).alloc (.cells #[.slice none 0 0, .int .i64 0] 24)) ((w.alloc (.cells #[.slice a 0 c, .int .i64 n] 24)).alloc (.cells #[.slice none 0 0, .int .i64 0] 24)) := Below.refl _ _
    have HOW : Hid (((w.alloc (.cells #[.slice a 0 c, .int .i64 n] 24)).alloc (.cells #[.slice none 0 0, .int .i64 0] 24)).ownsRow (w.heap.size + 2) 49 1 (.slice none 0 0) ([] : List Nat).length (ns .u16 [])) := World.ownsRow_nil _ _ _ _
    simp only [List.length_nil] at *
    go_enter Try.func9, Try.ntmps9
    cases a with
    | none =>
      go_wp2_with fail
      generalize ((w.alloc (.cells #[.slice none 0 c, .int .i64 n] 24)).alloc (.cells #[.slice none 0 0, .int .i64 0] 24)) = W at *
      have HS3 : Hid (Below (w.heap.size + 2) W W) := hBW
      clear hBW
      go_wp2_with fail
      go_loopw [3, 4] (fun cv iv wr => ∃ (k : Nat) (a' : Option Addr) (c' : Nat), k ≤ 3 ∧ iv = .int .i64 k ∧ cv = .slice a' (k) c' ∧ (0 < k → ∃ g, a' = some ⟨g, 0, none⟩) ∧ wr.ownsRow (w.heap.size + 2) 49 1 (.slice a' (k) c') (k) (ns .u16 (List.replicate k 7777)) ∧ Below (w.heap.size + 2) W wr) (fun _ iv _ => 3 - (intOf iv).toNat)
      case atStart => exact ⟨0, _, _, by omega, rfl, rfl, fun h => by omega, HOW.out, HS3.out⟩
      case round =>
        obtain ⟨k, a', c', hk, rfl, rfl, hka, hown, hb⟩ := hrel
        have HB : Hid (Below (w.heap.size + 2) W wr) := hb
        have hsz := hb.size
        have HO : Hid (wr.ownsRow (w.heap.size + 2) 49 1 (.slice a' (k) c') (k) (ns .u16 (List.replicate k 7777))) := hown
        have HKA : Hid _ := hka
        clear hb hown hka
        rw [HWs.out] at hsz
        by_cases hlt : k < 3
        · have hlt' : (k : Int) < 3 := by omega
          go_wp2_with (at_builtin; refine wpList_append_num _ (by rfl) _ _ (by rfl) (w.heap.size + 2) (k) (List.replicate k 7777) (.slice a' (k) c') 7777 7777 rfl (by simp) HO.out hsz (by omega) (by rfl) (by rfl) ?_; intro g cap w' how' hgr' hat')
          go_roundw
          case rel =>
            refine ⟨k + 1, _, cap, by omega, by go_num, rfl, fun _ => ⟨g, rfl⟩, ?_, HB.out.trans (grown_below hgr' hsz (fun g hg => (HO.out.lt g hg).1))⟩
            have := how'.own
            rw [← List.replicate_succ'] at this
            exact this
          case measure => simp [intOf]; omega
        · have hk3 : k = 3 := by omega
          subst hk3
          obtain ⟨g, rfl⟩ := HKA.out (by omega)
          have d0 : wr.cell? ⟨w.heap.size, 0, none⟩ = some (.slice none 0 c) := by rw [newCell HB.out _ _ (by omega)]; exact hz0
          have d1 : wr.cell? ⟨w.heap.size, 1, none⟩ = some (.int .i64 n) := by rw [newCell HB.out _ _ (by omega)]; exact hz1
          have d2 : wr.cell? ⟨w.heap.size + 1, 0, none⟩ = some (.slice none 0 0) := by rw [newCell HB.out _ _ (by omega)]; exact hz2
          have d3 : wr.cell? ⟨w.heap.size + 1, 1, none⟩ = some (.int .i64 0) := by rw [newCell HB.out _ _ (by omega)]; exact hz3
          have f0 : wr.frozen? ⟨w.heap.size + 1, 0, none⟩ = false := by rw [newFrozen HB.out _ _ (by omega)]; exact hz4
          have f1 : wr.frozen? ⟨w.heap.size + 1, 1, none⟩ = false := by rw [newFrozen HB.out _ _ (by omega)]; exact hz5
          have hcap := own_cap HO.out
          have b0 : (0 : Int) ≤ (c' : Int) := by omega
          have b1 : (0 : Int) ≤ (0 : Int) := by omega
          have hgl := (HO.out.lt g rfl).1
          have HGL : Hid (w.heap.size + 2 ≤ g) := hgl
          clear hgl
          go_wp2_with fail
          go_region
          all_goals
            go_wp2_with fail
            refine bodyPost_ret (v := .agg #[.slice (some ⟨g, 0, none⟩) 0 c', .int .i64 n]) (by simp [results, Try.results9, go_sem, d2, d3]) rfl ⟨g, c', rfl, ⟨?_⟩, ?_⟩
            · have hg := HGL.out
              have ho : Ow wr (w.heap.size + 2) g (3) c' [7777, 7777, 7777] := ⟨HO.out⟩
              exact (((ho.far (a := ⟨w.heap.size + 1, 0, none⟩) (by simp; omega) _).far (a := ⟨w.heap.size + 1, 1, none⟩) (by simp; omega) _).drew).mono (Nat.le_add_right _ 2)
            · exact below_drew (below_set (below_set (HBW.out.trans (HB.out.mono (Nat.le_add_right _ 2))) (Nat.le_add_right _ 1) _) (Nat.le_add_right _ 1) _)
    | some ad =>
      go_wp2_with fail
      generalize ((w.alloc (.cells #[.slice (some ad) 0 c, .int .i64 n] 24)).alloc (.cells #[.slice none 0 0, .int .i64 0] 24)) = W at *
      have HS3 : Hid (Below (w.heap.size + 2) W W) := hBW
      clear hBW
      go_wp2_with fail
      go_loopw [3, 4] (fun cv iv wr => ∃ (k : Nat) (a' : Option Addr) (c' : Nat), k ≤ 3 ∧ iv = .int .i64 k ∧ cv = .slice a' (k) c' ∧ (0 < k → ∃ g, a' = some ⟨g, 0, none⟩) ∧ wr.ownsRow (w.heap.size + 2) 49 1 (.slice a' (k) c') (k) (ns .u16 (List.replicate k 7777)) ∧ Below (w.heap.size + 2) W wr) (fun _ iv _ => 3 - (intOf iv).toNat)
      case atStart => exact ⟨0, _, _, by omega, rfl, rfl, fun h => by omega, HOW.out, HS3.out⟩
      case round =>
        obtain ⟨k, a', c', hk, rfl, rfl, hka, hown, hb⟩ := hrel
        have HB : Hid (Below (w.heap.size + 2) W wr) := hb
        have hsz := hb.size
        have HO : Hid (wr.ownsRow (w.heap.size + 2) 49 1 (.slice a' (k) c') (k) (ns .u16 (List.replicate k 7777))) := hown
        have HKA : Hid _ := hka
        clear hb hown hka
        rw [HWs.out] at hsz
        by_cases hlt : k < 3
        · have hlt' : (k : Int) < 3 := by omega
          go_wp2_with (at_builtin; refine wpList_append_num _ (by rfl) _ _ (by rfl) (w.heap.size + 2) (k) (List.replicate k 7777) (.slice a' (k) c') 7777 7777 rfl (by simp) HO.out hsz (by omega) (by rfl) (by rfl) ?_; intro g cap w' how' hgr' hat')
          go_roundw
          case rel =>
            refine ⟨k + 1, _, cap, by omega, by go_num, rfl, fun _ => ⟨g, rfl⟩, ?_, HB.out.trans (grown_below hgr' hsz (fun g hg => (HO.out.lt g hg).1))⟩
            have := how'.own
            rw [← List.replicate_succ'] at this
            exact this
          case measure => simp [intOf]; omega
        · have hk3 : k = 3 := by omega
          subst hk3
          obtain ⟨g, rfl⟩ := HKA.out (by omega)
          have d0 : wr.cell? ⟨w.heap.size, 0, none⟩ = some (.slice (some ad) 0 c) := by rw [newCell HB.out _ _ (by omega)]; exact hz0
          have d1 : wr.cell? ⟨w.heap.size, 1, none⟩ = some (.int .i64 n) := by rw [newCell HB.out _ _ (by omega)]; exact hz1
          have d2 : wr.cell? ⟨w.heap.size + 1, 0, none⟩ = some (.slice none 0 0) := by rw [newCell HB.out _ _ (by omega)]; exact hz2
          have d3 : wr.cell? ⟨w.heap.size + 1, 1, none⟩ = some (.int .i64 0) := by rw [newCell HB.out _ _ (by omega)]; exact hz3
          have f0 : wr.frozen? ⟨w.heap.size + 1, 0, none⟩ = false := by rw [newFrozen HB.out _ _ (by omega)]; exact hz4
          have f1 : wr.frozen? ⟨w.heap.size + 1, 1, none⟩ = false := by rw [newFrozen HB.out _ _ (by omega)]; exact hz5
          have hcap := own_cap HO.out
          have b0 : (0 : Int) ≤ (c' : Int) := by omega
          have b1 : (0 : Int) ≤ (0 : Int) := by omega
          have hgl := (HO.out.lt g rfl).1
          have HGL : Hid (w.heap.size + 2 ≤ g) := hgl
          clear hgl
          go_wp2_with fail
          go_region
          all_goals
            go_wp2_with fail
            refine bodyPost_ret (v := .agg #[.slice (some ⟨g, 0, none⟩) 0 c', .int .i64 n]) (by simp [results, Try.results9, go_sem, d2, d3]) rfl ⟨g, c', rfl, ⟨?_⟩, ?_⟩
            · have hg := HGL.out
              have ho : Ow wr (w.heap.size + 2) g (3) c' [7777, 7777, 7777] := ⟨HO.out⟩
              exact (((ho.far (a := ⟨w.heap.size + 1, 0, none⟩) (by simp; omega) _).far (a := ⟨w.heap.size + 1, 1, none⟩) (by simp; omega) _).drew).mono (Nat.le_add_right _ 2)
            · exact below_drew (below_set (below_set (HBW.out.trans (HB.out.mono (Nat.le_add_right _ 2))) (Nat.le_add_right _ 1) _) (Nat.le_add_right _ 1) _)
  · obtain ⟨b, o, rfl, hbl, hcell⟩ := HSL.out.form (by omega)
    have hnews : ∀ j u, (ns .u16 C)[j]? = some u → ((w.alloc (.cells #[.slice (some ⟨b, o, none⟩) C.length c, .int .i64 n] 24)).alloc (.cells #[.slice none 0 0, .int .i64 0] 24)).cell? ((⟨b, o, none⟩ : Addr).add j) = some u := by
      intro j u hu
      have hj : j < C.length := by have := List.getElem?_eq_some_iff.1 hu; obtain ⟨h1, _⟩ := this; rw [ns_length] at h1; exact h1
      rw [ns_get _ C j hj] at hu
      rw [← hu, addr_add]
      exact hcell j hj
    clear hcell
    go_enter Try.func9, Try.ntmps9
    go_wp2_with (at_builtin; refine wpList_append_lies _ (by rfl) _ _ _ (by rfl) (w.heap.size + 2) 49 i (.int .u16 0) 1 2 Try.underlying22 hi hy0 hy1 hy2 rfl (by omega) _ 0 [] (by rfl) (World.ownsRow_nil _ _ _ _) ⟨b, o, none⟩ C.length c (ns .u16 C) (by rfl) (by rw [ns_length, Nat.mul_one]) hnews (ns_one _ C) (by omega) (by unfold maxLen; omega) (by omega) (by simp) (w.heap.size + 2) (by simp) ?_; intro g cap W1 hown1 hgrow hat hlt)
    rw [List.nil_append, Nat.zero_add] at hown1
    have hBW : Below (w.heap.size + 2) ((w.alloc (.cells #[.slice (some ⟨b, o, none⟩) C.length c, .int .i64 n] 24)).alloc (.cells #[.slice none 0 0, .int .i64 0] 24)) W1 := grown_below hgrow (by simp) (fun g hg => by simp [Value.ownBlock] at hg)
    have HOW : Hid (W1.ownsRow (w.heap.size + 2) 49 1 (.slice (some ⟨g, 0, none⟩) C.length cap) C.length (ns .u16 C)) := hown1
    clear hown1 hgrow hnews
    generalize ((w.alloc (.cells #[.slice (some ⟨b, o, none⟩) C.length c, .int .i64 n] 24)).alloc (.cells #[.slice none 0 0, .int .i64 0] 24)) = W at *
    have HS3 : Hid (Below (w.heap.size + 2) W W1) := hBW
    clear hBW
    go_wp2_with fail
    go_loopw [3, 4] (fun cv iv wr => ∃ (k : Nat) (a' : Option Addr) (c' : Nat), k ≤ 3 ∧ iv = .int .i64 k ∧ cv = .slice a' (C.length + k) c' ∧ (0 < k → ∃ g, a' = some ⟨g, 0, none⟩) ∧ wr.ownsRow (w.heap.size + 2) 49 1 (.slice a' (C.length + k) c') (C.length + k) (ns .u16 (C ++ List.replicate k 7777)) ∧ Below (w.heap.size + 2) W wr) (fun _ iv _ => 3 - (intOf iv).toNat)
    case atStart => exact ⟨0, _, _, by omega, rfl, rfl, fun h => by omega, by rw [List.replicate_zero, List.append_nil]; exact HOW.out, HS3.out⟩
    case round =>
      obtain ⟨k, a', c', hk, rfl, rfl, hka, hown, hb⟩ := hrel
      have HB : Hid (Below (w.heap.size + 2) W wr) := hb
      have hsz := hb.size
      have HO : Hid (wr.ownsRow (w.heap.size + 2) 49 1 (.slice a' (C.length + k) c') (C.length + k) (ns .u16 (C ++ List.replicate k 7777))) := hown
      have HKA : Hid _ := hka
      clear hb hown hka
      rw [HWs.out] at hsz
      by_cases hlt : k < 3
      · have hlt' : (k : Int) < 3 := by omega
        go_wp2_with (at_builtin; refine wpList_append_num _ (by rfl) _ _ (by rfl) (w.heap.size + 2) (C.length + k) (C ++ List.replicate k 7777) (.slice a' (C.length + k) c') 7777 7777 rfl (by simp) HO.out hsz (by omega) (by rfl) (by rfl) ?_; intro g cap w' how' hgr' hat')
        go_roundw
        case rel =>
          refine ⟨k + 1, _, cap, by omega, by go_num, rfl, fun _ => ⟨g, rfl⟩, ?_, HB.out.trans (grown_below hgr' hsz (fun g hg => (HO.out.lt g hg).1))⟩
          have := how'.own
          rw [List.append_assoc, ← List.replicate_succ'] at this
          exact this
        case measure => simp [intOf]; omega
      · have hk3 : k = 3 := by omega
        subst hk3
        obtain ⟨g, rfl⟩ := HKA.out (by omega)
        have d0 : wr.cell? ⟨w.heap.size, 0, none⟩ = some (.slice (some ⟨b, o, none⟩) C.length c) := by rw [newCell HB.out _ _ (by omega)]; exact hz0
        have d1 : wr.cell? ⟨w.heap.size, 1, none⟩ = some (.int .i64 n) := by rw [newCell HB.out _ _ (by omega)]; exact hz1
        have d2 : wr.cell? ⟨w.heap.size + 1, 0, none⟩ = some (.slice none 0 0) := by rw [newCell HB.out _ _ (by omega)]; exact hz2
        have d3 : wr.cell? ⟨w.heap.size + 1, 1, none⟩ = some (.int .i64 0) := by rw [newCell HB.out _ _ (by omega)]; exact hz3
        have f0 : wr.frozen? ⟨w.heap.size + 1, 0, none⟩ = false := by rw [newFrozen HB.out _ _ (by omega)]; exact hz4
        have f1 : wr.frozen? ⟨w.heap.size + 1, 1, none⟩ = false := by rw [newFrozen HB.out _ _ (by omega)]; exact hz5
        have hcap := own_cap HO.out
        have b0 : (C.length : Int) ≤ (c' : Int) := by omega
        have b1 : (0 : Int) ≤ (C.length : Int) := by omega
        have hgl := (HO.out.lt g rfl).1
        have HGL : Hid (w.heap.size + 2 ≤ g) := hgl
        clear hgl
        go_wp2_with fail
        go_region
        all_goals
          go_wp2_with fail
          refine bodyPost_ret (v := .agg #[.slice (some ⟨g, 0, none⟩) C.length c', .int .i64 n]) (by simp [results, Try.results9, go_sem, d2, d3]) rfl ⟨g, c', rfl, ⟨?_⟩, ?_⟩
          · have hg := HGL.out
            have ho : Ow wr (w.heap.size + 2) g (C.length + 3) c' (C ++ [7777, 7777, 7777]) := ⟨HO.out⟩
            exact (((ho.far (a := ⟨w.heap.size + 1, 0, none⟩) (by simp; omega) _).far (a := ⟨w.heap.size + 1, 1, none⟩) (by simp; omega) _).drew).mono (Nat.le_add_right _ 2)
          · exact below_drew (below_set (below_set (HBW.out.trans (HB.out.mono (Nat.le_add_right _ 2))) (Nat.le_add_right _ 1) _) (Nat.le_add_right _ 1) _)

end Go.Proofs.Ytpijgdfhkmailaa
