/- DERIVED. The document's Pair, Weights. -/
import Derived.Test.YtpideemiijhkgaaDoorMd
import Derived.Test.YtpideemiijhkgaaDoorMa
namespace Go.Proofs.YtpideemiijhkgaaDoor
open Go.RowKit

/-- 'append(c, x)' of samples in a region that draws its order -/
theorem step_append_u8 (wr : World) {ops : Array Oper} {o : Oper} {a : Act} {K : Act → World → Prop} {Q : Exit → Act → World → Prop} {E : Prop} (hgd : o.guard = none) (s x : Operand)
    (ho : o.op = .call { callee := .builtin .append, args := #[s, x], argTypes := #[22, 22] })
    (B n : Nat) (C : List Nat) (v : Value) (X : Int) (y : Nat) (hX : X = (y : Int)) (hown : wr.ownsRow B 5 1 v n (ns .u8 C)) (hB : B ≤ wr.heap.size) (hL : n < 140737488355328)
    (hs : a.eval s = v) (hx : a.eval x = .slice (some ⟨wr.heap.size, 0, none⟩) 1 1)
    (h : ∀ g cap w', w'.ownsRow B 5 1 (.slice (some ⟨g, 0, none⟩) (n + 1) cap) (n + 1) (ns .u8 (C ++ [y])) → Below B wr w' → K (a.put o.dst (.slice (some ⟨g, 0, none⟩) (n + 1) cap)) w') :
    if Region.wanted o (yielded ops a.tmps) = true then Oper.wp Tryd.prog o a (wr.alloc (.cells #[.int .u8 X] 5)).drew K Q else E := by
  subst hX
  obtain ⟨i, hi, hz0, hz1, hz2⟩ := info_parts Tryd.info5
  have hnews : ∀ j u, (ns .u8 [y])[j]? = some u → (wr.alloc (.cells #[.int .u8 (y : Int)] 5)).drew.cell? ((⟨wr.heap.size, 0, none⟩ : Addr).add j) = some u := World.news_of_block (w := wr.alloc (.cells #[.int .u8 (y : Int)] 5)) (cs := #[.int .u8 (y : Int)]) (heap_alloc_new wr _)
  refine step_append_lies _ hgd s x 22 ho B 5 i (.int .u8 0) 1 1 Tryd.underlying22 hi hz0 hz1 hz2 rfl (by omega) v n (ns .u8 C) hs (hown.alloc _).drew ⟨wr.heap.size, 0, none⟩ 1 1 (ns .u8 [y]) hx (by rfl) hnews (ns_one _ _) (by omega) (by unfold maxLen; omega) (by omega) (by simp; omega) (wr.heap.size + 1) (by simp) ?_
  intro g cap w' hown' hgrow hat hlt
  have hgr := grown_trans (below_grown (from_alloc wr _) v.ownBlock) (undrew hgrow) (fun g hg => Or.inl hg)
  have hbb := grown_below hgr hB (fun g hg => (hown.lt g hg).1)
  exact h g cap w' (by rw [ns_append]; exact hown') hbb

/-- samples and an error, wherever they lie -/
structure PaI (w : World) (n : Nat) (D : List Nat) (s i : Value) (wr : World) : Prop where
  ex : ∃ (k c : Nat) (a : Option Addr), k ≤ n ∧ i = .int .i64 k ∧ s = .slice a k c ∧ wr.ownsRow w.heap.size 5 1 (.slice a k c) k (ns .u8 (D.take k)) ∧ Below w.heap.size w wr ∧ (0 < k → ∃ g, a = some ⟨g, 0, none⟩)
/-- a list is answered, wherever it lies -/
def Rq (u w' : World) (e : Ending) (L : List Nat) : Prop := ∃ a c, e = .returned (.tuple #[.slice a L.length c, .int .i64 0]) ∧ Sl w' .u8 a L ∧ Below u.heap.size u w'

set_option maxRecDepth 100000 in
set_option maxHeartbeats 1000000 in
theorem qpair_no {u : World} {a b : Option Addr} {c d : Nat} {C D : List Nat} (hl : C.length ≠ D.length) :
    Calls Tryd.prog 17 #[.slice a C.length c, .slice b D.length d] u fun e w' => e = .returned (.tuple #[.slice none 0 0, .int .i64 2]) ∧ u = w' := by
  have hne : ((C.length : Int) != (D.length : Int)) = true := by rw [bne_iff_ne]; omega
  clear hl
  go_enter Tryd.func17, Tryd.ntmps17
  go_wp2_with fail
  go_ret2
  exact ⟨rfl, rfl⟩

set_option maxRecDepth 100000 in
set_option maxHeartbeats 2000000 in
theorem qpair_ok {u : World} {a b : Option Addr} {c d : Nat} {C D : List Nat} (hs : Sl u .u8 a C) (ht : Sl u .u8 b D) (hC : Byt C) (hD : Byt D) (hl : C.length = D.length) (hb : C.length ≤ 140737488355328) :
    Calls Tryd.prog 17 #[.slice a C.length c, .slice b D.length d] u fun e w' => Rq u w' e (prL C D) := by
  rw [← hl]
  have n1 : (C.length : Int) ≤ 140737488355328 := by omega
  have hne : ((C.length : Int) != (C.length : Int)) = false := by simp
  have HL : Hid ((prL C D).length = C.length) := prL_len C D
  have HBy : Hid (∀ k, C.getD k 0 < 256 ∧ D.getD k 0 < 256) := fun k => ⟨hC k, hD k⟩
  have HG : Hid (∀ k, k < C.length → (prL C D).getD k 0 = pr (C.getD k 0) (D.getD k 0)) := fun k hk => prL_get hk
  have HS : Hid (∀ k, k < C.length → ∃ b1 o1 b2 o2, a = some ⟨b1, o1, none⟩ ∧ b = some ⟨b2, o2, none⟩ ∧ b1 < u.heap.size ∧ b2 < u.heap.size ∧ u.cell? ⟨b1, o1 + k, none⟩ = some (.int .u8 (C.getD k 0 : Nat)) ∧ u.cell? ⟨b2, o2 + k, none⟩ = some (.int .u8 (D.getD k 0 : Nat))) := fun k hk => by
    obtain ⟨b1, o1, e1, l1, f1⟩ := hs.form (by omega)
    obtain ⟨b2, o2, e2, l2, f2⟩ := ht.form (by omega)
    exact ⟨b1, o1, b2, o2, e1, e2, l1, l2, f1 k hk, f2 k (by omega)⟩
  clear hs ht hC hD hl hb
  generalize C.length = n at *
  go_enter Tryd.func17, Tryd.ntmps17
  go_wp2_with fail
  go_loopw [6, 7] (fun s i wr => PaI u n (prL C D) s i wr) (fun _ i _ => n - (intOf i).toNat)
  case atStart => exact ⟨⟨0, 0, none, by omega, rfl, rfl, by rw [List.take_zero]; exact World.ownsRow_nil _ _ _ _, Below.refl _ _, fun h => by omega⟩⟩
  case round =>
    obtain ⟨k, c', a', hk, rfl, rfl, ho, hb, hn⟩ := hrel
    have k0 : 0 ≤ (k : Int) := by omega
    by_cases hlt : k < n
    · have k1 : (k : Int) < (n : Int) := by omega
      obtain ⟨b1, o1, b2, o2, rfl, rfl, l1, l2, f1, f2⟩ := HS.out k hlt
      obtain ⟨y1, y2⟩ := HBy.out k
      have r1 : wr.cell? ⟨b1, o1 + k, none⟩ = some (.int .u8 (C.getD k 0 : Nat)) := by rw [newCell hb _ _ l1]; exact f1
      have r2 : wr.cell? ⟨b2, o2 + k, none⟩ = some (.int .u8 (D.getD k 0 : Nat)) := by rw [newCell hb _ _ l2]; exact f2
      have HR : Hid (∀ (w5 : World) (g cap : Nat), w5.ownsRow u.heap.size 5 1 (.slice (some ⟨g, 0, none⟩) (k + 1) cap) (k + 1) (ns .u8 ((prL C D).take k ++ [pr (C.getD k 0) (D.getD k 0)])) → Below u.heap.size wr w5 → PaI u n (prL C D) (.slice (some ⟨g, 0, none⟩) (k + 1) cap) (.int .i64 ((k : Int) + 1)) w5) := by
        intro w5 g cap how hb5
        refine ⟨⟨k + 1, cap, _, by omega, by go_num, rfl, ?_, hb.trans hb5, fun _ => ⟨g, rfl⟩⟩⟩
        rw [← take_step (by rw [HL.out]; exact hlt), HG.out k hlt]
        exact how
      have HSz : Hid (u.heap.size ≤ wr.heap.size) := hb.size
      have HO : Hid _ := ho
      have HP : Hid (pr (C.getD k 0) (D.getD k 0) = (C.getD k 0 + D.getD k 0 + 1) / 2) := rfl
      generalize pr (C.getD k 0) (D.getD k 0) = m at *
      generalize C.getD k 0 = x at *
      generalize D.getD k 0 = y at *
      have x1 : (x : Int) < 256 := by omega
      have y1' : (y : Int) < 256 := by omega
      have hw1 : IntKind.i64.wrap (x : Int) = (x : Int) := by rw [IntKind.wrap_i64]; omega
      have hw2 : IntKind.i64.wrap (y : Int) = (y : Int) := by rw [IntKind.wrap_i64]; omega
      have hw3 : IntKind.i64.wrap ((x : Int) + (y : Int)) = (x : Int) + (y : Int) := by rw [IntKind.wrap_i64]; omega
      have hw4 : IntKind.i64.wrap ((x : Int) + (y : Int) + 1) = (x : Int) + (y : Int) + 1 := by rw [IntKind.wrap_i64]; omega
      have hm : ((x : Int) + (y : Int) + 1) / 2 = (m : Int) := by rw [HP.out]; omega
      have hm' : ((x : Int) + (y : Int) + 1).tdiv 2 = (m : Int) := by rw [Int.tdiv_eq_ediv_of_nonneg (by omega)]; exact hm
      have hmw : IntKind.i64.wrap (m : Int) = (m : Int) := by rw [IntKind.wrap_i64]; omega
      have hmu : IntKind.u8.wrap (m : Int) = (m : Int) := by rw [IntKind.wrap_u8]; omega
      clear ho hb hn f1 f2
      go_wp2_with fail
      go_region_law ((refine step_append_u8 _ (by rfl) _ _ (by rfl) u.heap.size k ((prL C D).take k) (.slice a' k c') _ m (by first | rfl | simp only [hw1, hw2, hw3, hw4, hm, hm', hmw, hmu]) HO.out HSz.out (by omega) (by rfl) (by rfl) ?_; intro g cap w5 how hb5))
      all_goals
        go_wp2_with fail
        go_roundw
        case rel => exact HR.out w5 g cap how hb5
        case measure => simp [intOf]; omega
    · obtain rfl : k = n := by omega
      have HSl : Hid (Sl wr .u8 a' (prL C D)) := by
        rw [List.take_of_length_le (by rw [HL.out]; exact Nat.le_refl _)] at ho
        by_cases h0 : 0 < k
        · exact own_sl HL.out.symm h0 ho (hn h0)
        · exact Or.inl (List.eq_nil_of_length_eq_zero (by rw [HL.out]; omega))
      have HB : Hid (Below u.heap.size u wr) := hb
      clear ho hb hn
      go_wp2_with fail
      go_ret2
      exact ⟨a', c', by rw [HL.out]; rfl, HSl.out, HB.out⟩

theorem takei_snoc (C : List Int) (k : Nat) (h : k < C.length) : C.take (k + 1) = C.take k ++ [C.getD k 0] := by
  rw [List.take_succ_eq_append_getElem h]
  simp [List.getD_eq_getElem?_getD, List.getElem?_eq_getElem h]
set_option maxRecDepth 100000 in
set_option maxHeartbeats 1000000 in
theorem qweights_no {u : World} {n : Int} (h : ¬ (4 ≤ n ∧ n ≤ 32)) :
    Calls Tryd.prog 20 #[.int .i64 n] u fun e w' => e = .returned (.tuple #[.slice none 0 0, .int .i64 2]) ∧ u = w' := by
  by_cases h0 : n < 4
  · clear h
    go_enter Tryd.func20, Tryd.ntmps20
    go_wp2_with fail
    go_ret2
    exact ⟨rfl, rfl⟩
  · have h1 : 32 < n := by omega
    clear h
    go_enter Tryd.func20, Tryd.ntmps20
    go_wp2_with fail
    go_ret2
    exact ⟨rfl, rfl⟩

set_option maxRecDepth 100000 in
set_option maxHeartbeats 2000000 in
theorem qweights_ok {u : World} {n : Nat} (h0 : 4 ≤ n) (h1 : n ≤ 32) :
    Calls Tryd.prog 20 #[.int .i64 (n : Int)] u fun e w' => ∃ g c, e = .returned (.tuple #[.slice (some ⟨g, 0, none⟩) n c, .int .i64 0]) ∧ (∀ j, j < n → w'.cell? ⟨g, j, none⟩ = some (.int .i64 (wt n j : Nat))) ∧ g < w'.heap.size ∧ Below u.heap.size u w' := by
  have n0 : (4 : Int) ≤ (n : Int) := by omega
  have n1 : (n : Int) ≤ 32 := by omega
  have n2 : 2 * (n : Int) ≠ 0 := by omega
  have HL : Hid ((wtL n).length = n) := wtL_len n
  go_enter Tryd.func20, Tryd.ntmps20
  go_wp2_with fail
  go_loopw [4, 5] (fun s i wr => ∃ (k c : Nat) (a : Option Addr), k ≤ n ∧ i = .int .i64 k ∧ s = .slice a k c ∧ Oi wr u.heap.size a k c ((wtL n).take k) ∧ Below u.heap.size u wr) (fun _ i _ => n - (intOf i).toNat)
  case atStart => exact ⟨0, 0, none, by omega, rfl, rfl, by rw [List.take_zero]; exact Oi.nil _ _, Below.refl _ _⟩
  case round =>
    obtain ⟨k, c', a', hk, rfl, rfl, ho, hb⟩ := hrel
    by_cases hlt : k < n
    · have HO : Hid _ := ho
      have HB : Hid (Below u.heap.size u wr) := hb
      have HSz : Hid (u.heap.size ≤ wr.heap.size) := hb.size
      obtain ⟨q, hq⟩ : ∃ q, q = (2 * k + 1) * 32 / (2 * n) := ⟨_, rfl⟩
      have q0 : q < 32 := by rw [hq]; exact Nat.div_lt_of_lt_mul (by omega)
      have HQ : Hid (wt n k = 32 + q) := by show _ = _; rw [hq]; rfl
      have e1 : (2 * (k : Int) + 1) * 32 / (2 * (n : Int)) = (q : Int) := by rw [hq, Int.natCast_ediv]; simp
      have e2 : ((2 * (k : Int) + 1) * 32).tdiv (2 * (n : Int)) = (q : Int) := by rw [Int.tdiv_eq_ediv_of_nonneg (by omega)]; exact e1
      have q1 : (q : Int) < 32 := by omega
      have k0 : (0 : Int) ≤ (k : Int) := by omega
      have k1 : (k : Int) < (n : Int) := by omega
      have HR : Hid (∀ y : Int, y = (wt n k : Int) → (wtL n).take k ++ [y] = (wtL n).take (k + 1)) := by
        rintro y rfl
        rw [takei_snoc _ _ (by rw [HL.out]; exact hlt), wtL_get hlt]
      clear ho hb hq
      go_wp2_with (at_builtin; refine wpList_append_int _ (by rfl) _ _ (by rfl) u.heap.size k c' ((wtL n).take k) a' _ HO.out HSz.out (by omega) (by rfl) (by rfl) ?_; intro g cap w5 how hb5 _)
      go_roundw
      case rel => exact ⟨k + 1, cap, _, by omega, by go_num, rfl, by rw [← HR.out _ (by rw [HQ.out] <;> omega)]; exact how, HB.out.trans hb5⟩
      case measure => simp [intOf]; omega
    · obtain rfl : k = n := by omega
      rw [List.take_of_length_le (by rw [HL.out]; exact Nat.le_refl _)] at ho
      obtain ⟨g, rfl⟩ : ∃ g, a' = some ⟨g, 0, none⟩ := by
        obtain ⟨g, cap, hv, _, _⟩ := ho.own.form (by omega)
        simp only [Value.slice.injEq] at hv
        exact ⟨g, hv.1⟩
      have HC : Hid (∀ j, j < k → wr.cell? ⟨g, j, none⟩ = some (.int .i64 (wt k j : Nat))) := fun j hj => by rw [ho.cellAt j hj, wtL_get hj]
      have HG : Hid (g < wr.heap.size) := ho.lt.2
      have HB : Hid (Below u.heap.size u wr) := hb
      clear ho hb
      go_wp2_with fail
      go_ret2
      exact ⟨g, c', rfl, HC.out, HG.out, HB.out⟩

end Go.Proofs.YtpideemiijhkgaaDoor
