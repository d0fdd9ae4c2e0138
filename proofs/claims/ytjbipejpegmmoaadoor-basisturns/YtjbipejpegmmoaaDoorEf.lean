/- DERIVED. The walks of sums (of two rows) and close1; what is made of sums. -/
import Derived.Test.YtjbipejpegmmoaaDoorEb
namespace Go.Proofs.YtjbipejpegmmoaaDoor
open Go.RowKit

/-- 'append(c, x)' in a region that draws its order -/
theorem step_append_int (wr : World) {ops : Array Oper} {o : Oper} {a : Act} {K : Act → World → Prop} {Q : Exit → Act → World → Prop} {E : Prop} (hgd : o.guard = none) (s x : Operand)
    (ho : o.op = .call { callee := .builtin .append, args := #[s, x], argTypes := #[25, 25] })
    (B n c : Nat) (C : List Int) (ad : Option Addr) (X y : Int) (hX : X = y) (hown : Oi wr B ad n c C) (hB : B ≤ wr.heap.size) (hL : n < 1099511627776)
    (hs : a.eval s = .slice ad n c) (hx : a.eval x = .slice (some ⟨wr.heap.size, 0, none⟩) 1 1)
    (h : ∀ g cap w', Oi w' B (some ⟨g, 0, none⟩) (n + 1) cap (C ++ [y]) → Below B wr w' → B ≤ w'.heap.size → K (a.put o.dst (.slice (some ⟨g, 0, none⟩) (n + 1) cap)) w') :
    if Region.wanted o (yielded ops a.tmps) = true then Oper.wp Tryd.prog o a (wr.alloc (.cells #[.int .i64 X] 3)).drew K Q else E := by
  subst hX
  obtain ⟨i, hi, hz0, hz1, hz2⟩ := info_parts Tryd.info3
  have hnews : ∀ j u, (is [X])[j]? = some u → (wr.alloc (.cells #[.int .i64 X] 3)).drew.cell? ((⟨wr.heap.size, 0, none⟩ : Addr).add j) = some u := World.news_of_block (w := wr.alloc (.cells #[.int .i64 X] 3)) (cs := #[.int .i64 X]) (heap_alloc_new wr _)
  refine step_append_lies _ hgd s x 25 ho B 3 i (.int .i64 0) 1 8 Tryd.underlying25 hi hz0 hz1 hz2 rfl (by omega) (.slice ad n c) n (is C) hs (hown.own.alloc _).drew ⟨wr.heap.size, 0, none⟩ 1 1 (is [X]) hx (by rfl) hnews (is_one _) (by omega) (by unfold maxLen; omega) (by omega) (by simp; omega) (wr.heap.size + 1) (by simp) ?_
  intro g cap w' hown' hgrow hat hlt
  have hgr := grown_trans (below_grown (from_alloc wr _) (Value.slice ad n c).ownBlock) (undrew hgrow) (fun g hg => Or.inl hg)
  have hbb := grown_below hgr hB (fun g hg => (hown.own.lt g hg).1)
  exact h g cap w' ⟨by rw [is_append]; exact hown'⟩ hbb (Nat.le_trans hB hbb.size)

/-- the sums of two rows -/
def adL (A B : List Int) : List Int := (List.range A.length).map fun i => A.getD i 0 + B.getD i 0
theorem adL_len (A B : List Int) : (adL A B).length = A.length := by simp [adL]
theorem adL_get (A B : List Int) (i : Nat) (h : i < A.length) : (adL A B).getD i 0 = A.getD i 0 + B.getD i 0 := by simp [adL, h]
theorem take_snoc (C : List Int) (k : Nat) (h : k < C.length) : C.take (k + 1) = C.take k ++ [C.getD k 0] := by
  rw [List.take_succ_eq_append_getElem h]
  simp [List.getD_eq_getElem?_getD, List.getElem?_eq_getElem h]
structure SuI (w : World) (n : Nat) (D : List Int) (s i : Value) (wr : World) : Prop where
  ex : ∃ (k c : Nat) (a : Option Addr), k ≤ n ∧ i = .int .i64 k ∧ s = .slice a k c ∧ Oi wr w.heap.size a k c (D.take k) ∧ Below w.heap.size w wr
/-- a row, in new memory, with room behind it -/
def Nu (w w' : World) (e : Ending) (D : List Int) : Prop := ∃ a c, e = .returned (.slice a D.length c) ∧ Si w' a D ∧ Below w.heap.size w w'

set_option maxRecDepth 100000 in
set_option maxHeartbeats 2000000 in
theorem sums_any {w : World} {a b : Option Addr} {c d n : Nat} {A B : List Int} (hA : Si w a A) (hB : Si w b B) (la : A.length = n) (lb : B.length = n) (h0 : 0 < n) (hn : n ≤ 64) (mA : Mst A 1099511627776) (mB : Mst B 1099511627776) :
    Calls Tryd.prog 20 #[.slice a n c, .slice b n d] w fun e w' => Nu w w' e (adL A B) := by
  obtain ⟨b1, o1, rfl, hb1, hc1⟩ := hA.form (by omega)
  obtain ⟨b2, o2, rfl, hb2, hc2⟩ := hB.form (by omega)
  have HL : Hid ((adL A B).length = n) := (adL_len A B).trans la
  have H1 : Hid _ := hc1
  have H2 : Hid _ := hc2
  have hLa : Hid _ := la
  have hLb : Hid _ := lb
  have n1 : (n : Int) ≤ 64 := by omega
  clear hA hB hc1 hc2
  go_enter Tryd.func20, Tryd.ntmps20
  go_wp2_with fail
  go_loopw [5, 6] (fun s i wr => SuI w n (adL A B) s i wr) (fun _ i _ => n - (intOf i).toNat)
  case atStart => exact ⟨⟨0, 0, none, by omega, rfl, rfl, by rw [List.take_zero]; exact Oi.nil _ _, Below.refl _ _⟩⟩
  case round =>
    obtain ⟨k, c', a', hk, rfl, rfl, ho, hb⟩ := hrel
    have k0 : 0 ≤ (k : Int) := by omega
    by_cases hlt : k < n
    · have k1 : (k : Int) < (n : Int) := by omega
      have r1 : wr.cell? ⟨b1, o1 + k, none⟩ = some (.int .i64 (A.getD k 0)) := by rw [newCell hb _ _ hb1]; exact H1.out k (by omega)
      have r2 : wr.cell? ⟨b2, o2 + k, none⟩ = some (.int .i64 (B.getD k 0)) := by rw [newCell hb _ _ hb2]; exact H2.out k (by omega)
      obtain ⟨p0, p1⟩ := mA k (by omega)
      obtain ⟨p2, p3⟩ := mB k (by omega)
      have hw1 : IntKind.i64.wrap (A.getD k 0 + B.getD k 0) = A.getD k 0 + B.getD k 0 := by rw [IntKind.wrap_i64]; omega
      have HR : Hid (∀ (w5 : World) (g cap : Nat), Oi w5 w.heap.size (some ⟨g, 0, none⟩) (k + 1) cap ((adL A B).take k ++ [A.getD k 0 + B.getD k 0]) → Below w.heap.size wr w5 → SuI w n (adL A B) (.slice (some ⟨g, 0, none⟩) (k + 1) cap) (.int .i64 ((k : Int) + 1)) w5) := by
        intro w5 g cap how hb5
        exact ⟨⟨k + 1, cap, _, by omega, by go_num, rfl, by rw [take_snoc _ _ (by rw [HL.out]; exact hlt), adL_get _ _ _ (by omega)]; exact how, hb.trans hb5⟩⟩
      have HS : Hid (w.heap.size ≤ wr.heap.size) := hb.size
      have HO : Hid _ := ho
      have HW : Hid (∀ t : World, (t.cell? ⟨b1, o1 + k, none⟩ = some (.int .i64 (A.getD k 0))) = (t.cell? ⟨b1, o1 + k, none⟩ = some (.int .i64 (A.getD k 0)))) := fun _ => rfl
      clear ho hb la lb HW
      generalize A.getD k 0 = x at *
      generalize B.getD k 0 = y at *
      go_wp2_with fail
      go_region_law ((refine step_append_int _ (by rfl) _ _ (by rfl) w.heap.size k c' ((adL A B).take k) a' _ (x + y) (by first | rfl | exact hw1) HO.out HS.out (by omega) (by rfl) (by rfl) ?_; intro g cap w5 how hb5 _))
      all_goals
        go_wp2_with fail
        go_roundw
        case rel => exact HR.out w5 g cap how hb5
        case measure => simp [intOf]; omega
    · obtain rfl : k = n := by omega
      have HS : Hid (Si wr a' (adL A B)) := by
        have := ho.si
        rw [List.take_of_length_le (by rw [HL.out]; exact Nat.le_refl _)] at this
        exact this
      have HB : Hid (Below w.heap.size w wr) := hb
      clear ho hb la lb
      go_wp2_with fail
      go_ret
      exact ⟨a', c', by rw [HL.out]; rfl, HS.out, HB.out⟩

end Go.Proofs.YtjbipejpegmmoaaDoor
