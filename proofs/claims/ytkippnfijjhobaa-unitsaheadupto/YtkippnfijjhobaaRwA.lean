/- DERIVED. The document's own writer (zoetroperef01.Writer) in memory, and the walk of its put. -/
import Derived.Test.YtkippnfijjhobaaLwB
import Derived.Deep.RegionLaw
import Derived.Deep.RegionHeld3
namespace Go.Proofs.Ytkippnfijjhobaa
open Go.RowKit

/-- ints, as cells -/
def iz (xs : List Nat) : List Value := xs.map fun z : Nat => .int .i64 (z : Int)
theorem iz_length (xs : List Nat) : (iz xs).length = xs.length := by simp [iz]
theorem iz_get (xs : List Nat) (j : Nat) (h : j < xs.length) : (iz xs)[j]? = some (.int .i64 (xs.getD j 0 : Nat)) := by
  simp [iz, List.getElem?_eq_getElem h]
theorem iz_one (xs : List Nat) : ∀ u ∈ iz xs, u.oneCell' = true := by
  intro u hu
  obtain ⟨z, _, rfl⟩ := List.mem_map.1 hu
  rfl
theorem iz_append (xs ys : List Nat) : iz (xs ++ ys) = iz xs ++ iz ys := by simp [iz]
theorem Try.inf3 : (Try.prog.info? 3).map (fun i => (i.zero, i.size, i.bytes)) = some (some (.int .i64 0), 1, 8) := by kernel_rfl

/-- the number that bits make -/
def vb (l : List Nat) : Nat := l.foldl (fun a b => 2 * a + b) 0
theorem vb_snoc (l : List Nat) (b : Nat) : vb (l ++ [b]) = 2 * vb l + b := by simp [vb]
/-- t bits that make V -/
structure Wb (l : List Nat) (t V : Nat) : Prop where
  len : l.length = t
  bit : ∀ i, l.getD i 0 < 2
  val : vb l = V
theorem Wb.snoc {l : List Nat} {t V b : Nat} (h : Wb l t V) (hb : b < 2) : Wb (l ++ [b]) (t + 1) (V * 2 ^ 1 + b) := by
  refine ⟨by simp [h.len], fun i => ?_, by rw [vb_snoc, h.val]; omega⟩
  have := h.bit i
  rw [List.getD_eq_getElem?_getD] at *
  rcases Nat.lt_or_ge i l.length with hi | hi
  · rw [List.getElem?_append_left hi]; exact this
  · rw [List.getElem?_append_right hi]
    rcases Nat.eq_zero_or_pos (i - l.length) with e | e
    · rw [e]; simpa using hb
    · rw [List.getElem?_eq_none (by simp; omega)]; simp

/-- the document's writer in block x -/
structure Wf (w : World) (B x : Nat) (d : Value) (l : List Nat) (t V : Nat) : Prop where
  data : w.cell? ⟨x, 0, none⟩ = some d
  own : w.ownsRow B 3 1 d l.length (iz l)
  apart : d.ownBlock ≠ some x
  thaw : w.frozen? ⟨x, 0, none⟩ = false
  low : B ≤ x ∧ x < w.heap.size
  wb : Wb l t V
def WfK (w w' : World) (B x : Nat) (d : Value) (t V : Nat) : Prop := ∃ d' l', Wf w' B x d' l' t V ∧ Kw x d d' w w'

theorem grow_wf {wr w1 : World} {o : Obj} {B x g cap t V b : Nat} {dr : Value} {l : List Nat} (hw : Wf wr B x dr l t V) (hb : b < 2) (hgrow : (wr.alloc o).grownBy w1 dr.ownBlock) (hown1 : w1.ownsRow B 3 1 (.slice (some ⟨g, 0, none⟩) (l.length + 1) cap) (l.length + 1) (iz l ++ iz [b]))
    (hat : dr.ownBlock = some g ∨ g = wr.heap.size + 1) :
    Wf (w1.setCell ⟨x, 0, none⟩ (.slice (some ⟨g, 0, none⟩) (l.length + 1) cap)) B x (.slice (some ⟨g, 0, none⟩) (l.length + 1) cap) (l ++ [b]) (t + 1) (V * 2 ^ 1 + b) ∧
    Kw x dr (.slice (some ⟨g, 0, none⟩) (l.length + 1) cap) wr (w1.setCell ⟨x, 0, none⟩ (.slice (some ⟨g, 0, none⟩) (l.length + 1) cap)) := by
  have hlow := hw.low
  have hap := hw.apart
  have hgx : g ≠ x := by
    rcases hat with e | e
    · intro e2; rw [e, e2] at hap; exact hap rfl
    · omega
  have fc := fun j => far_cell hgrow hlow.2 hap j
  have hsz : wr.heap.size + 1 ≤ w1.heap.size := by have := hgrow.size; simpa using this
  have hlen : (l ++ [b]).length = l.length + 1 := by simp
  constructor
  · refine ⟨World.cell?_setCell_same w1 ⟨x, 0, none⟩ _ ((fc 0).1.trans hw.data), ?_, ?_, ?_, ⟨hlow.1, by simp [World.setCell]; omega⟩, hw.wb.snoc hb⟩
    · rw [iz_append, hlen]
      exact own_set_far hown1 (by simp [Value.ownBlock]; exact hgx) _
    · simp [Value.ownBlock]; exact hgx
    · rw [World.frozen?_setCell, (fc 0).2]; exact hw.thaw
  · refine ⟨hgrow.os, hgrow.tape, hgrow.output, by simp [World.setCell]; omega, fun k hk hx hd => ?_, fun g' hg' => ?_⟩
    · rw [Below.heap_setCell _ _ _ _ (by simpa using hx), hgrow.block k (by simp; omega) (Ne.symm hd), Below.heap_alloc _ _ _ hk]
    · simp [Value.ownBlock] at hg'
      subst hg'
      rcases hat with e | e
      · exact Or.inl e
      · right; omega

theorem undrew {a b : World} {row : Option Nat} (h : a.drew.grownBy b row) : a.grownBy b row := ⟨h.os, h.tape, h.output, h.size, h.block⟩
theorem bitVal (v q : Nat) (hv : v < 9223372036854775808) : (IntKind.i64.wrap ((v : Int) / 2 ^ q)).tmod 2 = ((v / 2 ^ q % 2 : Nat) : Int) := by
  have hdI : (v : Int) / 2 ^ q = ((v / 2 ^ q : Nat) : Int) := by simp
  have hdv : v / 2 ^ q ≤ v := Nat.div_le_self _ _
  rw [hdI]
  generalize v / 2 ^ q = y at *
  rw [IntKind.wrap_i64, show ((y : Int) + 9223372036854775808) % 18446744073709551616 - 9223372036854775808 = (y : Int) from by omega, Int.tmod_eq_emod_of_nonneg (by omega)]
  omega

set_option maxHeartbeats 2000000 in
set_option maxRecDepth 100000 in
theorem put_wf (B x : Nat) (d : Value) (l : List Nat) (t V v n : Nat) (w : World) (h : Wf w B x d l t V) (hn : n ≤ 63) (hv : v < 2 ^ n) (hv64 : v < 9223372036854775808) (ht : t ≤ 1099511627776) :
    Calls Try.prog 42 #[.pointer (some ⟨x, 0, none⟩), .int .u64 v, .int .i64 n] w fun e w' => e = .returned (.tuple #[]) ∧ WfK w w' B x d (t + n) (V * 2 ^ n + v) := by
  obtain ⟨i, hi, hz0, hz1, hz2⟩ := info_parts Try.inf3
  go_enter Try.func42, Try.ntmps42
  go_wp2_with fail
  go_loopw [6] (fun z wr => ∃ (m : Nat) (dr : Value) (lr : List Nat), m ≤ n ∧ z = .int .i64 ((m : Int) - 1) ∧ Wf wr B x dr lr (t + (n - m)) (V * 2 ^ (n - m) + v / 2 ^ m) ∧ Kw x d dr w wr) (fun z _ => (intOf z + 1).toNat)
  case atStart => exact ⟨n, d, l, Nat.le_refl _, rfl, by rw [Nat.sub_self, Nat.div_eq_of_lt hv]; simpa using h, Kw.refl _ _ _⟩
  case round =>
    obtain ⟨m, dr, lr, hm, rfl, hw, hk⟩ := hrel
    by_cases hm0 : m = 0
    · subst hm0
      go_wp2_with fail
      go_end0
      refine ⟨rfl, dr, lr, ?_, hk⟩
      rw [Nat.sub_zero, Nat.pow_zero, Nat.div_one] at hw
      exact hw
    · obtain ⟨q, hq⟩ : ∃ q, m = q + 1 := ⟨m - 1, by omega⟩
      subst hq
      rw [show (((q + 1 : Nat) : Int) - 1) = (q : Int) from by omega]
      have hlen := hw.wb.len
      obtain ⟨a, c, rfl⟩ := own_slice hw.own
      have hdat := hw.data
      have hlow := hw.low.2
      have hth := hw.thaw
      have hap := hw.apart
      have hB : B ≤ wr.heap.size := by have := hw.low; omega
      have hyl : lr.length ≤ 1099511627900 := by omega
      have HLn : Hid (lr.length = t + (n - (q + 1))) := hlen
      clear hlen
      have hbv := bitVal v q hv64
      have hb2 : v / 2 ^ q % 2 < 2 := Nat.mod_lt _ (by omega)
      have HP := put_value V v n (q + 1) 1 hm (by omega)
      have HPV : Hid _ := HP
      have hownA : (wr.alloc (.cells #[.int .i64 ((IntKind.i64.wrap ((v : Int) / 2 ^ q)).tmod 2)] 3)).drew.ownsRow B 3 1 (.slice a lr.length c) lr.length (iz lr) := (hw.own.alloc _).drew
      have hnews : ∀ j u, (iz [v / 2 ^ q % 2])[j]? = some u → (wr.alloc (.cells #[.int .i64 ((IntKind.i64.wrap ((v : Int) / 2 ^ q)).tmod 2)] 3)).drew.cell? ((⟨wr.heap.size, 0, none⟩ : Addr).add j) = some u := by
        rw [hbv]
        exact World.news_of_block (cs := #[.int .i64 ((v / 2 ^ q % 2 : Nat) : Int)]) (heap_alloc_new wr _)
      clear hbv HP
      go_wp2_with fail
      go_region_law ((refine step_append_lies _ (by rfl) _ _ _ (by rfl) B 3 i (.int .i64 0) 1 8 Try.underlying66 hi hz0 hz1 hz2 rfl (by omega) _ lr.length (iz lr) (by rfl) hownA ⟨wr.heap.size, 0, none⟩ 1 1 (iz [v / 2 ^ q % 2]) (by rfl) (by rfl) hnews (iz_one _) (by omega) (by unfold maxLen; omega) (by omega) (by simp; omega) (wr.heap.size + 1) (by simp) ?_; intro g cap w1 hown1 hgrow hat hlt; have hgr := undrew hgrow; have c0 := (far_cell hgr hlow hap 0).1.trans hdat; have zz := (far_cell hgr hlow hap 0).2.trans hth))
      all_goals
        go_wp2_with fail
        obtain ⟨g1, g2⟩ := grow_wf hw hb2 hgr hown1 hat
        have hpv := HPV.out
        rw [Nat.add_sub_cancel, Nat.pow_one] at hpv
        refine ⟨⟨q, _, lr ++ [v / 2 ^ q % 2], by omega, rfl, ?_, hk.trans g2⟩, by simp [intOf]⟩
        rw [hpv, show t + (n - q) = t + (n - (q + 1)) + 1 from by omega]
        rw [Nat.pow_one] at g1
        exact g1

end Go.Proofs.Ytkippnfijjhobaa
