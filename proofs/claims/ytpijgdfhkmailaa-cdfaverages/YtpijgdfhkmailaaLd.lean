/- DERIVED. The walk of the statement CdfMiddle. -/
import Derived.Test.YtpijgdfhkmailaaLt
import Derived.Test.YtpijgdfhkmailaaLc
namespace Go.Proofs.Ytpijgdfhkmailaa
open Go.RowKit

theorem Tl.to {w w' : World} {a : Option Addr} {L : List Tb} (h : Tl w a L) (hb : Below w.heap.size w w') : Tl w' a L := by
  rcases h with h | ⟨b, o, h1, h2⟩
  · exact Or.inl h
  · exact Or.inr ⟨b, o, h1, h2.to hb⟩
/-- tables that have an average: some, of m values each -/
structure AvG (L : List Tb) (m : Nat) : Prop where
  some : 0 < L.length
  all : AvOk L m
theorem AvG.rev {L : List Tb} {m : Nat} (h : AvG L m) : AvG L.reverse m := ⟨by simpa using h.some, fun t ht => h.all t (by simpa using ht)⟩
theorem AvG.unrev {L : List Tb} {m : Nat} (h : AvG L.reverse m) : AvG L m := ⟨by simpa using h.some, fun t ht => h.all t (by simpa using ht)⟩

theorem average_yes {w : World} {a : Option Addr} {c : Nat} {L : List Tb} {m : Nat} (h : Tl w a L) (hl : L.length ≤ 4398046511104) (hg : AvG L m) :
    Calls Try.prog 26 #[.slice a L.length c] w fun e w' => Tn w w' e (av m (L.map Tb.C)) 0 := by
  have h0 := hg.some
  rcases h with rfl | ⟨b, o, rfl, hts⟩
  · simp at h0
  · have hget := List.getElem?_eq_getElem h0
    have hm := (hg.all _ (List.getElem_mem h0)).2
    refine (average_some hts hget hl).mono ?_
    rintro e w' (⟨_, h1⟩ | ⟨h1, _⟩)
    · rw [hm] at h1; exact h1
    · rw [hm] at h1; exact absurd hg.all h1
theorem average_not {w : World} {a : Option Addr} {c : Nat} {L : List Tb} (h : Tl w a L) (hl : L.length ≤ 4398046511104) (hg : ∀ m, ¬ AvG L m) :
    Calls Try.prog 26 #[.slice a L.length c] w fun e w' => e = .returned (.tuple #[.agg #[.slice none 0 0, .int .i64 0], .int .i64 2]) ∧ Below w.heap.size w w' := by
  by_cases h0 : L.length = 0
  · rw [h0]; exact average_none
  · rcases h with rfl | ⟨b, o, rfl, hts⟩
    · simp at h0
    · have hget := List.getElem?_eq_getElem (show 0 < L.length by omega)
      refine (average_some hts hget hl).mono ?_
      rintro e w' (⟨h1, _⟩ | ⟨_, h1⟩)
      · exact absurd ⟨by omega, h1⟩ (hg _)
      · exact h1

theorem rev_take (L : List Tb) (k : Nat) (h : k < L.length) : L.reverse.take (k + 1) = L.reverse.take k ++ [L[L.length - 1 - k]] := by
  rw [List.take_add_one]
  congr 1
  rw [List.getElem?_reverse (by omega), List.getElem?_eq_getElem (by omega)]
  rfl
theorem Ot.tl {w : World} {B : Nat} {v : Value} {L : List Tb} (h : Ot w B v L) (hin : ∀ t, t ∈ L → t.In w) : ∃ a c, v = .slice a L.length c ∧ Tl w a L := by
  obtain ⟨a, c, rfl⟩ := h.form
  by_cases h0 : L.length = 0
  · exact ⟨a, c, rfl, Or.inl (List.eq_nil_of_length_eq_zero h0)⟩
  · obtain ⟨g, rfl, _, hts⟩ := h.ts (by omega) hin
    exact ⟨_, c, rfl, Or.inr ⟨g, 0, rfl, hts⟩⟩

/-- a list that is being turned about -/
structure TuInv (W : World) (L : List Tb) (tv iv : Value) (wr : World) (k : Nat) : Prop where
  k1 : k ≤ L.length
  iv : iv = .int .i64 ((L.length : Int) - 1 - (k : Int))
  own : Ot wr W.heap.size tv (L.reverse.take k)
  b : Below W.heap.size W wr

set_option maxRecDepth 100000 in
set_option maxHeartbeats 2000000 in
theorem middle_walk_no {w : World} {a : Option Addr} {c : Nat} {L : List Tb} {nv : Int} (h : Tl w a L) (hl : L.length ≤ 4398046511104) (hg : ∀ m, ¬ AvG L m) :
    Calls Try.prog 8 #[.slice a L.length c, .int .i64 nv] w fun e w' => e = .returned (.bool true) ∧ Below w.heap.size w w' := by
  have HT : Hid (Tl w a L) := h
  have HG : Hid (∀ m, ¬ AvG L m) := hg
  clear h hg
  go_enter Try.func8, Try.ntmps8
  go_wp2_with fail
  refine (works_true _).mono ?_
  rintro e w1 ⟨rfl, hb⟩
  have HB1 : Hid (Below w.heap.size w w1) := hb
  clear hb
  go_wp2_with fail
  refine (average_not (HT.out.to HB1.out) hl HG.out).mono ?_
  rintro e w2 ⟨rfl, hb⟩
  have HB2 : Hid (Below w.heap.size w (w2.alloc (.cells #[.slice none 0 0, .int .i64 0] 24))) := to_alloc (below_to HB1.out hb) _
  have HY : Hid ((w2.alloc (.cells #[.slice none 0 0, .int .i64 0] 24)).cell? ⟨w2.heap.size, 0, none⟩ = some (.slice none 0 0)) := by unfold Hid; simp
  have HYl : Hid (w2.heap.size < (w2.alloc (.cells #[.slice none 0 0, .int .i64 0] 24)).heap.size) := by unfold Hid; simp
  clear hb HB1
  go_wp2_with fail
  generalize w2.alloc (.cells #[.slice none 0 0, .int .i64 0] 24) = v1 at *
  generalize w2.heap.size = y at *
  have HT1 : Hid (Tl v1 a L) := HT.out.to HB2.out
  go_loopw [7, 8] (fun tv iv wr => ∃ k, TuInv v1 L tv iv wr k) (fun _ iv _ => (intOf iv + 1).toNat)
  case atStart => exact ⟨0, by omega, by simp, by simpa using Ot.nil v1 v1.heap.size, Below.refl _ _⟩
  case round =>
    obtain ⟨k, hinv⟩ := hrel
    obtain ⟨hk, rfl, hot, hb⟩ := hinv
    obtain ⟨ta, tc, rfl⟩ := hot.form
    have hlen : (L.reverse.take k).length = k := by simp; omega
    by_cases hlt : k < L.length
    · have b0 : 0 ≤ (L.length : Int) - 1 - (k : Int) := by omega
      have b1 : (L.length : Int) - 1 - (k : Int) < (L.length : Int) := by omega
      have b2 : ((L.length : Int) - 1 - (k : Int)).toNat = L.length - 1 - k := by omega
      have hnn : 0 < L.length := by omega
      obtain ⟨b, o, rfl, hts⟩ := HT1.out.resolve_left (fun e => by rw [e] at hnn; simp at hnn)
      have hget := List.getElem?_eq_getElem (show L.length - 1 - k < L.length by omega)
      have c0 := hts.cell0 _ _ hget
      have c1 := hts.cell1 _ _ hget
      rw [← newCell hb _ _ hts.low] at c0 c1
      have HRT : Hid _ := rev_take L k hlt
      generalize L[L.length - 1 - k] = t at *
      have HO : Hid (Ot wr v1.heap.size (.slice ta k tc) (L.reverse.take k)) := by rw [hlen] at hot; exact hot
      have HB : Hid (Below v1.heap.size v1 wr) := hb
      have HLEN : Hid _ := hlen
      have hsz := hb.size
      rw [hlen]
      clear hot hb hget hts hlen
      go_wp2_with (at_builtin; refine wpList_append_tab wr (by rfl) _ _ (by rfl) v1.heap.size (L.reverse.take k) (.slice ta k tc) t HO.out hsz (by rw [HLEN.out]; omega) (by rfl) (by rfl) ?_; intro g cap w' hot' hb')
      rw [HLEN.out] at hot'
      go_roundw
      case rel => exact ⟨k + 1, by omega, by congr 1; omega, by rw [HRT.out]; exact hot', HB.out.trans hb'⟩
      case measure => simp [intOf]; omega
    · have hk' : k = L.length := by omega
      subst hk'
      rw [hlen]
      have b0 : ¬ (0 : Int) ≤ (L.length : Int) - 1 - (L.length : Int) := by omega
      have HO : Hid (Ot wr v1.heap.size (.slice ta L.length tc) L.reverse) := by rw [hlen] at hot; rw [List.take_of_length_le (by simp)] at hot; exact hot
      have HB : Hid (Below v1.heap.size v1 wr) := hb
      clear hot hb hlen
      generalize wr = wo at *
      go_wp2_with fail
      obtain ⟨a2, c2, he2, htl2⟩ := HO.out.tl (fun t ht => by
        have ht' : t ∈ L := by simpa using ht
        rcases HT1.out with e | ⟨b, o, _, hts⟩
        · rw [e] at ht'; cases ht'
        · exact (hts.ins t ht').to HB.out)
      simp only [List.length_reverse, Value.slice.injEq, true_and] at he2
      obtain ⟨rfl, rfl⟩ := he2
      have HRL : Hid (L.length = L.reverse.length) := by unfold Hid; simp
      have HTL : Hid (Tl wo ta L.reverse) := htl2
      clear htl2
      rw [HRL.out]
      refine (average_not HTL.out (by rw [← HRL.out]; exact hl) (fun m hm => HG.out m hm.unrev)).mono ?_
      rw [← HRL.out]
      rintro e w3 ⟨rfl, hb⟩
      have HB3 : Hid (Below v1.heap.size v1 (w3.alloc (.cells #[.slice none 0 0, .int .i64 0] 24))) := below_to HB.out (to_alloc hb _)
      have q0 : (w3.alloc (.cells #[.slice none 0 0, .int .i64 0] 24)).cell? ⟨y, 0, none⟩ = some (.slice none 0 0) := by rw [newCell HB3.out _ _ HYl.out]; exact HY.out
      clear hb
      go_wp2_with fail
      go_ret
      exact ⟨rfl, below_to HB2.out HB3.out⟩

end Go.Proofs.Ytpijgdfhkmailaa
