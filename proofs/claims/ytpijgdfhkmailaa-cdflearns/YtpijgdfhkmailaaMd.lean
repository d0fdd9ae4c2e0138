/- DERIVED. A table that grows in a variable of its own; the walks of the document's Flat and Steep. -/
import Derived.Test.YtpijgdfhkmailaaMc
import Derived.Test.YtpijgdfhkmailaaLc
namespace Go.Proofs.Ytpijgdfhkmailaa
open Go.RowKit

/-- a variable in block X whose table C grows; its row lies from B on; the other blocks below B stay -/
structure Gw (W : World) (B X : Nat) (C : List Nat) (n : Int) (a : Option Addr) (c : Nat) (wr : World) : Prop where
  c0 : wr.cell? ⟨X, 0, none⟩ = some (.slice a C.length c)
  c1 : wr.cell? ⟨X, 1, none⟩ = some (.int .i64 n)
  f0 : wr.frozen? ⟨X, 0, none⟩ = false
  own : wr.ownsRow B 49 1 (.slice a C.length c) C.length (ns .u16 C)
  low : X < B
  sB : B ≤ wr.heap.size
  os : wr.os = W.os
  tape : wr.tape = W.tape
  output : wr.output = W.output
  size : W.heap.size ≤ wr.heap.size
  block : ∀ k, k < B → k ≠ X → wr.heap[k]? = W.heap[k]?
theorem Gw.cell {W wr : World} {B X c : Nat} {C : List Nat} {n : Int} {a : Option Addr} (h : Gw W B X C n a c wr) (k j : Nat) (hk : k < B) (hX : k ≠ X) : wr.cell? ⟨k, j, none⟩ = W.cell? ⟨k, j, none⟩ := World.cell?_of_block (w := W) (a := ⟨k, j, none⟩) (h.block k hk hX)
theorem Gw.frozen {W wr : World} {B X c : Nat} {C : List Nat} {n : Int} {a : Option Addr} (h : Gw W B X C n a c wr) (k j : Nat) (hk : k < B) (hX : k ≠ X) : wr.frozen? ⟨k, j, none⟩ = W.frozen? ⟨k, j, none⟩ := World.frozen?_of_block (w := W) (a := ⟨k, j, none⟩) (h.block k hk hX)
theorem Gw.below {w W wr : World} {B X c : Nat} {C : List Nat} {n : Int} {a : Option Addr} (h : Gw W B X C n a c wr) (hb : Below w.heap.size w W) (hX : w.heap.size ≤ X) : Below w.heap.size w wr :=
  ⟨h.os.trans hb.os, h.tape.trans hb.tape, h.output.trans hb.output, Nat.le_trans hb.size h.size, fun k hk => by
    have := h.low
    rw [h.block k (by omega) (by omega)]; exact hb.block k hk⟩
theorem Gw.start {W : World} {X : Nat} {n : Int} (c0 : W.cell? ⟨X, 0, none⟩ = some (.slice none 0 0)) (c1 : W.cell? ⟨X, 1, none⟩ = some (.int .i64 n)) (f0 : W.frozen? ⟨X, 0, none⟩ = false) (hX : X < W.heap.size) : Gw W W.heap.size X [] n none 0 W :=
  ⟨c0, c1, f0, World.ownsRow_nil _ _ _ _, hX, Nat.le_refl _, rfl, rfl, rfl, Nat.le_refl _, fun _ _ _ => rfl⟩
/-- behind an append, ahead of the store -/
theorem Gw.after {W wr w' : World} {B X c : Nat} {C : List Nat} {n : Int} {a : Option Addr} (h : Gw W B X C n a c wr) (hg : wr.grownBy w' (Value.slice a C.length c).ownBlock) :
    w'.cell? ⟨X, 0, none⟩ = some (.slice a C.length c) ∧ w'.cell? ⟨X, 1, none⟩ = some (.int .i64 n) ∧ w'.frozen? ⟨X, 0, none⟩ = false := by
  have hlow := h.low
  have hsB := h.sB
  have hblk : w'.heap[X]? = wr.heap[X]? := hg.block X (by omega) (fun e => by have := (h.own.lt X e.symm).1; omega)
  exact ⟨by rw [World.cell?_of_block (w := wr) (a := ⟨X, 0, none⟩) hblk]; exact h.c0, by rw [World.cell?_of_block (w := wr) (a := ⟨X, 1, none⟩) hblk]; exact h.c1, by rw [World.frozen?_of_block (w := wr) (a := ⟨X, 0, none⟩) hblk]; exact h.f0⟩
/-- one element more, and the variable has it -/
theorem Gw.step {W wr w' : World} {B X c g cap y : Nat} {C : List Nat} {n : Int} {a : Option Addr} (h : Gw W B X C n a c wr) (ho : Ow w' B g (C.length + 1) cap (C ++ [y])) (hg : wr.grownBy w' (Value.slice a C.length c).ownBlock) :
    Gw W B X (C ++ [y]) n (some ⟨g, 0, none⟩) cap (w'.setCell ⟨X, 0, none⟩ (.slice (some ⟨g, 0, none⟩) (C.length + 1) cap)) := by
  have hlow := h.low
  have hsB := h.sB
  have hrow : ∀ k, k < B → (Value.slice a C.length c).ownBlock ≠ some k := fun k hk e => by have := (h.own.lt k e).1; omega
  have hblk : ∀ k, k < B → w'.heap[k]? = wr.heap[k]? := fun k hk => hg.block k (by omega) (fun e => hrow k hk e.symm)
  have hgB := ho.lies.1
  have hlen : (C ++ [y]).length = C.length + 1 := by simp
  have e0 : w'.cell? ⟨X, 0, none⟩ = some (.slice a C.length c) := by rw [World.cell?_of_block (w := wr) (a := ⟨X, 0, none⟩) (hblk X hlow)]; exact h.c0
  have e1 : w'.cell? ⟨X, 1, none⟩ = some (.int .i64 n) := by rw [World.cell?_of_block (w := wr) (a := ⟨X, 1, none⟩) (hblk X hlow)]; exact h.c1
  have ef : w'.frozen? ⟨X, 0, none⟩ = false := by rw [World.frozen?_of_block (w := wr) (a := ⟨X, 0, none⟩) (hblk X hlow)]; exact h.f0
  refine ⟨?_, ?_, by simpa using ef, ?_, hlow, ?_, hg.os.trans h.os, hg.tape.trans h.tape, hg.output.trans h.output, ?_, fun k hk hX => ?_⟩
  · rw [hlen]; exact World.cell?_setCell_same _ _ _ e0
  · rw [World.cell?_setCell_other _ _ _ _ (by simp)]; exact e1
  · rw [hlen]; exact own_set_far ho.own (by simp [Value.ownBlock]; omega) _
  · have := hg.size; simp [World.setCell]; omega
  · have h1 := h.size; have h2 := hg.size; simp [World.setCell]; omega
  · rw [Below.heap_setCell _ _ _ _ (by simpa using hX), hblk k hk]; exact h.block k hk hX

/-- 'append(t.C, x)' in a region that draws its order -/
theorem step_append_num (wr : World) {ops : Array Oper} {o : Oper} {a : Act} {K : Act → World → Prop} {Q : Exit → Act → World → Prop} {E : Prop} (hgd : o.guard = none) (s x : Operand)
    (ho : o.op = .call { callee := .builtin .append, args := #[s, x], argTypes := #[22, 22] })
    (B n : Nat) (C : List Nat) (v : Value) (X : Int) (y : Nat) (hX : X = (y : Int)) (hn : C.length = n) (hown : wr.ownsRow B 49 1 v n (ns .u16 C)) (hB : B ≤ wr.heap.size) (hL : n < 70368744177664)
    (hs : a.eval s = v) (hx : a.eval x = .slice (some ⟨wr.heap.size, 0, none⟩) 1 1)
    (h : ∀ g cap w', Ow w' B g (n + 1) cap (C ++ [y]) → wr.grownBy w' v.ownBlock → (v.ownBlock = some g ∨ wr.heap.size ≤ g) → g < w'.heap.size → K (a.put o.dst (.slice (some ⟨g, 0, none⟩) (n + 1) cap)) w') :
    if Region.wanted o (yielded ops a.tmps) = true then Oper.wp Try.prog o a (wr.alloc (.cells #[.int .u16 X] 49)).drew K Q else E := by
  subst hX
  obtain ⟨i, hi, hz0, hz1, hz2⟩ := info_parts Try.info49
  have hnews : ∀ j u, (ns .u16 [y])[j]? = some u → (wr.alloc (.cells #[.int .u16 (y : Int)] 49)).drew.cell? ((⟨wr.heap.size, 0, none⟩ : Addr).add j) = some u := World.news_of_block (w := wr.alloc (.cells #[.int .u16 (y : Int)] 49)) (cs := #[.int .u16 (y : Int)]) (heap_alloc_new wr _)
  refine step_append_lies _ hgd s x 22 ho B 49 i (.int .u16 0) 1 2 Try.underlying22 hi hz0 hz1 hz2 rfl (by omega) v n (ns .u16 C) hs (hown.alloc _).drew ⟨wr.heap.size, 0, none⟩ 1 1 (ns .u16 [y]) hx (by rfl) hnews (ns_one _ _) (by omega) (by unfold maxLen; omega) (by omega) (by simp; omega) (wr.heap.size + 1) (by simp) ?_
  intro g cap w' hown' hgrow hat hlt
  refine h g cap w' ⟨by rw [ns_append]; exact hown'⟩ ?_ ?_ hlt
  · exact grown_trans (below_grown (from_alloc wr _) _) (undrew hgrow) (fun g hg => Or.inl hg)
  · rcases hat with e | e
    · exact Or.inl e
    · right; omega

theorem fl_val2 {n k : Nat} (h : k < n) (_hn : n ≤ 16) : IntKind.u16.wrap (IntKind.i64.wrap ((32768 * ((k : Int) + 1)).tdiv (n : Int))) = ((fl n k : Nat) : Int) := by
  have := fl_le h
  have e : 32768 * ((k : Int) + 1) / (n : Int) = ((fl n k : Nat) : Int) := by unfold fl; rw [Int.natCast_ediv, Int.natCast_mul, Int.natCast_add]; rfl
  rw [Int.tdiv_eq_ediv_of_nonneg (by omega), e, IntKind.wrap_i64, IntKind.wrap_u16]
  generalize fl n k = q at *
  omega

set_option maxRecDepth 100000 in
set_option maxHeartbeats 1000000 in
theorem rflat_ok {w : World} {n : Nat} (h0 : 2 ≤ n) (h1 : n ≤ 16) :
    Calls Try.prog 11 #[.int .i64 n] w fun e w' => Tn w w' e (flC n) 0 := by
  have i0 : ¬ (n : Int) < 2 := by omega
  have i1 : ¬ (16 : Int) < (n : Int) := by omega
  have hg0 : Gw ((w.alloc (.cells #[.slice none 0 0, .int .i64 0] 24)).alloc (.cells #[.slice none 0 0, .int .i64 0] 24)) (w.heap.size + 2) (w.heap.size + 1) [] 0 none 0 ((w.alloc (.cells #[.slice none 0 0, .int .i64 0] 24)).alloc (.cells #[.slice none 0 0, .int .i64 0] 24)) := by
    have := Gw.start (W := (w.alloc (.cells #[.slice none 0 0, .int .i64 0] 24)).alloc (.cells #[.slice none 0 0, .int .i64 0] 24)) (X := w.heap.size + 1) (n := 0) (by simp) (by simp) (by simp) (by simp)
    rw [show ((w.alloc (.cells #[.slice none 0 0, .int .i64 0] 24)).alloc (.cells #[.slice none 0 0, .int .i64 0] 24)).heap.size = w.heap.size + 2 from by simp] at this
    exact this
  have HG0 : Hid _ := hg0
  have z : ((w.alloc (.cells #[.slice none 0 0, .int .i64 0] 24)).alloc (.cells #[.slice none 0 0, .int .i64 0] 24)).cell? ⟨w.heap.size, 0, none⟩ = some (.slice none 0 0) ∧ ((w.alloc (.cells #[.slice none 0 0, .int .i64 0] 24)).alloc (.cells #[.slice none 0 0, .int .i64 0] 24)).cell? ⟨w.heap.size, 1, none⟩ = some (.int .i64 0) ∧ ((w.alloc (.cells #[.slice none 0 0, .int .i64 0] 24)).alloc (.cells #[.slice none 0 0, .int .i64 0] 24)).frozen? ⟨w.heap.size, 0, none⟩ = false ∧ ((w.alloc (.cells #[.slice none 0 0, .int .i64 0] 24)).alloc (.cells #[.slice none 0 0, .int .i64 0] 24)).frozen? ⟨w.heap.size, 1, none⟩ = false := by
    have hb := from_alloc (w.alloc (.cells #[.slice none 0 0, .int .i64 0] 24)) (.cells #[.slice none 0 0, .int .i64 0] 24)
    rw [newCell hb _ _ (by simp), newCell hb _ _ (by simp), newFrozen hb _ _ (by simp), newFrozen hb _ _ (by simp)]
    simp
  have HZ : Hid _ := z
  have HBW : Hid (Below w.heap.size w ((w.alloc (.cells #[.slice none 0 0, .int .i64 0] 24)).alloc (.cells #[.slice none 0 0, .int .i64 0] 24))) := to_alloc (from_alloc _ _) _
  clear hg0 z
  go_enter Try.func11, Try.ntmps11
  go_wp2_with fail
  generalize (w.alloc (.cells #[.slice none 0 0, .int .i64 0] 24)).alloc (.cells #[.slice none 0 0, .int .i64 0] 24) = W at *
  go_loopw [5] (fun iv wr => ∃ (k : Nat) (a : Option Addr) (c : Nat), k ≤ n ∧ iv = .int .i64 k ∧ Gw W (w.heap.size + 2) (w.heap.size + 1) ((flC n).take k) 0 a c wr) (fun iv _ => n - (intOf iv).toNat)
  case atStart => exact ⟨0, none, 0, by omega, rfl, by simpa using HG0.out⟩
  case round =>
    obtain ⟨k, a, c, hk, rfl, hgw⟩ := hrel
    clear HG0
    have hlen : ((flC n).take k).length = k := by rw [List.length_take, flC_len]; omega
    by_cases hlt : k < n
    · have b0 : 0 ≤ (k : Int) := by omega
      have b1 : (k : Int) < (n : Int) := by omega
      have b2 : (0 : Int) < (n : Int) := by omega
      have b3 : (n : Int) ≤ 16 := by omega
      have c0 := hgw.c0
      have c1 := hgw.c1
      have f0 := hgw.f0
      rw [hlen] at c0
      have hsB := hgw.sB
      have hXl : w.heap.size + 1 < wr.heap.size := by omega
      have HGW : Hid (Gw W (w.heap.size + 2) (w.heap.size + 1) ((flC n).take k) 0 a c wr) := hgw
      have HLEN : Hid (((flC n).take k).length = k) := hlen
      have HV : Hid (IntKind.u16.wrap (IntKind.i64.wrap ((32768 * ((k : Int) + 1)).tdiv (n : Int))) = ((fl n k : Nat) : Int)) := fl_val2 hlt h1
      have HTK : Hid ((flC n).take k ++ [fl n k] = (flC n).take (k + 1)) := by
        unfold Hid
        rw [List.take_add_one, List.getElem?_eq_getElem (by rw [flC_len]; exact hlt)]
        have := flC_get n k hlt
        rw [getD_lt _ (by rw [flC_len]; exact hlt)] at this
        rw [this]; rfl
      clear hgw hlen
      have hw1 : IntKind.i64.wrap ((k : Int) + 1) = (k : Int) + 1 := by rw [IntKind.wrap_i64]; omega
      have hw2 : IntKind.i64.wrap (32768 * ((k : Int) + 1)) = 32768 * ((k : Int) + 1) := by rw [IntKind.wrap_i64]; omega
      have hne1 : (n : Int) ≠ 0 := by omega
      have hne2 : ((n : Int) == 0) = false := by rw [beq_eq_false_iff_ne]; omega
      have hne3 : n ≠ 0 := by omega
      go_wp2_with fail
      go_region_law ((refine step_append_num _ (by rfl) _ _ (by rfl) (w.heap.size + 2) k ((flC n).take k) (.slice a k c) _ (fl n k) (by exact HV.out) HLEN.out (by have := HGW.out.own; rw [HLEN.out] at this; exact this) hsB (by omega) (by rfl) (by rfl) ?_; intro g cap w' how' hgr' hat' hlt'; have haf := HGW.out.after (by rw [HLEN.out]; exact hgr'); rw [HLEN.out] at haf; have e0 := haf.1; have e1 := haf.2.1; have e2 := haf.2.2))
      all_goals
        go_wp2_with fail
        have hst := HGW.out.step (y := fl n k) (by rw [HLEN.out]; exact how') (by rw [HLEN.out]; exact hgr')
        rw [HTK.out, HLEN.out] at hst
        go_roundw
        case rel => exact ⟨k + 1, _, cap, by omega, by go_num, hst⟩
        case measure => simp [intOf]; omega
    · have hk' : k = n := by omega
      subst hk'
      have b1 : ¬ (k : Int) < (k : Int) := by omega
      rw [List.take_of_length_le (by rw [flC_len]; exact Nat.le_refl _)] at hgw
      have c0 := hgw.c0
      have c1 := hgw.c1
      rw [flC_len] at c0
      have d0 : wr.cell? ⟨w.heap.size, 0, none⟩ = some (.slice none 0 0) := by rw [hgw.cell _ _ (by omega) (by omega)]; exact HZ.out.1
      have d1 : wr.cell? ⟨w.heap.size, 1, none⟩ = some (.int .i64 0) := by rw [hgw.cell _ _ (by omega) (by omega)]; exact HZ.out.2.1
      have f0 : wr.frozen? ⟨w.heap.size, 0, none⟩ = false := by rw [hgw.frozen _ _ (by omega) (by omega)]; exact HZ.out.2.2.1
      have f1 : wr.frozen? ⟨w.heap.size, 1, none⟩ = false := by rw [hgw.frozen _ _ (by omega) (by omega)]; exact HZ.out.2.2.2
      obtain ⟨g, rfl, hgB⟩ : ∃ g, a = some ⟨g, 0, none⟩ ∧ w.heap.size + 2 ≤ g := by
        obtain ⟨g, cap, hv, hb, _⟩ := hgw.own.form (by rw [flC_len]; omega)
        simp only [Value.slice.injEq] at hv
        exact ⟨g, hv.1, hb⟩
      have HSL : Hid (Ow wr (w.heap.size + 2) g k c (flC k)) := ⟨by have := hgw.own; rw [flC_len] at this; exact this⟩
      have HBE : Hid (Below w.heap.size w wr) := hgw.below HBW.out (by omega)
      have HGB : Hid (w.heap.size + 2 ≤ g) := hgB
      clear hgw hlen hgB
      go_wp2_with fail
      refine bodyPost_ret (v := .tuple #[.agg #[.slice (some ⟨g, 0, none⟩) k c, .int .i64 0], .int .i64 0]) (by simp [results, Try.results11, go_sem, d0, d1]) rfl ⟨_, c, by rw [flC_len], ?_, ?_⟩
      · have := HGB.out
        rw [flC_len]
        exact ((HSL.out.far (by simp; omega) _).far (by simp; omega) _).mono (Nat.le_add_right _ 2)
      · exact below_set (below_set HBE.out (by simp) _) (by simp) _

end Go.Proofs.Ytpijgdfhkmailaa
