/- DERIVED. Several texts in one: The walk of the statement CdfParts. The walks of Bring and of share, and a list of whole numbers in memory. The walks of the document's Same and of the statements' own 'copied' and 'kept'. The walks of the statements' own 'kept' and 'told'. The walks of the document's Bounds and Find. The walk of the statement CdfLearnt. A table that grows in a variable of its own; the walks of the document's Flat and Steep. The walks of the document's Steep, and of both where n may not be. What stays of a world where some blocks turned; the makers' answers in one form. -/
import Derived.Test.YtppanogpeengnaaDoorT2
namespace Go.Proofs.YtppanogpeengnaaDoor.L3
open Go.RowKit

theorem find_is {w : World} {a : Option Addr} {c : Nat} {C : List Nat} {n : Int} {p s : Nat} (h : Sl w .u16 a C) (ht : TOk C n) (hf : Fd C p s) :
    Calls Tryd.prog 84 #[.agg #[.slice a C.length c, .int .i64 n], .int .u32 p] w fun e w' => e = .returned (.tuple #[.int .i64 (s : Nat), .int .i64 0]) ∧ Below w.heap.size w w' := by
  have hle := ee_le ht hf.1
  refine (find_ok h ht (by have := hf.2.2; omega)).mono ?_
  rintro e w' ⟨s', rfl, hs', hb⟩
  have e := part_uniq ht hs'.1 hf.1 hs'.2.1 hs'.2.2 hf.2.1 hf.2.2
  subst e
  exact ⟨rfl, hb⟩

def PaInv (W : World) (x : Nat) (t : Tb) (ev iv : Value) (wr : World) : Prop := ∃ k : Nat, k ≤ t.C.length ∧ iv = .int .i64 k ∧ ev = .int .u32 (eb t.C k : Nat) ∧ Loc wr x t ∧ Below W.heap.size W wr

end Go.Proofs.YtppanogpeengnaaDoor.L3

namespace Go.Proofs.YtppanogpeengnaaDoor.L3
open Go.RowKit

/-- a number brought into 0 .. m - 1 -/
def brg (i : Int) (m : Nat) : Nat := (i % (m : Int)).toNat
theorem brg_lt (i : Int) {m : Nat} (h : 0 < m) : brg i m < m := by
  unfold brg
  have := Int.emod_lt_of_pos i (show (0 : Int) < m by omega)
  have := Int.emod_nonneg i (show (m : Int) ≠ 0 by omega)
  omega
theorem tmod_brg (i : Int) {m : Nat} (h : 0 < m) : (0 ≤ i.tmod m → i.tmod m = (brg i m : Int)) ∧ (i.tmod m < 0 → i.tmod m + m = (brg i m : Int)) ∧ -(m : Int) < i.tmod m ∧ i.tmod m < (m : Int) := by
  have e1 := Int.emod_lt_of_pos i (show (0 : Int) < m by omega)
  have e2 := Int.emod_nonneg i (show (m : Int) ≠ 0 by omega)
  have hb : (brg i m : Int) = i % (m : Int) := by unfold brg; omega
  rw [hb]
  rcases Int.le_total 0 i with h0 | h0
  · rw [Int.tmod_eq_emod_of_nonneg h0]
    omega
  · obtain ⟨j, rfl⟩ : ∃ j : Nat, i = -(j : Int) := ⟨(-i).toNat, by omega⟩
    rw [Int.neg_tmod, Int.tmod_eq_emod_of_nonneg (by omega)]
    have f1 := Int.emod_lt_of_pos (j : Int) (show (0 : Int) < m by omega)
    have f2 := Int.emod_nonneg (j : Int) (show (m : Int) ≠ 0 by omega)
    have f3 : (-(j : Int)) % (m : Int) = if (j : Int) % (m : Int) = 0 then 0 else (m : Int) - (j : Int) % (m : Int) := by
      split
      · rename_i hz
        exact Int.emod_eq_zero_of_dvd ((Int.dvd_neg).2 (Int.dvd_of_emod_eq_zero hz))
      · rename_i hz
        have hd := Int.emod_add_mul_ediv (j : Int) (m : Int)
        rw [show (-(j : Int)) = ((m : Int) - (j : Int) % (m : Int)) + (m : Int) * (-((j : Int) / (m : Int)) - 1) from by rw [Int.mul_sub, Int.mul_neg]; omega, Int.add_mul_emod_self_left]
        exact Int.emod_eq_of_lt (by omega) (by omega)
    rw [f3]
    split <;> omega

set_option maxHeartbeats 400000 in
theorem bring_any (i : Int) (m : Nat) (w : World) (h : 0 < m) (hm : m ≤ 1000) : Calls Tryd.prog 26 #[.int .i64 i, .int .i64 m] w fun e w' => e = .returned (.int .i64 (brg i m)) ∧ w' = w := by
  have HT : Hid _ := tmod_brg i h
  have h' : ¬ (m : Int) ≤ 0 := by omega
  have h2 : (m : Int) ≠ 0 := by omega
  have h3 : (0 : Int) < m := by omega
  have t1 := (tmod_brg i h).2.2.1
  have t2 := (tmod_brg i h).2.2.2
  by_cases hs : i.tmod (m : Int) < 0
  · have HE : Hid _ := HT.out.2.1 hs
    generalize hT : i.tmod (m : Int) = T at *
    go_enter Tryd.func26, Tryd.ntmps26
    go_wp2
    go_ret
    exact ⟨ret_int HE.out, rfl⟩
  · have HE : Hid _ := HT.out.1 (by omega)
    generalize hT : i.tmod (m : Int) = T at *
    go_enter Tryd.func26, Tryd.ntmps26
    go_wp2
    go_ret
    exact ⟨ret_int HE.out, rfl⟩

/-- whole numbers in memory -/
def Ns (w : World) (a : Option Addr) (l : List Int) : Prop :=
  l = [] ∨ ∃ b o, a = some ⟨b, o, none⟩ ∧ b < w.heap.size ∧ ∀ j, j < l.length → w.cell? ⟨b, o + j, none⟩ = some (.int .i64 (l.getD j 0))

end Go.Proofs.YtppanogpeengnaaDoor.L3

namespace Go.Proofs.YtppanogpeengnaaDoor.L3
open Go.RowKit

/-- a row grows, and again -/
theorem grown_trans {a b c : World} {r r' : Option Nat} (h : a.grownBy b r) (k : b.grownBy c r') (hr : ∀ g, r' = some g → r = some g ∨ a.heap.size ≤ g) : a.grownBy c r :=
  ⟨k.os.trans h.os, k.tape.trans h.tape, k.output.trans h.output, Nat.le_trans h.size k.size, fun i hi hne => by
    rw [k.block i (Nat.lt_of_lt_of_le hi h.size) (fun e => by rcases hr i e.symm with e | e; exact hne e.symm; omega)]
    exact h.block i hi hne⟩
theorem grown_below {B : Nat} {a b : World} {r : Option Nat} (h : a.grownBy b r) (hB : B ≤ a.heap.size) (hr : ∀ g, r = some g → B ≤ g) : Below B a b :=
  ⟨h.os, h.tape, h.output, h.size, fun i hi => h.block i (by omega) (fun e => by have := hr i e.symm; omega)⟩
theorem below_grown {a b : World} (h : Below a.heap.size a b) (r : Option Nat) : a.grownBy b r := ⟨h.os, h.tape, h.output, h.size, fun i hi _ => h.block i hi⟩

theorem Ow.drew {w : World} {B g n c : Nat} {C : List Nat} (h : Ow w B g n c C) : Ow w.drew B g n c C := h.carry rfl

/-- 'append(c, x)' on a row of 16-bit numbers -/
theorem wpList_append_num (wr : World) {ops : Array Oper} {rest : List Oper} {o : Oper} {a : Act} {Q : Exit → Act → World → Prop} (hgd : o.guard = none) (s x : Operand)
    (ho : o.op = .call { callee := .builtin .append, args := #[s, x], argTypes := #[61, 61] })
    (B n : Nat) (C : List Nat) (v : Value) (X : Int) (y : Nat) (hX : X = (y : Int)) (hn : C.length = n) (hown : wr.ownsRow B 38 1 v n (ns .u16 C)) (hB : B ≤ wr.heap.size) (hL : n < 70368744177664)
    (hs : a.eval s = v) (hx : a.eval x = .slice (some ⟨wr.heap.size, 0, none⟩) 1 1)
    (h : ∀ g cap w', Ow w' B g (n + 1) cap (C ++ [y]) → wr.grownBy w' v.ownBlock → (v.ownBlock = some g ∨ wr.heap.size ≤ g) → wpList Tryd.prog ops Q rest (a.put o.dst (.slice (some ⟨g, 0, none⟩) (n + 1) cap)) w') :
    wpList Tryd.prog ops Q (o :: rest) a (wr.alloc (.cells #[.int .u16 X] 38)) := by
  subst hX
  obtain ⟨i, hi, hz0, hz1, hz2⟩ := info_parts Tryd.info38
  have hnews : ∀ j u, (ns .u16 [y])[j]? = some u → (wr.alloc (.cells #[.int .u16 (y : Int)] 38)).cell? ((⟨wr.heap.size, 0, none⟩ : Addr).add j) = some u := World.news_of_block (cs := #[.int .u16 (y : Int)]) (heap_alloc_new wr _)
  refine wpList_append_lies _ hgd s x 61 ho B 38 i (.int .u16 0) 1 2 Tryd.underlying61 hi hz0 hz1 hz2 rfl (by omega) v n (ns .u16 C) hs (hown.alloc _) ⟨wr.heap.size, 0, none⟩ 1 1 (ns .u16 [y]) hx (by rfl) hnews (ns_one _ _) (by omega) (by unfold maxLen; omega) (by omega) (by simp; omega) (wr.heap.size + 1) (by simp) ?_
  intro g cap w' hown' hgrow hat _
  refine h g cap w' ⟨by rw [ns_append]; exact hown'⟩ ?_ ?_
  · exact grown_trans (below_grown (from_alloc wr _) _) hgrow (fun g hg => Or.inl hg)
  · rcases hat with e | e
    · exact Or.inl e
    · right; omega

/-- a copy with marked room behind it -/
structure Cp (w : World) (B g c : Nat) (C : List Nat) : Prop where
  own : Ow w B g (C.length + 3) c (C ++ [7777, 7777, 7777])
theorem Cp.to {w w' : World} {B g c : Nat} {C : List Nat} (h : Cp w B g c C) (hb : Below w.heap.size w w') : Cp w' B g c C := ⟨h.own.to hb⟩
theorem Cp.cell {w : World} {B g c : Nat} {C : List Nat} (h : Cp w B g c C) (j : Nat) (hj : j < C.length) : w.cell? ⟨g, j, none⟩ = some (.int .u16 (C.getD j 0 : Nat)) := by
  have := h.own.cell j (by omega)
  rw [List.getD_eq_getElem?_getD, List.getElem?_append_left hj, ← List.getD_eq_getElem?_getD] at this
  exact this
theorem Cp.room {w : World} {B g c : Nat} {C : List Nat} (h : Cp w B g c C) (j : Nat) (hj : j < 3) : w.cell? ⟨g, C.length + j, none⟩ = some (.int .u16 7777) := by
  have := h.own.cell (C.length + j) (by omega)
  rw [List.getD_eq_getElem?_getD, List.getElem?_append_right (by omega), show C.length + j - C.length = j from by omega] at this
  rcases (show j = 0 ∨ j = 1 ∨ j = 2 by omega) with rfl | rfl | rfl <;> simpa using this
theorem Cp.sl {w : World} {B g c : Nat} {C : List Nat} (h : Cp w B g c C) : Sl w .u16 (some ⟨g, 0, none⟩) C :=
  Or.inr ⟨g, 0, rfl, h.own.lies.2, fun j hj => by rw [Nat.zero_add]; exact h.cell j hj⟩

end Go.Proofs.YtppanogpeengnaaDoor.L3

namespace Go.Proofs.YtppanogpeengnaaDoor.L3
open Go.RowKit

/-- a row of its own, whose block alone may have turned -/
structure Tw (w : World) (B : Nat) (r : Option Nat) (a : Option Addr) (n c : Nat) (wr : World) : Prop where
  own : ∃ D : List Nat, D.length = n ∧ wr.ownsRow B 38 1 (.slice a n c) n (ns .u16 D)
  gr : w.grownBy wr r
  at_ : ∀ g, (Value.slice a n c).ownBlock = some g → r = some g ∨ w.heap.size ≤ g

end Go.Proofs.YtppanogpeengnaaDoor.L3

namespace Go.Proofs.YtppanogpeengnaaDoor.L3
open Go.RowKit

/-- a variable that has a table, behind a world -/
structure Lw (w u : World) (x : Nat) (t : Tb) : Prop where
  l : Loc u x t
  b : Below w.heap.size w u
theorem Lw.to {w u v : World} {x : Nat} {t : Tb} (h : Lw w u x t) (hb : Below u.heap.size u v) : Lw w v x t := ⟨h.l.to hb, below_to h.b hb⟩

set_option maxRecDepth 100000 in
set_option maxHeartbeats 1000000 in
theorem rbounds_ok {w : World} {a : Option Addr} {c : Nat} {C : List Nat} {n : Int} {i : Nat} (h : Sl w .u16 a C) (ht : TOk C n) (hi : i < C.length) :
    Calls Tryd.prog 66 #[.agg #[.slice a C.length c, .int .i64 n], .int .i64 i] w fun e w' => e = .returned (.tuple #[.int .u32 (eb C i : Nat), .int .u32 (ee C i : Nat), .int .i64 0]) ∧ Below w.heap.size w w' := by
  have HL : Hid (Lw w (w.alloc (.cells #[.slice a C.length c, .int .i64 n] 63)) w.heap.size ⟨a, c, C, n⟩) := ⟨Loc.new ⟨a, c, C, n⟩ h, from_alloc _ _⟩
  have HT : Hid (TOk C n) := ht
  have hhi := ht.hi
  have hi1 : ¬ (i : Int) < 0 := by omega
  have hi2 : ¬ (C.length : Int) ≤ (i : Int) := by omega
  have hle := ee_le ht hi
  have heb := eb_ee ht hi
  have hw1 : IntKind.i64.wrap ((i : Int) - 1) = (i : Int) - 1 := by rw [IntKind.wrap_i64]; omega
  have hw2 : IntKind.u32.wrap ((ee C i : Nat) : Int) = ((ee C i : Nat) : Int) := by rw [IntKind.wrap_u32]; omega
  have hw3 : IntKind.u32.wrap ((eb C i : Nat) : Int) = ((eb C i : Nat) : Int) := by rw [IntKind.wrap_u32]; omega
  have HA : Hid (∀ u, Lw w u w.heap.size ⟨a, c, C, n⟩ → Calls Tryd.prog 87 #[.agg #[.slice a C.length c, .int .i64 n], .int .i64 i] u fun e u' => e = .returned (.int .i64 (ee C i : Nat)) ∧ Lw w u' w.heap.size ⟨a, c, C, n⟩) := fun u hu =>
    (rend_any hu.l.sl ht hi).mono fun e u' ⟨h1, h2⟩ => ⟨h1, hu.to h2⟩
  have HBb : Hid (∀ u, Lw w u w.heap.size ⟨a, c, C, n⟩ → Calls Tryd.prog 87 #[.agg #[.slice a C.length c, .int .i64 n], .int .i64 ((i : Int) - 1)] u fun e u' => e = .returned (.int .i64 (eb C i : Nat)) ∧ Lw w u' w.heap.size ⟨a, c, C, n⟩) := fun u hu => by
    by_cases h0 : i = 0
    · subst h0
      refine (rend_neg (by omega)).mono fun e u' ⟨h1, h2⟩ => ⟨by rw [h1]; rfl, hu.to h2⟩
    · rw [show (i : Int) - 1 = ((i - 1 : Nat) : Int) from by omega]
      refine (rend_any hu.l.sl ht (by show i - 1 < C.length; omega)).mono fun e u' ⟨h1, h2⟩ => ⟨by rw [h1]; unfold eb; rw [if_neg h0], hu.to h2⟩
  have HQ : Hid (∀ u, Lw w u w.heap.size ⟨a, c, C, n⟩ → u.cell? ⟨w.heap.size, 0, none⟩ = some (.slice a C.length c) ∧ u.cell? ⟨w.heap.size, 1, none⟩ = some (.int .i64 n)) := fun u hu => ⟨hu.l.c0, hu.l.c1⟩
  clear h ht hle heb
  go_enter Tryd.func66, Tryd.ntmps66
  go_wp2_with fail
  generalize w.alloc (.cells #[.slice a C.length c, .int .i64 n] 63) = v at *
  refine (rcheck_any HL.out.l.sl (by show C.length ≤ _; omega)).mono ?_
  rintro e w1 ⟨rfl, hb⟩
  rw [show ck C n = 0 from ck_ok HT.out]
  have HL1 : Hid _ := HL.out.to hb
  clear hb HL
  obtain ⟨q0, q1⟩ := HQ.out _ HL1.out
  generalize hx1 : ee C i = e1 at *
  generalize hx2 : eb C i = e2 at *
  have HX1 : Hid (ee C i = e1) := hx1
  have HX2 : Hid (eb C i = e2) := hx2
  clear hx1 hx2
  go_wp2_with fail
  have hbd := HL1.out.to (below_drew (Below.refl _ _))
  clear q0 q1
  obtain ⟨q0, q1⟩ := HQ.out _ hbd
  go_region_held3 (fun u => u.cell? ⟨w.heap.size, 0, none⟩ = some (.slice a C.length c) ∧ u.cell? ⟨w.heap.size, 1, none⟩ = some (.int .i64 n)) (((try dsimp only); first | assumption | (refine ⟨?_, ?_⟩ <;> first | assumption | go_keep) | go_keep)) (first
    | (go_at_call 87; with_reducible refine (HA.out _ (by assumption)).mono ?_; rintro e wA ⟨rfl, hbA⟩; obtain ⟨pA0, pA1⟩ := HQ.out _ hbA)
    | (go_at_call 87; with_reducible refine (HBb.out _ (by assumption)).mono ?_; rintro e wB ⟨rfl, hbB⟩; obtain ⟨pB0, pB1⟩ := HQ.out _ hbB))
  all_goals
    go_wp2_with fail
    first
      | exact bodyPost_ret (v := .tuple #[.int .u32 (e2 : Nat), .int .u32 (e1 : Nat), .int .i64 0]) (by simp [results, Tryd.results66, go_sem]) rfl ⟨by rw [HX1.out, HX2.out], hbB.b⟩
      | exact bodyPost_ret (v := .tuple #[.int .u32 (e2 : Nat), .int .u32 (e1 : Nat), .int .i64 0]) (by simp [results, Tryd.results66, go_sem]) rfl ⟨by rw [HX1.out, HX2.out], hbA.b⟩

set_option maxRecDepth 100000 in
set_option maxHeartbeats 1000000 in
theorem rbounds_no {w : World} {a : Option Addr} {c : Nat} {C : List Nat} {n s : Int} (h : Sl w .u16 a C) (hl : C.length ≤ 140737488355328) (ht : ¬ (TOk C n ∧ 0 ≤ s ∧ s < C.length)) :
    Calls Tryd.prog 66 #[.agg #[.slice a C.length c, .int .i64 n], .int .i64 s] w fun e w' => e = .returned (.tuple #[.int .u32 0, .int .u32 0, .int .i64 2]) ∧ Below w.heap.size w w' := by
  have HL : Hid (Lw w (w.alloc (.cells #[.slice a C.length c, .int .i64 n] 63)) w.heap.size ⟨a, c, C, n⟩) := ⟨Loc.new ⟨a, c, C, n⟩ h, from_alloc _ _⟩
  have HNO : Hid (¬ (TOk C n ∧ 0 ≤ s ∧ s < C.length)) := ht
  clear h ht
  go_enter Tryd.func66, Tryd.ntmps66
  go_wp2_with fail
  generalize w.alloc (.cells #[.slice a C.length c, .int .i64 n] 63) = v at *
  refine (rcheck_any HL.out.l.sl hl).mono ?_
  rintro e w1 ⟨rfl, hb⟩
  have HL1 : Hid _ := HL.out.to hb
  clear hb HL
  have q0 : w1.cell? ⟨w.heap.size, 0, none⟩ = some (.slice a C.length c) := HL1.out.l.c0
  have q1 : w1.cell? ⟨w.heap.size, 1, none⟩ = some (.int .i64 n) := HL1.out.l.c1
  by_cases ht : TOk C n
  · rw [show ck C n = 0 from ck_ok ht]
    by_cases h0 : s < 0
    · go_wp2_with fail
      exact bodyPost_ret (v := .tuple #[.int .u32 0, .int .u32 0, .int .i64 2]) (by simp [results, Tryd.results66, go_sem]) rfl ⟨rfl, HL1.out.b⟩
    · have h1 : (C.length : Int) ≤ s := by
        have := HNO.out
        by_cases e : s < C.length
        · exact absurd ⟨ht, by omega, e⟩ this
        · omega
      go_wp2_with fail
      exact bodyPost_ret (v := .tuple #[.int .u32 0, .int .u32 0, .int .i64 2]) (by simp [results, Tryd.results66, go_sem]) rfl ⟨rfl, HL1.out.b⟩
  · rw [show ck C n = 2 from ck_no ht]
    go_wp2_with fail
    exact bodyPost_ret (v := .tuple #[.int .u32 0, .int .u32 0, .int .i64 2]) (by simp [results, Tryd.results66, go_sem]) rfl ⟨rfl, HL1.out.b⟩

set_option maxRecDepth 100000 in
set_option maxHeartbeats 1000000 in
theorem rfind_is {w : World} {a : Option Addr} {c : Nat} {C : List Nat} {n : Int} {p s : Nat} (h : Sl w .u16 a C) (ht : TOk C n) (hf : Fd C p s) :
    Calls Tryd.prog 69 #[.agg #[.slice a C.length c, .int .i64 n], .int .u32 p] w fun e w' => e = .returned (.tuple #[.int .i64 (s : Nat), .int .i64 0]) ∧ Below w.heap.size w w' := by
  have HL : Hid (Lw w (w.alloc (.cells #[.slice a C.length c, .int .i64 n] 63)) w.heap.size ⟨a, c, C, n⟩) := ⟨Loc.new ⟨a, c, C, n⟩ h, from_alloc _ _⟩
  have HT : Hid (TOk C n) := ht
  have HF : Hid (Fd C p s) := hf
  have hhi := ht.hi
  have hlo := ht.lo
  have hple := ee_le ht hf.1
  have hpe := hf.2.2
  have HP : Bx (p < 32768) := ⟨by omega⟩
  have hwp : wrap64 (p : Int) = (p : Int) := wrap64_small _ (by omega) (by omega)
  have hp' : decide ((32767 : Int) < (p : Int)) = false := by simp; omega
  clear h ht hf hple hpe
  go_enter Tryd.func69, Tryd.ntmps69
  go_wp2_with fail
  generalize w.alloc (.cells #[.slice a C.length c, .int .i64 n] 63) = v at *
  refine (rcheck_any HL.out.l.sl (by show C.length ≤ _; omega)).mono ?_
  rintro e w1 ⟨rfl, hb⟩
  rw [show ck C n = 0 from ck_ok HT.out]
  have HL1 : Hid _ := HL.out.to hb
  clear hb HL
  go_wp2_with fail
  clear hp'
  go_loopw [6] (fun iv wr => ∃ k : Nat, k < C.length ∧ iv = .int .i64 k ∧ eb C k ≤ p ∧ Lw w wr w.heap.size ⟨a, c, C, n⟩) (fun iv _ => C.length - (intOf iv).toNat)
  case atStart => exact ⟨0, by omega, rfl, by simp [eb], HL1.out⟩
  case round =>
    obtain ⟨k, hk, rfl, he, hlw⟩ := hrel
    clear HL1
    have HE : Hid (eb C k ≤ p) := he
    have HLW : Hid _ := hlw
    clear he hlw
    have q0 : wr.cell? ⟨w.heap.size, 0, none⟩ = some (.slice a C.length c) := HLW.out.l.c0
    have q1 : wr.cell? ⟨w.heap.size, 1, none⟩ = some (.int .i64 n) := HLW.out.l.c1
    have hle := ee_le HT.out hk
    have hp := HP.out
    by_cases hlt : ee C k ≤ p
    · have hk1 : k + 1 < C.length := by
        by_cases e : k + 1 < C.length
        · exact e
        · have := ee_last HT.out
          rw [show C.length - 1 = k from by omega] at this
          omega
      have hlt' : (ee C k : Int) ≤ (p : Int) := by omega
      have HLT : Hid (ee C k ≤ p) := hlt
      clear hlt hle hp
      go_wp2_with fail
      refine (rend_any (i := k) HLW.out.l.sl HT.out hk).mono ?_
      rintro e w2 ⟨rfl, hb⟩
      have HLW2 : Hid _ := HLW.out.to hb
      clear hb HLW q0 q1
      go_wp2_with fail
      go_roundw
      case rel => exact ⟨k + 1, hk1, by go_num, by rw [eb_succ]; exact HLT.out, HLW2.out⟩
      case measure => simp [intOf]; omega
    · have hlt' : ¬ (ee C k : Int) ≤ (p : Int) := by omega
      have HKS : Hid (k = s) := part_uniq HT.out hk HF.out.1 HE.out (by omega) HF.out.2.1 HF.out.2.2
      clear hlt hle hp
      go_wp2_with fail
      refine (rend_any (i := k) HLW.out.l.sl HT.out hk).mono ?_
      rintro e w2 ⟨rfl, hb⟩
      have HLW2 : Hid _ := HLW.out.to hb
      clear hb HLW q0 q1
      go_wp2_with fail
      go_ret2
      exact ⟨by rw [← HKS.out]; rfl, HLW2.out.b⟩

set_option maxRecDepth 100000 in
set_option maxHeartbeats 1000000 in
theorem rfind_no {w : World} {a : Option Addr} {c : Nat} {C : List Nat} {n : Int} {p : Nat} (h : Sl w .u16 a C) (hl : C.length ≤ 140737488355328) (ht : ¬ TOk C n ∨ 32768 ≤ p) :
    Calls Tryd.prog 69 #[.agg #[.slice a C.length c, .int .i64 n], .int .u32 p] w fun e w' => e = .returned (.tuple #[.int .i64 0, .int .i64 2]) ∧ Below w.heap.size w w' := by
  have HL : Hid (Lw w (w.alloc (.cells #[.slice a C.length c, .int .i64 n] 63)) w.heap.size ⟨a, c, C, n⟩) := ⟨Loc.new ⟨a, c, C, n⟩ h, from_alloc _ _⟩
  clear h
  by_cases hk : TOk C n
  · have hp' : decide ((32767 : Int) < (p : Int)) = true := by rcases ht with e | e; exact absurd hk e; simp; omega
    have HC : Hid (ck C n = 0) := ck_ok hk
    clear ht hk
    go_enter Tryd.func69, Tryd.ntmps69
    go_wp2_with fail
    generalize w.alloc (.cells #[.slice a C.length c, .int .i64 n] 63) = v at *
    refine (rcheck_any HL.out.l.sl hl).mono ?_
    rintro e w1 ⟨rfl, hb⟩
    rw [HC.out]
    have HL1 : Hid _ := HL.out.to hb
    clear hb HL
    go_wp2_with fail
    go_ret2
    exact ⟨rfl, HL1.out.b⟩
  · have HC : Hid (ck C n = 2) := ck_no hk
    clear ht hk
    go_enter Tryd.func69, Tryd.ntmps69
    go_wp2_with fail
    generalize w.alloc (.cells #[.slice a C.length c, .int .i64 n] 63) = v at *
    refine (rcheck_any HL.out.l.sl hl).mono ?_
    rintro e w1 ⟨rfl, hb⟩
    rw [HC.out]
    have HL1 : Hid _ := HL.out.to hb
    clear hb HL
    go_wp2_with fail
    go_ret2
    exact ⟨rfl, HL1.out.b⟩

end Go.Proofs.YtppanogpeengnaaDoor.L3

namespace Go.Proofs.YtppanogpeengnaaDoor.L3
open Go.RowKit

theorem Ns.form {w : World} {a : Option Addr} {l : List Int} (h : Ns w a l) (h0 : 0 < l.length) : ∃ b o, a = some ⟨b, o, none⟩ ∧ b < w.heap.size ∧ ∀ j, j < l.length → w.cell? ⟨b, o + j, none⟩ = some (.int .i64 (l.getD j 0)) := by
  rcases h with rfl | h
  · simp at h0
  · exact h
/-- two variables that have tables -/
structure Bun (w u : World) (x y : Nat) (t a : Tb) : Prop where
  l1 : Loc u x t
  l2 : Loc u y a
  b : Below w.heap.size w u
theorem Bun.to {w u v : World} {x y : Nat} {t a : Tb} (h : Bun w u x y t a) (hb : Below u.heap.size u v) : Bun w v x y t a := ⟨h.l1.to hb, h.l2.to hb, below_to h.b hb⟩
theorem Bun.drew {w u : World} {x y : Nat} {t a : Tb} (h : Bun w u x y t a) : Bun w u.drew x y t a := h.to (below_drew (Below.refl _ _))
theorem TOk.u16 {C : List Nat} {n : Int} (h : TOk C n) (i : Nat) : C.getD i 0 < 65536 := by have := h.le i; omega

theorem Sl.far {w : World} {k : IntKind} {g o : Nat} {C : List Nat} (h : Sl w k (some ⟨g, o, none⟩) C) {a : Addr} (ha : g ≠ a.block) (u : Value) : Sl (w.setCell a u) k (some ⟨g, o, none⟩) C := by
  rcases h with h | ⟨b, o', h1, h2, h3⟩
  · exact Or.inl h
  · simp only [Option.some.injEq, Addr.mk.injEq, and_true] at h1
    obtain ⟨rfl, rfl⟩ := h1
    exact Or.inr ⟨g, o, rfl, by simpa [World.setCell] using h2, fun j hj => by rw [World.cell?_setCell_other _ _ _ _ (fun e => ha (by rw [e]))]; exact h3 j hj⟩
/-- .. the first of which can be written -/
structure Bun2 (w u : World) (x y : Nat) (t a : Tb) : Prop where
  bun : Bun w u x y t a
  f0 : u.frozen? ⟨x, 0, none⟩ = false
  f1 : u.frozen? ⟨x, 1, none⟩ = false
theorem Bun2.to {w u v : World} {x y : Nat} {t a : Tb} (h : Bun2 w u x y t a) (hb : Below u.heap.size u v) : Bun2 w v x y t a := ⟨h.bun.to hb, by rw [newFrozen hb _ _ h.bun.l1.low]; exact h.f0, by rw [newFrozen hb _ _ h.bun.l1.low]; exact h.f1⟩

/-- where the loop over the values stands -/
structure LnInv (w : World) (x : Nat) (len : Nat) (iv : Value) (wr : World) (k : Nat) (t : Tb) : Prop where
  iv : iv = .int .i64 k
  k1 : k ≤ len
  k2 : k ≤ 40
  loc : Loc wr x t
  ok : TOk t.C t.n
  f0 : wr.frozen? ⟨x, 0, none⟩ = false
  f1 : wr.frozen? ⟨x, 1, none⟩ = false
  b : Below w.heap.size w wr

end Go.Proofs.YtppanogpeengnaaDoor.L3

namespace Go.Proofs.YtppanogpeengnaaDoor.L3
open Go.RowKit

/-- a variable in block X whose table C grows; its row lies from B on; the other blocks below B stay -/
structure Gw (W : World) (B X : Nat) (C : List Nat) (n : Int) (a : Option Addr) (c : Nat) (wr : World) : Prop where
  c0 : wr.cell? ⟨X, 0, none⟩ = some (.slice a C.length c)
  c1 : wr.cell? ⟨X, 1, none⟩ = some (.int .i64 n)
  f0 : wr.frozen? ⟨X, 0, none⟩ = false
  own : wr.ownsRow B 38 1 (.slice a C.length c) C.length (ns .u16 C)
  low : X < B
  sB : B ≤ wr.heap.size
  os : wr.os = W.os
  tape : wr.tape = W.tape
  output : wr.output = W.output
  size : W.heap.size ≤ wr.heap.size
  block : ∀ k, k < B → k ≠ X → wr.heap[k]? = W.heap[k]?
theorem Gw.cell {W wr : World} {B X c : Nat} {C : List Nat} {n : Int} {a : Option Addr} (h : Gw W B X C n a c wr) (k j : Nat) (hk : k < B) (hX : k ≠ X) : wr.cell? ⟨k, j, none⟩ = W.cell? ⟨k, j, none⟩ := World.cell?_of_block (w := W) (a := ⟨k, j, none⟩) (h.block k hk hX)
theorem Gw.frozen {W wr : World} {B X c : Nat} {C : List Nat} {n : Int} {a : Option Addr} (h : Gw W B X C n a c wr) (k j : Nat) (hk : k < B) (hX : k ≠ X) : wr.frozen? ⟨k, j, none⟩ = W.frozen? ⟨k, j, none⟩ := World.frozen?_of_block (w := W) (a := ⟨k, j, none⟩) (h.block k hk hX)
theorem Gw.below {w W wr : World} {B X c : Nat} {C : List Nat} {n : Int} {a : Option Addr} (h : Gw W B X C n a c wr) (hb : Below w.heap.size w W) (hX : w.heap.size ≤ X) : Below w.heap.size w wr :=
  ⟨h.os.trans hb.os, h.tape.trans hb.tape, h.output.trans hb.output, Nat.le_trans hb.size h.size, fun k hk => by
    have := h.low
    rw [h.block k (by omega) (by omega)]; exact hb.block k hk⟩
theorem Gw.start {W : World} {X : Nat} {n : Int} (c0 : W.cell? ⟨X, 0, none⟩ = some (.slice none 0 0)) (c1 : W.cell? ⟨X, 1, none⟩ = some (.int .i64 n)) (f0 : W.frozen? ⟨X, 0, none⟩ = false) (hX : X < W.heap.size) : Gw W W.heap.size X [] n none 0 W :=
  ⟨c0, c1, f0, World.ownsRow_nil _ _ _ _, hX, Nat.le_refl _, rfl, rfl, rfl, Nat.le_refl _, fun _ _ _ => rfl⟩
/-- behind an append, ahead of the store -/
theorem Gw.after {W wr w' : World} {B X c : Nat} {C : List Nat} {n : Int} {a : Option Addr} (h : Gw W B X C n a c wr) (hg : wr.grownBy w' (Value.slice a C.length c).ownBlock) :
    w'.cell? ⟨X, 0, none⟩ = some (.slice a C.length c) ∧ w'.cell? ⟨X, 1, none⟩ = some (.int .i64 n) ∧ w'.frozen? ⟨X, 0, none⟩ = false := by
  have hlow := h.low
  have hsB := h.sB
  have hblk : w'.heap[X]? = wr.heap[X]? := hg.block X (by omega) (fun e => by have := (h.own.lt X e.symm).1; omega)
  exact ⟨by rw [World.cell?_of_block (w := wr) (a := ⟨X, 0, none⟩) hblk]; exact h.c0, by rw [World.cell?_of_block (w := wr) (a := ⟨X, 1, none⟩) hblk]; exact h.c1, by rw [World.frozen?_of_block (w := wr) (a := ⟨X, 0, none⟩) hblk]; exact h.f0⟩
/-- one element more, and the variable has it -/
theorem Gw.step {W wr w' : World} {B X c g cap y : Nat} {C : List Nat} {n : Int} {a : Option Addr} (h : Gw W B X C n a c wr) (ho : Ow w' B g (C.length + 1) cap (C ++ [y])) (hg : wr.grownBy w' (Value.slice a C.length c).ownBlock) :
    Gw W B X (C ++ [y]) n (some ⟨g, 0, none⟩) cap (w'.setCell ⟨X, 0, none⟩ (.slice (some ⟨g, 0, none⟩) (C.length + 1) cap)) := by
  have hlow := h.low
  have hsB := h.sB
  have hrow : ∀ k, k < B → (Value.slice a C.length c).ownBlock ≠ some k := fun k hk e => by have := (h.own.lt k e).1; omega
  have hblk : ∀ k, k < B → w'.heap[k]? = wr.heap[k]? := fun k hk => hg.block k (by omega) (fun e => hrow k hk e.symm)
  have hgB := ho.lies.1
  have hlen : (C ++ [y]).length = C.length + 1 := by simp
  have e0 : w'.cell? ⟨X, 0, none⟩ = some (.slice a C.length c) := by rw [World.cell?_of_block (w := wr) (a := ⟨X, 0, none⟩) (hblk X hlow)]; exact h.c0
  have e1 : w'.cell? ⟨X, 1, none⟩ = some (.int .i64 n) := by rw [World.cell?_of_block (w := wr) (a := ⟨X, 1, none⟩) (hblk X hlow)]; exact h.c1
  have ef : w'.frozen? ⟨X, 0, none⟩ = false := by rw [World.frozen?_of_block (w := wr) (a := ⟨X, 0, none⟩) (hblk X hlow)]; exact h.f0
  refine ⟨?_, ?_, by simpa using ef, ?_, hlow, ?_, hg.os.trans h.os, hg.tape.trans h.tape, hg.output.trans h.output, ?_, fun k hk hX => ?_⟩
  · rw [hlen]; exact World.cell?_setCell_same _ _ _ e0
  · rw [World.cell?_setCell_other _ _ _ _ (by simp)]; exact e1
  · rw [hlen]; exact own_set_far ho.own (by simp [Value.ownBlock]; omega) _
  · have := hg.size; simp [World.setCell]; omega
  · have h1 := h.size; have h2 := hg.size; simp [World.setCell]; omega
  · rw [Below.heap_setCell _ _ _ _ (by simpa using hX), hblk k hk]; exact h.block k hk hX

/-- 'append(t.C, x)' in a region that draws its order -/
theorem step_append_num (wr : World) {ops : Array Oper} {o : Oper} {a : Act} {K : Act → World → Prop} {Q : Exit → Act → World → Prop} {E : Prop} (hgd : o.guard = none) (s x : Operand)
    (ho : o.op = .call { callee := .builtin .append, args := #[s, x], argTypes := #[61, 61] })
    (B n : Nat) (C : List Nat) (v : Value) (X : Int) (y : Nat) (hX : X = (y : Int)) (hn : C.length = n) (hown : wr.ownsRow B 38 1 v n (ns .u16 C)) (hB : B ≤ wr.heap.size) (hL : n < 70368744177664)
    (hs : a.eval s = v) (hx : a.eval x = .slice (some ⟨wr.heap.size, 0, none⟩) 1 1)
    (h : ∀ g cap w', Ow w' B g (n + 1) cap (C ++ [y]) → wr.grownBy w' v.ownBlock → (v.ownBlock = some g ∨ wr.heap.size ≤ g) → g < w'.heap.size → K (a.put o.dst (.slice (some ⟨g, 0, none⟩) (n + 1) cap)) w') :
    if Region.wanted o (yielded ops a.tmps) = true then Oper.wp Tryd.prog o a (wr.alloc (.cells #[.int .u16 X] 38)).drew K Q else E := by
  subst hX
  obtain ⟨i, hi, hz0, hz1, hz2⟩ := info_parts Tryd.info38
  have hnews : ∀ j u, (ns .u16 [y])[j]? = some u → (wr.alloc (.cells #[.int .u16 (y : Int)] 38)).drew.cell? ((⟨wr.heap.size, 0, none⟩ : Addr).add j) = some u := World.news_of_block (w := wr.alloc (.cells #[.int .u16 (y : Int)] 38)) (cs := #[.int .u16 (y : Int)]) (heap_alloc_new wr _)
  refine step_append_lies _ hgd s x 61 ho B 38 i (.int .u16 0) 1 2 Tryd.underlying61 hi hz0 hz1 hz2 rfl (by omega) v n (ns .u16 C) hs (hown.alloc _).drew ⟨wr.heap.size, 0, none⟩ 1 1 (ns .u16 [y]) hx (by rfl) hnews (ns_one _ _) (by omega) (by unfold maxLen; omega) (by omega) (by simp; omega) (wr.heap.size + 1) (by simp) ?_
  intro g cap w' hown' hgrow hat hlt
  refine h g cap w' ⟨by rw [ns_append]; exact hown'⟩ ?_ ?_ hlt
  · exact grown_trans (below_grown (from_alloc wr _) _) (undrew hgrow) (fun g hg => Or.inl hg)
  · rcases hat with e | e
    · exact Or.inl e
    · right; omega

theorem fl_val2 {n k : Nat} (h : k < n) (_hn : n ≤ 16) : IntKind.u16.wrap (IntKind.i64.wrap ((32768 * ((k : Int) + 1)).tdiv (n : Int))) = ((fl n k : Nat) : Int) := by
  have := fl_le h
  have e : 32768 * ((k : Int) + 1) / (n : Int) = ((fl n k : Nat) : Int) := by unfold fl; rw [Int.natCast_ediv, Int.natCast_mul, Int.natCast_add]; rfl
  rw [Int.tdiv_eq_ediv_of_nonneg (by omega), e, IntKind.wrap_i64, IntKind.wrap_u16]
  generalize fl n k = q at *
  omega

set_option maxRecDepth 100000 in
set_option maxHeartbeats 1000000 in
theorem rflat_ok {w : World} {n : Nat} (h0 : 2 ≤ n) (h1 : n ≤ 16) :
    Calls Tryd.prog 48 #[.int .i64 n] w fun e w' => Tn w w' e (flC n) 0 := by
  have i0 : ¬ (n : Int) < 2 := by omega
  have i1 : ¬ (16 : Int) < (n : Int) := by omega
  have hg0 : Gw ((w.alloc (.cells #[.slice none 0 0, .int .i64 0] 63)).alloc (.cells #[.slice none 0 0, .int .i64 0] 63)) (w.heap.size + 2) (w.heap.size + 1) [] 0 none 0 ((w.alloc (.cells #[.slice none 0 0, .int .i64 0] 63)).alloc (.cells #[.slice none 0 0, .int .i64 0] 63)) := by
    have := Gw.start (W := (w.alloc (.cells #[.slice none 0 0, .int .i64 0] 63)).alloc (.cells #[.slice none 0 0, .int .i64 0] 63)) (X := w.heap.size + 1) (n := 0) (by simp) (by simp) (by simp) (by simp)
    rw [show ((w.alloc (.cells #[.slice none 0 0, .int .i64 0] 63)).alloc (.cells #[.slice none 0 0, .int .i64 0] 63)).heap.size = w.heap.size + 2 from by simp] at this
    exact this
  have HG0 : Hid _ := hg0
  have z : ((w.alloc (.cells #[.slice none 0 0, .int .i64 0] 63)).alloc (.cells #[.slice none 0 0, .int .i64 0] 63)).cell? ⟨w.heap.size, 0, none⟩ = some (.slice none 0 0) ∧ ((w.alloc (.cells #[.slice none 0 0, .int .i64 0] 63)).alloc (.cells #[.slice none 0 0, .int .i64 0] 63)).cell? ⟨w.heap.size, 1, none⟩ = some (.int .i64 0) ∧ ((w.alloc (.cells #[.slice none 0 0, .int .i64 0] 63)).alloc (.cells #[.slice none 0 0, .int .i64 0] 63)).frozen? ⟨w.heap.size, 0, none⟩ = false ∧ ((w.alloc (.cells #[.slice none 0 0, .int .i64 0] 63)).alloc (.cells #[.slice none 0 0, .int .i64 0] 63)).frozen? ⟨w.heap.size, 1, none⟩ = false := by
    have hb := from_alloc (w.alloc (.cells #[.slice none 0 0, .int .i64 0] 63)) (.cells #[.slice none 0 0, .int .i64 0] 63)
    rw [newCell hb _ _ (by simp), newCell hb _ _ (by simp), newFrozen hb _ _ (by simp), newFrozen hb _ _ (by simp)]
    simp
  have HZ : Hid _ := z
  have HBW : Hid (Below w.heap.size w ((w.alloc (.cells #[.slice none 0 0, .int .i64 0] 63)).alloc (.cells #[.slice none 0 0, .int .i64 0] 63))) := to_alloc (from_alloc _ _) _
  clear hg0 z
  go_enter Tryd.func48, Tryd.ntmps48
  go_wp2_with fail
  generalize (w.alloc (.cells #[.slice none 0 0, .int .i64 0] 63)).alloc (.cells #[.slice none 0 0, .int .i64 0] 63) = W at *
  go_loopw [5] (fun iv wr => ∃ (k : Nat) (a : Option Addr) (c : Nat), k ≤ n ∧ iv = .int .i64 k ∧ Gw W (w.heap.size + 2) (w.heap.size + 1) ((flC n).take k) 0 a c wr) (fun iv _ => n - (intOf iv).toNat)
  case atStart => exact ⟨0, none, 0, by omega, rfl, by simpa using HG0.out⟩
  case round =>
    obtain ⟨k, a, c, hk, rfl, hgw⟩ := hrel
    clear HG0
    have hlen : ((flC n).take k).length = k := by rw [List.length_take, flC_len]; omega
    by_cases hlt : k < n
    · have b0 : 0 ≤ (k : Int) := by omega
      have b1 : (k : Int) < (n : Int) := by omega
      have b2 : (0 : Int) < (n : Int) := by omega
      have b3 : (n : Int) ≤ 16 := by omega
      have c0 := hgw.c0
      have c1 := hgw.c1
      have f0 := hgw.f0
      rw [hlen] at c0
      have hsB := hgw.sB
      have hXl : w.heap.size + 1 < wr.heap.size := by omega
      have HGW : Hid (Gw W (w.heap.size + 2) (w.heap.size + 1) ((flC n).take k) 0 a c wr) := hgw
      have HLEN : Hid (((flC n).take k).length = k) := hlen
      have HV : Hid (IntKind.u16.wrap (IntKind.i64.wrap ((32768 * ((k : Int) + 1)).tdiv (n : Int))) = ((fl n k : Nat) : Int)) := fl_val2 hlt h1
      have HTK : Hid ((flC n).take k ++ [fl n k] = (flC n).take (k + 1)) := by
        unfold Hid
        rw [List.take_add_one, List.getElem?_eq_getElem (by rw [flC_len]; exact hlt)]
        have := flC_get n k hlt
        rw [getD_lt _ (by rw [flC_len]; exact hlt)] at this
        rw [this]; rfl
      clear hgw hlen
      have hw1 : IntKind.i64.wrap ((k : Int) + 1) = (k : Int) + 1 := by rw [IntKind.wrap_i64]; omega
      have hw2 : IntKind.i64.wrap (32768 * ((k : Int) + 1)) = 32768 * ((k : Int) + 1) := by rw [IntKind.wrap_i64]; omega
      have hne1 : (n : Int) ≠ 0 := by omega
      have hne2 : ((n : Int) == 0) = false := by rw [beq_eq_false_iff_ne]; omega
      have hne3 : n ≠ 0 := by omega
      go_wp2_with fail
      go_region_law ((refine step_append_num _ (by rfl) _ _ (by rfl) (w.heap.size + 2) k ((flC n).take k) (.slice a k c) _ (fl n k) (by exact HV.out) HLEN.out (by have := HGW.out.own; rw [HLEN.out] at this; exact this) hsB (by omega) (by rfl) (by rfl) ?_; intro g cap w' how' hgr' hat' hlt'; have haf := HGW.out.after (by rw [HLEN.out]; exact hgr'); rw [HLEN.out] at haf; have e0 := haf.1; have e1 := haf.2.1; have e2 := haf.2.2))
      all_goals
        go_wp2_with fail
        have hst := HGW.out.step (y := fl n k) (by rw [HLEN.out]; exact how') (by rw [HLEN.out]; exact hgr')
        rw [HTK.out, HLEN.out] at hst
        go_roundw
        case rel => exact ⟨k + 1, _, cap, by omega, by go_num, hst⟩
        case measure => simp [intOf]; omega
    · have hk' : k = n := by omega
      subst hk'
      have b1 : ¬ (k : Int) < (k : Int) := by omega
      rw [List.take_of_length_le (by rw [flC_len]; exact Nat.le_refl _)] at hgw
      have c0 := hgw.c0
      have c1 := hgw.c1
      rw [flC_len] at c0
      have d0 : wr.cell? ⟨w.heap.size, 0, none⟩ = some (.slice none 0 0) := by rw [hgw.cell _ _ (by omega) (by omega)]; exact HZ.out.1
      have d1 : wr.cell? ⟨w.heap.size, 1, none⟩ = some (.int .i64 0) := by rw [hgw.cell _ _ (by omega) (by omega)]; exact HZ.out.2.1
      have f0 : wr.frozen? ⟨w.heap.size, 0, none⟩ = false := by rw [hgw.frozen _ _ (by omega) (by omega)]; exact HZ.out.2.2.1
      have f1 : wr.frozen? ⟨w.heap.size, 1, none⟩ = false := by rw [hgw.frozen _ _ (by omega) (by omega)]; exact HZ.out.2.2.2
      obtain ⟨g, rfl, hgB⟩ : ∃ g, a = some ⟨g, 0, none⟩ ∧ w.heap.size + 2 ≤ g := by
        obtain ⟨g, cap, hv, hb, _⟩ := hgw.own.form (by rw [flC_len]; omega)
        simp only [Value.slice.injEq] at hv
        exact ⟨g, hv.1, hb⟩
      have HSL : Hid (Ow wr (w.heap.size + 2) g k c (flC k)) := ⟨by have := hgw.own; rw [flC_len] at this; exact this⟩
      have HBE : Hid (Below w.heap.size w wr) := hgw.below HBW.out (by omega)
      have HGB : Hid (w.heap.size + 2 ≤ g) := hgB
      clear hgw hlen hgB
      go_wp2_with fail
      refine bodyPost_ret (v := .tuple #[.agg #[.slice (some ⟨g, 0, none⟩) k c, .int .i64 0], .int .i64 0]) (by simp [results, Tryd.results48, go_sem, d0, d1]) rfl ⟨_, c, by rw [flC_len], ?_, ?_⟩
      · have := HGB.out
        rw [flC_len]
        exact ((HSL.out.far (by simp; omega) _).far (by simp; omega) _).mono (Nat.le_add_right _ 2)
      · exact below_set (below_set HBE.out (by simp) _) (by simp) _

end Go.Proofs.YtppanogpeengnaaDoor.L3

namespace Go.Proofs.YtppanogpeengnaaDoor.L3
open Go.RowKit

set_option maxHeartbeats 400000 in
theorem rflat_no {w : World} {n : Int} (h : n < 2 ∨ 16 < n) :
    Calls Tryd.prog 48 #[.int .i64 n] w fun e w' => e = .returned (.tuple #[.agg #[.slice none 0 0, .int .i64 0], .int .i64 2]) ∧ Below w.heap.size w w' := by
  rcases h with h | h
  · go_enter Tryd.func48, Tryd.ntmps48
    go_wp2_with fail
    exact bodyPost_ret (v := .tuple #[.agg #[.slice none 0 0, .int .i64 0], .int .i64 2]) (by simp [results, Tryd.results48, go_sem]) rfl ⟨rfl, by go_grown⟩
  · have h' : ¬ n < 2 := by omega
    go_enter Tryd.func48, Tryd.ntmps48
    go_wp2_with fail
    exact bodyPost_ret (v := .tuple #[.agg #[.slice none 0 0, .int .i64 0], .int .i64 2]) (by simp [results, Tryd.results48, go_sem]) rfl ⟨rfl, by go_grown⟩

set_option maxHeartbeats 400000 in
theorem rsteep_no {w : World} {n : Int} (h : n < 2 ∨ 16 < n) :
    Calls Tryd.prog 49 #[.int .i64 n] w fun e w' => e = .returned (.tuple #[.agg #[.slice none 0 0, .int .i64 0], .int .i64 2]) ∧ Below w.heap.size w w' := by
  rcases h with h | h
  · go_enter Tryd.func49, Tryd.ntmps49
    go_wp2_with fail
    exact bodyPost_ret (v := .tuple #[.agg #[.slice none 0 0, .int .i64 0], .int .i64 2]) (by simp [results, Tryd.results49, go_sem]) rfl ⟨rfl, by go_grown⟩
  · have h' : ¬ n < 2 := by omega
    go_enter Tryd.func49, Tryd.ntmps49
    go_wp2_with fail
    exact bodyPost_ret (v := .tuple #[.agg #[.slice none 0 0, .int .i64 0], .int .i64 2]) (by simp [results, Tryd.results49, go_sem]) rfl ⟨rfl, by go_grown⟩

/-- another block behind an append -/
theorem Gw.afar {W wr w' : World} {B X c : Nat} {C : List Nat} {n : Int} {a : Option Addr} (h : Gw W B X C n a c wr) (hg : wr.grownBy w' (Value.slice a C.length c).ownBlock) (k j : Nat) (hk : k < B) (hX : k ≠ X) :
    w'.cell? ⟨k, j, none⟩ = W.cell? ⟨k, j, none⟩ ∧ w'.frozen? ⟨k, j, none⟩ = W.frozen? ⟨k, j, none⟩ := by
  have hsB := h.sB
  have hblk : w'.heap[k]? = wr.heap[k]? := hg.block k (by omega) (fun e => by have := (h.own.lt k e.symm).1; omega)
  exact ⟨(World.cell?_of_block (w := wr) (a := ⟨k, j, none⟩) hblk).trans (h.cell k j hk hX), (World.frozen?_of_block (w := wr) (a := ⟨k, j, none⟩) hblk).trans (h.frozen k j hk hX)⟩
/-- half of it, again and again -/
def hv (k : Nat) : Nat := 32768 / 2 ^ k
theorem hv_succ (k : Nat) : hv (k + 1) = hv k / 2 := by unfold hv; rw [Nat.pow_succ, Nat.div_div_eq_div_mul]
theorem hv_le (k : Nat) : hv k ≤ 32768 := Nat.div_le_self _ _
theorem hv_st {n k : Nat} (h : k + 1 < n) : 32768 - (hv k : Int) / 2 = ((st n k : Nat) : Int) := by
  have h1 := hv_le (k + 1)
  have h2 := hv_succ k
  have h3 : st n k = 32768 - hv (k + 1) := by unfold st hv; rw [if_neg (by omega)]
  rw [h3]
  generalize hv (k + 1) = q at *
  omega
theorem stC_take {n k : Nat} (h : k < n) : (stC n).take k ++ [st n k] = (stC n).take (k + 1) := by
  rw [List.take_add_one, List.getElem?_eq_getElem (by rw [stC_len]; exact h)]
  have := stC_get n k h
  rw [getD_lt _ (by rw [stC_len]; exact h)] at this
  rw [this]; rfl

set_option maxRecDepth 100000 in
set_option maxHeartbeats 1000000 in
theorem rsteep_ok {w : World} {n : Nat} (h0 : 2 ≤ n) (h1 : n ≤ 16) :
    Calls Tryd.prog 49 #[.int .i64 n] w fun e w' => Tn w w' e (stC n) 0 := by
  have i0 : ¬ (n : Int) < 2 := by omega
  have i1 : ¬ (16 : Int) < (n : Int) := by omega
  have hg0 : Gw ((w.alloc (.cells #[.slice none 0 0, .int .i64 0] 63)).alloc (.cells #[.slice none 0 0, .int .i64 0] 63)) (w.heap.size + 2) (w.heap.size + 1) [] 0 none 0 ((w.alloc (.cells #[.slice none 0 0, .int .i64 0] 63)).alloc (.cells #[.slice none 0 0, .int .i64 0] 63)) := by
    have := Gw.start (W := ((w.alloc (.cells #[.slice none 0 0, .int .i64 0] 63)).alloc (.cells #[.slice none 0 0, .int .i64 0] 63))) (X := w.heap.size + 1) (n := 0) (by simp) (by simp) (by simp) (by simp)
    rw [show ((w.alloc (.cells #[.slice none 0 0, .int .i64 0] 63)).alloc (.cells #[.slice none 0 0, .int .i64 0] 63)).heap.size = w.heap.size + 2 from by simp] at this
    exact this
  have HG0 : Hid _ := hg0
  have z : ((w.alloc (.cells #[.slice none 0 0, .int .i64 0] 63)).alloc (.cells #[.slice none 0 0, .int .i64 0] 63)).cell? ⟨w.heap.size, 0, none⟩ = some (.slice none 0 0) ∧ ((w.alloc (.cells #[.slice none 0 0, .int .i64 0] 63)).alloc (.cells #[.slice none 0 0, .int .i64 0] 63)).cell? ⟨w.heap.size, 1, none⟩ = some (.int .i64 0) ∧ ((w.alloc (.cells #[.slice none 0 0, .int .i64 0] 63)).alloc (.cells #[.slice none 0 0, .int .i64 0] 63)).frozen? ⟨w.heap.size, 0, none⟩ = false ∧ ((w.alloc (.cells #[.slice none 0 0, .int .i64 0] 63)).alloc (.cells #[.slice none 0 0, .int .i64 0] 63)).frozen? ⟨w.heap.size, 1, none⟩ = false := by
    have hb := from_alloc (w.alloc (.cells #[.slice none 0 0, .int .i64 0] 63)) (.cells #[.slice none 0 0, .int .i64 0] 63)
    rw [newCell hb _ _ (by simp), newCell hb _ _ (by simp), newFrozen hb _ _ (by simp), newFrozen hb _ _ (by simp)]
    simp
  have HZ : Hid _ := z
  have HBW : Hid (Below w.heap.size w ((w.alloc (.cells #[.slice none 0 0, .int .i64 0] 63)).alloc (.cells #[.slice none 0 0, .int .i64 0] 63))) := to_alloc (from_alloc _ _) _
  clear hg0 z
  go_enter Tryd.func49, Tryd.ntmps49
  go_wp2_with fail
  generalize ((w.alloc (.cells #[.slice none 0 0, .int .i64 0] 63)).alloc (.cells #[.slice none 0 0, .int .i64 0] 63)) = W at *
  go_loopw [5, 6] (fun hvv iv wr => ∃ (k : Nat) (a : Option Addr) (c : Nat), k + 1 ≤ n ∧ iv = .int .i64 k ∧ hvv = .int .i64 (hv k : Nat) ∧ Gw W (w.heap.size + 2) (w.heap.size + 1) ((stC n).take k) 0 a c wr) (fun _ iv _ => n - (intOf iv).toNat)
  case atStart => exact ⟨0, none, 0, by omega, rfl, rfl, by simpa using HG0.out⟩
  case round =>
    obtain ⟨k, a, c, hk, rfl, rfl, hgw⟩ := hrel
    clear HG0
    have hlen : ((stC n).take k).length = k := by rw [List.length_take, stC_len]; omega
    have c0 := hgw.c0
    have c1 := hgw.c1
    have f0 := hgw.f0
    rw [hlen] at c0
    have hsB := hgw.sB
    have hXl : w.heap.size + 1 < wr.heap.size := by omega
    have HGW : Hid (Gw W (w.heap.size + 2) (w.heap.size + 1) ((stC n).take k) 0 a c wr) := hgw
    have HLEN : Hid (((stC n).take k).length = k) := hlen
    have HTK : Hid ((stC n).take k ++ [st n k] = (stC n).take (k + 1)) := stC_take (by omega)
    have hhv := hv_le k
    have HHV : Hid _ := hv_succ k
    clear hgw hlen
    by_cases hlt : k + 1 < n
    · have b1 : (k : Int) < (n : Int) - 1 := by omega
      have HV : Hid _ := hv_st hlt
      generalize hv k = h at *
      have hh : (h : Int) ≤ 32768 := by omega
      clear hhv
      go_wp2_with (at_builtin; refine wpList_append_num _ (by rfl) _ _ (by rfl) (w.heap.size + 2) k ((stC n).take k) (.slice a k c) _ (st n k) (by exact HV.out) HLEN.out (by have := HGW.out.own; rw [HLEN.out] at this; exact this) hsB (by omega) (by rfl) (by rfl) ?_; intro g cap w' how' hgr' hat'; have haf := HGW.out.after (by rw [HLEN.out]; exact hgr'); rw [HLEN.out] at haf; have e0 := haf.1; have e1 := haf.2.1; have e2 := haf.2.2)
      have hst := HGW.out.step (y := st n k) (by rw [HLEN.out]; exact how') (by rw [HLEN.out]; exact hgr')
      rw [HTK.out, HLEN.out] at hst
      go_roundw
      case rel => exact ⟨k + 1, _, cap, by omega, by go_num, by rw [HHV.out]; rfl, hst⟩
      case measure => simp [intOf]; omega
    · have b1 : ¬ (k : Int) < (n : Int) - 1 := by omega
      have HK : Hid (k + 1 = n) := (by omega : k + 1 = n)
      have HV : Hid (st n k = 32768) := st_last (by omega)
      clear hhv
      go_wp2_with (at_builtin; refine wpList_append_num _ (by rfl) _ _ (by rfl) (w.heap.size + 2) k ((stC n).take k) (.slice a k c) 32768 (st n k) (by rw [HV.out]; rfl) HLEN.out (by have := HGW.out.own; rw [HLEN.out] at this; exact this) hsB (by omega) (by rfl) (by rfl) ?_; intro g cap w' how' hgr' hat'; have haf := HGW.out.after (by rw [HLEN.out]; exact hgr'); rw [HLEN.out] at haf; have e0 := haf.1; have e1 := haf.2.1; have e2 := haf.2.2; have k0 := HGW.out.afar (by rw [HLEN.out]; exact hgr') w.heap.size 0 (by omega) (by omega); have k1 := HGW.out.afar (by rw [HLEN.out]; exact hgr') w.heap.size 1 (by omega) (by omega); have d0 := k0.1.trans HZ.out.1; have d1 := k1.1.trans HZ.out.2.1; have g0 := k0.2.trans HZ.out.2.2.1; have g1 := k1.2.trans HZ.out.2.2.2; clear k0 k1 haf)
      have hst := HGW.out.step (y := st n k) (by rw [HLEN.out]; exact how') (by rw [HLEN.out]; exact hgr')
      rw [HTK.out, HLEN.out, List.take_of_length_le (by rw [stC_len, HK.out]; exact Nat.le_refl _)] at hst
      have hgl := how'.lies.1
      have hsl : Ow _ (w.heap.size + 2) g n cap (stC n) := ⟨by have := hst.own; rw [stC_len] at this; exact this⟩
      have hbe := hst.below HBW.out (by omega)
      refine bodyPost_ret (v := .tuple #[.agg #[.slice (some ⟨g, 0, none⟩) (k + 1) cap, .int .i64 0], .int .i64 0]) (by simp [results, Tryd.results49, go_sem, d0, d1]) rfl ⟨_, cap, by rw [stC_len, HK.out], ?_, ?_⟩
      · rw [stC_len]
        exact ((hsl.far (by simp; omega) _).far (by simp; omega) _).mono (Nat.le_add_right _ 2)
      · exact below_set (below_set hbe (by simp) _) (by simp) _

end Go.Proofs.YtppanogpeengnaaDoor.L3

namespace Go.Proofs.YtppanogpeengnaaDoor.L3
open Go.RowKit

/-- of the blocks of v those that P names alone may have turned -/
structure Fz (v u : World) (P : Nat → Prop) : Prop where
  os : u.os = v.os
  tape : u.tape = v.tape
  output : u.output = v.output
  size : v.heap.size ≤ u.heap.size
  block : ∀ k, k < v.heap.size → ¬ P k → u.heap[k]? = v.heap[k]?
theorem Fz.refl (v : World) (P : Nat → Prop) : Fz v v P := ⟨rfl, rfl, rfl, Nat.le_refl _, fun _ _ _ => rfl⟩
theorem Fz.grown {v u u' : World} {P P' : Nat → Prop} {r : Option Nat} (h : Fz v u P) (hg : u.grownBy u' r) (hP : ∀ k, P k → P' k) (hr : ∀ k, r = some k → P' k ∨ v.heap.size ≤ k) : Fz v u' P' :=
  ⟨hg.os.trans h.os, hg.tape.trans h.tape, hg.output.trans h.output, Nat.le_trans h.size hg.size, fun k hk hp => by
    rw [hg.block k (Nat.lt_of_lt_of_le hk h.size) (fun e => by rcases hr k e.symm with e | e; exact hp e; omega)]
    exact h.block k hk (fun e => hp (hP k e))⟩
theorem Fz.to {v u u' : World} {P : Nat → Prop} (h : Fz v u P) (hb : Below u.heap.size u u') : Fz v u' P := h.grown (below_grown hb none) (fun _ e => e) (fun _ e => by cases e)
theorem Fz.cell {v u : World} {P : Nat → Prop} (h : Fz v u P) (k j : Nat) (hk : k < v.heap.size) (hP : ¬ P k) : u.cell? ⟨k, j, none⟩ = v.cell? ⟨k, j, none⟩ := World.cell?_of_block (w := v) (a := ⟨k, j, none⟩) (h.block k hk hP)
theorem Fz.own {v u : World} {P : Nat → Prop} (h : Fz v u P) {B e size n : Nat} {x : Value} {xs : List Value} (ho : v.ownsRow B e size x n xs) (hP : ∀ g, x.ownBlock = some g → ¬ P g) : u.ownsRow B e size x n xs :=
  own_carry ho fun g hg => h.block g (ho.lt g hg).2 (hP g hg)
theorem Fz.sl {v u : World} {P : Nat → Prop} (h : Fz v u P) {k : IntKind} {a : Option Addr} {C : List Nat} (hs : Sl v k a C) (hP : ∀ b o, a = some ⟨b, o, none⟩ → ¬ P b) : Sl u k a C := by
  rcases hs with e | ⟨b, o, h1, h2, h3⟩
  · exact Or.inl e
  · exact Or.inr ⟨b, o, h1, Nat.lt_of_lt_of_le h2 h.size, fun j hj => by rw [h.cell b _ h2 (hP b o h1)]; exact h3 j hj⟩
theorem Fz.below {w v u : World} {P : Nat → Prop} (h : Fz v u P) (hb : Below w.heap.size w v) (hP : ∀ k, P k → w.heap.size ≤ k) : Below w.heap.size w u :=
  ⟨h.os.trans hb.os, h.tape.trans hb.tape, h.output.trans hb.output, Nat.le_trans hb.size h.size, fun k hk => by
    rw [h.block k (Nat.lt_of_lt_of_le hk hb.size) (fun e => by have := hP k e; omega)]; exact hb.block k hk⟩

/-- a table that was made, or none; its row lies in new memory -/
def Tm (w w' : World) (e : Ending) (C : List Nat) (n x : Int) : Prop := ∃ a c, e = .returned (.tuple #[.agg #[.slice a C.length c, .int .i64 n], .int .i64 x]) ∧ w'.ownsRow w.heap.size 38 1 (.slice a C.length c) C.length (ns .u16 C) ∧ Below w.heap.size w w'
theorem Tm.ofTn {w w' : World} {e : Ending} {C : List Nat} {n : Int} (h : Tn w w' e C n) : Tm w w' e C n 0 := by
  obtain ⟨g, c, h1, h2, h3⟩ := h
  exact ⟨_, c, h1, h2.own, h3⟩
theorem Tm.ofNo {w w' : World} {e : Ending} (h : e = .returned (.tuple #[.agg #[.slice none 0 0, .int .i64 0], .int .i64 2]) ∧ Below w.heap.size w w') : Tm w w' e [] 0 2 :=
  ⟨none, 0, h.1, World.ownsRow_nil _ _ _ _, h.2⟩
/-- Flat's and Steep's answers -/
def inN (n : Int) : Prop := 2 ≤ n ∧ n ≤ 16
instance (n : Int) : Decidable (inN n) := by unfold inN; exact inferInstance
def fA (n : Int) : List Nat := if inN n then flC n.toNat else []
def sA (n : Int) : List Nat := if inN n then stC n.toNat else []
def xA (n : Int) : Int := if inN n then 0 else 2
theorem fA_len (n : Int) : (fA n).length ≤ 16 := by unfold fA; split; rename_i h; rw [flC_len]; unfold inN at h; omega; simp
theorem sA_len (n : Int) : (sA n).length ≤ 16 := by unfold sA; split; rename_i h; rw [stC_len]; unfold inN at h; omega; simp
theorem flat_any (w : World) (n : Int) : Calls Tryd.prog 80 #[.int .i64 n] w fun e w' => Tm w w' e (fA n) 0 (xA n) := by
  by_cases h : inN n
  · unfold fA xA; rw [if_pos h, if_pos h]
    obtain ⟨m, rfl⟩ : ∃ m : Nat, n = (m : Int) := ⟨n.toNat, by unfold inN at h; omega⟩
    unfold inN at h
    exact (flat_ok (by omega) (by omega)).mono fun e w' h => Tm.ofTn h
  · unfold fA xA; rw [if_neg h, if_neg h]
    exact (flat_no (by unfold inN at h; omega)).mono fun e w' h => Tm.ofNo h
theorem rflat_any (w : World) (n : Int) : Calls Tryd.prog 48 #[.int .i64 n] w fun e w' => Tm w w' e (fA n) 0 (xA n) := by
  by_cases h : inN n
  · unfold fA xA; rw [if_pos h, if_pos h]
    obtain ⟨m, rfl⟩ : ∃ m : Nat, n = (m : Int) := ⟨n.toNat, by unfold inN at h; omega⟩
    unfold inN at h
    exact (rflat_ok (by omega) (by omega)).mono fun e w' h => Tm.ofTn h
  · unfold fA xA; rw [if_neg h, if_neg h]
    exact (rflat_no (by unfold inN at h; omega)).mono fun e w' h => Tm.ofNo h
theorem steep_any (w : World) (n : Int) : Calls Tryd.prog 81 #[.int .i64 n] w fun e w' => Tm w w' e (sA n) 0 (xA n) := by
  by_cases h : inN n
  · unfold sA xA; rw [if_pos h, if_pos h]
    obtain ⟨m, rfl⟩ : ∃ m : Nat, n = (m : Int) := ⟨n.toNat, by unfold inN at h; omega⟩
    unfold inN at h
    exact (steep_ok (by omega) (by omega)).mono fun e w' h => Tm.ofTn h
  · unfold sA xA; rw [if_neg h, if_neg h]
    exact (steep_no (by unfold inN at h; omega)).mono fun e w' h => Tm.ofNo h
theorem rsteep_any (w : World) (n : Int) : Calls Tryd.prog 49 #[.int .i64 n] w fun e w' => Tm w w' e (sA n) 0 (xA n) := by
  by_cases h : inN n
  · unfold sA xA; rw [if_pos h, if_pos h]
    obtain ⟨m, rfl⟩ : ∃ m : Nat, n = (m : Int) := ⟨n.toNat, by unfold inN at h; omega⟩
    unfold inN at h
    exact (rsteep_ok (by omega) (by omega)).mono fun e w' h => Tm.ofTn h
  · unfold sA xA; rw [if_neg h, if_neg h]
    exact (rsteep_no (by unfold inN at h; omega)).mono fun e w' h => Tm.ofNo h

/-- Bounds and Find, of both, in one form -/
noncomputable def bdA (C : List Nat) (n s : Int) : Nat × Nat × Int := open Classical in if TOk C n ∧ 0 ≤ s ∧ s < C.length then (eb C s.toNat, ee C s.toNat, 0) else (0, 0, 2)
theorem bounds_both {w : World} {a : Option Addr} {c : Nat} {C : List Nat} {n s : Int} (h : Sl w .u16 a C) (hl : C.length ≤ 140737488355328) :
    Calls Tryd.prog 85 #[.agg #[.slice a C.length c, .int .i64 n], .int .i64 s] w fun e w' => e = .returned (.tuple #[.int .u32 ((bdA C n s).1 : Nat), .int .u32 ((bdA C n s).2.1 : Nat), .int .i64 (bdA C n s).2.2]) ∧ Below w.heap.size w w' := by
  by_cases hk : TOk C n ∧ 0 ≤ s ∧ s < C.length
  · unfold bdA; rw [if_pos hk]
    obtain ⟨m, rfl⟩ : ∃ m : Nat, s = (m : Int) := ⟨s.toNat, by omega⟩
    rw [Int.toNat_natCast]
    exact bounds_ok h hk.1 (by omega)
  · unfold bdA; rw [if_neg hk]
    exact bounds_no h hl hk
theorem rbounds_both {w : World} {a : Option Addr} {c : Nat} {C : List Nat} {n s : Int} (h : Sl w .u16 a C) (hl : C.length ≤ 140737488355328) :
    Calls Tryd.prog 66 #[.agg #[.slice a C.length c, .int .i64 n], .int .i64 s] w fun e w' => e = .returned (.tuple #[.int .u32 ((bdA C n s).1 : Nat), .int .u32 ((bdA C n s).2.1 : Nat), .int .i64 (bdA C n s).2.2]) ∧ Below w.heap.size w w' := by
  by_cases hk : TOk C n ∧ 0 ≤ s ∧ s < C.length
  · unfold bdA; rw [if_pos hk]
    obtain ⟨m, rfl⟩ : ∃ m : Nat, s = (m : Int) := ⟨s.toNat, by omega⟩
    rw [Int.toNat_natCast]
    exact rbounds_ok h hk.1 (by omega)
  · unfold bdA; rw [if_neg hk]
    exact rbounds_no h hl hk
theorem fd_all {C : List Nat} {n : Int} (h : TOk C n) {p : Nat} (hp : p < 32768) : ∃ s, Fd C p s := by
  have key : ∀ d, d ≤ C.length → (∀ i, i < d → ee C i ≤ p) → ∃ s, Fd C p s := by
    intro d
    induction hd : C.length - d generalizing d with
    | zero =>
      intro h1 h2
      have := h.lo
      have := h2 (C.length - 1) (by omega)
      rw [ee_last h] at this
      omega
    | succ m ih =>
      intro h1 h2
      by_cases e : ee C d ≤ p
      · exact ih (d + 1) (by omega) (by omega) (fun i hi => by
          by_cases e2 : i = d
          · rw [e2]; exact e
          · exact h2 i (by omega))
      · refine ⟨d, by omega, ?_, by omega⟩
        unfold eb
        split
        · exact Nat.zero_le _
        · exact h2 (d - 1) (by omega)
  exact key 0 (Nat.zero_le _) (fun i hi => by omega)
theorem find_both (C : List Nat) (n : Int) (p : Nat) (hl : C.length ≤ 140737488355328) : ∃ s x : Int,
    (∀ (w : World) (a : Option Addr) (c : Nat), Sl w .u16 a C → Calls Tryd.prog 84 #[.agg #[.slice a C.length c, .int .i64 n], .int .u32 p] w fun e w' => e = .returned (.tuple #[.int .i64 s, .int .i64 x]) ∧ Below w.heap.size w w') ∧
    (∀ (w : World) (a : Option Addr) (c : Nat), Sl w .u16 a C → Calls Tryd.prog 69 #[.agg #[.slice a C.length c, .int .i64 n], .int .u32 p] w fun e w' => e = .returned (.tuple #[.int .i64 s, .int .i64 x]) ∧ Below w.heap.size w w') := by
  by_cases hk : TOk C n ∧ p < 32768
  · obtain ⟨s, hs⟩ := fd_all hk.1 hk.2
    exact ⟨s, 0, fun w a c h => find_is h hk.1 hs, fun w a c h => rfind_is h hk.1 hs⟩
  · have hno : ¬ TOk C n ∨ 32768 ≤ p := by
      by_cases e : TOk C n
      · right; have : ¬ p < 32768 := fun e2 => hk ⟨e, e2⟩; omega
      · exact Or.inl e
    exact ⟨0, 2, fun w a c h => find_no h hl hno, fun w a c h => rfind_no h hl hno⟩

end Go.Proofs.YtppanogpeengnaaDoor.L3
