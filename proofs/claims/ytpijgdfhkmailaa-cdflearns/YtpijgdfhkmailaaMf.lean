/- DERIVED. What stays of a world where some blocks turned; the makers' answers in one form. -/
import Derived.Test.YtpijgdfhkmailaaMe
namespace Go.Proofs.Ytpijgdfhkmailaa
open Go.RowKit

/-- of the blocks of v those that P names alone may have turned -/
structure Fz (v u : World) (P : Nat → Prop) : Prop where
  os : u.os = v.os
  tape : u.tape = v.tape
  output : u.output = v.output
  size : v.heap.size ≤ u.heap.size
  block : ∀ k, k < v.heap.size → ¬ P k → u.heap[k]? = v.heap[k]?
theorem Fz.refl (v : World) (P : Nat → Prop) : Fz v v P := ⟨rfl, rfl, rfl, Nat.le_refl _, fun _ _ _ => rfl⟩
theorem Fz.grown {v u u' : World} {P P' : Nat → Prop} {r : Option Nat} (h : Fz v u P) (hg : u.grownBy u' r) (hP : ∀ k, P k → P' k) (hr : ∀ k, r = some k → P' k ∨ v.heap.size ≤ k) : Fz v u' P' :=
  ⟨hg.os.trans h.os, hg.tape.trans h.tape, hg.output.trans h.output, Nat.le_trans h.size hg.size, fun k hk hp => by
    rw [hg.block k (Nat.lt_of_lt_of_le hk h.size) (fun e => by rcases hr k e.symm with e | e; exact hp e; omega)]
    exact h.block k hk (fun e => hp (hP k e))⟩
theorem Fz.to {v u u' : World} {P : Nat → Prop} (h : Fz v u P) (hb : Below u.heap.size u u') : Fz v u' P := h.grown (below_grown hb none) (fun _ e => e) (fun _ e => by cases e)
theorem Fz.cell {v u : World} {P : Nat → Prop} (h : Fz v u P) (k j : Nat) (hk : k < v.heap.size) (hP : ¬ P k) : u.cell? ⟨k, j, none⟩ = v.cell? ⟨k, j, none⟩ := World.cell?_of_block (w := v) (a := ⟨k, j, none⟩) (h.block k hk hP)
theorem Fz.own {v u : World} {P : Nat → Prop} (h : Fz v u P) {B e size n : Nat} {x : Value} {xs : List Value} (ho : v.ownsRow B e size x n xs) (hP : ∀ g, x.ownBlock = some g → ¬ P g) : u.ownsRow B e size x n xs :=
  own_carry ho fun g hg => h.block g (ho.lt g hg).2 (hP g hg)
theorem Fz.sl {v u : World} {P : Nat → Prop} (h : Fz v u P) {k : IntKind} {a : Option Addr} {C : List Nat} (hs : Sl v k a C) (hP : ∀ b o, a = some ⟨b, o, none⟩ → ¬ P b) : Sl u k a C := by
  rcases hs with e | ⟨b, o, h1, h2, h3⟩
  · exact Or.inl e
  · exact Or.inr ⟨b, o, h1, Nat.lt_of_lt_of_le h2 h.size, fun j hj => by rw [h.cell b _ h2 (hP b o h1)]; exact h3 j hj⟩
theorem Fz.below {w v u : World} {P : Nat → Prop} (h : Fz v u P) (hb : Below w.heap.size w v) (hP : ∀ k, P k → w.heap.size ≤ k) : Below w.heap.size w u :=
  ⟨h.os.trans hb.os, h.tape.trans hb.tape, h.output.trans hb.output, Nat.le_trans hb.size h.size, fun k hk => by
    rw [h.block k (Nat.lt_of_lt_of_le hk hb.size) (fun e => by have := hP k e; omega)]; exact hb.block k hk⟩

/-- a table that was made, or none; its row lies in new memory -/
def Tm (w w' : World) (e : Ending) (C : List Nat) (n x : Int) : Prop := ∃ a c, e = .returned (.tuple #[.agg #[.slice a C.length c, .int .i64 n], .int .i64 x]) ∧ w'.ownsRow w.heap.size 49 1 (.slice a C.length c) C.length (ns .u16 C) ∧ Below w.heap.size w w'
theorem Tm.ofTn {w w' : World} {e : Ending} {C : List Nat} {n : Int} (h : Tn w w' e C n) : Tm w w' e C n 0 := by
  obtain ⟨g, c, h1, h2, h3⟩ := h
  exact ⟨_, c, h1, h2.own, h3⟩
theorem Tm.ofNo {w w' : World} {e : Ending} (h : e = .returned (.tuple #[.agg #[.slice none 0 0, .int .i64 0], .int .i64 2]) ∧ Below w.heap.size w w') : Tm w w' e [] 0 2 :=
  ⟨none, 0, h.1, World.ownsRow_nil _ _ _ _, h.2⟩
/-- Flat's and Steep's answers -/
def inN (n : Int) : Prop := 2 ≤ n ∧ n ≤ 16
instance (n : Int) : Decidable (inN n) := by unfold inN; exact inferInstance
def fA (n : Int) : List Nat := if inN n then flC n.toNat else []
def sA (n : Int) : List Nat := if inN n then stC n.toNat else []
def xA (n : Int) : Int := if inN n then 0 else 2
theorem fA_len (n : Int) : (fA n).length ≤ 16 := by unfold fA; split; rename_i h; rw [flC_len]; unfold inN at h; omega; simp
theorem sA_len (n : Int) : (sA n).length ≤ 16 := by unfold sA; split; rename_i h; rw [stC_len]; unfold inN at h; omega; simp
theorem flat_any (w : World) (n : Int) : Calls Try.prog 10 #[.int .i64 n] w fun e w' => Tm w w' e (fA n) 0 (xA n) := by
  by_cases h : inN n
  · unfold fA xA; rw [if_pos h, if_pos h]
    obtain ⟨m, rfl⟩ : ∃ m : Nat, n = (m : Int) := ⟨n.toNat, by unfold inN at h; omega⟩
    unfold inN at h
    exact (flat_ok (by omega) (by omega)).mono fun e w' h => Tm.ofTn h
  · unfold fA xA; rw [if_neg h, if_neg h]
    exact (flat_no (by unfold inN at h; omega)).mono fun e w' h => Tm.ofNo h
theorem rflat_any (w : World) (n : Int) : Calls Try.prog 11 #[.int .i64 n] w fun e w' => Tm w w' e (fA n) 0 (xA n) := by
  by_cases h : inN n
  · unfold fA xA; rw [if_pos h, if_pos h]
    obtain ⟨m, rfl⟩ : ∃ m : Nat, n = (m : Int) := ⟨n.toNat, by unfold inN at h; omega⟩
    unfold inN at h
    exact (rflat_ok (by omega) (by omega)).mono fun e w' h => Tm.ofTn h
  · unfold fA xA; rw [if_neg h, if_neg h]
    exact (rflat_no (by unfold inN at h; omega)).mono fun e w' h => Tm.ofNo h
theorem steep_any (w : World) (n : Int) : Calls Try.prog 12 #[.int .i64 n] w fun e w' => Tm w w' e (sA n) 0 (xA n) := by
  by_cases h : inN n
  · unfold sA xA; rw [if_pos h, if_pos h]
    obtain ⟨m, rfl⟩ : ∃ m : Nat, n = (m : Int) := ⟨n.toNat, by unfold inN at h; omega⟩
    unfold inN at h
    exact (steep_ok (by omega) (by omega)).mono fun e w' h => Tm.ofTn h
  · unfold sA xA; rw [if_neg h, if_neg h]
    exact (steep_no (by unfold inN at h; omega)).mono fun e w' h => Tm.ofNo h
theorem rsteep_any (w : World) (n : Int) : Calls Try.prog 13 #[.int .i64 n] w fun e w' => Tm w w' e (sA n) 0 (xA n) := by
  by_cases h : inN n
  · unfold sA xA; rw [if_pos h, if_pos h]
    obtain ⟨m, rfl⟩ : ∃ m : Nat, n = (m : Int) := ⟨n.toNat, by unfold inN at h; omega⟩
    unfold inN at h
    exact (rsteep_ok (by omega) (by omega)).mono fun e w' h => Tm.ofTn h
  · unfold sA xA; rw [if_neg h, if_neg h]
    exact (rsteep_no (by unfold inN at h; omega)).mono fun e w' h => Tm.ofNo h

/-- Bounds and Find, of both, in one form -/
noncomputable def bdA (C : List Nat) (n s : Int) : Nat × Nat × Int := open Classical in if TOk C n ∧ 0 ≤ s ∧ s < C.length then (eb C s.toNat, ee C s.toNat, 0) else (0, 0, 2)
theorem bounds_both {w : World} {a : Option Addr} {c : Nat} {C : List Nat} {n s : Int} (h : Sl w .u16 a C) (hl : C.length ≤ 140737488355328) :
    Calls Try.prog 17 #[.agg #[.slice a C.length c, .int .i64 n], .int .i64 s] w fun e w' => e = .returned (.tuple #[.int .u32 ((bdA C n s).1 : Nat), .int .u32 ((bdA C n s).2.1 : Nat), .int .i64 (bdA C n s).2.2]) ∧ Below w.heap.size w w' := by
  by_cases hk : TOk C n ∧ 0 ≤ s ∧ s < C.length
  · unfold bdA; rw [if_pos hk]
    obtain ⟨m, rfl⟩ : ∃ m : Nat, s = (m : Int) := ⟨s.toNat, by omega⟩
    rw [Int.toNat_natCast]
    exact bounds_ok h hk.1 (by omega)
  · unfold bdA; rw [if_neg hk]
    exact bounds_no h hl hk
theorem rbounds_both {w : World} {a : Option Addr} {c : Nat} {C : List Nat} {n s : Int} (h : Sl w .u16 a C) (hl : C.length ≤ 140737488355328) :
    Calls Try.prog 18 #[.agg #[.slice a C.length c, .int .i64 n], .int .i64 s] w fun e w' => e = .returned (.tuple #[.int .u32 ((bdA C n s).1 : Nat), .int .u32 ((bdA C n s).2.1 : Nat), .int .i64 (bdA C n s).2.2]) ∧ Below w.heap.size w w' := by
  by_cases hk : TOk C n ∧ 0 ≤ s ∧ s < C.length
  · unfold bdA; rw [if_pos hk]
    obtain ⟨m, rfl⟩ : ∃ m : Nat, s = (m : Int) := ⟨s.toNat, by omega⟩
    rw [Int.toNat_natCast]
    exact rbounds_ok h hk.1 (by omega)
  · unfold bdA; rw [if_neg hk]
    exact rbounds_no h hl hk
theorem fd_all {C : List Nat} {n : Int} (h : TOk C n) {p : Nat} (hp : p < 32768) : ∃ s, Fd C p s := by
  have key : ∀ d, d ≤ C.length → (∀ i, i < d → ee C i ≤ p) → ∃ s, Fd C p s := by
    intro d
    induction hd : C.length - d generalizing d with
    | zero =>
      intro h1 h2
      have := h.lo
      have := h2 (C.length - 1) (by omega)
      rw [ee_last h] at this
      omega
    | succ m ih =>
      intro h1 h2
      by_cases e : ee C d ≤ p
      · exact ih (d + 1) (by omega) (by omega) (fun i hi => by
          by_cases e2 : i = d
          · rw [e2]; exact e
          · exact h2 i (by omega))
      · refine ⟨d, by omega, ?_, by omega⟩
        unfold eb
        split
        · exact Nat.zero_le _
        · exact h2 (d - 1) (by omega)
  exact key 0 (Nat.zero_le _) (fun i hi => by omega)
theorem find_both (C : List Nat) (n : Int) (p : Nat) (hl : C.length ≤ 140737488355328) : ∃ s x : Int,
    (∀ (w : World) (a : Option Addr) (c : Nat), Sl w .u16 a C → Calls Try.prog 19 #[.agg #[.slice a C.length c, .int .i64 n], .int .u32 p] w fun e w' => e = .returned (.tuple #[.int .i64 s, .int .i64 x]) ∧ Below w.heap.size w w') ∧
    (∀ (w : World) (a : Option Addr) (c : Nat), Sl w .u16 a C → Calls Try.prog 20 #[.agg #[.slice a C.length c, .int .i64 n], .int .u32 p] w fun e w' => e = .returned (.tuple #[.int .i64 s, .int .i64 x]) ∧ Below w.heap.size w w') := by
  by_cases hk : TOk C n ∧ p < 32768
  · obtain ⟨s, hs⟩ := fd_all hk.1 hk.2
    exact ⟨s, 0, fun w a c h => find_is h hk.1 hs, fun w a c h => rfind_is h hk.1 hs⟩
  · have hno : ¬ TOk C n ∨ 32768 ≤ p := by
      by_cases e : TOk C n
      · right; have : ¬ p < 32768 := fun e2 => hk ⟨e, e2⟩; omega
      · exact Or.inl e
    exact ⟨0, 2, fun w a c h => find_no h hl hno, fun w a c h => rfind_no h hl hno⟩

end Go.Proofs.Ytpijgdfhkmailaa
