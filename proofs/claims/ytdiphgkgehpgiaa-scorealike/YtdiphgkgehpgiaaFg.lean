/- DERIVED. Lists of floats in memory; the walks of both Bests. -/
import Derived.Test.YtdiphgkgehpgiaaFf
namespace Go.Proofs.Ytdiphgkgehpgiaa
open Go.RowKit Ieee

/-- a slice from address a holds the floats C -/
def Fl (w : World) (a : Option Addr) (C : List Nat) : Prop :=
  C = [] ∨ ∃ b o, a = some ⟨b, o, none⟩ ∧ b < w.heap.size ∧ ∀ j, j < C.length → w.cell? ⟨b, o + j, none⟩ = some (.float .f64 (C.getD j 0))
theorem Fl.below {w w' : World} {a : Option Addr} {C : List Nat} (h : Fl w a C) {B : Nat} (hb : Below B w w') (hB : w.heap.size ≤ B) : Fl w' a C := by
  rcases h with h | ⟨b, o, h1, h2, h3⟩
  · exact Or.inl h
  · exact Or.inr ⟨b, o, h1, Nat.lt_of_lt_of_le h2 hb.size, fun j hj => by rw [newCell hb b _ (by omega)]; exact h3 j hj⟩
theorem Fl.to {w w' : World} {a : Option Addr} {C : List Nat} (h : Fl w a C) (hb : Below w.heap.size w w') : Fl w' a C := h.below hb (Nat.le_refl _)
theorem Fl.form {w : World} {a : Option Addr} {C : List Nat} (h : Fl w a C) (h0 : 0 < C.length) : ∃ b o, a = some ⟨b, o, none⟩ ∧ b < w.heap.size ∧ ∀ j, j < C.length → w.cell? ⟨b, o + j, none⟩ = some (.float .f64 (C.getD j 0)) := by
  rcases h with rfl | h
  · simp at h0
  · exact h

/-- the best place of the first k -/
def bst (C : List Nat) : Nat → Option Nat
  | 0 => none
  | k + 1 => match bst C k with
    | none => if Nan (C.getD k 0) then none else some k
    | some i => if flt (C.getD k 0) (C.getD i 0) then some k else some i
theorem bst_lt {C : List Nat} : ∀ {k i : Nat}, bst C k = some i → i < k
  | 0, i, h => by cases h
  | k + 1, i, h => by
    simp only [bst] at h
    split at h
    · split at h
      · cases h
      · simp only [Option.some.injEq] at h; omega
    · rename_i j hj
      have := bst_lt hj
      split at h <;> (simp only [Option.some.injEq] at h; omega)
theorem flt_nan {x : Nat} (y : Nat) (h : Nan x) : flt x y = false := decide_eq_false (fun k => k.1 h)
def bi (o : Option Nat) : Int := match o with | some i => (i : Int) | none => 0
def be (o : Option Nat) : Int := match o with | some _ => 0 | none => 2
def bf (o : Option Nat) : Bool := o.isSome
theorem bf_some {o : Option Nat} (h : bf o = true) : ∃ i, o = some i := Option.isSome_iff_exists.1 h

set_option maxRecDepth 100000 in
set_option maxHeartbeats 2000000 in
theorem best_any {w : World} {a : Option Addr} {c : Nat} {C : List Nat} (hs : Fl w a C) (hl : C.length ≤ 140737488355328) :
    Calls Try.prog 17 #[.slice a C.length c] w fun e w' => e = .returned (.tuple #[.int .i64 (bi (bst C C.length)), .int .i64 (be (bst C C.length))]) ∧ w' = w := by
  by_cases h0 : C.length = 0
  · obtain rfl : C = [] := List.eq_nil_of_length_eq_zero h0
    simp only [List.length_nil]
    go_enter Try.func17, Try.ntmps17
    go_wp2
    go_loop [4, 5, 10] (fun p f i => i = .int .i64 0 ∧ p = .int .i64 0 ∧ f = .bool false) (fun _ _ _ => 0)
    case atStart => exact ⟨rfl, rfl, rfl⟩
    case round =>
      obtain ⟨rfl, rfl, rfl⟩ := hrel
      go_wp2
      go_ret2
      exact ⟨rfl, rfl⟩
  obtain ⟨b, o, rfl, hbl, hc⟩ := hs.form (by omega)
  have HC : Hid (∀ j, j < C.length → w.cell? ⟨b, o + j, none⟩ = some (.float .f64 (C.getD j 0))) := hc
  clear hc hs
  go_enter Try.func17, Try.ntmps17
  go_wp2
  go_loop [4, 5, 10] (fun p f i => ∃ k : Nat, k ≤ C.length ∧ i = .int .i64 k ∧ p = .int .i64 (bi (bst C k)) ∧ f = .bool (bf (bst C k))) (fun _ _ i => C.length - (intOf i).toNat)
  case atStart => exact ⟨0, by omega, rfl, rfl, rfl⟩
  case round =>
    obtain ⟨k, hk, rfl, rfl, rfl⟩ := hrel
    by_cases hlt : k < C.length
    · have r1 := HC.out k hlt
      have b0 : 0 ≤ (k : Int) := by omega
      have b1 : (k : Int) < (C.length : Int) := by omega
      by_cases hn : Nan (C.getD k 0)
      · have e1 : nanB (C.getD k 0) = true := decide_eq_true hn
        have E : Hid (bst C (k + 1) = bst C k) := by
          unfold Hid
          simp only [bst]
          cases bst C k with
          | none => exact if_pos hn
          | some i => show (if flt (C.getD k 0) (C.getD i 0) = true then some k else some i) = some i; rw [flt_nan _ hn]; rfl
        generalize C.getD k 0 = x at *
        clear hn
        go_wp2_with (go_at_call 33; refine (isNaN_any _ _).mono ?_; rintro e w' ⟨rfl, rfl⟩)
        go_round
        case rel => exact ⟨k + 1, by omega, by go_num, by rw [E.out], by rw [E.out]⟩
        case measure => simp [intOf]; omega
      · have e1 : nanB (C.getD k 0) = false := decide_eq_false hn
        cases hb : bst C k with
        | none =>
          have E : Hid (bst C (k + 1) = some k) := by unfold Hid; simp only [bst, hb]; exact if_neg hn
          generalize C.getD k 0 = x at *
          clear hn hb
          simp only [bi, bf, Option.isSome_none]
          go_wp2_with (go_at_call 33; refine (isNaN_any _ _).mono ?_; rintro e w' ⟨rfl, rfl⟩)
          go_round
          case rel => exact ⟨k + 1, by omega, by go_num, by rw [E.out]; first | done | rfl, by rw [E.out]; first | done | rfl⟩
          case measure => simp [intOf]; omega
        | some i =>
          have hi := bst_lt hb
          have r2 := HC.out i (by omega)
          have b2 : 0 ≤ (i : Int) := by omega
          have b3 : (i : Int) < (C.length : Int) := by omega
          cases hf : flt (C.getD k 0) (C.getD i 0)
          · have e2 : (FloatKind.f64.format.order (C.getD k 0) (C.getD i 0) == some .lt) = false := by rw [ord_fmt, ord_lt, hf]
            have E : Hid (bst C (k + 1) = some i) := by unfold Hid; simp only [bst, hb, hf]; rfl
            generalize C.getD k 0 = x at *
            generalize C.getD i 0 = y at *
            clear hn hb hf
            simp only [bi, bf, Option.isSome_some]
            go_wp2_with (go_at_call 33; refine (isNaN_any _ _).mono ?_; rintro e w' ⟨rfl, rfl⟩)
            go_round
            case rel => exact ⟨k + 1, by omega, by go_num, by rw [E.out], by rw [E.out]; rfl⟩
            case measure => simp [intOf]; omega
          · have e2 : (FloatKind.f64.format.order (C.getD k 0) (C.getD i 0) == some .lt) = true := by rw [ord_fmt, ord_lt, hf]
            have E : Hid (bst C (k + 1) = some k) := by unfold Hid; simp only [bst, hb, hf]; rfl
            generalize C.getD k 0 = x at *
            generalize C.getD i 0 = y at *
            clear hn hb hf
            simp only [bi, bf, Option.isSome_some]
            go_wp2_with (go_at_call 33; refine (isNaN_any _ _).mono ?_; rintro e w' ⟨rfl, rfl⟩)
            go_round
            case rel => exact ⟨k + 1, by omega, by go_num, by rw [E.out]; first | done | rfl, by rw [E.out]; first | done | rfl⟩
            case measure => simp [intOf]; omega
    · obtain rfl : k = C.length := by omega
      cases hb : bst C C.length with
      | none =>
        have HB : Hid _ := hb
        simp only [bi, bf, Option.isSome_none]
        clear hb
        go_wp2
        go_ret2
        exact ⟨by rw [HB.out]; rfl, rfl⟩
      | some i =>
        have HB : Hid _ := hb
        simp only [bi, bf, Option.isSome_some]
        clear hb
        go_wp2
        go_ret2
        exact ⟨by rw [HB.out]; rfl, rfl⟩

end Go.Proofs.Ytdiphgkgehpgiaa
