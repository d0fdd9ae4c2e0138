/- DERIVED. UnitsSplits. -/
import Derived.Test.YtkippnfijjhobaaTf
import Derived.Test.YtkippnfijjhobaaTg
import Derived.Test.YtkippnfijjhobaaTu
namespace Go.Proofs.Ytkippnfijjhobaa
open Go.RowKit

theorem rsplit_any {w : World} {N : Nat} {v : Value} {b : List Nat} (h : By w N v b) (hN : N ≤ w.heap.size) (hL : b.length ≤ 1099511627776) :
    Calls Try.prog 11 #[v] w fun e w' => SplQ w.heap.size w (splitP b) e w' := rsplit_core (fun _ _ _ _ _ h1 h2 h3 h4 => read_any h1 h2 h3 h4) h hN hL
theorem cutS_len : ∀ f b q, (cutS f b q).1.length ≤ f := by
  intro f
  induction f with
  | zero => intro b q; simp [cutS]
  | succ f ih =>
    intro b q
    rw [cutS]
    split
    · simp
    · split
      · simp
      · simp; exact ih _ _
theorem splitP_len (b : List Nat) : (splitP b).1.length ≤ b.length := cutS_len _ _ _
theorem sameP_self (P : List Pc) : sameP P P = true := by simp [sameP]

set_option maxHeartbeats 4000000 in
set_option maxRecDepth 100000 in
theorem splits_walk {W : World} {v : Value} {b : List Nat} (h : By W W.heap.size v b) (hL : b.length ≤ 1048576) : Calls Try.prog 3 #[v] W fun e w' => e = .returned (.bool true) ∧ Below W.heap.size W w' := by
  have hpl := splitP_len b
  obtain ⟨a, c, rfl, _⟩ := h.ex
  have HB : Hid (By W W.heap.size (.slice a b.length c) b) := h
  have HL : Hid (b.length ≤ 1099511627776) := by show _ ≤ _; omega
  have hPL : (splitP b).1.length ≤ 4398046511104 := by omega
  clear h hL hpl
  go_enter Try.func3, Try.ntmps3
  go_wp2_with fail
  refine (rcopy_any HB.out).mono ?_; rintro e w1 ⟨a1, c1, rfl, ho1, hb1⟩
  have HI : Hid (By w1 w1.heap.size (.slice a1 b.length c1) b) := By.ofOwn rfl ho1 HB.out.byt HB.out.len
  have HB1 : Hid (Below W.heap.size W w1) := hb1
  clear ho1 hb1
  go_wp2_with fail
  refine (split_any HI.out (Nat.le_refl _) HL.out).mono ?_
  generalize hR : splitP b = R at *
  obtain ⟨P, q, er⟩ := R
  have HR : Hid (splitP b = (P, q, er)) := hR
  clear hR
  rintro e w2 ⟨v2, rfl, hl2, hb2⟩
  have HO2 : Hid (Ol w2 w1.heap.size v2 P) := hl2
  have HB2 : Hid (Below w1.heap.size w1 w2) := hb2
  have hPL' : Hid (P.length ≤ 4398046511104) := hPL
  clear hl2 hb2 hPL
  simp only
  go_wp2_with fail
  have hbW2 : Below W.heap.size W w2 := below_to HB1.out HB2.out
  have HW2 : Hid (Below W.heap.size W w2) := hbW2
  clear hbW2
  refine (rsplit_any (HB.out.below HW2.out (Nat.le_refl _)) HW2.out.size HL.out).mono ?_
  rw [HR.out]
  rintro e w3 ⟨v3, rfl, hl3, hb3⟩
  have HO3 : Hid (Ol w3 w2.heap.size v3 P) := hl3
  have HB3 : Hid (Below w2.heap.size w2 w3) := hb3
  clear hl3 hb3
  simp only
  go_wp2_with fail
  refine (same_any (HO2.out.to HB3.out).ob HO3.out.ob hPL'.out).mono ?_
  rw [sameP_self]
  rintro e w4 ⟨rfl, k4, rfl⟩
  have HB4 : Hid (Below w3.heap.size w3 (w3.drewN k4)) := below_drewN (Below.refl _ _) k4
  go_wp2_with fail
  refine (spoil_any (((HO2.out.to HB3.out).to HB4.out).wl hPL'.out)).mono ?_
  rintro e w5 ⟨rfl, hs5⟩
  have HS5 : Hid (Spo w1.heap.size (w3.drewN k4) w5) := hs5
  have HB5 : Hid (Below w1.heap.size w1 w5) := (below_to (below_to HB2.out HB3.out) HB4.out).trans HS5.out.below
  have HW5 : Hid (Below W.heap.size W w5) := below_to HB1.out HB5.out
  clear hs5
  go_wp2_with fail
  refine (eqBytes_by (HI.out.below HB5.out (Nat.le_refl _)) (HB.out.below HW5.out (Nat.le_refl _))).mono ?_
  rw [show decide (b = b) = true from by simp]
  rintro e w6 ⟨rfl, k6, rfl⟩
  go_wp2_with fail
  refine (works_any _).mono ?_; rintro e w7 ⟨rfl, hb7⟩
  go_wp2_with fail
  go_ret
  exact ⟨rfl, below_to (below_drewN HW5.out k6) hb7⟩
end Go.Proofs.Ytkippnfijjhobaa
