/- DERIVED. Clone and Blocks of the program. -/
import Derived.Test.YtppofodijlofdaaDd
import Derived.Lib.SliceRun
namespace Go.Proofs.Ytppofodijlofdaa
open Go.RowKit

set_option maxRecDepth 100000 in
set_option maxHeartbeats 2000000 in
theorem clone_any {w : World} {a : Option Addr} {L : List Bl} {c : Nat} (hs : Sb w a L) (hn : a = none → L = []) (hL : L.length ≤ 1000000) : Calls Try.prog 34 #[.slice a L.length c] w fun e w' => Bq w w' e L := by
  have he := fun (u : World) (a : Option Addr) (n : Nat) => Lib.run_eql_slice_nil (P := Try.prog) u 24 40 a n c 0 0 Try.underlying24
  unfold Bq
  cases a with
  | none =>
    obtain rfl := hn rfl
    simp only [List.length_nil]
    clear hs hn hL
    go_enter Try.func34, Try.ntmps34
    go_wp2_with fail
    go_ret
    exact ⟨_, rfl, Or.nil _ _, Below.refl _ _⟩
  | some ad =>
    have HO : Hid (Or (w.alloc (.cells #[] 40)) w.heap.size (.slice (some ⟨w.heap.size, 0, none⟩) 0 0) []) := ⟨World.ownsRow_made w #[] 0 (Nat.le_refl _) (by unfold maxLen; omega) rfl⟩
    have HB : Hid (Below w.heap.size w (w.alloc (.cells #[] 40))) := from_alloc _ _
    have HZ : Hid (w.heap.size ≤ (w.alloc (.cells #[] 40)).heap.size) := by show _ ≤ _; simp
    by_cases h0 : L = []
    · subst h0
      simp only [List.length_nil]
      clear hs hn hL
      go_enter Try.func34, Try.ntmps34
      go_wp2_with fail
      go_ret
      exact ⟨_, rfl, HO.out, HB.out⟩
    · have hl : 0 < L.length := List.length_pos_iff.2 h0
      obtain ⟨g, o, rfl, hgl, hgc⟩ : ∃ g o, ad = ⟨g, o, none⟩ ∧ g < w.heap.size ∧ ∀ k, k < L.length → Bc w g (o + k * 23) (L.getD k bz) := by
        obtain ⟨g, o, h1, h2, h3⟩ := hs.form hl
        exact ⟨g, o, by simpa using h1, h2, h3⟩
      have HGc : Hid (∀ k, k < L.length → Bc (w.alloc (.cells #[] 40)) g (o + k * 23) (L.getD k bz)) := fun k hk => (hgc k hk).to (from_alloc _ _)
      have HL : Hid (0 < L.length ∧ L.length ≤ 1000000) := ⟨hl, hL⟩
      clear hgc hl hL h0 hs hn hgl
      go_enter Try.func34, Try.ntmps34
      go_wp2_with (at_builtin; refine wpList_append_blocks _ (by rfl) _ _ (by rfl) w.heap.size (.slice (some ⟨w.heap.size, 0, none⟩) 0 0) [] L g o c HO.out HZ.out HGc.out HL.out.1 (by simp) HL.out.2 (by rfl) (by rfl) ?_; intro v' w2 h1 h2 h3; have Q1 : Hid _ := h1; have Q2 : Hid (Below w.heap.size w w2) := ⟨h2.os.trans HB.out.os, h2.tape.trans HB.out.tape, h2.output.trans HB.out.output, Nat.le_trans HZ.out h2.size, fun i hi => (h2.block i (Nat.lt_of_lt_of_le hi HZ.out) (fun e => by simp [Value.ownBlock] at e; omega)).trans (HB.out.block i hi)⟩; clear h1 h2 h3)
      go_ret
      exact ⟨_, rfl, Q1.out, Q2.out⟩
set_option maxRecDepth 100000 in
theorem blocks_any {w : World} {p m : Nat} {T : Rc} {v : Value} {L : List Bl} (hg : Gd w p m T v L) (hL : L.length ≤ 1000000) : Calls Try.prog 13 #[.pointer (some ⟨p, 0, none⟩)] w fun e w' => Bq w w' e L := by
  obtain ⟨a, c, hv, hc, hsb, -⟩ := hg.row.form
  have c4 : w.cell? ⟨p, 4, none⟩ = some (.slice a L.length c) := by rw [← hv]; exact hg.c4
  have HN : Hid (Calls Try.prog 24 #[.pointer (some ⟨p, 0, none⟩)] w fun e w' => e = .returned (.bool false) ∧ w = w') := isNone_map hg.c5
  have HC : Hid (Calls Try.prog 34 #[.slice a L.length c] w fun e w' => Bq w w' e L) := clone_any hsb (fun e => by
    subst e
    rcases hsb with h | ⟨b, o, h, _⟩
    · exact h
    · cases h) hL
  clear hg hv hc hsb hL
  go_enter Try.func13, Try.ntmps13
  go_wp2_with ((with_reducible refine HN.out.mono ?_); rintro e w5 ⟨rfl, rfl⟩)
  refine HC.out.mono ?_
  rintro e w1 ⟨v1, rfl, h1, h2⟩
  have Q1 : Hid _ := h1
  have Q2 : Hid _ := h2
  clear h1 h2
  go_wp2_with fail
  go_ret
  exact ⟨v1, rfl, Q1.out, Q2.out⟩
end Go.Proofs.Ytppofodijlofdaa
