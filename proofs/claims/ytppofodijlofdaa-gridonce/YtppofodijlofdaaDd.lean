/- DERIVED. Blocks, of both sides. -/
import Derived.Test.YtppofodijlofdaaDb
namespace Go.Proofs.Ytppofodijlofdaa
open Go.RowKit

/-- 'append(l, m...)' on rows of blocks -/
theorem wpList_append_blocks (wr : World) {ops : Array Oper} {rest : List Oper} {o : Oper} {a : Act} {Q : Exit → Act → World → Prop} (hgd : o.guard = none) (s x : Operand)
    (ho : o.op = .call { callee := .builtin .append, args := #[s, x], argTypes := #[24, 24] })
    (B : Nat) (v : Value) (L M : List Bl) (g o' c : Nat) (hown : Or wr B v L) (hB : B ≤ wr.heap.size) (hM : ∀ k, k < M.length → Bc wr g (o' + k * 23) (M.getD k bz)) (h0 : 0 < M.length) (hL : L.length ≤ 1000000) (hML : M.length ≤ 1000000)
    (hs : a.eval s = v) (hx : a.eval x = .slice (some ⟨g, o', none⟩) M.length c)
    (h : ∀ v' w', Or w' B v' (L ++ M) → wr.grownBy w' v.ownBlock → (∀ q, v'.ownBlock = some q → v.ownBlock = some q ∨ wr.heap.size ≤ q) → wpList Try.prog ops Q rest (a.put o.dst v') w') :
    wpList Try.prog ops Q (o :: rest) a wr := by
  obtain ⟨i, hi, hz0, hz1, hz2⟩ := info_parts Try.info40z
  have hnews : ∀ j u, (bs M)[j]? = some u → wr.cell? ((⟨g, o', none⟩ : Addr).add j) = some u := by
    intro j u hu
    have hj : j < M.length * 23 := by have := (List.getElem?_eq_some_iff.1 hu).1; rwa [bs_length] at this
    have h1 := bs_at M (j / 23) (j % 23) (Nat.mod_lt _ (by omega)) (by omega)
    rw [show j / 23 * 23 + j % 23 = j from by omega, hu] at h1
    have h2 := (hM (j / 23) (by omega)).at (j % 23) u h1.symm
    rw [show o' + j / 23 * 23 + j % 23 = o' + j from by omega] at h2
    rw [addr_add]
    exact h2
  refine wpList_append_lies _ hgd s x 24 ho B 40 i (.agg bz.cs.toArray) 23 176 Try.underlying24 hi hz0 hz1 hz2 rfl (by omega) v L.length (bs L) hs hown.own ⟨g, o', none⟩ M.length c (bs M) hx (bs_length M) hnews (bs_one M) h0 (by unfold maxLen; omega) (by omega) hB wr.heap.size rfl ?_
  intro g' cap w' h1 h2 h3 h4
  exact h _ w' ⟨by rw [bs_append, List.length_append]; exact h1⟩ h2 (fun q hq => by
    obtain rfl : g' = q := by simpa [Value.ownBlock] using hq
    rcases h3 with h3 | h3
    · exact Or.inl h3
    · exact Or.inr (by omega))
/-- a list of blocks is answered, in new memory -/
def Bq (w w' : World) (e : Ending) (L : List Bl) : Prop := ∃ v, e = .returned v ∧ Or w' w.heap.size v L ∧ Below w.heap.size w w'
set_option maxRecDepth 100000 in
set_option maxHeartbeats 2000000 in
theorem rblocks_any {w : World} {p : Nat} {T : Rc} {v : Value} {L : List Bl} (hg : Rd w p T v L) (hL : L.length ≤ 1000000) : Calls Try.prog 15 #[.pointer (some ⟨p, 0, none⟩)] w fun e w' => Bq w w' e L := by
  obtain ⟨a, c, hv, hc, hsb, -⟩ := hg.row.form
  have c4 : w.cell? ⟨p, 4, none⟩ = some (.slice a L.length c) := by rw [← hv]; exact hg.c4
  unfold Bq
  by_cases h0 : L = []
  · subst h0
    simp only [List.length_nil] at c4
    cases a with
    | none =>
      go_enter Try.func15, Try.ntmps15
      go_wp2_with fail
      go_ret
      exact ⟨_, rfl, Or.nil _ _, Below.refl _ _⟩
    | some a =>
      go_enter Try.func15, Try.ntmps15
      go_wp2_with fail
      go_ret
      exact ⟨_, rfl, Or.nil _ _, Below.refl _ _⟩
  · have hl : 0 < L.length := List.length_pos_iff.2 h0
    obtain ⟨g, o, rfl, hgl, hgc⟩ := hsb.form hl
    have HGc : Hid (∀ k, k < L.length → Bc w g (o + k * 23) (L.getD k bz)) := hgc
    have HL : Hid (0 < L.length ∧ L.length ≤ 1000000) := ⟨hl, hL⟩
    clear hgc hl hL h0 hg hv hc hsb hgl
    go_enter Try.func15, Try.ntmps15
    go_wp2_with (at_builtin; refine wpList_append_blocks w (by rfl) _ _ (by rfl) w.heap.size (.slice none 0 0) [] L g o c (Or.nil _ _) (Nat.le_refl _) HGc.out HL.out.1 (by simp) HL.out.2 (by rfl) (by rfl) ?_; intro v' w2 h1 h2 h3; have Q1 : Hid _ := h1; have Q2 : Hid (Below w.heap.size w w2) := ⟨h2.os, h2.tape, h2.output, h2.size, fun i hi => h2.block i hi (by simp [Value.ownBlock])⟩; clear h1 h2 h3)
    go_ret
    exact ⟨_, rfl, Q1.out, Q2.out⟩
end Go.Proofs.Ytppofodijlofdaa
