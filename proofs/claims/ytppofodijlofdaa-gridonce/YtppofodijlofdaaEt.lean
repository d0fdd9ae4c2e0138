/- DERIVED. A region that draws its order and whose last operation writes what the ones before it read: a condition on the world that is owed behind each operation but the last. -/
import Derived.Test.YtppofodijlofdaaOp
import Derived.OrdersHeld
import Derived.Deep.RegionHeld
import Derived.Deep.RegionHeld3
namespace Go.Proofs.Ytppofodijlofdaa
open Go.RowKit

section
variable {P : Program} {ops : Array Oper} {Q : Exit → Act → World → Prop} {S : World → Prop} {z : Nat}
/-- n operations are left, in whatever order; S is owed behind each of them but number z -/
def Road (P : Program) (ops : Array Oper) (Q : Exit → Act → World → Prop) (S : World → Prop) (z : Nat) : Nat → Array Bool → Act → World → Prop
  | 0, l, a, w => Region.ready .any ops l = [] ∧ Q .normal a w
  | n + 1, l, a, w => (Region.ready .any ops l = [] → Q .normal a w) ∧ ∀ i ∈ Region.ready .any ops l, wpOp P ops Q i (fun b u => (i = z ∨ S u) ∧ Road P ops Q S z n (l.setIfInBounds i true) b u) a w
theorem Road.any : ∀ (n : Nat) (l : Array Bool) (a : Act) (w : World), Road P ops Q S z n l a w → wpAny P .any ops Q n l a w
  | 0, _, _, _, h => h
  | n + 1, _, _, _, h => ⟨h.1, fun i hi => wpOp_mono (fun _ _ k => Road.any n _ _ _ k.2) (h.2 i hi)⟩
theorem road_start {id : Nat} {a : Act} {w : World} (hm : P.follows .mixedOrders = true) (h : Road P ops Q S z ops.size (Array.replicate ops.size false) a w.drew) : (Code.region id ops true).wp P Q a w :=
  wp_region_any hm (Road.any _ _ _ _ h)
/-- what yields its value in every world of S may come first -/
theorem road_first {i : Nat} {o : Oper} {v : Value} (hi : ops[i]? = some o) (hno : ∀ (j : Nat) (q : Oper) cs b, ops[j]? = some q → q.op ≠ .select cs b) (hQ : ∀ c a w, Q (.panic c) (a.put o.dst v) w → Q (.panic c) a w)
    (hz : (ops[z]?).any (fun q => q.after.any fun e => Region.binds .any e && e.on == i) = true) :
    ∀ (n : Nat) (l : Array Bool) (a : Act) (w : World), (∀ j q, ops[j]? = some q → j ≠ i → l.getD j true = false → (∀ e ∈ q.after, Region.binds .any e = true → e.on ≠ i) → o.apart ops q = true) →
      i ∈ Region.ready .any ops l → YieldsIf P ops S o v a → S w → Road P ops Q S z n (l.setIfInBounds i true) (a.put o.dst v) w → Road P ops Q S z (n + 1) l a w := by
  intro n
  induction n with
  | zero =>
    intro l a w _ hr hy hS hR
    refine ⟨fun e => (by rw [e] at hr; cases hr), fun j hj => ?_⟩
    by_cases e : j = i
    · subst e
      exact hy.wpOp hi hS ⟨Or.inr hS, hR⟩
    · have h0 := ready_mono hj e
      rw [hR.1] at h0
      cases h0
  | succ n ih =>
    intro l a w hap hr hy hS hR
    refine ⟨fun e => (by rw [e] at hr; cases hr), fun j hj => ?_⟩
    by_cases e : j = i
    · subst e
      exact hy.wpOp hi hS ⟨Or.inr hS, hR⟩
    obtain ⟨hun, q, hq, hqa⟩ := mem_ready.1 hj
    have hwait : ∀ e ∈ q.after, Region.binds .any e = true → e.on ≠ i := fun e he hb hei => by
      have h1 := hqa e he hb
      have h0 := (mem_ready.1 hr).1
      rw [hei] at h1
      rcases Nat.lt_or_ge i l.size with hl | hl
      · simp [hl] at h0 h1; rw [h0] at h1; cases h1
      · simp [Array.getElem?_eq_none hl] at h1
    have hstep := wpOp_putIf hq (hap j q hq e hun hwait) (fun cs b => hno i o cs b hi) (fun cs b => hno j q cs b hq) hQ hy (hR.2 j (ready_mono hj e))
    have hjz : j ≠ z := fun ejz => by
      rw [← ejz, hq] at hz
      simp only [Option.any_some] at hz
      obtain ⟨m, hm, hb'⟩ := Array.any_eq_true.1 hz
      rw [Bool.and_eq_true, beq_iff_eq] at hb'
      exact hwait _ (Array.getElem_mem hm) hb'.1 hb'.2
    refine wpOp_mono (fun b u hb => ?_) hstep
    have hSu : S u := by
      rcases hb.2.1 with h | h
      · exact absurd h hjz
      · exact h
    refine ⟨Or.inr hSu, ih (l.setIfInBounds j true) b u (fun k p hp hk hul hw => hap k p hp hk ?_ hw) (ready_mono hr (Ne.symm e)) hb.1 hSu ?_⟩
    · by_cases hjk : j = k
      · subst hjk; exact hun
      · rw [getD_set_ne true hjk] at hul; exact hul
    · rw [Array.setIfInBounds_comm _ _ e]
      exact hb.2.2
theorem road_take {i : Nat} {o : Oper} {v : Value} {n : Nat} {l : Array Bool} {a : Act} {w : World} (hi : ops[i]? = some o) (hs : Region.noSelect ops = true) (hf : Region.free .any ops l i = true) (hr : (Region.ready .any ops l).contains i = true)
    (hQ : ∀ c a w, Q (.panic c) (a.put o.dst v) w → Q (.panic c) a w) (hz : (ops[z]?).any (fun q => q.after.any fun e => Region.binds .any e && e.on == i) = true) (hy : YieldsIf P ops S o v a) (hS : S w) (h : Road P ops Q S z n (l.setIfInBounds i true) (a.put o.dst v) w) : Road P ops Q S z (n + 1) l a w :=
  road_first hi (Region.noSelect_spec hs) hQ hz n l a w (Region.free_spec hi hf) (by simpa using hr) hy hS h
/-- one operation alone may come next -/
theorem road_next {i : Nat} {o : Oper} {n : Nat} {l : Array Bool} {a : Act} {w : World} (hr : Region.ready .any ops l = [i]) (ho : ops[i]? = some o)
    (h : ∀ K : Act → World → Prop, Shut (∀ b u, (i = z ∨ S u) → Road P ops Q S z n (l.setIfInBounds i true) b u → K b u) → if Region.wanted o (yielded ops a.tmps) = true then Oper.wp P o a w K Q else K (a.put o.dst undef) w) : Road P ops Q S z (n + 1) l a w :=
  ⟨fun e => (by rw [hr] at e; cases e), fun j hj => by
    rw [hr] at hj
    obtain rfl : j = i := List.mem_singleton.1 hj
    exact wpOp_step ho (fun K hK => h K (fun b u h1 h2 => hK b u ⟨h1, h2⟩))⟩
theorem road_done {l : Array Bool} {a : Act} {w : World} (hr : Region.ready .any ops l = []) (h : Q .normal a w) : Road P ops Q S z 0 l a w := ⟨hr, h⟩
end
end Go.Proofs.Ytppofodijlofdaa
