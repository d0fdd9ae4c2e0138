/- DERIVED. A grid beside what else there is; usual; Bring. -/
import Derived.Test.YtppofodijlofdaaCp
namespace Go.Proofs.Ytppofodijlofdaa
open Go.RowKit

/-- a grid whose memory is from B on; w is what stood before -/
structure Gw (B : Nat) (w u : World) (p m : Nat) (T : Rc) (v : Value) (L : List Bl) : Prop where
  gd : Gd u p m T v L
  bel : Below B w u
  own : ∀ i, Gb p m v i → B ≤ i
theorem Gw.to {B : Nat} {w u u' : World} {p m : Nat} {T : Rc} {v : Value} {L : List Bl} (h : Gw B w u p m T v L) (hb : Below u.heap.size u u') (hB : B ≤ u.heap.size) : Gw B w u' p m T v L := ⟨h.gd.to hb, h.bel.trans (hb.mono hB), h.own⟩
theorem Gw.put {B : Nat} {w u u' : World} {p m : Nat} {T : Rc} {v v' : Value} {L L' : List Bl} (h : Gw B w u p m T v L) (hB : B ≤ u.heap.size) (hg : Gd u' p m T v' L') (ht : Gt p m v v' u u') : Gw B w u' p m T v' L' :=
  ⟨hg, ⟨ht.os.trans h.bel.os, ht.tape.trans h.bel.tape, ht.output.trans h.bel.output, Nat.le_trans h.bel.size ht.size, fun i hi => (ht.block i (by omega) (fun q => by have := h.own i q; omega)).trans (h.bel.block i hi)⟩, fun i hi => by
    rcases hi with rfl | rfl | hi
    · exact h.own _ (Or.inl rfl)
    · exact h.own _ (Or.inr (Or.inl rfl))
    · rcases ht.new i hi with q | q
      · exact h.own i (Or.inr (Or.inr q))
      · omega⟩
theorem Gw.new {B : Nat} {w u u' : World} {p m : Nat} {T : Rc} (hb : Below B w u) (hB : B ≤ u.heap.size) (hg : Gd u' p m T (.slice none 0 0) []) (hp : u.heap.size ≤ p) (hm : u.heap.size ≤ m) (h : Below u.heap.size u u') : Gw B w u' p m T (.slice none 0 0) [] :=
  ⟨hg, hb.trans (h.mono hB), fun i hi => by
    rcases hi with rfl | rfl | hi
    · omega
    · omega
    · cases hi⟩
/-- the chapter's two blocks -/
def bA : Bl := ⟨0, 0, 16, 16, true, false, 0, 0, 0, 0, 0, 0, 0, false, 0, 0, 0, 0, 0, 0, 0, 0, false⟩
def bB : Bl := ⟨16, 0, 8, 8, false, true, 0, 0, 0, 0, 0, 0, 0, false, 1, 0, 0, 3, -4, 0, 0, 0, false⟩
def tA : Rc := (0, 0, 64, 64)
theorem tA_ok : TOk tA := ⟨by decide +kernel, by decide +kernel⟩
theorem mp_1 : mp tA [] bA = true := by decide +kernel
theorem mp_2 : mp tA [bA] bB = true := by decide +kernel
theorem mp_3 : mp tA [bA, bB] bA = false := by decide +kernel
theorem vcs_1 : vcs [bA, bB] (pls 24 0 8) 1 = [(3, -4)] := by decide +kernel
theorem atK_1 : atK [bA, bB] 15 15 = true := by decide +kernel
theorem atB_1 : atB [bA, bB] 15 15 = bA := by rfl
theorem cn_1 : ((cn (fun b => b.sk) [bA, bB] 0 (16 - 1) : Nat) + (cn (fun b => b.sk) [bA, bB] (0 - 1) 16 : Nat) : Int) = 1 := by decide +kernel
theorem ask_1 : ask tA 24 0 8 = true := by decide +kernel
theorem ask_2 : ask tA 0 16 8 = true := by decide +kernel

theorem results_cell2 {fn : Func} {p q : Tmp} {ty ty' : TypeId} (h : fn.results = #[.cell p ty, .cell q ty']) (tmps : Array Value) (P : Program) (w : World) :
    (results fn tmps).run P w = ((asAddr (tmps.getD p undef)).run P w).andThen fun a w₁ => ((loadVar ty a).run P w₁).andThen fun v w₂ => ((asAddr (tmps.getD q undef)).run P w₂).andThen fun a' w₃ => ((loadVar ty' a').run P w₃).andThen fun v' w₄ => .ok (.tuple #[v, v']) w₄ := by
  simp only [results, h]
  simp [Sem.run_bind, Result.andThen]
set_option maxRecDepth 100000 in
set_option maxHeartbeats 2000000 in
theorem usual_any {w : World} : Calls Try.prog 22 #[] w fun e w' => e = .returned (.tuple #[.agg bA.cs.toArray, .agg bB.cs.toArray]) ∧ Below w.heap.size w w' := by
  have HO1 : Hid (Ob ((w.alloc (.cells #[.int .i64 0, .int .i64 0, .int .i64 0, .int .i64 0, .bool false, .bool false, .int .i64 0, .int .i64 0, .int .i64 0, .int .i64 0, .int .i64 0, .int .i64 0, .int .i64 0, .bool false, .int .i64 0, .int .i64 0, .int .i64 0, .int .i64 0, .int .i64 0, .int .i64 0, .int .i64 0, .int .i64 0, .bool false] 40)).alloc (.cells #[.int .i64 0, .int .i64 0, .int .i64 0, .int .i64 0, .bool false, .bool false, .int .i64 0, .int .i64 0, .int .i64 0, .int .i64 0, .int .i64 0, .int .i64 0, .int .i64 0, .bool false, .int .i64 0, .int .i64 0, .int .i64 0, .int .i64 0, .int .i64 0, .int .i64 0, .int .i64 0, .int .i64 0, .bool false] 40)) w.heap.size bz) := (Ob.new w bz rfl).to (from_alloc _ _)
  have HO2 : Hid (Ob ((w.alloc (.cells #[.int .i64 0, .int .i64 0, .int .i64 0, .int .i64 0, .bool false, .bool false, .int .i64 0, .int .i64 0, .int .i64 0, .int .i64 0, .int .i64 0, .int .i64 0, .int .i64 0, .bool false, .int .i64 0, .int .i64 0, .int .i64 0, .int .i64 0, .int .i64 0, .int .i64 0, .int .i64 0, .int .i64 0, .bool false] 40)).alloc (.cells #[.int .i64 0, .int .i64 0, .int .i64 0, .int .i64 0, .bool false, .bool false, .int .i64 0, .int .i64 0, .int .i64 0, .int .i64 0, .int .i64 0, .int .i64 0, .int .i64 0, .bool false, .int .i64 0, .int .i64 0, .int .i64 0, .int .i64 0, .int .i64 0, .int .i64 0, .int .i64 0, .int .i64 0, .bool false] 40)) (w.heap.size + 1) bz) := Ob.new _ bz (by simp)
  have HB0 : Hid (Below w.heap.size w ((w.alloc (.cells #[.int .i64 0, .int .i64 0, .int .i64 0, .int .i64 0, .bool false, .bool false, .int .i64 0, .int .i64 0, .int .i64 0, .int .i64 0, .int .i64 0, .int .i64 0, .int .i64 0, .bool false, .int .i64 0, .int .i64 0, .int .i64 0, .int .i64 0, .int .i64 0, .int .i64 0, .int .i64 0, .int .i64 0, .bool false] 40)).alloc (.cells #[.int .i64 0, .int .i64 0, .int .i64 0, .int .i64 0, .bool false, .bool false, .int .i64 0, .int .i64 0, .int .i64 0, .int .i64 0, .int .i64 0, .int .i64 0, .int .i64 0, .bool false, .int .i64 0, .int .i64 0, .int .i64 0, .int .i64 0, .int .i64 0, .int .i64 0, .int .i64 0, .int .i64 0, .bool false] 40))) := to_alloc (from_alloc _ _) _
  go_enter Try.func22, Try.ntmps22
  go_upto_region 1 with fail
  generalize ((w.alloc (.cells #[.int .i64 0, .int .i64 0, .int .i64 0, .int .i64 0, .bool false, .bool false, .int .i64 0, .int .i64 0, .int .i64 0, .int .i64 0, .int .i64 0, .int .i64 0, .int .i64 0, .bool false, .int .i64 0, .int .i64 0, .int .i64 0, .int .i64 0, .int .i64 0, .int .i64 0, .int .i64 0, .int .i64 0, .bool false] 40)).alloc (.cells #[.int .i64 0, .int .i64 0, .int .i64 0, .int .i64 0, .bool false, .bool false, .int .i64 0, .int .i64 0, .int .i64 0, .int .i64 0, .int .i64 0, .int .i64 0, .int .i64 0, .bool false, .int .i64 0, .int .i64 0, .int .i64 0, .int .i64 0, .int .i64 0, .int .i64 0, .int .i64 0, .int .i64 0, .bool false] 40)) = V at *
  generalize hP : w.heap.size = z at *
  have HP : Hid (w.heap.size = z) := hP
  clear hP
  go_wp2_with (first | (refine wpList_store_block (by rfl) _ _ (by rfl) z bz bA HO1.out (by rfl) (by rfl) ?_; intro w1 hob hsw; have HA1 : Hid (Ob w1 z bA) := hob; have HA2 : Hid (Ob w1 (z + 1) bz) := HO2.out.carry (hsw.block _ (by omega)); have HA3 : Hid (Below z w w1) := hsw.below HB0.out (Nat.le_refl _); clear hob hsw) | (refine wpList_store_block (by rfl) _ _ (by rfl) (z + 1) bz bB HA2.out (by rfl) (by rfl) ?_; intro w2 hob hsw; have HC1 : Hid (Ob w2 (z + 1) bB) := hob; have HC2 : Hid (Ob w2 z bA) := HA1.out.carry (hsw.block _ (by omega)); have HC3 : Hid (Below z w w2) := hsw.below HA3.out (by omega); clear hob hsw))
  have r1 := load_res (by simpa using HC2.out.bc.rng)
  have r2 := load_res (by simpa using HC1.out.bc.rng)
  refine bodyPost_ret (v := .tuple #[.agg bA.cs.toArray, .agg bB.cs.toArray]) (by rw [results_cell2 Try.results22]; show ((asAddr (.pointer (some ⟨z, 0, none⟩))).run Try.prog w2).andThen _ = _; rw [show (asAddr (.pointer (some ⟨z, 0, none⟩))).run Try.prog w2 = .ok ⟨z, 0, none⟩ w2 from rfl]; simp only [Result.andThen_ok, r1]; show ((asAddr (.pointer (some ⟨z + 1, 0, none⟩))).run Try.prog w2).andThen _ = _; rw [show (asAddr (.pointer (some ⟨z + 1, 0, none⟩))).run Try.prog w2 = .ok ⟨z + 1, 0, none⟩ w2 from rfl]; simp only [Result.andThen_ok, r2]) rfl ?_
  exact ⟨rfl, by rw [HP.out]; exact HC3.out⟩
end Go.Proofs.Ytppofodijlofdaa
