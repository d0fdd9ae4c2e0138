/- DERIVED. The document's Check, Same, At, Apart; CopyBytes, CopyPlane. -/
import Derived.Test.YtlgfkkegehpllaaPt
namespace Go.Proofs.Ytlgfkkegehpllaa
open Go.RowKit

/-- samples that may be written, from a block's head on -/
structure Wp (w : World) (g : Nat) (C : List Nat) : Prop where
  lt : g < w.heap.size
  cell : ∀ j, j < C.length → w.cell? ⟨g, j, none⟩ = some (.int .u8 (C.getD j 0 : Nat))
  th : ∀ j, w.frozen? ⟨g, j, none⟩ = false
theorem Wp.to {w w' : World} {g : Nat} {C : List Nat} (h : Wp w g C) (hb : Below w.heap.size w w') : Wp w' g C :=
  ⟨Nat.lt_of_lt_of_le h.lt hb.size, fun j hj => by rw [newCell hb _ _ h.lt]; exact h.cell j hj, fun j => by rw [newFrozen hb _ _ h.lt]; exact h.th j⟩
theorem Wp.sl {w : World} {g : Nat} {C : List Nat} (h : Wp w g C) : Sl w .u8 (some ⟨g, 0, none⟩) C := Or.inr ⟨g, 0, rfl, h.lt, fun j hj => by rw [Nat.zero_add]; exact h.cell j hj⟩
theorem Rw.wp {w : World} {g : Nat} {C : List Nat} (h : Rw w g C) : Wp w g C := ⟨h.lt, h.cell, h.thaw⟩
theorem Wp.drew {w : World} {g : Nat} {C : List Nat} (h : Wp w g C) : Wp w.drew g C := ⟨h.lt, h.cell, h.th⟩
theorem Wp.far {w : World} {g : Nat} {C : List Nat} (h : Wp w g C) {b o : Nat} (hb : g ≠ b) (v : Value) : Wp (w.setCell ⟨b, o, none⟩ v) g C :=
  ⟨by simpa using h.lt, fun j hj => by rw [World.cell?_setCell_other _ _ _ _ (by simp <;> omega)]; exact h.cell j hj, fun j => by rw [World.frozen?_setCell]; exact h.th j⟩
theorem Wp.set {w : World} {g : Nat} {C : List Nat} (h : Wp w g C) {k : Nat} (hk : k < C.length) (v : Nat) : Wp (w.setCell ⟨g, k, none⟩ (.int .u8 (v : Int))) g (C.set k v) := by
  refine ⟨by simpa using h.lt, fun j hj => ?_, fun j => by rw [World.frozen?_setCell]; exact h.th j⟩
  rw [List.length_set] at hj
  by_cases e : k = j
  · subst e
    rw [World.cell?_setCell_same _ _ _ (h.cell k hk), List.getD_eq_getElem?_getD, List.getElem?_set, if_pos rfl, if_pos hk]; rfl
  · rw [World.cell?_setCell_other _ _ _ _ (by simp <;> omega), h.cell j hj, List.getD_eq_getElem?_getD, List.getD_eq_getElem?_getD, List.getElem?_set, if_neg e]

/-- samples in new memory -/
structure Nw (u w' : World) (a : Option Addr) (c : Nat) (C : List Nat) : Prop where
  sl : Sl w' .u8 a C
  cap : C.length ≤ c
  new : ∀ b o s, a = some ⟨b, o, s⟩ → u.heap.size ≤ b
  wp : 0 < C.length → ∃ g, a = some ⟨g, 0, none⟩ ∧ Wp w' g C
theorem Nw.to {u w w' : World} {a : Option Addr} {c : Nat} {C : List Nat} (h : Nw u w a c C) (hb : Below w.heap.size w w') : Nw u w' a c C :=
  ⟨h.sl.to hb, h.cap, h.new, fun h0 => by obtain ⟨g, e, hw⟩ := h.wp h0; exact ⟨g, e, hw.to hb⟩⟩
theorem Nw.drew {u w : World} {a : Option Addr} {c : Nat} {C : List Nat} (h : Nw u w a c C) : Nw u w.drew a c C := h.to (below_drew (Below.refl _ _))
theorem Nw.mono {u u' w : World} {a : Option Addr} {c : Nat} {C : List Nat} (h : Nw u w a c C) (hu : u'.heap.size ≤ u.heap.size) : Nw u' w a c C := ⟨h.sl, h.cap, fun b o s e => Nat.le_trans hu (h.new b o s e), h.wp⟩
/-- what does not lie in the block that is written -/
theorem Nw.far {u w : World} {a : Option Addr} {c : Nat} {C : List Nat} (h : Nw u w a c C) {b o : Nat} (hb : b < u.heap.size) (v : Value) : Nw u (w.setCell ⟨b, o, none⟩ v) a c C := by
  refine ⟨?_, h.cap, h.new, fun h0 => ?_⟩
  · rcases h.sl with h1 | ⟨b', o', e, h2, h3⟩
    · exact Or.inl h1
    · have := h.new b' o' none e
      exact Or.inr ⟨b', o', e, by simpa using h2, fun j hj => by rw [World.cell?_setCell_other _ _ _ _ (by simp <;> omega)]; exact h3 j hj⟩
  · obtain ⟨g, e, hw⟩ := h.wp h0
    have := h.new g 0 none e
    exact ⟨g, e, hw.far (by omega) v⟩

set_option maxHeartbeats 400000 in
theorem copy_some {w : World} {b o c : Nat} {C : List Nat} (hc : ∀ j, j < C.length → w.cell? ⟨b, o + j, none⟩ = some (.int .u8 (C.getD j 0 : Nat))) (hl : C.length ≤ 140737488355328) (h0 : 0 < C.length) :
    Calls Try.prog 22 #[.slice (some ⟨b, o, none⟩) C.length c] w fun e w' => ∃ a' c', e = .returned (.slice a' C.length c') ∧ Nw w w' a' c' C ∧ Below w.heap.size w w' := by
  obtain ⟨i, hi, hz0, hz1, hz2⟩ := info_parts Try.info5
  have hown : w.ownsRow w.heap.size 5 1 (.slice none 0 0) 0 [] := World.ownsRow_nil _ _ _ _
  have hnews : ∀ j u, (ns .u8 C)[j]? = some u → w.cell? ((⟨b, o, none⟩ : Addr).add j) = some u := by
    intro j u hu
    have hj : j < C.length := by have := List.getElem?_eq_some_iff.1 hu; obtain ⟨h1, _⟩ := this; rw [ns_length] at h1; exact h1
    rw [ns_get _ C j hj] at hu
    rw [← hu, addr_add]
    exact hc j hj
  clear hc
  go_enter Try.func22, Try.ntmps22
  go_wp2_with (at_builtin; refine wpList_append_lies _ (by rfl) _ _ _ (by rfl) w.heap.size 5 i (.int .u8 0) 1 1 Try.underlying22 hi hz0 hz1 hz2 rfl (by omega) _ 0 [] (by rfl) hown ⟨b, o, none⟩ C.length c (ns .u8 C) (by rfl) (by rw [ns_length, Nat.mul_one]) hnews (ns_one _ C) h0 (by unfold maxLen; omega) (by omega) (by simp) w.heap.size (by simp) ?_; intro g cap w1 hown1 hgrow hat hlt)
  go_ret
  rw [List.nil_append, Nat.zero_add] at hown1
  have hlt := hown1.lt g rfl
  have hwp : Wp w1 g C := ⟨hlt.2, fun j hj => by rw [hown1.cellAt j (by omega)]; exact ns_get _ _ _ hj, own_thaw hown1⟩
  refine ⟨_, _, rfl, ⟨hwp.sl, own_cap hown1, fun b' o' s e => ?_, fun _ => ⟨g, rfl, hwp⟩⟩, ?_⟩
  · simp only [Option.some.injEq, Addr.mk.injEq] at e
    rw [← e.1]; exact hlt.1
  · exact (Below.refl _ _).grown hgrow (by simp) (fun k hk => by simp [Value.ownBlock] at hk)

set_option maxHeartbeats 400000 in
theorem copy_none {a : Option Addr} {c : Nat} {w : World} : Calls Try.prog 22 #[.slice a 0 c] w fun e w' => e = .returned (.slice none 0 0) ∧ w' = w := by
  cases a with
  | none =>
    go_enter Try.func22, Try.ntmps22
    go_wp2
    go_ret
    exact ⟨rfl, rfl⟩
  | some ad =>
    go_enter Try.func22, Try.ntmps22
    go_wp2
    go_ret
    exact ⟨rfl, rfl⟩

theorem copyBytes_any {w : World} {a : Option Addr} {c : Nat} {C : List Nat} (h : Sl w .u8 a C) (hl : C.length ≤ 140737488355328) :
    Calls Try.prog 22 #[.slice a C.length c] w fun e w' => ∃ a' c', e = .returned (.slice a' C.length c') ∧ Nw w w' a' c' C ∧ Below w.heap.size w w' := by
  by_cases h0 : C.length = 0
  · obtain rfl : C = [] := List.eq_nil_of_length_eq_zero h0
    refine copy_none.mono ?_
    rintro e w' ⟨rfl, rfl⟩
    exact ⟨none, 0, rfl, ⟨Or.inl rfl, Nat.le_refl _, fun b o s e => (by cases e), fun h => (by simp at h)⟩, Below.refl _ _⟩
  · obtain ⟨b, o, rfl, _, hc⟩ := h.form (by omega)
    exact copy_some hc hl (by omega)

set_option maxRecDepth 100000 in
set_option maxHeartbeats 1000000 in
theorem copyPlane_any {u : World} {a : Option Addr} {c : Nat} {C : List Nat} {W H : Int} (h : Sl u .u8 a C) (hl : C.length ≤ 140737488355328) :
    Calls Try.prog 9 #[.agg #[.int .i64 W, .int .i64 H, .slice a C.length c]] u fun e w' => ∃ a' c', e = .returned (.agg #[.int .i64 W, .int .i64 H, .slice a' C.length c']) ∧ Nw u w' a' c' C ∧ Below u.heap.size u w' := by
  have HA : Hid (Below u.heap.size u ((u.alloc (.cells #[.int .i64 W, .int .i64 H, .slice a C.length c] 24)).alloc (.cells #[.int .i64 0, .int .i64 0, .slice none 0 0] 24))) := to_alloc (from_alloc _ _) _
  have c0 : ((u.alloc (.cells #[.int .i64 W, .int .i64 H, .slice a C.length c] 24)).alloc (.cells #[.int .i64 0, .int .i64 0, .slice none 0 0] 24)).cell? ⟨u.heap.size, 0, none⟩ = some (.int .i64 W) := by simp [go_sem]
  have c1 : ((u.alloc (.cells #[.int .i64 W, .int .i64 H, .slice a C.length c] 24)).alloc (.cells #[.int .i64 0, .int .i64 0, .slice none 0 0] 24)).cell? ⟨u.heap.size, 1, none⟩ = some (.int .i64 H) := by simp [go_sem]
  have c2 : ((u.alloc (.cells #[.int .i64 W, .int .i64 H, .slice a C.length c] 24)).alloc (.cells #[.int .i64 0, .int .i64 0, .slice none 0 0] 24)).cell? ⟨u.heap.size, 2, none⟩ = some (.slice a C.length c) := by simp [go_sem]
  have k0 : ((u.alloc (.cells #[.int .i64 W, .int .i64 H, .slice a C.length c] 24)).alloc (.cells #[.int .i64 0, .int .i64 0, .slice none 0 0] 24)).cell? ⟨u.heap.size + 1, 0, none⟩ = some (.int .i64 0) := by simp [go_sem]
  have k1 : ((u.alloc (.cells #[.int .i64 W, .int .i64 H, .slice a C.length c] 24)).alloc (.cells #[.int .i64 0, .int .i64 0, .slice none 0 0] 24)).cell? ⟨u.heap.size + 1, 1, none⟩ = some (.int .i64 0) := by simp [go_sem]
  have k2 : ((u.alloc (.cells #[.int .i64 W, .int .i64 H, .slice a C.length c] 24)).alloc (.cells #[.int .i64 0, .int .i64 0, .slice none 0 0] 24)).cell? ⟨u.heap.size + 1, 2, none⟩ = some (.slice none 0 0) := by simp [go_sem]
  have k3 : ∀ o, ((u.alloc (.cells #[.int .i64 W, .int .i64 H, .slice a C.length c] 24)).alloc (.cells #[.int .i64 0, .int .i64 0, .slice none 0 0] 24)).frozen? ⟨u.heap.size + 1, o, none⟩ = false := fun o => by simp [go_sem]
  have hz : ((u.alloc (.cells #[.int .i64 W, .int .i64 H, .slice a C.length c] 24)).alloc (.cells #[.int .i64 0, .int .i64 0, .slice none 0 0] 24)).heap.size = u.heap.size + 2 := by simp
  have HSL : Hid (Sl ((u.alloc (.cells #[.int .i64 W, .int .i64 H, .slice a C.length c] 24)).alloc (.cells #[.int .i64 0, .int .i64 0, .slice none 0 0] 24)) .u8 a C) := h.to HA.out
  have HZ : Hid _ := hz
  have K0 : Hid _ := k0
  have K1 : Hid _ := k1
  have K2 : Hid _ := k2
  have K3 : Hid _ := k3
  clear h k0 k1 k2 k3 hz
  go_enter Try.func9, Try.ntmps9
  go_wp2_with fail
  generalize ((u.alloc (.cells #[.int .i64 W, .int .i64 H, .slice a C.length c] 24)).alloc (.cells #[.int .i64 0, .int .i64 0, .slice none 0 0] 24)) = V at *
  have hz := HZ.out
  have HK : Hid (∀ t : World, Kf (u.heap.size + 1) V t → (t.cell? ⟨u.heap.size, 0, none⟩ = some (.int .i64 W) ∧ t.cell? ⟨u.heap.size, 1, none⟩ = some (.int .i64 H) ∧ t.cell? ⟨u.heap.size, 2, none⟩ = some (.slice a C.length c) ∧ Kf (u.heap.size + 1) V t)) := fun t ht => ⟨by rw [ht.cell _ _ (by omega) (by omega)]; exact c0, by rw [ht.cell _ _ (by omega) (by omega)]; exact c1, by rw [ht.cell _ _ (by omega) (by omega)]; exact c2, ht⟩
  have HKd : Hid (Kf (u.heap.size + 1) V V.drew) := (Kf.refl _ _).drew
  have HCb : Hid (Calls Try.prog 22 #[.slice a C.length c] V.drew fun e w' => ∃ a' c', e = .returned (.slice a' C.length c') ∧ Nw V.drew w' a' c' C ∧ Below V.drew.heap.size V.drew w') := copyBytes_any HSL.out.drew hl
  clear c0 c1 c2
  go_region_held3 (fun t => t.cell? ⟨u.heap.size, 0, none⟩ = some (.int .i64 W) ∧ t.cell? ⟨u.heap.size, 1, none⟩ = some (.int .i64 H) ∧ t.cell? ⟨u.heap.size, 2, none⟩ = some (.slice a C.length c) ∧ Kf (u.heap.size + 1) V t)
    ((exact HK.out _ (by first | exact HKd.out | exact HKd.out.step (by assumption) | exact (((HKd.out.step (by assumption)).kb (Kb.setCell _ _ _ _)).kb (Kb.setCell _ _ _ _)).kb (Kb.setCell _ _ _ _))))
    ((go_at_call 22; refine HCb.out.mono ?_; rintro e w5 ⟨a', c', rfl, hnw, hb5⟩; have hb6 : Below V.heap.size V w5 := Below.trans (below_drew (Below.refl _ _)) hb5; have z0 : w5.cell? ⟨u.heap.size + 1, 0, none⟩ = some (.int .i64 0) := (newCell hb6 _ _ (by omega)).trans K0.out; have z1 : w5.cell? ⟨u.heap.size + 1, 1, none⟩ = some (.int .i64 0) := (newCell hb6 _ _ (by omega)).trans K1.out; have z2 : w5.cell? ⟨u.heap.size + 1, 2, none⟩ = some (.slice none 0 0) := (newCell hb6 _ _ (by omega)).trans K2.out; have z3 : ∀ o, w5.frozen? ⟨u.heap.size + 1, o, none⟩ = false := (fun o => (newFrozen hb6 _ _ (by omega)).trans (K3.out o))))
  go_wp2_with fail
  refine bodyPost_ret (v := .agg #[.int .i64 W, .int .i64 H, .slice a' C.length c']) (by simp [results, Try.results9, go_sem, z0, z1, z2]) rfl ⟨a', c', rfl, ?_, ?_⟩
  · have hV : V.drew.heap.size = u.heap.size + 2 := HZ.out
    exact Nw.mono (((hnw.far (b := u.heap.size + 1) (o := 0) (by omega) _).far (b := u.heap.size + 1) (o := 1) (by omega) _).far (b := u.heap.size + 1) (o := 2) (by omega) _) (by omega)
  · exact below_set (below_set (below_set (HA.out.trans (hb6.mono (by omega))) (by simp) _) (by simp) _) (by simp) _

end Go.Proofs.Ytlgfkkegehpllaa
