/- DERIVED. Rows of samples in memory; EqBytes, CopyBytes, append of a sample; CopyInts. -/
import Derived.Test.YtpideemiijhkgabDoorGc
namespace Go.Proofs.YtpideemiijhkgabDoor
open Go.RowKit

theorem list_eq_of_getD {a b : List Nat} (hl : a.length = b.length) (h : ∀ j, j < a.length → a.getD j 0 = b.getD j 0) : a = b := by
  refine List.ext_getElem hl fun j h1 h2 => ?_
  have := h j h1
  simpa [List.getD_eq_getElem?_getD, List.getElem?_eq_getElem h1, List.getElem?_eq_getElem h2] using this
theorem Tryd.info5 : (Tryd.prog.info? 5).map (fun i => (i.zero, i.size, i.bytes)) = some (some (.int .u8 0), 1, 1) := by kernel_rfl
/-- a row of samples, alone in its block -/
structure Rw (w : World) (g : Nat) (C : List Nat) : Prop where
  heap : w.heap[g]? = some (.cells (ns .u8 C).toArray 5 (0, 0))
theorem Rw.lt {w : World} {g : Nat} {C : List Nat} (h : Rw w g C) : g < w.heap.size := (Array.getElem?_eq_some_iff.1 h.heap).1
theorem Rw.cell {w : World} {g : Nat} {C : List Nat} (h : Rw w g C) (j : Nat) (hj : j < C.length) : w.cell? ⟨g, j, none⟩ = some (.int .u8 (C.getD j 0 : Nat)) := by
  simp only [World.cell?, h.heap]
  have := ns_get .u8 C j hj
  simpa using this
theorem Rw.thaw {w : World} {g : Nat} {C : List Nat} (h : Rw w g C) (j : Nat) : w.frozen? ⟨g, j, none⟩ = false := by simp [World.frozen?, h.heap]
theorem Rw.carry {w w' : World} {g : Nat} {C : List Nat} (h : Rw w g C) (hb : w'.heap[g]? = w.heap[g]?) : Rw w' g C := ⟨by rw [hb]; exact h.heap⟩
theorem Rw.below {w w' : World} {g B : Nat} {C : List Nat} (h : Rw w g C) (hb : Below B w w') (hg : g < B) : Rw w' g C := h.carry (hb.block g hg)
theorem Rw.to {w w' : World} {g : Nat} {C : List Nat} (h : Rw w g C) (hb : Below w.heap.size w w') : Rw w' g C := h.below hb h.lt
theorem Rw.far {w : World} {g : Nat} {C : List Nat} (h : Rw w g C) {a : Addr} (ha : g ≠ a.block) (u : Value) : Rw (w.setCell a u) g C := h.carry (Below.heap_setCell _ _ _ _ (fun e => ha (by rw [e])))
theorem Rw.set {w : World} {g : Nat} {C : List Nat} (h : Rw w g C) (k x : Nat) : Rw (w.setCell ⟨g, k, none⟩ (.int .u8 (x : Int))) g (C.set k x) := by
  refine ⟨?_⟩
  rw [setCell_eq_setRow w g k _ _ _ _ h.heap, setRow_heap w g _ _ _ _ h.heap, ns_set]
  simp
theorem Rw.drew {w : World} {g : Nat} {C : List Nat} (h : Rw w g C) : Rw w.drew g C := ⟨h.heap⟩
theorem Rw.sl {w : World} {g : Nat} {C : List Nat} (h : Rw w g C) : Sl w .u8 (some ⟨g, 0, none⟩) C := Or.inr ⟨g, 0, rfl, h.lt, fun j hj => by rw [Nat.zero_add]; exact h.cell j hj⟩
theorem Sl.drew {w : World} {k : IntKind} {a : Option Addr} {C : List Nat} (h : Sl w k a C) : Sl w.drew k a C := h.below (B := w.heap.size) (below_drew (Below.refl _ _)) (Nat.le_refl _)
theorem rep_cells (n : Nat) : madeCells #[.int .u8 0] n = (ns .u8 (List.replicate n 0)).toArray := by
  refine Array.ext (by simp [madeCells, ns]) fun j h1 h2 => ?_
  simp [madeCells, ns, Nat.mod_one]
theorem Rw.made (w : World) (n : Nat) : Rw (w.alloc (.cells (madeCells #[.int .u8 0] n) 5)) w.heap.size (List.replicate n 0) := ⟨by rw [rep_cells]; exact heap_alloc_new w _⟩

theorem Rw.madeAt (u : World) (n : Nat) {g : Nat} (h : u.heap.size = g) : Rw (u.alloc (.cells (madeCells #[.int .u8 0] n) 5)) g (List.replicate n 0) := by subst h; exact Rw.made u n
theorem mk_row {n : Nat} (hn : n ≤ 140737488355328) (u : World) : (Instr.makeSlice 22 (.int .i64 (n : Int)) (.int .i64 (n : Int))).run Tryd.prog u = .ok (.slice (some ⟨u.heap.size, 0, none⟩) n n) (u.alloc (.cells (madeCells #[.int .u8 0] n) 5)) :=
  run_make_row' 22 5 (.int .u8 0) 1 Tryd.underlying22 Tryd.info5 rfl .i64 .i64 n (by omega) (by omega) u

/-- are two lists the same? -/
def eqB (C D : List Nat) : Bool := decide (C = D)
theorem eqB_yes {C D : List Nat} (h : C = D) : eqB C D = true := by simp [eqB, h]
theorem eqB_no {C D : List Nat} (h : ¬ C = D) : eqB C D = false := by simp [eqB, h]
theorem eqB_self (C : List Nat) : eqB C C = true := eqB_yes rfl

set_option maxRecDepth 100000 in
set_option maxHeartbeats 1000000 in
theorem eqBytes_any {w : World} {a b : Option Addr} {c d : Nat} {C D : List Nat} (h1 : Sl w .u8 a C) (h2 : Sl w .u8 b D) (hl : C.length ≤ 140737488355328) (hl2 : D.length ≤ 140737488355328) :
    Calls Tryd.prog 10 #[.slice a C.length c, .slice b D.length d] w fun e w' => e = .returned (.bool (eqB C D)) ∧ Below w.heap.size w w' := by
  by_cases hn : C.length = D.length
  · by_cases h0 : C.length = 0
    · obtain rfl : C = [] := List.eq_nil_of_length_eq_zero h0
      obtain rfl : D = [] := List.eq_nil_of_length_eq_zero (by simpa using hn.symm)
      rw [eqB_self]
      simp only [List.length_nil]
      go_enter Tryd.func10, Tryd.ntmps10
      go_wp2
      go_loop [5] (fun i => i = .int .i64 0) (fun _ => 0)
      case atStart => rfl
      case round =>
        subst hrel
        go_wp2
        go_ret
        exact ⟨rfl, Below.refl _ _⟩
    · obtain ⟨b1, o1, rfl, hbl, hc1⟩ := h1.form (by omega)
      obtain ⟨b2, o2, rfl, hbl2, hc2⟩ := h2.form (by omega)
      have hne : ((C.length : Int) != (D.length : Int)) = false := by simp [hn]
      have Q1 : Hid (∀ m j, j < C.length → (w.drewN m).cell? ⟨b1, o1 + j, none⟩ = some (.int .u8 (C.getD j 0 : Nat))) := fun m j hj => hc1 j hj
      have Q2 : Hid (∀ m j, j < C.length → (w.drewN m).cell? ⟨b2, o2 + j, none⟩ = some (.int .u8 (D.getD j 0 : Nat))) := fun m j hj => hc2 j (by omega)
      have HN : Hid (C.length = D.length) := hn
      clear hn h1 h2 hc1 hc2
      go_enter Tryd.func10, Tryd.ntmps10
      go_wp2
      go_loopw [5] (fun i wr => ∃ k m : Nat, k ≤ C.length ∧ i = .int .i64 k ∧ wr = w.drewN m ∧ Hid (∀ j, j < k → C.getD j 0 = D.getD j 0)) (fun i _ => C.length - (intOf i).toNat)
      case atStart => exact ⟨0, 0, by omega, rfl, rfl, fun j hj => by omega⟩
      case round =>
        obtain ⟨k, m, hk, rfl, rfl, HK⟩ := hrel
        by_cases hlt : k < C.length
        · have r1 := Q1.out m k hlt
          have r2 := Q2.out m k hlt
          have b0 : 0 ≤ (k : Int) := by omega
          have b1 : (k : Int) < (C.length : Int) := by omega
          have b2 : (k : Int) < (D.length : Int) := by have := HN.out; omega
          generalize he1 : C.getD k 0 = p1 at *
          generalize he2 : D.getD k 0 = p2 at *
          have HE1 : Hid (C.getD k 0 = p1) := he1
          have HE2 : Hid (D.getD k 0 = p2) := he2
          clear he1 he2
          generalize hW : w.drewN m = v at *
          have HW : Hid (w.drewN m = v) := hW
          clear hW
          by_cases hp : p1 = p2
          · have hp' : ((p1 : Int) != (p2 : Int)) = false := by simp [hp]
            have HP : Hid (p1 = p2) := hp
            clear hp
            go_wp2
            go_quiet (fail)
            go_wp2
            go_roundw
            case rel => exact ⟨k + 1, m + nq, by omega, by go_num, by rw [← HW.out]; exact drewN_drewN _ _ _, fun j hj => by
              by_cases e : j = k
              · rw [e, HE1.out, HE2.out]; exact HP.out
              · exact HK.out j (by omega)⟩
            case measure => simp [intOf]; omega
          · have hp' : ((p1 : Int) != (p2 : Int)) = true := by rw [bne_iff_ne]; omega
            have HF : Hid (eqB C D = false) := eqB_no (fun e => hp (by rw [← HE1.out, ← HE2.out, e]))
            clear hp
            go_wp2
            go_quiet (fail)
            go_wp2
            go_ret
            exact ⟨by rw [HF.out]; rfl, by rw [← HW.out]; exact below_drewN (below_drewN (Below.refl _ _) _) _⟩
        · go_wp2
          go_ret
          exact ⟨by rw [eqB_yes (list_eq_of_getD HN.out fun j hj => HK.out j (by omega))]; rfl, below_drewN (Below.refl _ _) _⟩
  · rw [eqB_no (fun e => hn (by rw [e]))]
    have hne : ((C.length : Int) != (D.length : Int)) = true := by rw [bne_iff_ne]; omega
    clear hn
    go_enter Tryd.func10, Tryd.ntmps10
    go_wp2
    go_ret
    exact ⟨rfl, Below.refl _ _⟩

/-- samples of eight bits -/
def Byt (C : List Nat) : Prop := ∀ j, C.getD j 0 < 256
/-- samples that may be written, from a block's head on -/
structure Wp (w : World) (g : Nat) (C : List Nat) : Prop where
  lt : g < w.heap.size
  cell : ∀ j, j < C.length → w.cell? ⟨g, j, none⟩ = some (.int .u8 (C.getD j 0 : Nat))
  th : ∀ j, w.frozen? ⟨g, j, none⟩ = false
theorem Wp.to {w w' : World} {g : Nat} {C : List Nat} (h : Wp w g C) (hb : Below w.heap.size w w') : Wp w' g C :=
  ⟨Nat.lt_of_lt_of_le h.lt hb.size, fun j hj => by rw [newCell hb _ _ h.lt]; exact h.cell j hj, fun j => by rw [newFrozen hb _ _ h.lt]; exact h.th j⟩
theorem Wp.sl {w : World} {g : Nat} {C : List Nat} (h : Wp w g C) : Sl w .u8 (some ⟨g, 0, none⟩) C := Or.inr ⟨g, 0, rfl, h.lt, fun j hj => by rw [Nat.zero_add]; exact h.cell j hj⟩
theorem Rw.wp {w : World} {g : Nat} {C : List Nat} (h : Rw w g C) : Wp w g C := ⟨h.lt, h.cell, h.thaw⟩
theorem Wp.drew {w : World} {g : Nat} {C : List Nat} (h : Wp w g C) : Wp w.drew g C := ⟨h.lt, h.cell, h.th⟩
theorem Wp.far {w : World} {g : Nat} {C : List Nat} (h : Wp w g C) {b o : Nat} (hb : g ≠ b) (v : Value) : Wp (w.setCell ⟨b, o, none⟩ v) g C :=
  ⟨by simpa using h.lt, fun j hj => by rw [World.cell?_setCell_other _ _ _ _ (by simp <;> omega)]; exact h.cell j hj, fun j => by rw [World.frozen?_setCell]; exact h.th j⟩
theorem Wp.set {w : World} {g : Nat} {C : List Nat} (h : Wp w g C) {k : Nat} (hk : k < C.length) (v : Nat) : Wp (w.setCell ⟨g, k, none⟩ (.int .u8 (v : Int))) g (C.set k v) := by
  refine ⟨by simpa using h.lt, fun j hj => ?_, fun j => by rw [World.frozen?_setCell]; exact h.th j⟩
  rw [List.length_set] at hj
  by_cases e : k = j
  · subst e
    rw [World.cell?_setCell_same _ _ _ (h.cell k hk), List.getD_eq_getElem?_getD, List.getElem?_set, if_pos rfl, if_pos hk]; rfl
  · rw [World.cell?_setCell_other _ _ _ _ (by simp <;> omega), h.cell j hj, List.getD_eq_getElem?_getD, List.getD_eq_getElem?_getD, List.getElem?_set, if_neg e]

/-- samples in new memory -/
structure Nw (u w' : World) (a : Option Addr) (c : Nat) (C : List Nat) : Prop where
  sl : Sl w' .u8 a C
  cap : C.length ≤ c
  new : ∀ b o s, a = some ⟨b, o, s⟩ → u.heap.size ≤ b
  wp : 0 < C.length → ∃ g, a = some ⟨g, 0, none⟩ ∧ Wp w' g C
theorem Nw.to {u w w' : World} {a : Option Addr} {c : Nat} {C : List Nat} (h : Nw u w a c C) (hb : Below w.heap.size w w') : Nw u w' a c C :=
  ⟨h.sl.to hb, h.cap, h.new, fun h0 => by obtain ⟨g, e, hw⟩ := h.wp h0; exact ⟨g, e, hw.to hb⟩⟩
theorem Nw.drew {u w : World} {a : Option Addr} {c : Nat} {C : List Nat} (h : Nw u w a c C) : Nw u w.drew a c C := h.to (below_drew (Below.refl _ _))
theorem Nw.mono {u u' w : World} {a : Option Addr} {c : Nat} {C : List Nat} (h : Nw u w a c C) (hu : u'.heap.size ≤ u.heap.size) : Nw u' w a c C := ⟨h.sl, h.cap, fun b o s e => Nat.le_trans hu (h.new b o s e), h.wp⟩
/-- what does not lie in the block that is written -/
theorem Nw.far {u w : World} {a : Option Addr} {c : Nat} {C : List Nat} (h : Nw u w a c C) {b o : Nat} (hb : b < u.heap.size) (v : Value) : Nw u (w.setCell ⟨b, o, none⟩ v) a c C := by
  refine ⟨?_, h.cap, h.new, fun h0 => ?_⟩
  · rcases h.sl with h1 | ⟨b', o', e, h2, h3⟩
    · exact Or.inl h1
    · have := h.new b' o' none e
      exact Or.inr ⟨b', o', e, by simpa using h2, fun j hj => by rw [World.cell?_setCell_other _ _ _ _ (by simp <;> omega)]; exact h3 j hj⟩
  · obtain ⟨g, e, hw⟩ := h.wp h0
    have := h.new g 0 none e
    exact ⟨g, e, hw.far (by omega) v⟩

theorem take_step {L : List Nat} {n : Nat} (h : n < L.length) : L.take n ++ [L.getD n 0] = L.take (n + 1) := by
  rw [List.take_succ_eq_append_getElem h, List.getD_eq_getElem?_getD, List.getElem?_eq_getElem h]; rfl

/-- 'append(c, x)' on a row of bytes -/
theorem wpList_append_u8 (wr : World) {ops : Array Oper} {rest : List Oper} {o : Oper} {a : Act} {Q : Exit → Act → World → Prop} (hgd : o.guard = none) (s x : Operand)
    (ho : o.op = .call { callee := .builtin .append, args := #[s, x], argTypes := #[22, 22] })
    (B n : Nat) (C : List Nat) (v : Value) (X : Int) (y : Nat) (hX : X = (y : Int)) (hown : wr.ownsRow B 5 1 v n (ns .u8 C)) (hB : B ≤ wr.heap.size) (hL : n < 140737488355328)
    (hs : a.eval s = v) (hx : a.eval x = .slice (some ⟨wr.heap.size, 0, none⟩) 1 1)
    (h : ∀ g cap w', w'.ownsRow B 5 1 (.slice (some ⟨g, 0, none⟩) (n + 1) cap) (n + 1) (ns .u8 (C ++ [y])) → Below B wr w' → wpList Tryd.prog ops Q rest (a.put o.dst (.slice (some ⟨g, 0, none⟩) (n + 1) cap)) w') :
    wpList Tryd.prog ops Q (o :: rest) a (wr.alloc (.cells #[.int .u8 X] 5)) := by
  subst hX
  obtain ⟨i, hi, hz0, hz1, hz2⟩ := info_parts Tryd.info5
  have hnews : ∀ j u, (ns .u8 [y])[j]? = some u → (wr.alloc (.cells #[.int .u8 (y : Int)] 5)).cell? ((⟨wr.heap.size, 0, none⟩ : Addr).add j) = some u := World.news_of_block (cs := #[.int .u8 (y : Int)]) (heap_alloc_new wr _)
  refine wpList_append_lies _ hgd s x 22 ho B 5 i (.int .u8 0) 1 1 Tryd.underlying22 hi hz0 hz1 hz2 rfl (by omega) v n (ns .u8 C) hs (hown.alloc _) ⟨wr.heap.size, 0, none⟩ 1 1 (ns .u8 [y]) hx (by rfl) hnews (ns_one _ _) (by omega) (by unfold maxLen; omega) (by omega) (by simp; omega) (wr.heap.size + 1) (by simp) ?_
  intro g cap w' hown' hgrow hat _
  refine h g cap w' (by rw [ns_append]; exact hown') ?_
  exact ((Below.refl B wr).alloc hB _).grown hgrow (by simp; omega) (fun k hk => (hown.lt k hk).1)

theorem own_sl {w : World} {B n c : Nat} {a : Option Addr} {L : List Nat} (hn : n = L.length) (h0 : 0 < n) (h : w.ownsRow B 5 1 (.slice a n c) n (ns .u8 L)) (ha : ∃ g, a = some ⟨g, 0, none⟩) : Sl w .u8 a L := by
  obtain ⟨g, rfl⟩ := ha
  subst hn
  have hlt := h.lt g rfl
  exact Or.inr ⟨g, 0, rfl, hlt.2, fun j hj => by rw [Nat.zero_add, h.cellAt j (by omega)]; exact ns_get _ _ _ hj⟩

end Go.Proofs.YtpideemiijhkgabDoor
