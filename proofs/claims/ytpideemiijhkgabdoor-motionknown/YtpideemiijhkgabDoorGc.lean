/- DERIVED. Rows that a call makes: make; Bring. -/
import Derived.Test.YtpideemiijhkgabDoorGb
namespace Go.Proofs.YtpideemiijhkgabDoor
open Go.RowKit

theorem Tryd.info3 : (Tryd.prog.info? 3).map (fun i => (i.zero, i.size, i.bytes)) = some (some (.int .i64 0), 1, 8) := by kernel_rfl
theorem mk_ints {n : Nat} (hn : n ≤ 1048576) (u : World) : (Instr.makeSlice 28 (.int .i64 (n : Int)) (.int .i64 (n : Int))).run Tryd.prog u = .ok (.slice (some ⟨u.heap.size, 0, none⟩) n n) (u.alloc (.cells (madeCells #[.int .i64 0] n) 3)) :=
  run_make_row' 28 3 (.int .i64 0) 8 Tryd.underlying28 Tryd.info3 rfl .i64 .i64 n (by omega) (by omega) u
theorem ext_getD {C D : List Int} (hl : C.length = D.length) (h : ∀ j, j < C.length → C.getD j 0 = D.getD j 0) : C = D := by
  refine List.ext_getElem hl fun j h1 h2 => ?_
  have := h j h1
  simpa [List.getD_eq_getElem?_getD, List.getElem?_eq_getElem h1, List.getElem?_eq_getElem h2] using this
theorem getD_set (C : List Int) (k j : Nat) (x : Int) (hk : k < C.length) : (C.set k x).getD j 0 = if k = j then x else C.getD j 0 := by
  rw [List.getD_eq_getElem?_getD, List.getD_eq_getElem?_getD, List.getElem?_set]
  by_cases e : k = j
  · subst e; simp [hk]
  · simp [e]
/-- are two lists the same? -/
def eqI (C D : List Int) : Bool := decide (C = D)
theorem eqI_yes {C D : List Int} (h : C = D) : eqI C D = true := by simp [eqI, h]
theorem eqI_no {C D : List Int} (h : ¬ C = D) : eqI C D = false := by simp [eqI, h]
theorem eqI_self (C : List Int) : eqI C C = true := eqI_yes rfl

theorem tmod_fix (i n : Int) (h : 0 < n) : (if i.tmod n < 0 then i.tmod n + n else i.tmod n) = i % n := by
  have h1 := Int.tmod_lt_of_pos i h
  rcases Int.lt_or_le i 0 with hi | hi
  · have e := Int.tmod_eq_emod (a := i) (b := n)
    have h2 := Int.emod_nonneg i (by omega : n ≠ 0)
    have h3 := Int.emod_lt_of_pos i h
    rw [e]
    split <;> split at * <;> first | omega | skip
    all_goals simp_all
    all_goals omega
  · have e := Int.tmod_eq_emod_of_nonneg (a := i) (b := n) hi
    have h2 := Int.emod_nonneg i (by omega : n ≠ 0)
    rw [e, if_neg (by omega)]

/-- a row grows, and again -/
theorem grown_trans {a b c : World} {r r' : Option Nat} (h : a.grownBy b r) (k : b.grownBy c r') (hr : ∀ g, r' = some g → r = some g ∨ a.heap.size ≤ g) : a.grownBy c r :=
  ⟨k.os.trans h.os, k.tape.trans h.tape, k.output.trans h.output, Nat.le_trans h.size k.size, fun i hi hne => by
    rw [k.block i (Nat.lt_of_lt_of_le hi h.size) (fun e => by rcases hr i e.symm with e | e; exact hne e.symm; omega)]
    exact h.block i hi hne⟩
theorem grown_below {B : Nat} {a b : World} {r : Option Nat} (h : a.grownBy b r) (hB : B ≤ a.heap.size) (hr : ∀ g, r = some g → B ≤ g) : Below B a b :=
  ⟨h.os, h.tape, h.output, h.size, fun i hi => h.block i (by omega) (fun e => by have := hr i e.symm; omega)⟩
theorem below_grown {a b : World} (h : Below a.heap.size a b) (r : Option Nat) : a.grownBy b r := ⟨h.os, h.tape, h.output, h.size, fun i hi _ => h.block i hi⟩

set_option maxRecDepth 100000 in
set_option maxHeartbeats 1000000 in
theorem eqInts_any {w : World} {a b : Option Addr} {c d : Nat} {C D : List Int} (h1 : Si w a C) (h2 : Si w b D) (hl : C.length ≤ 140737488355328) (hl2 : D.length ≤ 140737488355328) :
    Calls Tryd.prog 11 #[.slice a C.length c, .slice b D.length d] w fun e w' => e = .returned (.bool (eqI C D)) ∧ Below w.heap.size w w' := by
  by_cases hn : C.length = D.length
  · by_cases h0 : C.length = 0
    · obtain rfl : C = [] := List.eq_nil_of_length_eq_zero h0
      obtain rfl : D = [] := List.eq_nil_of_length_eq_zero (by simpa using hn.symm)
      rw [eqI_self]
      simp only [List.length_nil]
      go_enter Tryd.func11, Tryd.ntmps11
      go_wp2
      go_loop [5] (fun i => i = .int .i64 0) (fun _ => 0)
      case atStart => rfl
      case round =>
        subst hrel
        go_wp2
        go_ret
        exact ⟨rfl, Below.refl _ _⟩
    · obtain ⟨b1, o1, rfl, hbl, hc1⟩ := h1.form (by omega)
      obtain ⟨b2, o2, rfl, hbl2, hc2⟩ := h2.form (by omega)
      have hne : ((C.length : Int) != (D.length : Int)) = false := by simp [hn]
      have Q1 : Hid (∀ m j, j < C.length → (w.drewN m).cell? ⟨b1, o1 + j, none⟩ = some (.int .i64 (C.getD j 0))) := fun m j hj => hc1 j hj
      have Q2 : Hid (∀ m j, j < C.length → (w.drewN m).cell? ⟨b2, o2 + j, none⟩ = some (.int .i64 (D.getD j 0))) := fun m j hj => hc2 j (by omega)
      have HN : Hid (C.length = D.length) := hn
      clear hn h1 h2 hc1 hc2
      go_enter Tryd.func11, Tryd.ntmps11
      go_wp2
      go_loopw [5] (fun i wr => ∃ k m : Nat, k ≤ C.length ∧ i = .int .i64 k ∧ wr = w.drewN m ∧ Hid (∀ j, j < k → C.getD j 0 = D.getD j 0)) (fun i _ => C.length - (intOf i).toNat)
      case atStart => exact ⟨0, 0, by omega, rfl, rfl, fun j hj => by omega⟩
      case round =>
        obtain ⟨k, m, hk, rfl, rfl, HK⟩ := hrel
        by_cases hlt : k < C.length
        · have r1 := Q1.out m k hlt
          have r2 := Q2.out m k hlt
          have b0 : 0 ≤ (k : Int) := by omega
          have b1 : (k : Int) < (C.length : Int) := by omega
          have b2 : (k : Int) < (D.length : Int) := by have := HN.out; omega
          generalize he1 : C.getD k 0 = p1 at *
          generalize he2 : D.getD k 0 = p2 at *
          have HE1 : Hid (C.getD k 0 = p1) := he1
          have HE2 : Hid (D.getD k 0 = p2) := he2
          clear he1 he2
          generalize hW : w.drewN m = v at *
          have HW : Hid (w.drewN m = v) := hW
          clear hW
          by_cases hp : p1 = p2
          · have hp' : (p1 != p2) = false := by simp [hp]
            have HP : Hid (p1 = p2) := hp
            clear hp
            go_wp2
            go_quiet (fail)
            go_wp2
            go_roundw
            case rel => exact ⟨k + 1, m + nq, by omega, by go_num, by rw [← HW.out]; exact drewN_drewN _ _ _, fun j hj => by
              by_cases e : j = k
              · rw [e, HE1.out, HE2.out]; exact HP.out
              · exact HK.out j (by omega)⟩
            case measure => simp [intOf]; omega
          · have hp' : (p1 != p2) = true := by rw [bne_iff_ne]; exact hp
            have HF : Hid (eqI C D = false) := eqI_no (fun e => hp (by rw [← HE1.out, ← HE2.out, e]))
            clear hp
            go_wp2
            go_quiet (fail)
            go_wp2
            go_ret
            exact ⟨by rw [HF.out]; rfl, by rw [← HW.out]; exact below_drewN (below_drewN (Below.refl _ _) _) _⟩
        · go_wp2
          go_ret
          exact ⟨by rw [eqI_yes (ext_getD HN.out fun j hj => HK.out j (by omega))]; rfl, below_drewN (Below.refl _ _) _⟩
  · rw [eqI_no (fun e => hn (by rw [e]))]
    have hne : ((C.length : Int) != (D.length : Int)) = true := by rw [bne_iff_ne]; omega
    clear hn
    go_enter Tryd.func11, Tryd.ntmps11
    go_wp2
    go_ret
    exact ⟨rfl, Below.refl _ _⟩

theorem eqInts_at {w : World} {a b : Option Addr} {c d n m : Nat} {C D : List Int} (h1 : Si w a C) (h2 : Si w b D) (e1 : C.length = n) (e2 : D.length = m) (hl : n ≤ 140737488355328) (hl2 : m ≤ 140737488355328) :
    Calls Tryd.prog 11 #[.slice a n c, .slice b m d] w fun e w' => e = .returned (.bool (eqI C D)) ∧ Below w.heap.size w w' := by
  subst e1 e2
  exact eqInts_any h1 h2 hl hl2

/-- a row of numbers that the call itself made -/
structure Oi (w : World) (B : Nat) (a : Option Addr) (n c : Nat) (C : List Int) : Prop where
  own : w.ownsRow B 3 1 (.slice a n c) n (is C)
theorem Oi.len {w : World} {B n c : Nat} {a : Option Addr} {C : List Int} (h : Oi w B a n c C) : C.length = n := by have := h.own.1; rw [is_length] at this; omega
theorem Oi.nil (w : World) (B : Nat) : Oi w B none 0 0 [] := ⟨World.ownsRow_nil _ _ _ _⟩
theorem Oi.drewN {w : World} {B n c : Nat} {a : Option Addr} {C : List Int} (h : Oi w B a n c C) (m : Nat) : Oi (w.drewN m) B a n c C := ⟨own_carry h.own fun _ _ => rfl⟩
theorem Oi.to {w w' : World} {B n c : Nat} {a : Option Addr} {C : List Int} (h : Oi w B a n c C) (hb : Below w.heap.size w w') : Oi w' B a n c C := ⟨own_below h.own hb⟩
theorem Oi.si {w : World} {B n c : Nat} {a : Option Addr} {C : List Int} (h : Oi w B a n c C) : Si w a C := by
  have hl := h.len
  by_cases h0 : C.length = 0
  · exact Or.inl (List.eq_nil_of_length_eq_zero h0)
  · obtain ⟨b, cap, hv, _, hlt⟩ := h.own.form (by omega)
    simp only [Value.slice.injEq] at hv
    obtain ⟨rfl, _, rfl⟩ := hv
    exact Or.inr ⟨b, 0, rfl, hlt, fun j hj => by rw [Nat.zero_add, h.own.cellAt j (by omega)]; exact is_get C j hj⟩

/-- 'append(c, x)' on a row of numbers -/
theorem wpList_append_int (wr : World) {ops : Array Oper} {rest : List Oper} {o : Oper} {a : Act} {Q : Exit → Act → World → Prop} (hgd : o.guard = none) (s x : Operand)
    (ho : o.op = .call { callee := .builtin .append, args := #[s, x], argTypes := #[28, 28] })
    (B n c : Nat) (C : List Int) (ad : Option Addr) (y : Int) (hown : Oi wr B ad n c C) (hB : B ≤ wr.heap.size) (hL : n < 1099511627776)
    (hs : a.eval s = .slice ad n c) (hx : a.eval x = .slice (some ⟨wr.heap.size, 0, none⟩) 1 1)
    (h : ∀ g cap w', Oi w' B (some ⟨g, 0, none⟩) (n + 1) cap (C ++ [y]) → Below B wr w' → B ≤ w'.heap.size → wpList Tryd.prog ops Q rest (a.put o.dst (.slice (some ⟨g, 0, none⟩) (n + 1) cap)) w') :
    wpList Tryd.prog ops Q (o :: rest) a (wr.alloc (.cells #[.int .i64 y] 3)) := by
  obtain ⟨i, hi, hz0, hz1, hz2⟩ := info_parts Tryd.info3
  have hnews : ∀ j u, (is [y])[j]? = some u → (wr.alloc (.cells #[.int .i64 y] 3)).cell? ((⟨wr.heap.size, 0, none⟩ : Addr).add j) = some u := World.news_of_block (cs := #[.int .i64 y]) (heap_alloc_new wr _)
  refine wpList_append_lies _ hgd s x 28 ho B 3 i (.int .i64 0) 1 8 Tryd.underlying28 hi hz0 hz1 hz2 rfl (by omega) (.slice ad n c) n (is C) hs (hown.own.alloc _) ⟨wr.heap.size, 0, none⟩ 1 1 (is [y]) hx (by rfl) hnews (is_one _) (by omega) (by unfold maxLen; omega) (by omega) (by simp; omega) (wr.heap.size + 1) (by simp) ?_
  intro g cap w' hown' hgrow hat _
  have hgr := grown_trans (below_grown (from_alloc wr _) (Value.slice ad n c).ownBlock) hgrow (fun g hg => Or.inl hg)
  have hbb := grown_below hgr hB (fun g hg => (hown.own.lt g hg).1)
  exact h g cap w' ⟨by rw [is_append]; exact hown'⟩ hbb (Nat.le_trans hB hbb.size)

theorem Ri.oi {w : World} {g B : Nat} {C : List Int} (h : Ri 3 w g C) (hB : B ≤ g) (hl : C.length ≤ 1048576) : Oi w B (some ⟨g, 0, none⟩) C.length C.length C :=
  ⟨by rw [is_length, Nat.mul_one], Or.inr ⟨g, C.length, (is C).toArray, rfl, hB, h.heap, Nat.le_refl _, by unfold maxLen; omega, by simp [is_length], by rw [Nat.mul_one]; simp [is_length, List.take_of_length_le]⟩⟩
theorem Oi.cellAt {w : World} {B n c g : Nat} {C : List Int} (h : Oi w B (some ⟨g, 0, none⟩) n c C) (j : Nat) (hj : j < n) : w.cell? ⟨g, j, none⟩ = some (.int .i64 (C.getD j 0)) := by
  have hl := h.len
  rw [h.own.cellAt j (by omega)]; exact is_get C j (by omega)
theorem Oi.lt {w : World} {B n c g : Nat} {C : List Int} (h : Oi w B (some ⟨g, 0, none⟩) n c C) : B ≤ g ∧ g < w.heap.size := h.own.lt g rfl
theorem Oi.cap {w : World} {B n c g : Nat} {C : List Int} (h : Oi w B (some ⟨g, 0, none⟩) n c C) : n ≤ c := own_cap h.own
theorem Oi.ri {w : World} {B g n c : Nat} {C : List Int} (h : Oi w B (some ⟨g, 0, none⟩) n c C) : ∀ j, w.frozen? ⟨g, j, none⟩ = false := own_thaw h.own


end Go.Proofs.YtpideemiijhkgabDoor
