/- DERIVED. The walks of Bring, of an append of a number, of row. -/
import Derived.Test.YtjbipejpegmmoaaDoorDa
namespace Go.Proofs.YtjbipejpegmmoaaDoor
open Go.RowKit

set_option maxRecDepth 100000 in
set_option maxHeartbeats 400000 in
theorem bring_any {w : World} {i n : Int} (h0 : 0 < n) (h1 : n ≤ 1099511627776) : Calls Tryd.prog 19 #[.int .i64 i, .int .i64 n] w fun e w' => e = .returned (.int .i64 (i % n)) ∧ w' = w := by
  have HT : Hid ((if i.tmod n < 0 then i.tmod n + n else i.tmod n) = i % n) := tmod_fix i n h0
  have b1 := Int.tmod_lt_of_pos i h0
  have b2 : -n < i.tmod n := by
    have := Int.lt_tmod_of_pos i h0
    omega
  have z : n ≠ 0 := by omega
  have z' : ¬ n ≤ 0 := by omega
  generalize i % n = r at *
  by_cases hz : i.tmod n < 0
  · have HR : Hid (r = i.tmod n + n) := by show _ = _; rw [← HT.out, if_pos hz]
    clear HT
    go_enter Tryd.func19, Tryd.ntmps19
    go_wp2_with fail
    go_ret
    exact ⟨by rw [HR.out]; rfl, rfl⟩
  · have HR : Hid (r = i.tmod n) := by show _ = _; rw [← HT.out, if_neg hz]
    clear HT
    go_enter Tryd.func19, Tryd.ntmps19
    go_wp2_with fail
    go_ret
    exact ⟨by rw [HR.out]; rfl, rfl⟩

/-- a row grows, and again -/
theorem grown_trans {a b c : World} {r r' : Option Nat} (h : a.grownBy b r) (k : b.grownBy c r') (hr : ∀ g, r' = some g → r = some g ∨ a.heap.size ≤ g) : a.grownBy c r :=
  ⟨k.os.trans h.os, k.tape.trans h.tape, k.output.trans h.output, Nat.le_trans h.size k.size, fun i hi hne => by
    rw [k.block i (Nat.lt_of_lt_of_le hi h.size) (fun e => by rcases hr i e.symm with e | e; exact hne e.symm; omega)]
    exact h.block i hi hne⟩
theorem grown_below {B : Nat} {a b : World} {r : Option Nat} (h : a.grownBy b r) (hB : B ≤ a.heap.size) (hr : ∀ g, r = some g → B ≤ g) : Below B a b :=
  ⟨h.os, h.tape, h.output, h.size, fun i hi => h.block i (by omega) (fun e => by have := hr i e.symm; omega)⟩
theorem below_grown {a b : World} (h : Below a.heap.size a b) (r : Option Nat) : a.grownBy b r := ⟨h.os, h.tape, h.output, h.size, fun i hi _ => h.block i hi⟩

/-- a row of numbers that the call itself made -/
structure Oi (w : World) (B : Nat) (a : Option Addr) (n c : Nat) (C : List Int) : Prop where
  own : w.ownsRow B 3 1 (.slice a n c) n (is C)
theorem Oi.len {w : World} {B n c : Nat} {a : Option Addr} {C : List Int} (h : Oi w B a n c C) : C.length = n := by have := h.own.1; rw [is_length] at this; omega
theorem Oi.nil (w : World) (B : Nat) : Oi w B none 0 0 [] := ⟨World.ownsRow_nil _ _ _ _⟩
theorem Oi.drewN {w : World} {B n c : Nat} {a : Option Addr} {C : List Int} (h : Oi w B a n c C) (m : Nat) : Oi (w.drewN m) B a n c C := ⟨own_carry h.own fun _ _ => rfl⟩
theorem Oi.to {w w' : World} {B n c : Nat} {a : Option Addr} {C : List Int} (h : Oi w B a n c C) (hb : Below w.heap.size w w') : Oi w' B a n c C := ⟨own_below h.own hb⟩
theorem Oi.si {w : World} {B n c : Nat} {a : Option Addr} {C : List Int} (h : Oi w B a n c C) : Si w a C := by
  have hl := h.len
  by_cases h0 : C.length = 0
  · exact Or.inl (List.eq_nil_of_length_eq_zero h0)
  · obtain ⟨b, cap, hv, _, hlt⟩ := h.own.form (by omega)
    simp only [Value.slice.injEq] at hv
    obtain ⟨rfl, _, rfl⟩ := hv
    exact Or.inr ⟨b, 0, rfl, hlt, fun j hj => by rw [Nat.zero_add, h.own.cellAt j (by omega)]; exact is_get C j hj⟩

/-- 'append(c, x)' on a row of numbers -/
theorem wpList_append_int (wr : World) {ops : Array Oper} {rest : List Oper} {o : Oper} {a : Act} {Q : Exit → Act → World → Prop} (hgd : o.guard = none) (s x : Operand)
    (ho : o.op = .call { callee := .builtin .append, args := #[s, x], argTypes := #[25, 25] })
    (B n c : Nat) (C : List Int) (ad : Option Addr) (y : Int) (hown : Oi wr B ad n c C) (hB : B ≤ wr.heap.size) (hL : n < 1099511627776)
    (hs : a.eval s = .slice ad n c) (hx : a.eval x = .slice (some ⟨wr.heap.size, 0, none⟩) 1 1)
    (h : ∀ g cap w', Oi w' B (some ⟨g, 0, none⟩) (n + 1) cap (C ++ [y]) → Below B wr w' → B ≤ w'.heap.size → wpList Tryd.prog ops Q rest (a.put o.dst (.slice (some ⟨g, 0, none⟩) (n + 1) cap)) w') :
    wpList Tryd.prog ops Q (o :: rest) a (wr.alloc (.cells #[.int .i64 y] 3)) := by
  obtain ⟨i, hi, hz0, hz1, hz2⟩ := info_parts Tryd.info3
  have hnews : ∀ j u, (is [y])[j]? = some u → (wr.alloc (.cells #[.int .i64 y] 3)).cell? ((⟨wr.heap.size, 0, none⟩ : Addr).add j) = some u := World.news_of_block (cs := #[.int .i64 y]) (heap_alloc_new wr _)
  refine wpList_append_lies _ hgd s x 25 ho B 3 i (.int .i64 0) 1 8 Tryd.underlying25 hi hz0 hz1 hz2 rfl (by omega) (.slice ad n c) n (is C) hs (hown.own.alloc _) ⟨wr.heap.size, 0, none⟩ 1 1 (is [y]) hx (by rfl) hnews (is_one _) (by omega) (by unfold maxLen; omega) (by omega) (by simp; omega) (wr.heap.size + 1) (by simp) ?_
  intro g cap w' hown' hgrow hat _
  have hgr := grown_trans (below_grown (from_alloc wr _) (Value.slice ad n c).ownBlock) hgrow (fun g hg => Or.inl hg)
  have hbb := grown_below hgr hB (fun g hg => (hown.own.lt g hg).1)
  exact h g cap w' ⟨by rw [is_append]; exact hown'⟩ hbb (Nat.le_trans hB hbb.size)

/-- n numbers, none further than M from 0, in new memory -/
def Rn (w w' : World) (e : Ending) (n : Nat) (M : Int) : Prop := ∃ a c D, e = .returned (.slice a n c) ∧ D.length = n ∧ Mst D M ∧ Si w' a D ∧ Below w.heap.size w w'
theorem mst_snoc {D : List Int} {M x : Int} (h : Mst D M) (h0 : -M ≤ x) (h1 : x ≤ M) : Mst (D ++ [x]) M := by
  intro k hk
  rw [List.length_append] at hk
  by_cases e : k < D.length
  · rw [List.getD_eq_getElem?_getD, List.getElem?_append_left e, ← List.getD_eq_getElem?_getD]; exact h k e
  · obtain rfl : k = D.length := by simp at hk; omega
    simp; omega

structure RwI (w : World) (n : Nat) (M : Int) (s i : Value) (wr : World) : Prop where
  ex : ∃ (k c : Nat) (a : Option Addr) (D : List Int), k ≤ n ∧ i = .int .i64 k ∧ s = .slice a k c ∧ Oi wr w.heap.size a k c D ∧ Mst D M ∧ Below w.heap.size w wr

set_option maxRecDepth 100000 in
set_option maxHeartbeats 1000000 in
theorem row_any {w : World} {a : Option Addr} {c n : Nat} {C : List Int} {M : Int} (hs : Si w a C) (hl : C.length ≤ 140737488355328) (hn : n ≤ 64) (hM0 : 0 ≤ M) (hM1 : M ≤ 1048576) :
    Calls Tryd.prog 13 #[.slice a C.length c, .int .i64 (n : Int), .int .i64 M] w fun e w' => Rn w w' e n M := by
  have n1 : (n : Int) ≤ 64 := by omega
  go_enter Tryd.func13, Tryd.ntmps13
  go_wp2_with fail
  go_loopw [7, 8] (fun s i wr => RwI w n M s i wr) (fun _ i _ => n - (intOf i).toNat)
  case atStart => exact ⟨⟨0, 0, none, [], by omega, rfl, rfl, Oi.nil _ _, fun k hk => by simp at hk, Below.refl _ _⟩⟩
  case round =>
    obtain ⟨k, c', a', D, hk, rfl, rfl, ho, hd, hb⟩ := hrel
    have k0 : 0 ≤ (k : Int) := by omega
    by_cases hlt : k < n
    · have k1 : (k : Int) < (n : Int) := by omega
      have HR : Hid (∀ (wz : World) (v : Int) (w5 : World) (g cap : Nat), Below w.heap.size wr wz → Oi w5 w.heap.size (some ⟨g, 0, none⟩) (k + 1) cap (D ++ [v % (2 * M + 1) - M]) → Below w.heap.size wz w5 → RwI w n M (.slice (some ⟨g, 0, none⟩) (k + 1) cap) (.int .i64 ((k : Int) + 1)) w5) := by
        intro wz v w5 g cap hbz how hb5
        have e1 := Int.emod_nonneg v (b := 2 * M + 1) (by omega)
        have e2 := Int.emod_lt_of_pos v (b := 2 * M + 1) (by omega)
        exact ⟨⟨k + 1, cap, _, _, by omega, by go_num, rfl, how, mst_snoc hd (by omega) (by omega), (hb.trans hbz).trans hb5⟩⟩
      have HS : Hid (w.heap.size ≤ wr.heap.size) := hb.size
      have HO : Hid _ := ho
      by_cases h0 : C.length = 0
      · rw [h0]
        have hmod : ∀ v : Int, 0 ≤ v % (2 * M + 1) ∧ v % (2 * M + 1) ≤ 2 * M := fun v => by
          have e1 := Int.emod_nonneg v (b := 2 * M + 1) (by omega)
          have e2 := Int.emod_lt_of_pos v (b := 2 * M + 1) (by omega)
          omega
        obtain ⟨q0, q1⟩ := hmod (7 * (k : Int))
        clear hmod hd hb ho h0
        go_wp2_with (first | (go_at_call 19; refine (bring_any (by omega) (by omega)).mono ?_; rintro e w' ⟨rfl, rfl⟩) | (at_builtin; refine wpList_append_int _ (by rfl) _ _ (by rfl) w.heap.size k c' D a' _ HO.out HS.out (by omega) (by rfl) (by rfl) ?_; intro g cap w5 how hb5 _))
        go_roundw
        case rel => exact HR.out _ _ w5 g cap (Below.refl _ _) how hb5
        case measure => simp [intOf]; omega
      · obtain ⟨b, o, rfl, hbl, hc⟩ := hs.form (by omega)
        have hmn : k % C.length < C.length := Nat.mod_lt _ (by omega)
        have c0 : wr.cell? ⟨b, o + k % C.length, none⟩ = some (.int .i64 (C.getD (k % C.length) 0)) := by rw [newCell hb _ _ hbl]; exact hc _ hmn
        have e0 : (k : Int) % (C.length : Int) = ((k % C.length : Nat) : Int) := rfl
        have e1 : (0 : Int) ≤ ((k % C.length : Nat) : Int) := by omega
        have e2 : ((k % C.length : Nat) : Int) < (C.length : Int) := by omega
        have e3 : (0 : Int) < (C.length : Int) := by omega
        have e4 : (C.length : Int) ≠ 0 := by omega
        have hmod : ∀ v : Int, 0 ≤ v % (2 * M + 1) ∧ v % (2 * M + 1) ≤ 2 * M := fun v => by
          have e1 := Int.emod_nonneg v (b := 2 * M + 1) (by omega)
          have e2 := Int.emod_lt_of_pos v (b := 2 * M + 1) (by omega)
          omega
        have HM : Hid _ := hmod
        have HO2 : Hid (∀ m, Oi (wr.drewN m) w.heap.size a' k c' D) := fun m => ho.drewN m
        generalize C.getD (k % C.length) 0 = x at *
        generalize k % C.length = r at *
        clear hmod hd hb ho h0 hc hs hmn
        go_wp2_with fail
        go_quiet (fail)
        have HSq : Hid (w.heap.size ≤ (wr.drewN nq).heap.size) := HS.out
        have HBz : Hid (Below w.heap.size wr (wr.drewN nq)) := below_drewN (Below.refl _ _) nq
        obtain ⟨q0, q1⟩ := HM.out (wrap64 (x + wrap64 ((k : Int) / (C.length : Int))))
        have HOq := HO2.out nq
        generalize wr.drewN nq = wz at *
        go_wp2_with (first | (go_at_call 19; refine (bring_any (by omega) (by omega)).mono ?_; rintro e w' ⟨rfl, rfl⟩) | (at_builtin; refine wpList_append_int _ (by rfl) _ _ (by rfl) w.heap.size k c' D a' _ HOq HSq.out (by omega) (by rfl) (by rfl) ?_; intro g cap w5 how hb5 _))
        go_roundw
        case rel => exact HR.out _ _ w5 g cap HBz.out how hb5
        case measure => simp [intOf]; omega
    · have HO : Hid _ := ho
      have HB : Hid _ := hb
      have HD : Hid _ := hd
      obtain rfl : k = n := by omega
      clear ho hb hd
      go_wp2_with fail
      go_ret
      exact ⟨a', c', D, rfl, HO.out.len, HD.out, HO.out.si, HB.out⟩

end Go.Proofs.YtjbipejpegmmoaaDoor
