/- DERIVED. A plane that is made: blank, fill, New. -/
import Derived.Test.YtpideemiijhkgabDoorPl
namespace Go.Proofs.YtpideemiijhkgabDoor
open Go.RowKit

/-- of the old blocks only g has turned, and none is new -/
structure Kb (g : Nat) (w w' : World) : Prop where
  os : w'.os = w.os
  tape : w'.tape = w.tape
  output : w'.output = w.output
  size : w'.heap.size = w.heap.size
  block : ∀ i, i ≠ g → w'.heap[i]? = w.heap[i]?
theorem Kb.refl (g : Nat) (w : World) : Kb g w w := ⟨rfl, rfl, rfl, rfl, fun _ _ => rfl⟩
theorem Kb.trans {g : Nat} {a b c : World} (h : Kb g a b) (k : Kb g b c) : Kb g a c := ⟨k.os.trans h.os, k.tape.trans h.tape, k.output.trans h.output, k.size.trans h.size, fun i hi => (k.block i hi).trans (h.block i hi)⟩
theorem Kb.below {g B : Nat} {w w' : World} (h : Kb g w w') (hg : B ≤ g) : Below B w w' := ⟨h.os, h.tape, h.output, by rw [h.size]; exact Nat.le_refl _, fun i hi => h.block i (by omega)⟩
theorem Kb.cell {g : Nat} {w w' : World} (h : Kb g w w') (i o : Nat) (hi : i ≠ g) : w'.cell? ⟨i, o, none⟩ = w.cell? ⟨i, o, none⟩ := World.cell?_of_block (w := w) (a := ⟨i, o, none⟩) (h.block i hi)
theorem Kb.frozen {g : Nat} {w w' : World} (h : Kb g w w') (i o : Nat) (hi : i ≠ g) : w'.frozen? ⟨i, o, none⟩ = w.frozen? ⟨i, o, none⟩ := World.frozen?_of_block (w := w) (a := ⟨i, o, none⟩) (h.block i hi)
theorem Kb.setCell (g k : Nat) (w : World) (v : Value) : Kb g w (w.setCell ⟨g, k, none⟩ v) := ⟨rfl, rfl, rfl, by simp, fun i hi => Below.heap_setCell _ _ _ _ (fun e => hi e)⟩
theorem Kb.setRow (w : World) (g : Nat) (cs : Array Value) : Kb g w (w.setRow g cs) := ⟨rfl, rfl, rfl, by simp [World.setRow], fun i hi => setRow_other w g i cs hi⟩

set_option maxHeartbeats 1000000 in
theorem blank_any {w : World} {x y n : Nat} (hx1 : x ≤ 512) (hy1 : y ≤ 512) (hn : n = x * y) :
    Calls Tryd.prog 30 #[.int .i64 (x : Int), .int .i64 (y : Int)] w fun e w' => e = .returned (.agg #[.int .i64 (x : Int), .int .i64 (y : Int), .slice (some ⟨w.heap.size + 1, 0, none⟩) n n]) ∧ w'.heap.size = w.heap.size + 2 ∧ Rw w' (w.heap.size + 1) (List.replicate n 0) ∧ Below w.heap.size w w' := by
  have hp := prod_le hx1 hy1
  have en : (x : Int) * (y : Int) = (n : Int) := by rw [← Int.natCast_mul, hn]
  have p1 : (n : Int) ≤ 262144 := by omega
  have hmk := mk_row (n := n) (by omega)
  clear hn hp
  go_enter Tryd.func30, Tryd.ntmps30
  go_wp2
  refine bodyPost_ret (v := .agg #[.int .i64 (x : Int), .int .i64 (y : Int), .slice (some ⟨w.heap.size + 1, 0, none⟩) n n]) (by simp [results, Tryd.results30, go_sem]) rfl ⟨rfl, by simp, ?_, by go_grown⟩
  exact Rw.madeAt _ _ (by simp)

/-- a row, filled up to k -/
def fiL (C : List Nat) (v k : Nat) : List Nat := tab C.length fun i => if i < k then v else C.getD i 0
set_option maxRecDepth 100000 in
set_option maxHeartbeats 1000000 in
theorem fill_any {w : World} {g n c v : Nat} {C : List Nat} (h : Rw w g C) (hl : C.length = n) (hs : n ≤ 70368744177664) :
    Calls Tryd.prog 31 #[.slice (some ⟨g, 0, none⟩) n c, .int .u8 (v : Int)] w fun e w' => e = .returned (.tuple #[]) ∧ Rw w' g (List.replicate n v) ∧ Kb g w w' := by
  have b9 : (n : Int) ≤ 70368744177664 := by omega
  have H0 : Hid (fiL C v 0 = C) := (eq_tab rfl fun j _ => by rw [if_neg (by omega)]).symm
  have HA : Hid (fiL C v n = List.replicate n v) := list_eq_of_getD (by rw [fiL, tab_len, List.length_replicate, hl]) fun j hj => by
    rw [fiL, tab_len] at hj; unfold fiL; rw [tab_get _ hj, if_pos (by omega), rep_get (by omega)]
  have HS : Hid (∀ k, k < n → (fiL C v k).set k v = fiL C v (k + 1)) := fun k hk => tab_set (by omega) (by rw [if_pos (by omega)]) fun j _ hne => by
    by_cases e : j < k
    · rw [if_pos e, if_pos (by omega)]
    · rw [if_neg e, if_neg (by omega)]
  have HR : Hid (Rw w g (fiL C v 0)) := by show Rw _ _ _; rw [H0.out]; exact h
  have HL : Hid (∀ k, (fiL C v k).length = n) := fun k => by rw [fiL, tab_len, hl]
  clear h hl hs H0
  go_enter Tryd.func31, Tryd.ntmps31
  go_wp2_with fail
  go_loopw [7] (fun i wr => ∃ k : Nat, k ≤ n ∧ i = .int .i64 k ∧ Rw wr g (fiL C v k) ∧ Kb g w wr) (fun i _ => n - (intOf i).toNat)
  case atStart => exact ⟨0, by omega, rfl, HR.out, Kb.refl _ _⟩
  case round =>
    clear HR
    obtain ⟨k, hk, rfl, hr, hb⟩ := hrel
    have HR2 : Hid _ := hr
    have HB : Hid _ := hb
    by_cases hlt : k < n
    · have c1 := hr.cell k (by rw [HL.out]; exact hlt)
      have c2 := hr.thaw k
      generalize (fiL C v k).getD k 0 = old at c1
      have b0 : 0 ≤ (k : Int) := by omega
      have b1 : (k : Int) < (n : Int) := by omega
      clear hr hb
      go_wp2_with fail
      go_roundw
      case rel => exact ⟨k + 1, by omega, by go_num, by rw [← HS.out k hlt]; exact HR2.out.set _ _, HB.out.trans (Kb.setCell _ _ _ _)⟩
      case measure => simp [intOf]; omega
    · obtain rfl : k = n := by omega
      clear hr hb
      go_wp2_with fail
      go_end0
      exact ⟨rfl, by rw [← HA.out]; exact HR2.out, HB.out⟩

/-- a plane that was made -/
def Pn (w w' : World) (e : Ending) (x y : Nat) (C : List Nat) : Prop := ∃ g, e = .returned (.tuple #[.agg #[.int .i64 (x : Int), .int .i64 (y : Int), .slice (some ⟨g, 0, none⟩) C.length C.length], .int .i64 0]) ∧ w.heap.size ≤ g ∧ Rw w' g C ∧ Below w.heap.size w w'
theorem ret_pl {a : Option Addr} {x y : Int} {n m : Nat} (h : n = m) : Ending.returned (.tuple #[.agg #[.int .i64 x, .int .i64 y, .slice a n n], .int .i64 0]) = .returned (.tuple #[.agg #[.int .i64 x, .int .i64 y, .slice a m m], .int .i64 0]) := by rw [h]

set_option maxRecDepth 100000 in
set_option maxHeartbeats 2000000 in
theorem new_ok {u : World} {x y v : Nat} (hx0 : 1 ≤ x) (hx1 : x ≤ 512) (hy0 : 1 ≤ y) (hy1 : y ≤ 512) :
    Calls Tryd.prog 21 #[.int .i64 (x : Int), .int .i64 (y : Int), .int .u8 (v : Int)] u fun e w' => Pn u w' e x y (List.replicate (x * y) v) := by
  obtain ⟨n, hn⟩ : ∃ n, n = x * y := ⟨_, rfl⟩
  have hnb : n ≤ 262144 := by rw [hn]; exact prod_le hx1 hy1
  rw [← hn]
  have HN : Hid (n = x * y) := hn
  have i1 : (1 : Int) ≤ (x : Int) := by omega
  have i2 : (x : Int) ≤ 512 := by omega
  have i3 : (1 : Int) ≤ (y : Int) := by omega
  have i4 : (y : Int) ≤ 512 := by omega
  clear hn
  go_enter Tryd.func21, Tryd.ntmps21
  go_wp2_with (go_at_call 29; go_in)
  refine (blank_any hx1 hy1 HN.out).mono ?_
  rintro e w1 ⟨rfl, hsz, hrw, hb⟩
  have c0 : w1.cell? ⟨u.heap.size, 0, none⟩ = some (.int .i64 0) := by rw [newCell hb _ _ (by simp)]; simp
  have c1 : w1.cell? ⟨u.heap.size, 1, none⟩ = some (.int .i64 0) := by rw [newCell hb _ _ (by simp)]; simp
  have c2 : w1.cell? ⟨u.heap.size, 2, none⟩ = some (.slice none 0 0) := by rw [newCell hb _ _ (by simp)]; simp
  have f0 : w1.frozen? ⟨u.heap.size, 0, none⟩ = false := by rw [newFrozen hb _ _ (by simp)]; simp
  have f1 : w1.frozen? ⟨u.heap.size, 1, none⟩ = false := by rw [newFrozen hb _ _ (by simp)]; simp
  have f2 : w1.frozen? ⟨u.heap.size, 2, none⟩ = false := by rw [newFrozen hb _ _ (by simp)]; simp
  have HB1 : Hid (Below u.heap.size u w1) := below_to (from_alloc u _) hb
  rw [show (u.alloc (.cells #[.int .i64 0, .int .i64 0, .slice none 0 0] 39)).heap.size + 1 = u.heap.size + 1 + 1 from by simp] at hrw ⊢
  have hz : w1.heap.size = u.heap.size + 3 := by rw [hsz]; simp
  have HRW : Hid (Rw w1 (u.heap.size + 1 + 1) (List.replicate n 0)) := hrw
  have HZ : Hid _ := hz
  have HA : Hid (Below w1.heap.size w1 (w1.alloc (.cells #[.int .i64 (x : Int), .int .i64 (y : Int), .slice (some ⟨u.heap.size + 1 + 1, 0, none⟩) n n] 39))) := from_alloc _ _
  have HFL : Hid (Calls Tryd.prog 31 #[.slice (some ⟨u.heap.size + 1 + 1, 0, none⟩) n n, .int .u8 (v : Int)] (w1.alloc (.cells #[.int .i64 (x : Int), .int .i64 (y : Int), .slice (some ⟨u.heap.size + 1 + 1, 0, none⟩) n n] 39)) fun e w' => e = .returned (.tuple #[]) ∧ Rw w' (u.heap.size + 1 + 1) (List.replicate n v) ∧ Kb (u.heap.size + 1 + 1) (w1.alloc (.cells #[.int .i64 (x : Int), .int .i64 (y : Int), .slice (some ⟨u.heap.size + 1 + 1, 0, none⟩) n n] 39)) w') :=
    fill_any (HRW.out.to HA.out) (by simp) (by omega)
  clear hb hsz hrw hz
  have hlt : u.heap.size < w1.heap.size := by have := HZ.out; omega
  go_wp2_with fail
  refine HFL.out.mono ?_
  rintro e w2 ⟨rfl, hr2, hk2⟩
  have d0 : w2.cell? ⟨w1.heap.size, 0, none⟩ = some (.int .i64 (x : Int)) := by rw [hk2.cell _ _ (by have := HZ.out; omega)]; simp
  have d1 : w2.cell? ⟨w1.heap.size, 1, none⟩ = some (.int .i64 (y : Int)) := by rw [hk2.cell _ _ (by have := HZ.out; omega)]; simp
  have d2 : w2.cell? ⟨w1.heap.size, 2, none⟩ = some (.slice (some ⟨u.heap.size + 1 + 1, 0, none⟩) n n) := by rw [hk2.cell _ _ (by have := HZ.out; omega)]; simp
  have e0 : w2.cell? ⟨u.heap.size, 0, none⟩ = some (.int .i64 0) := by rw [hk2.cell _ _ (by omega), newCell HA.out _ _ hlt]; exact c0
  have e1 : w2.cell? ⟨u.heap.size, 1, none⟩ = some (.int .i64 0) := by rw [hk2.cell _ _ (by omega), newCell HA.out _ _ hlt]; exact c1
  have e2 : w2.cell? ⟨u.heap.size, 2, none⟩ = some (.slice none 0 0) := by rw [hk2.cell _ _ (by omega), newCell HA.out _ _ hlt]; exact c2
  have g0 : w2.frozen? ⟨u.heap.size, 0, none⟩ = false := by rw [hk2.frozen _ _ (by omega), newFrozen HA.out _ _ hlt]; exact f0
  have g1 : w2.frozen? ⟨u.heap.size, 1, none⟩ = false := by rw [hk2.frozen _ _ (by omega), newFrozen HA.out _ _ hlt]; exact f1
  have g2 : w2.frozen? ⟨u.heap.size, 2, none⟩ = false := by rw [hk2.frozen _ _ (by omega), newFrozen HA.out _ _ hlt]; exact f2
  have HB2 : Hid (Below u.heap.size u w2) := (below_to HB1.out HA.out).trans (hk2.below (by omega))
  have HR2 : Hid (Rw w2 (u.heap.size + 1 + 1) (List.replicate n v)) := hr2
  clear c0 c1 c2 f0 f1 f2 hr2 hk2 HFL HA HRW
  go_wp2_with fail
  refine bodyPost_ret (v := .tuple #[.agg #[.int .i64 (x : Int), .int .i64 (y : Int), .slice (some ⟨u.heap.size + 1 + 1, 0, none⟩) n n], .int .i64 0]) (by simp [results, Tryd.results21, go_sem, e0, e1, e2]) rfl ?_
  refine ⟨u.heap.size + 1 + 1, ret_pl (by simp), by omega, ((HR2.out.far (a := ⟨u.heap.size, 0, none⟩) (by simp; omega) _).far (a := ⟨u.heap.size, 1, none⟩) (by simp; omega) _).far (a := ⟨u.heap.size, 2, none⟩) (by simp; omega) _, ?_⟩
  exact below_set (below_set (below_set HB2.out (by simp) _) (by simp) _) (by simp) _

/-- of the blocks of v only g has turned -/
structure Kf (g : Nat) (v w : World) : Prop where
  os : w.os = v.os
  tape : w.tape = v.tape
  output : w.output = v.output
  size : v.heap.size ≤ w.heap.size
  block : ∀ i, i < v.heap.size → i ≠ g → w.heap[i]? = v.heap[i]?
theorem Kf.refl (g : Nat) (v : World) : Kf g v v := ⟨rfl, rfl, rfl, Nat.le_refl _, fun _ _ _ => rfl⟩
theorem Kf.step {g : Nat} {v w w' : World} (h : Kf g v w) (hb : Below w.heap.size w w') : Kf g v w' := ⟨hb.os.trans h.os, hb.tape.trans h.tape, hb.output.trans h.output, Nat.le_trans h.size hb.size, fun i hi hg => (hb.block i (Nat.lt_of_lt_of_le hi h.size)).trans (h.block i hi hg)⟩
theorem Kf.kb {g : Nat} {v w w' : World} (h : Kf g v w) (k : Kb g w w') : Kf g v w' := ⟨k.os.trans h.os, k.tape.trans h.tape, k.output.trans h.output, by rw [k.size]; exact h.size, fun i hi hg => (k.block i hg).trans (h.block i hi hg)⟩
theorem Kf.drew {g : Nat} {v w : World} (h : Kf g v w) : Kf g v w.drew := ⟨h.os, h.tape, h.output, h.size, h.block⟩
theorem Kf.drewN {g : Nat} {v w : World} (h : Kf g v w) (n : Nat) : Kf g v (w.drewN n) := ⟨h.os, h.tape, h.output, h.size, h.block⟩
theorem Kf.cell {g : Nat} {v w : World} (h : Kf g v w) (i o : Nat) (hi : i < v.heap.size) (hg : i ≠ g) : w.cell? ⟨i, o, none⟩ = v.cell? ⟨i, o, none⟩ := World.cell?_of_block (w := v) (a := ⟨i, o, none⟩) (h.block i hi hg)
theorem Kf.frozen {g : Nat} {v w : World} (h : Kf g v w) (i o : Nat) (hi : i < v.heap.size) (hg : i ≠ g) : w.frozen? ⟨i, o, none⟩ = v.frozen? ⟨i, o, none⟩ := World.frozen?_of_block (w := v) (a := ⟨i, o, none⟩) (h.block i hi hg)
theorem Kf.below {g B : Nat} {v w : World} (h : Kf g v w) (h1 : B ≤ g) (h2 : B ≤ v.heap.size) : Below B v w := ⟨h.os, h.tape, h.output, h.size, fun i hi => h.block i (by omega) (by omega)⟩
theorem Rw.kf {g i : Nat} {C : List Nat} {v w : World} (h : Rw v i C) (k : Kf g v w) (hi : i ≠ g) : Rw w i C := h.carry (k.block i h.lt hi)
/-- a slice that does not lie in block g -/
theorem Sl.kf {g : Nat} {v w : World} {k : IntKind} {a : Option Addr} {C : List Nat} (h : Sl v k a C) (f : Kf g v w) (hg : ∀ b o, a = some ⟨b, o, none⟩ → b ≠ g) : Sl w k a C := by
  rcases h with h | ⟨b, o, h1, h2, h3⟩
  · exact Or.inl h
  · exact Or.inr ⟨b, o, h1, Nat.lt_of_lt_of_le h2 f.size, fun j hj => by rw [f.cell b _ h2 (hg b o h1)]; exact h3 j hj⟩
theorem Sl.low {u v w : World} {k : IntKind} {a : Option Addr} {C : List Nat} {g : Nat} (h : Sl u k a C) (hb : Below u.heap.size u v) (f : Kf g v w) (hg : u.heap.size ≤ g) : Sl w k a C := by
  rcases h with h | ⟨b, o, h1, h2, h3⟩
  · exact Or.inl h
  · have h4 := hb.size
    exact Or.inr ⟨b, o, h1, by have := f.size; omega, fun j hj => by rw [f.cell b _ (by omega) (by omega), newCell hb _ _ h2]; exact h3 j hj⟩

theorem Kf.join {g : Nat} {u v w : World} (hb : Below u.heap.size u v) (h : Kf g v w) : Kf g u w := ⟨h.os.trans hb.os, h.tape.trans hb.tape, h.output.trans hb.output, Nat.le_trans hb.size h.size, fun i hi hig => (h.block i (Nat.lt_of_lt_of_le hi hb.size) hig).trans (hb.block i hi)⟩
theorem Kf.of {u v : World} (g : Nat) (hb : Below u.heap.size u v) : Kf g u v := (Kf.refl g u).step hb

end Go.Proofs.YtpideemiijhkgabDoor
