/- DERIVED. The walk of ScanOrders. -/
import Derived.Test.YtoddkhaaacpelaaDoorCd
namespace Go.Proofs.YtoddkhaaacpelaaDoor
open Go.RowKit

theorem Si.far {w : World} {b o g j : Nat} {C : List Int} (h : Si w (some ⟨b, o, none⟩) C) (hb : b ≠ g) (v : Value) : Si (w.setCell ⟨g, j, none⟩ v) (some ⟨b, o, none⟩) C := by
  rcases h with h | ⟨b', o', h1, h2, h3⟩
  · exact Or.inl h
  · simp only [Option.some.injEq, Addr.mk.injEq] at h1
    obtain ⟨rfl, rfl, _⟩ := h1
    exact Or.inr ⟨b, o, rfl, by simpa using h2, fun i hi => by rw [World.cell?_setCell_other _ _ _ _ (by simp)]; exact h3 i hi⟩
/-- a row of n numbers, whatever they are, that is written; two others that stay -/
structure Iw (w : World) (m : Nat) (C : List Int) (g g2 g3 : Nat) (wr : World) : Prop where
  low : w.heap.size ≤ g
  ne2 : g2 ≠ g
  ne3 : g3 ≠ g
  cells : ∀ j, j < m → ∃ x, wr.cell? ⟨g, j, none⟩ = some (.int .i64 x)
  thaw : ∀ j, wr.frozen? ⟨g, j, none⟩ = false
  s2 : Si wr (some ⟨g2, 0, none⟩) C
  s3 : Si wr (some ⟨g3, 0, none⟩) C
  bel : Below w.heap.size w wr
theorem Iw.set {w : World} {m : Nat} {C : List Int} {g g2 g3 : Nat} {wr : World} (h : Iw w m C g g2 g3 wr) (k : Nat) (x : Int) : Iw w m C g g2 g3 (wr.setCell ⟨g, k, none⟩ (.int .i64 x)) :=
  { low := h.low, ne2 := h.ne2, ne3 := h.ne3,
    cells := fun j hj => by
      obtain ⟨y, hy⟩ := h.cells j hj
      by_cases e : j = k
      · subst e; exact ⟨x, World.cell?_setCell_same _ _ _ hy⟩
      · exact ⟨y, by rw [World.cell?_setCell_other _ _ _ _ (by simp)]; exact hy⟩
    thaw := fun j => by rw [World.frozen?_setCell]; exact h.thaw j
    s2 := h.s2.far h.ne2 _, s3 := h.s3.far h.ne3 _,
    bel := below_set h.bel h.low _ }

set_option maxRecDepth 100000 in
set_option maxHeartbeats 1000000 in
theorem orders_yes {w : World} {z y : Int} {n : Nat} (h : Sz z n) : Calls Tryd.prog 14 #[.int .i64 z, .int .i64 y] w fun e w' => e = .returned (.bool true) ∧ Below w.heap.size w w' := by
  have HS : Hid (Sz z n) := h
  have HD : Hid (Sd n) := h.sd
  have HL : Hid ((ord n).length = n * n) := ord_len h.sd
  have ee : eqI (ord n) (ord n) = true := eqI_self _
  have q1 : n * n ≤ 1024 := h.sd.sq
  obtain ⟨k1, k2, k3, k4, hcl, hcr⟩ := class_both y
  have HC : Hid _ := hcl
  have HR : Hid _ := hcr
  have t1 : (k1 == k1) = true := by simp
  have t2 : (k2 == k2) = true := by simp
  have t3 : (k3 == k3) = true := by simp
  have t4 : (k4 == k4) = true := by simp
  clear h hcl hcr
  go_enter Tryd.func14, Tryd.ntmps14
  go_wp2_with fail
  refine (order_yes HS.out).mono ?_
  rintro e w1 ⟨g, c, rfl, ho1, hb1⟩
  go_wp2_with fail
  refine (order_yes HS.out).mono ?_
  rintro e w2 ⟨g2, c2, rfl, ho2, hb2⟩
  go_wp2_with fail
  refine (rorder_yes HS.out).mono ?_
  rintro e w3 ⟨g3, c3, rfl, ho3, hb3⟩
  have HI : Hid (Iw w (n * n) (ord n) g g2 g3 w3) := by
    have l1 := ho1.lt
    have l2 := ho2.lt
    have l3 := ho3.lt
    have s1 := hb1.size
    have s2 := hb2.size
    have h13 := hb2.size
    have o3 := (ho1.to hb2).to hb3
    exact { low := l1.1, ne2 := by omega, ne3 := by omega, cells := fun j hj => ⟨_, o3.cellAt j hj⟩, thaw := fun j => own_thaw o3.own j, s2 := (ho2.to hb3).si, s3 := ho3.si, bel := below_to (below_to hb1 hb2) hb3 }
  have HA : Hid (Si w3 (some ⟨g, 0, none⟩) (ord n)) := ((ho1.to hb2).to hb3).si
  clear ho1 ho2 ho3 hb1 hb2 hb3
  generalize hm : n * n = m at *
  clear hm
  go_wp2_with (go_at_call 11; refine (eqInts_at HA.out HI.out.s3 HL.out HL.out (by omega) (by omega)).mono ?_; rintro e w4 ⟨rfl, hb4⟩)
  have HJ : Hid (Iw w m (ord n) g g2 g3 w4) := by
    have i := HI.out
    have hgl : g < w3.heap.size := by
      by_cases h0 : m = 0
      · subst h0
        have := HL.out
        have h4 := ord_len HD.out
        have := HD.out.lo
        have := Nat.mul_le_mul this this
        omega
      · obtain ⟨x, hx⟩ := i.cells 0 (by omega)
        exact World.block_lt_of_cell? w3 _ hx
    exact { low := i.low, ne2 := i.ne2, ne3 := i.ne3, cells := fun j hj => by obtain ⟨x, hx⟩ := i.cells j hj; exact ⟨x, by rw [newCell hb4 _ _ hgl]; exact hx⟩, thaw := fun j => by rw [newFrozen hb4 _ _ hgl]; exact i.thaw j, s2 := i.s2.to hb4, s3 := i.s3.to hb4, bel := below_to i.bel hb4 }
  clear HI HA hb4
  go_loopw [11] (fun i wr => ∃ k : Nat, k ≤ m ∧ i = .int .i64 k ∧ Iw w m (ord n) g g2 g3 wr) (fun i _ => m - (intOf i).toNat)
  case atStart => exact ⟨0, by omega, rfl, HJ.out⟩
  case round =>
    clear HJ
    obtain ⟨k, hk, rfl, hi⟩ := hrel
    have k0 : 0 ≤ (k : Int) := by omega
    by_cases hlt : k < m
    · have kl : (k : Int) < (m : Int) := by omega
      obtain ⟨x, hx⟩ := hi.cells k hlt
      have hf := hi.thaw k
      have HN : Hid _ := hi.set k (-1)
      clear hi
      go_wp2_with fail
      go_roundw
      case rel => exact ⟨k + 1, by omega, by go_num, HN.out⟩
      case measure => simp [intOf]; omega
    · obtain rfl : k = m := by omega
      have HN : Hid _ := hi
      clear hi
      go_wp2_with fail
      refine (HC.out _).mono ?_
      rintro e w5 ⟨rfl, hb5⟩
      go_wp2_with fail
      refine (HR.out _).mono ?_
      rintro e w6 ⟨rfl, hb6⟩
      have H2 : Hid (Si w6 (some ⟨g2, 0, none⟩) (ord n)) := (HN.out.s2.to hb5).to hb6
      have H3 : Hid (Si w6 (some ⟨g3, 0, none⟩) (ord n)) := (HN.out.s3.to hb5).to hb6
      have HB : Hid (Below w.heap.size w w6) := below_to (below_to HN.out.bel hb5) hb6
      clear hb5 hb6 HN
      go_wp2_with (first | (go_at_call 11; refine (eqInts_at H2.out H3.out HL.out HL.out (by omega) (by omega)).mono ?_; rintro e w7 ⟨rfl, hb7⟩; have H7 : Hid (Below w.heap.size w w7) := below_to HB.out hb7; clear hb7) | (go_at_call 12; refine awake_any.mono ?_; rintro e w8 ⟨rfl, H8⟩))
      go_ret
      exact ⟨rfl, below_to H7.out H8.out⟩

set_option maxRecDepth 100000 in
set_option maxHeartbeats 1000000 in
theorem orders_no {w : World} {z y : Int} (h : Nz z) : Calls Tryd.prog 14 #[.int .i64 z, .int .i64 y] w fun e w' => e = .returned (.bool true) ∧ Below w.heap.size w w' := by
  have HS : Hid (Nz z) := h
  have ee : eqI [] [] = true := eqI_self _
  obtain ⟨k1, k2, k3, k4, hcl, hcr⟩ := class_both y
  have HC : Hid _ := hcl
  have HR : Hid _ := hcr
  have t1 : (k1 == k1) = true := by simp
  have t2 : (k2 == k2) = true := by simp
  have t3 : (k3 == k3) = true := by simp
  have t4 : (k4 == k4) = true := by simp
  clear h hcl hcr
  go_enter Tryd.func14, Tryd.ntmps14
  go_wp2_with fail
  refine (order_no HS.out).mono ?_
  rintro e w1 ⟨rfl, rfl⟩
  go_wp2_with fail
  refine (order_no HS.out).mono ?_
  rintro e w1 ⟨rfl, rfl⟩
  go_wp2_with fail
  refine (rorder_no HS.out).mono ?_
  rintro e w1 ⟨rfl, rfl⟩
  go_wp2_with (go_at_call 11; refine (eqInts_at (Si.nil _ _) (Si.nil _ _) (n := 0) (m := 0) rfl rfl (by omega) (by omega)).mono ?_; rintro e w4 ⟨rfl, hb4⟩)
  have H4 : Hid (Below w.heap.size w w4) := hb4
  clear hb4
  go_loop [11] (fun i => i = .int .i64 0) (fun _ => 0)
  case atStart => rfl
  case round =>
    subst hrel
    go_wp2_with fail
    refine (HC.out _).mono ?_
    rintro e w5 ⟨rfl, hb5⟩
    go_wp2_with fail
    refine (HR.out _).mono ?_
    rintro e w6 ⟨rfl, hb6⟩
    have HB : Hid (Below w.heap.size w w6) := below_to (below_to H4.out hb5) hb6
    clear hb5 hb6
    go_wp2_with (first | (go_at_call 11; refine (eqInts_at (Si.nil _ _) (Si.nil _ _) (n := 0) (m := 0) rfl rfl (by omega) (by omega)).mono ?_; rintro e w7 ⟨rfl, hb7⟩; have H7 : Hid (Below w.heap.size w w7) := below_to HB.out hb7; clear hb7) | (go_at_call 12; refine awake_any.mono ?_; rintro e w8 ⟨rfl, H8⟩))
    go_ret
    exact ⟨rfl, below_to H7.out H8.out⟩

theorem orders_walk {w : World} {z y : Int} : Calls Tryd.prog 14 #[.int .i64 z, .int .i64 y] w fun e w' => e = .returned (.bool true) ∧ Below w.heap.size w w' := by
  rcases size_any z with ⟨n, h⟩ | h
  · exact orders_yes h
  · exact orders_no h

end Go.Proofs.YtoddkhaaacpelaaDoor
