/- DERIVED. The walk of CoefsNames. -/
import Derived.Test.YtkmnpechhdendaaGreatDoorFo
namespace Go.Proofs.YtkmnpechhdendaaGreatDoor
open Go.RowKit L3

structure NmI (V : World) (iv : Value) (wr : World) : Prop where
  bel : Below V.heap.size V wr
  iv : iv = .int .i64 19 ∨ iv = .int .i64 20 ∨ iv = .int .i64 21 ∨ iv = .int .i64 22 ∨ iv = .int .i64 23

theorem ksign_v {w : World} {lb lf len lc : Nat} {v r : Int} (hr : sgnV v = r) (h0 : 0 < len) (hc : w.cell? ⟨lb, lf, none⟩ = some (.int .i64 v)) : Calls Tryz.prog 15 #[.slice (some ⟨lb, lf, none⟩) len lc] w fun e w' => e = .returned (.int .i64 r) ∧ w' = w := by subst hr; exact ksign_some h0 hc
theorem ddAt_of {W : World} {g i : Nat} {q : Dd} (h0 : W.cell? ⟨g, i * 4, none⟩ = some (.int .i64 q.a)) (h1 : W.cell? ⟨g, i * 4 + 1, none⟩ = some (.int .i64 q.b)) (h2 : W.cell? ⟨g, i * 4 + 2, none⟩ = some (.int .i64 q.c)) (h3 : W.cell? ⟨g, i * 4 + 3, none⟩ = some (.slice q.la q.L.length q.lc)) (hs : L10.Si W q.la q.L) (hl : q.L.length ≤ 16) : DdAt W ⟨g, 0, none⟩ i q := by
  unfold DdAt
  rw [addr_add, addr_add, addr_add, addr_add]
  simp only [Nat.zero_add]
  exact ⟨h0, h1, h2, h3, hs, by unfold maxLen; omega⟩
theorem doAt_to {W u : World} {a : Option Addr} {L : List Dd} (h : DoAt W a L) (hb : Below W.heap.size W u) : DoAt u a L := by
  rcases h with e | ⟨b, o, e, hl, hc⟩
  · exact Or.inl e
  · refine Or.inr ⟨b, o, e, Nat.lt_of_lt_of_le hl hb.size, fun j hj => ?_⟩
    obtain ⟨d0, d1, d2, d3, d4, d5⟩ := hc j hj
    rw [addr_add] at d0 d1 d2 d3
    unfold DdAt
    rw [addr_add, addr_add, addr_add, addr_add]
    exact ⟨by rw [L10.newCell hb _ _ hl]; exact d0, by rw [L10.newCell hb _ _ hl]; exact d1, by rw [L10.newCell hb _ _ hl]; exact d2, by rw [L10.newCell hb _ _ hl]; exact d3, d4.to hb, d5⟩
theorem si_nil {w : World} {a : Option Addr} : L10.Si w a [] := Or.inl rfl
theorem si_take {w : World} {g : Nat} (h : L10.Ri 3 w g thL) : L10.Si w (some ⟨g, 0, none⟩) (thL.take 15) := Or.inr ⟨g, 0, rfl, h.lt, fun j hj => by
  have hj' : j < 15 := by simpa [thL] using hj
  rw [Nat.zero_add, h.cell j (by show j < 16; omega)]
  congr 2
  rw [List.getD_eq_getElem?_getD, List.getD_eq_getElem?_getD, List.getElem?_take_of_lt hj']⟩
/-- the chapter's blocks that may not be, and two that may -/
def l8 (t g m : Nat) : List Dd := [⟨5, 0, 0, none, 0, []⟩, ⟨4, 3, 0, some ⟨t, 0, none⟩, 16, thL⟩, ⟨4, -1, 0, some ⟨t, 0, none⟩, 16, thL⟩, ⟨4, 0, 3, some ⟨t, 0, none⟩, 16, thL⟩, ⟨4, 0, 0, some ⟨t, 0, none⟩, 16, thL.take 15⟩, ⟨4, 0, 0, some ⟨g, 0, none⟩, 16, grL⟩, ⟨4, 0, 0, some ⟨m, 0, none⟩, 16, moL⟩, ⟨8, 0, 0, some ⟨t, 0, none⟩, 16, thL⟩]
theorem l8_short (t g m : Nat) : Short (l8 t g m) := ⟨fun j hj => by
  have hj' : j < 8 := hj
  have : j = 0 ∨ j = 1 ∨ j = 2 ∨ j = 3 ∨ j = 4 ∨ j = 5 ∨ j = 6 ∨ j = 7 := by omega
  rcases this with rfl | rfl | rfl | rfl | rfl | rfl | rfl | rfl <;> simp [l8, thL, grL, moL]⟩
def rA : List Dd := [⟨4, 0, 0, none, 0, []⟩, ⟨64, 0, 0, none, 0, []⟩, ⟨5, 0, 0, none, 0, []⟩, ⟨4, 0, -1, none, 0, []⟩]
def rB : List Dd := [⟨4, 0, 0, none, 0, []⟩, ⟨8, 1, 0, none, 0, []⟩, ⟨16, 0, 2, none, 0, []⟩, ⟨32, 0, 0, none, 0, []⟩]
theorem l8_at {v : World} {t g m : Nat} (ht : L10.Ri 3 v t thL) (hg : L10.Ri 3 v g grL) (hm : L10.Ri 3 v m moL) : DoAt (v.alloc (.cells #[.int .i64 5, .int .i64 0, .int .i64 0, .slice none 0 0, .int .i64 4, .int .i64 3, .int .i64 0, .slice (some ⟨t, 0, none⟩) 16 16, .int .i64 4, .int .i64 (-1), .int .i64 0, .slice (some ⟨t, 0, none⟩) 16 16, .int .i64 4, .int .i64 0, .int .i64 3, .slice (some ⟨t, 0, none⟩) 16 16, .int .i64 4, .int .i64 0, .int .i64 0, .slice (some ⟨t, 0, none⟩) 15 16, .int .i64 4, .int .i64 0, .int .i64 0, .slice (some ⟨g, 0, none⟩) 16 16, .int .i64 4, .int .i64 0, .int .i64 0, .slice (some ⟨m, 0, none⟩) 16 16, .int .i64 8, .int .i64 0, .int .i64 0, .slice (some ⟨t, 0, none⟩) 16 16] 36)) (some ⟨v.heap.size, 0, none⟩) (l8 t g m) := by
  refine Or.inr ⟨_, 0, rfl, by simp, fun j hj => ?_⟩
  have hj' : j < 8 := hj
  have : j = 0 ∨ j = 1 ∨ j = 2 ∨ j = 3 ∨ j = 4 ∨ j = 5 ∨ j = 6 ∨ j = 7 := by omega
  rcases this with rfl | rfl | rfl | rfl | rfl | rfl | rfl | rfl
  · exact ddAt_of (i := 0) (by simp [go_sem, l8, thL, grL, moL]) (by simp [go_sem, l8, thL, grL, moL]) (by simp [go_sem, l8, thL, grL, moL]) (by simp [go_sem, l8, thL, grL, moL]) si_nil (by simp [l8, thL, grL, moL])
  · exact ddAt_of (i := 1) (by simp [go_sem, l8, thL, grL, moL]) (by simp [go_sem, l8, thL, grL, moL]) (by simp [go_sem, l8, thL, grL, moL]) (by simp [go_sem, l8, thL, grL, moL]) (ht.to (L10.from_alloc _ _)).si (by simp [l8, thL, grL, moL])
  · exact ddAt_of (i := 2) (by simp [go_sem, l8, thL, grL, moL]) (by simp [go_sem, l8, thL, grL, moL]) (by simp [go_sem, l8, thL, grL, moL]) (by simp [go_sem, l8, thL, grL, moL]) (ht.to (L10.from_alloc _ _)).si (by simp [l8, thL, grL, moL])
  · exact ddAt_of (i := 3) (by simp [go_sem, l8, thL, grL, moL]) (by simp [go_sem, l8, thL, grL, moL]) (by simp [go_sem, l8, thL, grL, moL]) (by simp [go_sem, l8, thL, grL, moL]) (ht.to (L10.from_alloc _ _)).si (by simp [l8, thL, grL, moL])
  · exact ddAt_of (i := 4) (by simp [go_sem, l8, thL, grL, moL]) (by simp [go_sem, l8, thL, grL, moL]) (by simp [go_sem, l8, thL, grL, moL]) (by simp [go_sem, l8, thL, grL, moL]) (si_take (ht.to (L10.from_alloc _ _))) (by simp [l8, thL, grL, moL])
  · exact ddAt_of (i := 5) (by simp [go_sem, l8, thL, grL, moL]) (by simp [go_sem, l8, thL, grL, moL]) (by simp [go_sem, l8, thL, grL, moL]) (by simp [go_sem, l8, thL, grL, moL]) (hg.to (L10.from_alloc _ _)).si (by simp [l8, thL, grL, moL])
  · exact ddAt_of (i := 6) (by simp [go_sem, l8, thL, grL, moL]) (by simp [go_sem, l8, thL, grL, moL]) (by simp [go_sem, l8, thL, grL, moL]) (by simp [go_sem, l8, thL, grL, moL]) (hm.to (L10.from_alloc _ _)).si (by simp [l8, thL, grL, moL])
  · exact ddAt_of (i := 7) (by simp [go_sem, l8, thL, grL, moL]) (by simp [go_sem, l8, thL, grL, moL]) (by simp [go_sem, l8, thL, grL, moL]) (by simp [go_sem, l8, thL, grL, moL]) (ht.to (L10.from_alloc _ _)).si (by simp [l8, thL, grL, moL])
theorem rA_at (v : World) : DoAt (v.alloc (.cells #[.int .i64 4, .int .i64 0, .int .i64 0, .slice none 0 0, .int .i64 64, .int .i64 0, .int .i64 0, .slice none 0 0, .int .i64 5, .int .i64 0, .int .i64 0, .slice none 0 0, .int .i64 4, .int .i64 0, .int .i64 (-1), .slice none 0 0] 36)) (some ⟨v.heap.size, 0, none⟩) rA := by
  refine Or.inr ⟨_, 0, rfl, by simp, fun j hj => ?_⟩
  have hj' : j < 4 := hj
  have : j = 0 ∨ j = 1 ∨ j = 2 ∨ j = 3 := by omega
  rcases this with rfl | rfl | rfl | rfl
  · exact ddAt_of (i := 0) (by simp [go_sem, rA]) (by simp [go_sem, rA]) (by simp [go_sem, rA]) (by simp [go_sem, rA]) si_nil (by decide)
  · exact ddAt_of (i := 1) (by simp [go_sem, rA]) (by simp [go_sem, rA]) (by simp [go_sem, rA]) (by simp [go_sem, rA]) si_nil (by decide)
  · exact ddAt_of (i := 2) (by simp [go_sem, rA]) (by simp [go_sem, rA]) (by simp [go_sem, rA]) (by simp [go_sem, rA]) si_nil (by decide)
  · exact ddAt_of (i := 3) (by simp [go_sem, rA]) (by simp [go_sem, rA]) (by simp [go_sem, rA]) (by simp [go_sem, rA]) si_nil (by decide)
theorem rB_at (v : World) : DoAt (v.alloc (.cells #[.int .i64 4, .int .i64 0, .int .i64 0, .slice none 0 0, .int .i64 8, .int .i64 1, .int .i64 0, .slice none 0 0, .int .i64 16, .int .i64 0, .int .i64 2, .slice none 0 0, .int .i64 32, .int .i64 0, .int .i64 0, .slice none 0 0] 36)) (some ⟨v.heap.size, 0, none⟩) rB := by
  refine Or.inr ⟨_, 0, rfl, by simp, fun j hj => ?_⟩
  have hj' : j < 4 := hj
  have : j = 0 ∨ j = 1 ∨ j = 2 ∨ j = 3 := by omega
  rcases this with rfl | rfl | rfl | rfl
  · exact ddAt_of (i := 0) (by simp [go_sem, rB]) (by simp [go_sem, rB]) (by simp [go_sem, rB]) (by simp [go_sem, rB]) si_nil (by decide)
  · exact ddAt_of (i := 1) (by simp [go_sem, rB]) (by simp [go_sem, rB]) (by simp [go_sem, rB]) (by simp [go_sem, rB]) si_nil (by decide)
  · exact ddAt_of (i := 2) (by simp [go_sem, rB]) (by simp [go_sem, rB]) (by simp [go_sem, rB]) (by simp [go_sem, rB]) si_nil (by decide)
  · exact ddAt_of (i := 3) (by simp [go_sem, rB]) (by simp [go_sem, rB]) (by simp [go_sem, rB]) (by simp [go_sem, rB]) si_nil (by decide)
theorem y6_at (v : World) : L2.SrcOf (v.alloc (.cells #[.int .u8 255, .int .u8 255, .int .u8 255, .int .u8 255, .int .u8 255, .int .u8 255] 5)) (.slice (some ⟨v.heap.size, 0, none⟩) 6 6) (List.replicate 6 255) := by
  refine Or.inr ⟨⟨v.heap.size, 0, none⟩, 6, rfl, fun j hj => ?_⟩
  have hj' : j < 6 := by simpa using hj
  have : j = 0 ∨ j = 1 ∨ j = 2 ∨ j = 3 ∨ j = 4 ∨ j = 5 := by omega
  rcases this with rfl | rfl | rfl | rfl | rfl | rfl <;> simp [go_sem]

set_option maxRecDepth 100000 in
set_option maxHeartbeats 8000000 in
theorem names_walk (hcl : CodeLaw) {W : World} (hsh : Sh W) (hnt : L10.Nt W) : Calls Tryz.prog 5 #[] W fun e w' => e = .returned (.bool true) ∧ Below W.heap.size W w' := by
  have HCL : Hid CodeLaw := hcl
  have HSh : Hid (∀ u, Below W.heap.size W u → Sh u ∧ L10.Nt u) := fun u hu => ⟨hsh.to hu, hnt.to hu⟩
  have HW2 : Hid (1 < W.heap.size) := hnt.low
  have hdf := default_hs hsh
  have hmk : ∀ u : World, (Instr.makeSlice 34 (.int .i64 16) (.int .i64 16)).run Tryz.prog u = .ok (.slice (some ⟨u.heap.size, 0, none⟩) 16 16) (u.alloc (.cells (madeCells #[.int .i64 0] 16) 3)) := fun u => L10.mk_ints (n := 16) (by omega) u
  clear hcl hsh hnt
  go_enter Tryz.func5, Tryz.ntmps5
  go_wp2_with fail
  refine hdf.mono ?_
  rintro e w1 ⟨bt1, B1, rfl, hs1, hb1⟩
  have HRd : Hid (Calls Tryz.prog 6 #[.agg #[.slice (some ⟨bt1, 0, none⟩) 32 32], .bool true] w1 fun e w' => ∃ x O, e = .returned (.tuple #[.pointer (some ⟨x, 0, none⟩), .int .i64 0]) ∧ Cd w' w1.heap.size x O (wS true) ∧ (∀ y, O y → w1.heap.size ≤ y) ∧ Below w1.heap.size w1 w') := writer_cd (HSh.out _ hb1).1 hs1
  have HB1 : Hid (Below W.heap.size W w1) := hb1
  clear hs1 hb1 hdf
  go_wp2_with fail
  refine HRd.out.mono ?_
  rintro e w2 ⟨x, O, rfl, hc2, -, hb2⟩
  have HLo : Hid (W.heap.size ≤ w1.heap.size) := HB1.out.size
  have ha2 : Below w2.heap.size w2 (w2.alloc (.cells (madeCells #[.int .i64 0] 16) 3)) := L10.from_alloc _ _
  have HR2 : Hid (L10.Ri 3 (w2.alloc (.cells (madeCells #[.int .i64 0] 16) 3)) w2.heap.size zL) := L10.Ri.made 3 w2 16 rfl
  have HC2 : Hid (Cd (w2.alloc (.cells (madeCells #[.int .i64 0] 16) 3)) w1.heap.size x O (wS true)) := hc2.to ha2
  have HO2 : Hid (¬ O w2.heap.size) := fun e => by have := hc2.lt e; omega
  have HB2 : Hid (Below W.heap.size W (w2.alloc (.cells (madeCells #[.int .i64 0] 16) 3))) := L10.below_to (L10.below_to HB1.out hb2) ha2
  generalize w1.heap.size = lo at *
  clear hc2 hb2 HRd HB1 ha2
  go_wp2_with fail
  generalize w2.alloc (.cells (madeCells #[.int .i64 0] 16) 3) = w3 at *
  generalize w2.heap.size = g3 at *
  have HK3 : Hid (Calls Tryz.prog 11 #[.pointer (some ⟨x, 0, none⟩), .int .i64 4, .int .i64 ((0 : Nat) : Int), .int .i64 ((0 : Nat) : Int), .slice (some ⟨g3, 0, none⟩) (4 * 4) 16] w3 fun en w' => Kc w3 w' lo x O (4 * 4) ((cw 4 4 0 0 zL).run (wS true)) en) :=
    kcode_w HCL.out HC2.out (HSh.out _ HB2.out).1 (HSh.out _ HB2.out).2 (by have := HLo.out; have := HW2.out; omega) (by show (0 : Nat) ≤ _; omega) wk_sz (by omega) (by omega) rfl z_lv HR2.out.lt HO2.out (fun p hp => by rw [Nat.zero_add]; exact HR2.out.cell p hp)
  have HN3 : Hid (Rn (wS true) zL 1) := rn_of (wS_ok true) rfl (by show (0 : Nat) ≤ _; omega) z_lv z_count
  refine HK3.out.mono ?_
  rintro e w4 ⟨O4, hc4, ht4, hb4, hy4, -⟩
  obtain ⟨g4, rfl, hr4, hl4, hn4⟩ := hy4 zL HN3.out.one
  have hs4n := HN3.out.n
  have hs4w := HN3.out.w
  have hs4o := HN3.out.so
  generalize ((cw 4 4 0 0 zL).run (wS true)).2 = s4 at *
  have HS4 : Hid (s4.n = 1 ∧ s4.W = true ∧ SOk s4) := ⟨hs4n.trans (Nat.zero_add 1), hs4w, hs4o⟩
  have HC4 : Hid (Cd w4 lo x O4 s4) := hc4
  have HA4 : Hid (L10.Ri 3 w4 g4 zL ∧ ¬ O4 g4) := ⟨hr4, hn4⟩
  have HB4 : Hid (Below W.heap.size W w4) := HB2.out.trans (hb4.mono HLo.out)
  have HCt : Hid (Calls Tryz.prog 14 #[.pointer (some ⟨x, 0, none⟩)] w4 fun e w' => e = .returned (.int .i64 1) ∧ w' = w4) := by have := count_cd hc4; rw [HS4.out.1] at this; exact this
  clear hc4 ht4 hb4 hy4 hr4 hl4 hn4 hs4n hs4w hs4o HK3 HN3 HR2 HC2 HO2 HB2
  go_wp2_with fail
  refine HCt.out.mono ?_
  rintro e w5 ⟨rfl, hw5⟩
  obtain rfl : w4 = w5 := hw5.symm
  clear hw5 HCt
  have hr0 := L10.Ri.made 3 w4 16 rfl
  have c0 := hr0.cell 0 (by simp)
  have f0 := hr0.thaw 0
  have he : ((madeCells #[.int .i64 0] 16).setIfInBounds 0 (.int .i64 3)) = (L10.is thL).toArray := by kernel_rfl
  have HR6 : Hid (L10.Ri 3 (w4.alloc (.cells ((madeCells #[.int .i64 0] 16).setIfInBounds 0 (.int .i64 3)) 3)) w4.heap.size thL) := by show L10.Ri _ _ _ _; rw [he]; exact L10.Ri.built 3 w4 thL rfl
  have ha6 : Below w4.heap.size w4 (w4.alloc (.cells ((madeCells #[.int .i64 0] 16).setIfInBounds 0 (.int .i64 3)) 3)) := L10.from_alloc _ _
  have HB6 : Hid (Below W.heap.size W (w4.alloc (.cells ((madeCells #[.int .i64 0] 16).setIfInBounds 0 (.int .i64 3)) 3))) := L10.below_to HB4.out ha6
  have HC6 : Hid (Cd (w4.alloc (.cells ((madeCells #[.int .i64 0] 16).setIfInBounds 0 (.int .i64 3)) 3)) lo x O4 s4) := HC4.out.to ha6
  have HO6 : Hid (¬ O4 w4.heap.size ∧ g4 ≠ w4.heap.size) := ⟨fun e => by have := HC4.out.lt e; omega, fun e => by have := HA4.out.1.lt; omega⟩
  have HA6 : Hid (L10.Ri 3 (w4.alloc (.cells ((madeCells #[.int .i64 0] 16).setIfInBounds 0 (.int .i64 3)) 3)) g4 zL ∧ ¬ O4 g4) := ⟨HA4.out.1.to ha6, HA4.out.2⟩
  clear hr0 he ha6 HB4 HC4 HA4
  go_wp2_with fail
  generalize w4.alloc (.cells ((madeCells #[.int .i64 0] 16).setIfInBounds 0 (.int .i64 3)) 3) = w6 at *
  generalize w4.heap.size = g6 at *
  clear c0 f0
  have HK6 : Hid (Calls Tryz.prog 11 #[.pointer (some ⟨x, 0, none⟩), .int .i64 4, .int .i64 ((0 : Nat) : Int), .int .i64 ((0 : Nat) : Int), .slice (some ⟨g6, 0, none⟩) (4 * 4) 16] w6 fun en w' => Kc w6 w' lo x O4 (4 * 4) ((cw 4 4 0 0 thL).run s4) en) :=
    kcode_w HCL.out HC6.out (HSh.out _ HB6.out).1 (HSh.out _ HB6.out).2 (by have := HLo.out; have := HW2.out; omega) (by have := HS4.out.1; omega) wk_sz (by omega) (by omega) HS4.out.2.1 th_lv HR6.out.lt HO6.out.1 (fun p hp => by rw [Nat.zero_add]; exact HR6.out.cell p hp)
  have HN6 : Hid (Rn s4 thL 5) := rn_of HS4.out.2.2 HS4.out.2.1 (by have := HS4.out.1; omega) th_lv th_count
  refine HK6.out.mono ?_
  rintro e w7 ⟨O7, hc7, ht7, hb7, hy7, -⟩
  obtain ⟨g7, rfl, hr7, hl7, hn7⟩ := hy7 thL HN6.out.one
  have hs7n := HN6.out.n
  generalize ((cw 4 4 0 0 thL).run s4).2 = s7 at *
  have HB7 : Hid (Below W.heap.size W w7) := HB6.out.trans (hb7.mono HLo.out)
  have HR7 : Hid (L10.Ri 3 w7 g6 thL) := HR6.out.carry (ht7.ke.block _ HR6.out.lt HO6.out.1)
  have HZ7 : Hid (L10.Ri 3 w7 g4 zL) := HA6.out.1.carry (ht7.ke.block _ HA6.out.1.lt HA6.out.2)
  have HT7 : Hid (L10.Ri 3 w7 g7 thL) := hr7
  have HC7 : Hid (∀ u, Below w7.heap.size w7 u → Calls Tryz.prog 14 #[.pointer (some ⟨x, 0, none⟩)] u fun e w' => e = .returned (.int .i64 6) ∧ w' = u) := fun u hu => by have := count_cd (hc7.to hu); rw [hs7n, HS4.out.1] at this; exact this
  clear hc7 ht7 hb7 hy7 hr7 hl7 hn7 hs7n HK6 HN6 HC6 HR6 HA6 HO6 HB6 HS4
  have ha8 : Below w7.heap.size w7 (w7.alloc (.cells (madeCells #[.int .i64 0] 16) 3)) := L10.from_alloc _ _
  have HZ8 : Hid (L10.Ri 3 (w7.alloc (.cells (madeCells #[.int .i64 0] 16) 3)) w7.heap.size zL) := L10.Ri.made 3 w7 16 rfl
  have HB8 : Hid (Below w7.heap.size w7 (w7.alloc (.cells (madeCells #[.int .i64 0] 16) 3))) := ha8
  clear ha8
  go_wp2_with fail
  generalize w7.alloc (.cells (madeCells #[.int .i64 0] 16) 3) = w8 at *
  have HE8 : Hid (Calls Tryz.prog 13 #[.slice (some ⟨g4, 0, none⟩) 16 16, .slice (some ⟨w7.heap.size, 0, none⟩) 16 16] w8 fun e w' => e = .returned (.bool true) ∧ Below w8.heap.size w8 w') := by
    have := L10.eqInts_at (c := 16) (d := 16) (n := 16) (m := 16) (HZ7.out.to HB8.out).si HZ8.out.si rfl rfl (by omega) (by omega)
    rw [eqI_refl] at this
    exact this
  refine HE8.out.mono ?_
  rintro e w9 ⟨rfl, hb9⟩
  have HB9 : Hid (Below w7.heap.size w7 w9) := L10.below_to HB8.out hb9
  have HE9 : Hid (Calls Tryz.prog 13 #[.slice (some ⟨g7, 0, none⟩) 16 16, .slice (some ⟨g6, 0, none⟩) 16 16] w9 fun e w' => e = .returned (.bool true) ∧ Below w9.heap.size w9 w') := by
    have := L10.eqInts_at (c := 16) (d := 16) (n := 16) (m := 16) (HT7.out.to HB9.out).si (HR7.out.to HB9.out).si rfl rfl (by omega) (by omega)
    rw [eqI_refl] at this
    exact this
  clear hb9 HE8 HZ8 HB8
  go_wp2_with fail
  refine HE9.out.mono ?_
  rintro e w10 ⟨rfl, hb10⟩
  have HB10 : Hid (Below w7.heap.size w7 w10) := L10.below_to HB9.out hb10
  clear hb10 HE9 HB9
  go_wp2_with fail
  refine (HC7.out _ HB10.out).mono ?_
  rintro e w11 ⟨rfl, hw11⟩
  obtain rfl : w10 = w11 := hw11.symm
  have HR11 : Hid (L10.Ri 3 w10 g6 thL) := HR7.out.to HB10.out
  have HB11 : Hid (Below W.heap.size W w10) := L10.below_to HB7.out HB10.out
  clear hw11 HC7 HB10 HR7 HZ7 HT7 HB7
  go_wp2_with fail
  refine (kcode_z (Or.inl rfl)).mono ?_
  rintro e w11 ⟨rfl, rfl⟩
  go_wp2_with fail
  have HZc : Hid (Zc (w10.alloc (.cells #[.pointer none, .pointer none, .slice none 0 0, .bool false, .int .i64 0] 63)) (.pointer (some ⟨w10.heap.size, 0, none⟩))) := Or.inr ⟨_, rfl, by simp [go_sem], by simp [go_sem]⟩
  have ha12 : Below w10.heap.size w10 (w10.alloc (.cells #[.pointer none, .pointer none, .slice none 0 0, .bool false, .int .i64 0] 63)) := L10.from_alloc _ _
  have HR12 : Hid (L10.Ri 3 (w10.alloc (.cells #[.pointer none, .pointer none, .slice none 0 0, .bool false, .int .i64 0] 63)) g6 thL) := HR11.out.to ha12
  have HB12 : Hid (Below W.heap.size W (w10.alloc (.cells #[.pointer none, .pointer none, .slice none 0 0, .bool false, .int .i64 0] 63))) := L10.below_to HB11.out ha12
  clear ha12 HR11 HB11
  generalize w10.alloc (.cells #[.pointer none, .pointer none, .slice none 0 0, .bool false, .int .i64 0] 63) = w12 at *
  refine (kcode_z HZc.out).mono ?_
  rintro e w11 ⟨rfl, rfl⟩
  clear HZc
  have HA1 : Hid (∀ u : World, (u.alloc (.cells #[.int .i64 (-3), .int .i64 1] 3)).cell? ⟨u.heap.size, 0, none⟩ = some (.int .i64 (-3)) ∧ (u.alloc (.cells #[.int .i64 0, .int .i64 1] 3)).cell? ⟨u.heap.size, 0, none⟩ = some (.int .i64 0) ∧ (u.alloc (.cells #[.int .i64 1] 3)).cell? ⟨u.heap.size, 0, none⟩ = some (.int .i64 1)) := fun u => ⟨by simp [go_sem], by simp [go_sem], by simp [go_sem]⟩
  go_wp2_with fail
  refine (ksign_v (r := 1) (by decide) (by omega) (HA1.out w12).1).mono ?_
  rintro e w13 ⟨rfl, hw13⟩
  have HB13 : Hid (Below w12.heap.size w12 w13) := by rw [hw13]; exact L10.from_alloc _ _
  clear hw13
  go_wp2_with fail
  refine (ksign_v (r := 0) (by decide) (by omega) (HA1.out w13).2.1).mono ?_
  rintro e w14 ⟨rfl, hw14⟩
  have HB14 : Hid (Below w12.heap.size w12 w14) := by rw [hw14]; exact L10.to_alloc HB13.out _
  clear hw14 HB13
  go_wp2_with fail
  refine ksign_none.mono ?_
  rintro e w15 ⟨rfl, hw15⟩
  obtain rfl : w14 = w15 := hw15.symm
  clear hw15
  go_wp2_with fail
  refine (ksign_v (r := 2) (by decide) (by omega) (HA1.out w14).2.2).mono ?_
  rintro e V ⟨rfl, hV⟩
  have HBV : Hid (Below w12.heap.size w12 V) := by rw [hV]; exact L10.to_alloc HB14.out _
  have HRV : Hid (L10.Ri 3 V g6 thL) := HR12.out.to HBV.out
  have HWV : Hid (Below W.heap.size W V) := L10.below_to HB12.out HBV.out
  clear hV HB14 HA1 HR12 HB12 HBV
  go_wp2_with fail
  go_loopw [13] (fun iv wr => NmI V iv wr) (fun iv _ => 23 - (intOf iv).toNat)
  case atStart => exact ⟨Below.refl _ _, Or.inl rfl⟩
  case round =>
    obtain ⟨hbl, hiv⟩ := hrel
    have HBl : Hid (Below V.heap.size V wr) := hbl
    have HWr : Hid (Below W.heap.size W wr) := L10.below_to HWV.out hbl
    clear hbl
    rcases hiv with rfl | rfl | rfl | rfl | rfl
    · go_wp2_with fail
      refine (lengths19 HCL.out (HSh.out _ HWr.out).1 (HSh.out _ HWr.out).2).mono ?_
      rintro e wl ⟨rfl, hbw⟩
      have HBw : Hid (Below V.heap.size V wl) := L10.below_to HBl.out hbw
      clear hbw
      go_wp2_with fail
      go_roundw
      case rel => exact ⟨HBw.out, Or.inr (Or.inl rfl)⟩
      case measure => simp [intOf]
    · go_wp2_with fail
      refine (lengths20 HCL.out (HSh.out _ HWr.out).1 (HSh.out _ HWr.out).2).mono ?_
      rintro e wl ⟨rfl, hbw⟩
      have HBw : Hid (Below V.heap.size V wl) := L10.below_to HBl.out hbw
      clear hbw
      go_wp2_with fail
      go_roundw
      case rel => exact ⟨HBw.out, Or.inr (Or.inr (Or.inl rfl))⟩
      case measure => simp [intOf]
    · go_wp2_with fail
      refine (lengths21 HCL.out (HSh.out _ HWr.out).1 (HSh.out _ HWr.out).2).mono ?_
      rintro e wl ⟨rfl, hbw⟩
      have HBw : Hid (Below V.heap.size V wl) := L10.below_to HBl.out hbw
      clear hbw
      go_wp2_with fail
      go_roundw
      case rel => exact ⟨HBw.out, Or.inr (Or.inr (Or.inr (Or.inl rfl)))⟩
      case measure => simp [intOf]
    · go_wp2_with fail
      refine (lengths22 HCL.out (HSh.out _ HWr.out).1 (HSh.out _ HWr.out).2).mono ?_
      rintro e wl ⟨rfl, hbw⟩
      have HBw : Hid (Below V.heap.size V wl) := L10.below_to HBl.out hbw
      clear hbw
      go_wp2_with fail
      go_roundw
      case rel => exact ⟨HBw.out, Or.inr (Or.inr (Or.inr (Or.inr rfl)))⟩
      case measure => simp [intOf]
    · have HT : Hid (L10.Ri 3 wr g6 thL) := HRV.out.to HBl.out
      clear HBl HRV HWV
      generalize wr = v at *
      have hrA := L10.Ri.made 3 v 16 rfl
      have cA := hrA.cell 15 (by simp)
      have fA := hrA.thaw 15
      have heA : ((madeCells #[.int .i64 0] 16).setIfInBounds 15 (.int .i64 1048577)) = (L10.is grL).toArray := by kernel_rfl
      have HG1 : Hid (L10.Ri 3 (v.alloc (.cells ((madeCells #[.int .i64 0] 16).setIfInBounds 15 (.int .i64 1048577)) 3)) v.heap.size grL) := by show L10.Ri _ _ _ _; rw [heA]; exact L10.Ri.built 3 v grL rfl
      have ha1 : Below v.heap.size v (v.alloc (.cells ((madeCells #[.int .i64 0] 16).setIfInBounds 15 (.int .i64 1048577)) 3)) := L10.from_alloc _ _
      have HT1 : Hid (L10.Ri 3 (v.alloc (.cells ((madeCells #[.int .i64 0] 16).setIfInBounds 15 (.int .i64 1048577)) 3)) g6 thL) := HT.out.to ha1
      have HW1 : Hid (Below W.heap.size W (v.alloc (.cells ((madeCells #[.int .i64 0] 16).setIfInBounds 15 (.int .i64 1048577)) 3))) := L10.below_to HWr.out ha1
      clear hrA heA ha1 HT HWr
      go_upto_region 20 with fail
      generalize v.alloc (.cells ((madeCells #[.int .i64 0] 16).setIfInBounds 15 (.int .i64 1048577)) 3) = v1 at *
      generalize v.heap.size = ga at *
      clear cA fA
      have hrB := L10.Ri.made 3 v1 16 rfl
      have cB := hrB.cell 3 (by simp)
      have fB := hrB.thaw 3
      have heB : ((madeCells #[.int .i64 0] 16).setIfInBounds 3 (.int .i64 1048576)) = (L10.is (0 :: 0 :: 0 :: 1048576 :: List.replicate 12 0)).toArray := by kernel_rfl
      have hrC : L10.Ri 3 (v1.alloc (.cells ((madeCells #[.int .i64 0] 16).setIfInBounds 3 (.int .i64 1048576)) 3)) v1.heap.size (0 :: 0 :: 0 :: 1048576 :: List.replicate 12 0) := by rw [heB]; exact L10.Ri.built 3 v1 _ rfl
      have cC := hrC.cell 15 (by simp)
      have fC := hrC.thaw 15
      have heC : (((madeCells #[.int .i64 0] 16).setIfInBounds 3 (.int .i64 1048576)).setIfInBounds 15 (.int .i64 (-1048576))) = (L10.is moL).toArray := by kernel_rfl
      have HM2 : Hid (L10.Ri 3 (v1.alloc (.cells (((madeCells #[.int .i64 0] 16).setIfInBounds 3 (.int .i64 1048576)).setIfInBounds 15 (.int .i64 (-1048576))) 3)) v1.heap.size moL) := by show L10.Ri _ _ _ _; rw [heC]; exact L10.Ri.built 3 v1 moL rfl
      have ha2 : Below v1.heap.size v1 (v1.alloc (.cells (((madeCells #[.int .i64 0] 16).setIfInBounds 3 (.int .i64 1048576)).setIfInBounds 15 (.int .i64 (-1048576))) 3)) := L10.from_alloc _ _
      have HT2 : Hid (L10.Ri 3 (v1.alloc (.cells (((madeCells #[.int .i64 0] 16).setIfInBounds 3 (.int .i64 1048576)).setIfInBounds 15 (.int .i64 (-1048576))) 3)) g6 thL) := HT1.out.to ha2
      have HG2 : Hid (L10.Ri 3 (v1.alloc (.cells (((madeCells #[.int .i64 0] 16).setIfInBounds 3 (.int .i64 1048576)).setIfInBounds 15 (.int .i64 (-1048576))) 3)) ga grL) := HG1.out.to ha2
      have HW2' : Hid (Below W.heap.size W (v1.alloc (.cells (((madeCells #[.int .i64 0] 16).setIfInBounds 3 (.int .i64 1048576)).setIfInBounds 15 (.int .i64 (-1048576))) 3))) := L10.below_to HW1.out ha2
      clear hrB hrC heB heC ha2 HT1 HG1 HW1
      go_upto_region 23 with fail
      generalize v1.alloc (.cells (((madeCells #[.int .i64 0] 16).setIfInBounds 3 (.int .i64 1048576)).setIfInBounds 15 (.int .i64 (-1048576))) 3) = v2 at *
      generalize v1.heap.size = gm at *
      clear cB fB cC fC
      go_wp2_with fail
      have ha3 : Below v2.heap.size v2 (v2.alloc (.cells #[.int .i64 5, .int .i64 0, .int .i64 0, .slice none 0 0, .int .i64 4, .int .i64 3, .int .i64 0, .slice (some ⟨g6, 0, none⟩) 16 16, .int .i64 4, .int .i64 (-1), .int .i64 0, .slice (some ⟨g6, 0, none⟩) 16 16, .int .i64 4, .int .i64 0, .int .i64 3, .slice (some ⟨g6, 0, none⟩) 16 16, .int .i64 4, .int .i64 0, .int .i64 0, .slice (some ⟨g6, 0, none⟩) 15 16, .int .i64 4, .int .i64 0, .int .i64 0, .slice (some ⟨ga, 0, none⟩) 16 16, .int .i64 4, .int .i64 0, .int .i64 0, .slice (some ⟨gm, 0, none⟩) 16 16, .int .i64 8, .int .i64 0, .int .i64 0, .slice (some ⟨g6, 0, none⟩) 16 16] 36)) := L10.from_alloc _ _
      have HD3 : Hid (DoAt (v2.alloc (.cells #[.int .i64 5, .int .i64 0, .int .i64 0, .slice none 0 0, .int .i64 4, .int .i64 3, .int .i64 0, .slice (some ⟨g6, 0, none⟩) 16 16, .int .i64 4, .int .i64 (-1), .int .i64 0, .slice (some ⟨g6, 0, none⟩) 16 16, .int .i64 4, .int .i64 0, .int .i64 3, .slice (some ⟨g6, 0, none⟩) 16 16, .int .i64 4, .int .i64 0, .int .i64 0, .slice (some ⟨g6, 0, none⟩) 15 16, .int .i64 4, .int .i64 0, .int .i64 0, .slice (some ⟨ga, 0, none⟩) 16 16, .int .i64 4, .int .i64 0, .int .i64 0, .slice (some ⟨gm, 0, none⟩) 16 16, .int .i64 8, .int .i64 0, .int .i64 0, .slice (some ⟨g6, 0, none⟩) 16 16] 36)) (some ⟨v2.heap.size, 0, none⟩) (l8 g6 ga gm)) := l8_at HT2.out HG2.out HM2.out
      have HW3 : Hid (Below W.heap.size W (v2.alloc (.cells #[.int .i64 5, .int .i64 0, .int .i64 0, .slice none 0 0, .int .i64 4, .int .i64 3, .int .i64 0, .slice (some ⟨g6, 0, none⟩) 16 16, .int .i64 4, .int .i64 (-1), .int .i64 0, .slice (some ⟨g6, 0, none⟩) 16 16, .int .i64 4, .int .i64 0, .int .i64 3, .slice (some ⟨g6, 0, none⟩) 16 16, .int .i64 4, .int .i64 0, .int .i64 0, .slice (some ⟨g6, 0, none⟩) 15 16, .int .i64 4, .int .i64 0, .int .i64 0, .slice (some ⟨ga, 0, none⟩) 16 16, .int .i64 4, .int .i64 0, .int .i64 0, .slice (some ⟨gm, 0, none⟩) 16 16, .int .i64 8, .int .i64 0, .int .i64 0, .slice (some ⟨g6, 0, none⟩) 16 16] 36))) := L10.below_to HW2'.out ha3
      clear ha3 HT2 HG2 HM2 HW2' hmk
      generalize v2.alloc (.cells #[.int .i64 5, .int .i64 0, .int .i64 0, .slice none 0 0, .int .i64 4, .int .i64 3, .int .i64 0, .slice (some ⟨g6, 0, none⟩) 16 16, .int .i64 4, .int .i64 (-1), .int .i64 0, .slice (some ⟨g6, 0, none⟩) 16 16, .int .i64 4, .int .i64 0, .int .i64 3, .slice (some ⟨g6, 0, none⟩) 16 16, .int .i64 4, .int .i64 0, .int .i64 0, .slice (some ⟨g6, 0, none⟩) 15 16, .int .i64 4, .int .i64 0, .int .i64 0, .slice (some ⟨ga, 0, none⟩) 16 16, .int .i64 4, .int .i64 0, .int .i64 0, .slice (some ⟨gm, 0, none⟩) 16 16, .int .i64 8, .int .i64 0, .int .i64 0, .slice (some ⟨g6, 0, none⟩) 16 16] 36) = v3 at *
      generalize v2.heap.size = g8 at *
      refine (awake_ok HCL.out (HSh.out _ HW3.out).1 (HSh.out _ HW3.out).2).mono ?_
      rintro e v4 ⟨rfl, hb4⟩
      have HD4 : Hid (DoAt v4 (some ⟨g8, 0, none⟩) (l8 g6 ga gm)) := doAt_to HD3.out hb4
      have HW4 : Hid (Below W.heap.size W v4) := L10.below_to HW3.out hb4
      clear hb4 HD3 HW3
      have HCw : Hid (Calls Tryz.prog 3 #[.slice (some ⟨g8, 0, none⟩) 8 8, .bool true] v4 fun e w' => e = .returned (.bool true) ∧ Below v4.heap.size v4 w') := writes_walk (L := l8 g6 ga gm) HCL.out (HSh.out _ HW4.out).1 (HSh.out _ HW4.out).2 HD4.out (l8_short _ _ _)
      go_wp2_with fail
      refine HCw.out.mono ?_
      rintro e v5 ⟨rfl, hb5⟩
      have HW5 : Hid (Below W.heap.size W v5) := L10.below_to HW4.out hb5
      have ha6 : Below v5.heap.size v5 (v5.alloc (.cells #[.int .i64 4, .int .i64 0, .int .i64 0, .slice none 0 0, .int .i64 64, .int .i64 0, .int .i64 0, .slice none 0 0, .int .i64 5, .int .i64 0, .int .i64 0, .slice none 0 0, .int .i64 4, .int .i64 0, .int .i64 (-1), .slice none 0 0] 36)) := L10.from_alloc _ _
      have HD6 : Hid (DoAt (v5.alloc (.cells #[.int .i64 4, .int .i64 0, .int .i64 0, .slice none 0 0, .int .i64 64, .int .i64 0, .int .i64 0, .slice none 0 0, .int .i64 5, .int .i64 0, .int .i64 0, .slice none 0 0, .int .i64 4, .int .i64 0, .int .i64 (-1), .slice none 0 0] 36)) (some ⟨v5.heap.size, 0, none⟩) rA) := rA_at v5
      have HW6 : Hid (Below W.heap.size W (v5.alloc (.cells #[.int .i64 4, .int .i64 0, .int .i64 0, .slice none 0 0, .int .i64 64, .int .i64 0, .int .i64 0, .slice none 0 0, .int .i64 5, .int .i64 0, .int .i64 0, .slice none 0 0, .int .i64 4, .int .i64 0, .int .i64 (-1), .slice none 0 0] 36))) := L10.below_to HW5.out ha6
      clear hb5 ha6 HCw HD4 HW4 HW5
      go_wp2_with fail
      generalize v5.alloc (.cells #[.int .i64 4, .int .i64 0, .int .i64 0, .slice none 0 0, .int .i64 64, .int .i64 0, .int .i64 0, .slice none 0 0, .int .i64 5, .int .i64 0, .int .i64 0, .slice none 0 0, .int .i64 4, .int .i64 0, .int .i64 (-1), .slice none 0 0] 36) = v6 at *
      generalize v5.heap.size = ga6 at *
      have HCr : Hid (Calls Tryz.prog 4 #[.slice none 0 0, .slice (some ⟨ga6, 0, none⟩) 4 4] v6 fun e w' => e = .returned (.bool true) ∧ Below v6.heap.size v6 w') := reads_walk (L := rA) (zs := []) HCL.out (HSh.out _ HW6.out).1 (HSh.out _ HW6.out).2 (Or.inl ⟨rfl, rfl⟩) (by simp) (by simp) HD6.out
      refine HCr.out.mono ?_
      rintro e v7 ⟨rfl, hb7⟩
      have HW7 : Hid (Below W.heap.size W v7) := L10.below_to HW6.out hb7
      clear hb7 HCr HD6 HW6
      have ha8 : Below v7.heap.size v7 (v7.alloc (.cells #[.int .u8 255, .int .u8 255, .int .u8 255, .int .u8 255, .int .u8 255, .int .u8 255] 5)) := L10.from_alloc _ _
      have HY8 : Hid (L2.SrcOf (v7.alloc (.cells #[.int .u8 255, .int .u8 255, .int .u8 255, .int .u8 255, .int .u8 255, .int .u8 255] 5)) (.slice (some ⟨v7.heap.size, 0, none⟩) 6 6) (List.replicate 6 255)) := y6_at v7
      have HW8 : Hid (Below W.heap.size W (v7.alloc (.cells #[.int .u8 255, .int .u8 255, .int .u8 255, .int .u8 255, .int .u8 255, .int .u8 255] 5))) := L10.below_to HW7.out ha8
      have HZ8 : Hid ((v7.alloc (.cells #[.int .u8 255, .int .u8 255, .int .u8 255, .int .u8 255, .int .u8 255, .int .u8 255] 5)).heap.size = v7.heap.size + 1) := by show _ = _; simp
      clear ha8 HW7
      go_wp2_with fail
      generalize v7.alloc (.cells #[.int .u8 255, .int .u8 255, .int .u8 255, .int .u8 255, .int .u8 255, .int .u8 255] 5) = v8 at *
      have HD9 : Hid (DoAt (v8.alloc (.cells #[.int .i64 4, .int .i64 0, .int .i64 0, .slice none 0 0, .int .i64 8, .int .i64 1, .int .i64 0, .slice none 0 0, .int .i64 16, .int .i64 0, .int .i64 2, .slice none 0 0, .int .i64 32, .int .i64 0, .int .i64 0, .slice none 0 0] 36)) (some ⟨v7.heap.size + 1, 0, none⟩) rB) := by have := rB_at v8; rw [HZ8.out] at this; exact this
      have ha9 : Below v8.heap.size v8 (v8.alloc (.cells #[.int .i64 4, .int .i64 0, .int .i64 0, .slice none 0 0, .int .i64 8, .int .i64 1, .int .i64 0, .slice none 0 0, .int .i64 16, .int .i64 0, .int .i64 2, .slice none 0 0, .int .i64 32, .int .i64 0, .int .i64 0, .slice none 0 0] 36)) := L10.from_alloc _ _
      have HY9 : Hid (L2.SrcOf (v8.alloc (.cells #[.int .i64 4, .int .i64 0, .int .i64 0, .slice none 0 0, .int .i64 8, .int .i64 1, .int .i64 0, .slice none 0 0, .int .i64 16, .int .i64 0, .int .i64 2, .slice none 0 0, .int .i64 32, .int .i64 0, .int .i64 0, .slice none 0 0] 36)) (.slice (some ⟨v7.heap.size, 0, none⟩) 6 6) (List.replicate 6 255)) := src_to HY8.out ha9
      have HW9 : Hid (Below W.heap.size W (v8.alloc (.cells #[.int .i64 4, .int .i64 0, .int .i64 0, .slice none 0 0, .int .i64 8, .int .i64 1, .int .i64 0, .slice none 0 0, .int .i64 16, .int .i64 0, .int .i64 2, .slice none 0 0, .int .i64 32, .int .i64 0, .int .i64 0, .slice none 0 0] 36))) := L10.below_to HW8.out ha9
      clear ha9 HY8 HW8 HZ8
      generalize v8.alloc (.cells #[.int .i64 4, .int .i64 0, .int .i64 0, .slice none 0 0, .int .i64 8, .int .i64 1, .int .i64 0, .slice none 0 0, .int .i64 16, .int .i64 0, .int .i64 2, .slice none 0 0, .int .i64 32, .int .i64 0, .int .i64 0, .slice none 0 0] 36) = v9 at *
      have HCs : Hid (Calls Tryz.prog 4 #[.slice (some ⟨v7.heap.size, 0, none⟩) 6 6, .slice (some ⟨v7.heap.size + 1, 0, none⟩) 4 4] v9 fun e w' => e = .returned (.bool true) ∧ Below v9.heap.size v9 w') := reads_walk (L := rB) (zs := List.replicate 6 255) HCL.out (HSh.out _ HW9.out).1 (HSh.out _ HW9.out).2 HY9.out (fun i => by rw [List.getD_eq_getElem?_getD, List.getElem?_replicate]; split <;> simp) (by simp) HD9.out
      refine HCs.out.mono ?_
      rintro e v10 ⟨rfl, hb10⟩
      have HEnd : Hid (Below W.heap.size W v10) := L10.below_to HW9.out hb10
      clear hb10 HCs HW9 HD9 HY9
      go_wp2_with fail
      exact bodyPost_ret (v := .bool true) (by simp [results, Tryz.results5, go_sem]) rfl ⟨rfl, HEnd.out⟩

end Go.Proofs.YtkmnpechhdendaaGreatDoor
