/- DERIVED. The document's Part. -/
import Derived.Test.YtppofodijlofdaaDb
import Derived.Test.YtppofodijlofdaaCw
namespace Go.Proofs.Ytppofodijlofdaa
open Go.RowKit

set_option maxRecDepth 100000 in
set_option maxHeartbeats 8000000 in
theorem rpart_ok {w : World} {p : Nat} {T : Rc} {v : Value} {L : List Bl} {X Y s : Int} (hg : Rd w p T v L) (h : pok T X Y s) (hL : L.length ≤ 1000000) :
    Calls Try.prog 30 #[.pointer (some ⟨p, 0, none⟩), .int .i64 X, .int .i64 Y, .int .i64 s] w fun e w' => e = .returned (.tuple #[.int .i64 (((cn (fun b => decide (b.w < s)) L X (Y - 1) : Nat) + 2 * (cn (fun b => decide (b.h < s)) L (X - 1) Y : Nat) : Nat) : Int), .int .i64 0]) ∧ Below w.heap.size w w' := by
  obtain ⟨hs, ha⟩ := h
  obtain ⟨x0, x1, y0, y1, hx, hy⟩ := ask_in hg.tok ha
  have hh : hasT T X Y = true := by unfold ask at ha; simp only [Bool.and_eq_true] at ha; exact ha.2.2
  have HI : Hid (∀ u, Below w.heap.size w u → Calls Try.prog 28 #[.pointer (some ⟨p, 0, none⟩), .int .i64 X, .int .i64 Y] u fun e w' => e = .returned (.bool true) ∧ Below u.heap.size u w') := fun u hb => by rw [← hh]; exact inn_any (hg.to hb).cl hg.tok
  have HA1 : Hid (∀ u, Below w.heap.size w u → Calls Try.prog 29 #[.pointer (some ⟨p, 0, none⟩), .int .i64 X, .int .i64 (Y - 1)] u fun e w' => Aq u w' e (atB L X (Y - 1)) (atK L X (Y - 1))) := fun u hb => rat_any (hg.to hb) hL
  have HA2 : Hid (∀ u, Below w.heap.size w u → Calls Try.prog 29 #[.pointer (some ⟨p, 0, none⟩), .int .i64 (X - 1), .int .i64 Y] u fun e w' => Aq u w' e (atB L (X - 1) Y) (atK L (X - 1) Y)) := fun u hb => rat_any (hg.to hb) hL
  have HC1 : Hid (cn (fun b => decide (b.w < s)) L X (Y - 1) = if atK L X (Y - 1) = true ∧ decide ((atB L X (Y - 1)).w < s) = true then 1 else 0) := rfl
  have HC2 : Hid (cn (fun b => decide (b.h < s)) L (X - 1) Y = if atK L (X - 1) Y = true ∧ decide ((atB L (X - 1) Y).h < s) = true then 1 else 0) := rfl
  have tx := tmod_yes hx
  have ty := tmod_yes hy
  clear hg ha hh hL
  generalize cn (fun b => decide (b.w < s)) L X (Y - 1) = n1 at *
  generalize cn (fun b => decide (b.h < s)) L (X - 1) Y = n2 at *
  generalize atB L X (Y - 1) = b1 at *
  generalize atK L X (Y - 1) = k1 at *
  generalize atB L (X - 1) Y = b2 at *
  generalize atK L (X - 1) Y = k2 at *
  rcases hs with rfl | rfl | rfl
  · go_enter Try.func30, Try.ntmps30
    go_wp2_with fail
    refine (HI.out _ (Below.refl _ _)).mono ?_
    rintro e w0 ⟨rfl, hb⟩
    have HB0 : Hid (Below w.heap.size w w0) := hb
    clear hb HI
    go_wp2_with fail
    refine (HA1.out _ HB0.out).mono ?_
    rintro e w1 ⟨rfl, hb⟩
    have HBx : Hid (∀ o, Below w.heap.size w (w1.alloc o)) := fun o => below_alloc (below_to HB0.out hb) (Nat.le_refl _) o
    have HSz : Hid (w.heap.size ≤ w1.heap.size) := Nat.le_trans HB0.out.size hb.size
    clear hb HB0
    have HOx : Hid (Ob (w1.alloc (.cells bz.cs.toArray 40)) w1.heap.size bz) := Ob.new w1 bz rfl
    go_upto_region 5 with (refine wpList_store_block (by rfl) _ _ (by rfl) w1.heap.size bz b1 HOx.out (by rfl) (by rfl) ?_; intro w2 hob hsw; have HO2 : Hid (Ob w2 w1.heap.size b1) := hob; have HB2 : Hid (Below w.heap.size w w2) := hsw.below (HBx.out _) HSz.out; clear hob hsw)
    have c2 : w2.cell? ⟨w1.heap.size, 2, none⟩ = some (.int .i64 b1.w) := HO2.out.c 2 _ rfl
    clear HOx HBx HSz HO2
    cases k1
    · have HE : Hid (n1 = 0) := by show _ = _; rw [HC1.out]; simp
      clear HC1
      go_wp2_with fail
      refine (HA2.out _ HB2.out).mono ?_
      rintro e w3 ⟨rfl, hb⟩
      have HBx : Hid (∀ o, Below w.heap.size w (w3.alloc o)) := fun o => below_alloc (below_to HB2.out hb) (Nat.le_refl _) o
      have HSz : Hid (w.heap.size ≤ w3.heap.size) := Nat.le_trans HB2.out.size hb.size
      clear hb c2 HB2
      have HOx : Hid (Ob (w3.alloc (.cells bz.cs.toArray 40)) w3.heap.size bz) := Ob.new w3 bz rfl
      go_upto_region 8 with (refine wpList_store_block (by rfl) _ _ (by rfl) w3.heap.size bz b2 HOx.out (by rfl) (by rfl) ?_; intro w4 hob hsw; have HO4 : Hid (Ob w4 w3.heap.size b2) := hob; have HB4 : Hid (Below w.heap.size w w4) := hsw.below (HBx.out _) HSz.out; clear hob hsw)
      have c3 : w4.cell? ⟨w3.heap.size, 3, none⟩ = some (.int .i64 b2.h) := HO4.out.c 3 _ rfl
      clear HOx HBx HSz HO4
      cases k2
      · have HD : Hid (n2 = 0) := by show _ = _; rw [HC2.out]; simp
        clear HC2
        go_wp2_with fail
        go_ret2
        exact ⟨by rw [HE.out, HD.out]; rfl, HB4.out⟩
      · by_cases h2 : b2.h < 64
        · have HD : Hid (n2 = 1) := by show _ = _; rw [HC2.out]; simp [h2]
          clear HC2
          go_wp2_with fail
          go_ret2
          exact ⟨by rw [HE.out, HD.out]; rfl, HB4.out⟩
        · have HD : Hid (n2 = 0) := by show _ = _; rw [HC2.out]; simp [h2]
          clear HC2
          go_wp2_with fail
          go_ret2
          exact ⟨by rw [HE.out, HD.out]; rfl, HB4.out⟩
    · by_cases h1 : b1.w < 64
      · have HE : Hid (n1 = 1) := by show _ = _; rw [HC1.out]; simp [h1]
        clear HC1
        go_wp2_with fail
        refine (HA2.out _ HB2.out).mono ?_
        rintro e w3 ⟨rfl, hb⟩
        have HBx : Hid (∀ o, Below w.heap.size w (w3.alloc o)) := fun o => below_alloc (below_to HB2.out hb) (Nat.le_refl _) o
        have HSz : Hid (w.heap.size ≤ w3.heap.size) := Nat.le_trans HB2.out.size hb.size
        clear hb c2 HB2
        have HOx : Hid (Ob (w3.alloc (.cells bz.cs.toArray 40)) w3.heap.size bz) := Ob.new w3 bz rfl
        go_upto_region 8 with (refine wpList_store_block (by rfl) _ _ (by rfl) w3.heap.size bz b2 HOx.out (by rfl) (by rfl) ?_; intro w4 hob hsw; have HO4 : Hid (Ob w4 w3.heap.size b2) := hob; have HB4 : Hid (Below w.heap.size w w4) := hsw.below (HBx.out _) HSz.out; clear hob hsw)
        have c3 : w4.cell? ⟨w3.heap.size, 3, none⟩ = some (.int .i64 b2.h) := HO4.out.c 3 _ rfl
        clear HOx HBx HSz HO4
        cases k2
        · have HD : Hid (n2 = 0) := by show _ = _; rw [HC2.out]; simp
          clear HC2
          go_wp2_with fail
          go_ret2
          exact ⟨by rw [HE.out, HD.out]; rfl, HB4.out⟩
        · by_cases h2 : b2.h < 64
          · have HD : Hid (n2 = 1) := by show _ = _; rw [HC2.out]; simp [h2]
            clear HC2
            go_wp2_with fail
            go_ret2
            exact ⟨by rw [HE.out, HD.out]; rfl, HB4.out⟩
          · have HD : Hid (n2 = 0) := by show _ = _; rw [HC2.out]; simp [h2]
            clear HC2
            go_wp2_with fail
            go_ret2
            exact ⟨by rw [HE.out, HD.out]; rfl, HB4.out⟩
      · have HE : Hid (n1 = 0) := by show _ = _; rw [HC1.out]; simp [h1]
        clear HC1
        go_wp2_with fail
        refine (HA2.out _ HB2.out).mono ?_
        rintro e w3 ⟨rfl, hb⟩
        have HBx : Hid (∀ o, Below w.heap.size w (w3.alloc o)) := fun o => below_alloc (below_to HB2.out hb) (Nat.le_refl _) o
        have HSz : Hid (w.heap.size ≤ w3.heap.size) := Nat.le_trans HB2.out.size hb.size
        clear hb c2 HB2
        have HOx : Hid (Ob (w3.alloc (.cells bz.cs.toArray 40)) w3.heap.size bz) := Ob.new w3 bz rfl
        go_upto_region 8 with (refine wpList_store_block (by rfl) _ _ (by rfl) w3.heap.size bz b2 HOx.out (by rfl) (by rfl) ?_; intro w4 hob hsw; have HO4 : Hid (Ob w4 w3.heap.size b2) := hob; have HB4 : Hid (Below w.heap.size w w4) := hsw.below (HBx.out _) HSz.out; clear hob hsw)
        have c3 : w4.cell? ⟨w3.heap.size, 3, none⟩ = some (.int .i64 b2.h) := HO4.out.c 3 _ rfl
        clear HOx HBx HSz HO4
        cases k2
        · have HD : Hid (n2 = 0) := by show _ = _; rw [HC2.out]; simp
          clear HC2
          go_wp2_with fail
          go_ret2
          exact ⟨by rw [HE.out, HD.out]; rfl, HB4.out⟩
        · by_cases h2 : b2.h < 64
          · have HD : Hid (n2 = 1) := by show _ = _; rw [HC2.out]; simp [h2]
            clear HC2
            go_wp2_with fail
            go_ret2
            exact ⟨by rw [HE.out, HD.out]; rfl, HB4.out⟩
          · have HD : Hid (n2 = 0) := by show _ = _; rw [HC2.out]; simp [h2]
            clear HC2
            go_wp2_with fail
            go_ret2
            exact ⟨by rw [HE.out, HD.out]; rfl, HB4.out⟩
  · go_enter Try.func30, Try.ntmps30
    go_wp2_with fail
    refine (HI.out _ (Below.refl _ _)).mono ?_
    rintro e w0 ⟨rfl, hb⟩
    have HB0 : Hid (Below w.heap.size w w0) := hb
    clear hb HI
    go_wp2_with fail
    refine (HA1.out _ HB0.out).mono ?_
    rintro e w1 ⟨rfl, hb⟩
    have HBx : Hid (∀ o, Below w.heap.size w (w1.alloc o)) := fun o => below_alloc (below_to HB0.out hb) (Nat.le_refl _) o
    have HSz : Hid (w.heap.size ≤ w1.heap.size) := Nat.le_trans HB0.out.size hb.size
    clear hb HB0
    have HOx : Hid (Ob (w1.alloc (.cells bz.cs.toArray 40)) w1.heap.size bz) := Ob.new w1 bz rfl
    go_upto_region 5 with (refine wpList_store_block (by rfl) _ _ (by rfl) w1.heap.size bz b1 HOx.out (by rfl) (by rfl) ?_; intro w2 hob hsw; have HO2 : Hid (Ob w2 w1.heap.size b1) := hob; have HB2 : Hid (Below w.heap.size w w2) := hsw.below (HBx.out _) HSz.out; clear hob hsw)
    have c2 : w2.cell? ⟨w1.heap.size, 2, none⟩ = some (.int .i64 b1.w) := HO2.out.c 2 _ rfl
    clear HOx HBx HSz HO2
    cases k1
    · have HE : Hid (n1 = 0) := by show _ = _; rw [HC1.out]; simp
      clear HC1
      go_wp2_with fail
      refine (HA2.out _ HB2.out).mono ?_
      rintro e w3 ⟨rfl, hb⟩
      have HBx : Hid (∀ o, Below w.heap.size w (w3.alloc o)) := fun o => below_alloc (below_to HB2.out hb) (Nat.le_refl _) o
      have HSz : Hid (w.heap.size ≤ w3.heap.size) := Nat.le_trans HB2.out.size hb.size
      clear hb c2 HB2
      have HOx : Hid (Ob (w3.alloc (.cells bz.cs.toArray 40)) w3.heap.size bz) := Ob.new w3 bz rfl
      go_upto_region 8 with (refine wpList_store_block (by rfl) _ _ (by rfl) w3.heap.size bz b2 HOx.out (by rfl) (by rfl) ?_; intro w4 hob hsw; have HO4 : Hid (Ob w4 w3.heap.size b2) := hob; have HB4 : Hid (Below w.heap.size w w4) := hsw.below (HBx.out _) HSz.out; clear hob hsw)
      have c3 : w4.cell? ⟨w3.heap.size, 3, none⟩ = some (.int .i64 b2.h) := HO4.out.c 3 _ rfl
      clear HOx HBx HSz HO4
      cases k2
      · have HD : Hid (n2 = 0) := by show _ = _; rw [HC2.out]; simp
        clear HC2
        go_wp2_with fail
        go_ret2
        exact ⟨by rw [HE.out, HD.out]; rfl, HB4.out⟩
      · by_cases h2 : b2.h < 32
        · have HD : Hid (n2 = 1) := by show _ = _; rw [HC2.out]; simp [h2]
          clear HC2
          go_wp2_with fail
          go_ret2
          exact ⟨by rw [HE.out, HD.out]; rfl, HB4.out⟩
        · have HD : Hid (n2 = 0) := by show _ = _; rw [HC2.out]; simp [h2]
          clear HC2
          go_wp2_with fail
          go_ret2
          exact ⟨by rw [HE.out, HD.out]; rfl, HB4.out⟩
    · by_cases h1 : b1.w < 32
      · have HE : Hid (n1 = 1) := by show _ = _; rw [HC1.out]; simp [h1]
        clear HC1
        go_wp2_with fail
        refine (HA2.out _ HB2.out).mono ?_
        rintro e w3 ⟨rfl, hb⟩
        have HBx : Hid (∀ o, Below w.heap.size w (w3.alloc o)) := fun o => below_alloc (below_to HB2.out hb) (Nat.le_refl _) o
        have HSz : Hid (w.heap.size ≤ w3.heap.size) := Nat.le_trans HB2.out.size hb.size
        clear hb c2 HB2
        have HOx : Hid (Ob (w3.alloc (.cells bz.cs.toArray 40)) w3.heap.size bz) := Ob.new w3 bz rfl
        go_upto_region 8 with (refine wpList_store_block (by rfl) _ _ (by rfl) w3.heap.size bz b2 HOx.out (by rfl) (by rfl) ?_; intro w4 hob hsw; have HO4 : Hid (Ob w4 w3.heap.size b2) := hob; have HB4 : Hid (Below w.heap.size w w4) := hsw.below (HBx.out _) HSz.out; clear hob hsw)
        have c3 : w4.cell? ⟨w3.heap.size, 3, none⟩ = some (.int .i64 b2.h) := HO4.out.c 3 _ rfl
        clear HOx HBx HSz HO4
        cases k2
        · have HD : Hid (n2 = 0) := by show _ = _; rw [HC2.out]; simp
          clear HC2
          go_wp2_with fail
          go_ret2
          exact ⟨by rw [HE.out, HD.out]; rfl, HB4.out⟩
        · by_cases h2 : b2.h < 32
          · have HD : Hid (n2 = 1) := by show _ = _; rw [HC2.out]; simp [h2]
            clear HC2
            go_wp2_with fail
            go_ret2
            exact ⟨by rw [HE.out, HD.out]; rfl, HB4.out⟩
          · have HD : Hid (n2 = 0) := by show _ = _; rw [HC2.out]; simp [h2]
            clear HC2
            go_wp2_with fail
            go_ret2
            exact ⟨by rw [HE.out, HD.out]; rfl, HB4.out⟩
      · have HE : Hid (n1 = 0) := by show _ = _; rw [HC1.out]; simp [h1]
        clear HC1
        go_wp2_with fail
        refine (HA2.out _ HB2.out).mono ?_
        rintro e w3 ⟨rfl, hb⟩
        have HBx : Hid (∀ o, Below w.heap.size w (w3.alloc o)) := fun o => below_alloc (below_to HB2.out hb) (Nat.le_refl _) o
        have HSz : Hid (w.heap.size ≤ w3.heap.size) := Nat.le_trans HB2.out.size hb.size
        clear hb c2 HB2
        have HOx : Hid (Ob (w3.alloc (.cells bz.cs.toArray 40)) w3.heap.size bz) := Ob.new w3 bz rfl
        go_upto_region 8 with (refine wpList_store_block (by rfl) _ _ (by rfl) w3.heap.size bz b2 HOx.out (by rfl) (by rfl) ?_; intro w4 hob hsw; have HO4 : Hid (Ob w4 w3.heap.size b2) := hob; have HB4 : Hid (Below w.heap.size w w4) := hsw.below (HBx.out _) HSz.out; clear hob hsw)
        have c3 : w4.cell? ⟨w3.heap.size, 3, none⟩ = some (.int .i64 b2.h) := HO4.out.c 3 _ rfl
        clear HOx HBx HSz HO4
        cases k2
        · have HD : Hid (n2 = 0) := by show _ = _; rw [HC2.out]; simp
          clear HC2
          go_wp2_with fail
          go_ret2
          exact ⟨by rw [HE.out, HD.out]; rfl, HB4.out⟩
        · by_cases h2 : b2.h < 32
          · have HD : Hid (n2 = 1) := by show _ = _; rw [HC2.out]; simp [h2]
            clear HC2
            go_wp2_with fail
            go_ret2
            exact ⟨by rw [HE.out, HD.out]; rfl, HB4.out⟩
          · have HD : Hid (n2 = 0) := by show _ = _; rw [HC2.out]; simp [h2]
            clear HC2
            go_wp2_with fail
            go_ret2
            exact ⟨by rw [HE.out, HD.out]; rfl, HB4.out⟩
  · go_enter Try.func30, Try.ntmps30
    go_wp2_with fail
    refine (HI.out _ (Below.refl _ _)).mono ?_
    rintro e w0 ⟨rfl, hb⟩
    have HB0 : Hid (Below w.heap.size w w0) := hb
    clear hb HI
    go_wp2_with fail
    refine (HA1.out _ HB0.out).mono ?_
    rintro e w1 ⟨rfl, hb⟩
    have HBx : Hid (∀ o, Below w.heap.size w (w1.alloc o)) := fun o => below_alloc (below_to HB0.out hb) (Nat.le_refl _) o
    have HSz : Hid (w.heap.size ≤ w1.heap.size) := Nat.le_trans HB0.out.size hb.size
    clear hb HB0
    have HOx : Hid (Ob (w1.alloc (.cells bz.cs.toArray 40)) w1.heap.size bz) := Ob.new w1 bz rfl
    go_upto_region 5 with (refine wpList_store_block (by rfl) _ _ (by rfl) w1.heap.size bz b1 HOx.out (by rfl) (by rfl) ?_; intro w2 hob hsw; have HO2 : Hid (Ob w2 w1.heap.size b1) := hob; have HB2 : Hid (Below w.heap.size w w2) := hsw.below (HBx.out _) HSz.out; clear hob hsw)
    have c2 : w2.cell? ⟨w1.heap.size, 2, none⟩ = some (.int .i64 b1.w) := HO2.out.c 2 _ rfl
    clear HOx HBx HSz HO2
    cases k1
    · have HE : Hid (n1 = 0) := by show _ = _; rw [HC1.out]; simp
      clear HC1
      go_wp2_with fail
      refine (HA2.out _ HB2.out).mono ?_
      rintro e w3 ⟨rfl, hb⟩
      have HBx : Hid (∀ o, Below w.heap.size w (w3.alloc o)) := fun o => below_alloc (below_to HB2.out hb) (Nat.le_refl _) o
      have HSz : Hid (w.heap.size ≤ w3.heap.size) := Nat.le_trans HB2.out.size hb.size
      clear hb c2 HB2
      have HOx : Hid (Ob (w3.alloc (.cells bz.cs.toArray 40)) w3.heap.size bz) := Ob.new w3 bz rfl
      go_upto_region 8 with (refine wpList_store_block (by rfl) _ _ (by rfl) w3.heap.size bz b2 HOx.out (by rfl) (by rfl) ?_; intro w4 hob hsw; have HO4 : Hid (Ob w4 w3.heap.size b2) := hob; have HB4 : Hid (Below w.heap.size w w4) := hsw.below (HBx.out _) HSz.out; clear hob hsw)
      have c3 : w4.cell? ⟨w3.heap.size, 3, none⟩ = some (.int .i64 b2.h) := HO4.out.c 3 _ rfl
      clear HOx HBx HSz HO4
      cases k2
      · have HD : Hid (n2 = 0) := by show _ = _; rw [HC2.out]; simp
        clear HC2
        go_wp2_with fail
        go_ret2
        exact ⟨by rw [HE.out, HD.out]; rfl, HB4.out⟩
      · by_cases h2 : b2.h < 16
        · have HD : Hid (n2 = 1) := by show _ = _; rw [HC2.out]; simp [h2]
          clear HC2
          go_wp2_with fail
          go_ret2
          exact ⟨by rw [HE.out, HD.out]; rfl, HB4.out⟩
        · have HD : Hid (n2 = 0) := by show _ = _; rw [HC2.out]; simp [h2]
          clear HC2
          go_wp2_with fail
          go_ret2
          exact ⟨by rw [HE.out, HD.out]; rfl, HB4.out⟩
    · by_cases h1 : b1.w < 16
      · have HE : Hid (n1 = 1) := by show _ = _; rw [HC1.out]; simp [h1]
        clear HC1
        go_wp2_with fail
        refine (HA2.out _ HB2.out).mono ?_
        rintro e w3 ⟨rfl, hb⟩
        have HBx : Hid (∀ o, Below w.heap.size w (w3.alloc o)) := fun o => below_alloc (below_to HB2.out hb) (Nat.le_refl _) o
        have HSz : Hid (w.heap.size ≤ w3.heap.size) := Nat.le_trans HB2.out.size hb.size
        clear hb c2 HB2
        have HOx : Hid (Ob (w3.alloc (.cells bz.cs.toArray 40)) w3.heap.size bz) := Ob.new w3 bz rfl
        go_upto_region 8 with (refine wpList_store_block (by rfl) _ _ (by rfl) w3.heap.size bz b2 HOx.out (by rfl) (by rfl) ?_; intro w4 hob hsw; have HO4 : Hid (Ob w4 w3.heap.size b2) := hob; have HB4 : Hid (Below w.heap.size w w4) := hsw.below (HBx.out _) HSz.out; clear hob hsw)
        have c3 : w4.cell? ⟨w3.heap.size, 3, none⟩ = some (.int .i64 b2.h) := HO4.out.c 3 _ rfl
        clear HOx HBx HSz HO4
        cases k2
        · have HD : Hid (n2 = 0) := by show _ = _; rw [HC2.out]; simp
          clear HC2
          go_wp2_with fail
          go_ret2
          exact ⟨by rw [HE.out, HD.out]; rfl, HB4.out⟩
        · by_cases h2 : b2.h < 16
          · have HD : Hid (n2 = 1) := by show _ = _; rw [HC2.out]; simp [h2]
            clear HC2
            go_wp2_with fail
            go_ret2
            exact ⟨by rw [HE.out, HD.out]; rfl, HB4.out⟩
          · have HD : Hid (n2 = 0) := by show _ = _; rw [HC2.out]; simp [h2]
            clear HC2
            go_wp2_with fail
            go_ret2
            exact ⟨by rw [HE.out, HD.out]; rfl, HB4.out⟩
      · have HE : Hid (n1 = 0) := by show _ = _; rw [HC1.out]; simp [h1]
        clear HC1
        go_wp2_with fail
        refine (HA2.out _ HB2.out).mono ?_
        rintro e w3 ⟨rfl, hb⟩
        have HBx : Hid (∀ o, Below w.heap.size w (w3.alloc o)) := fun o => below_alloc (below_to HB2.out hb) (Nat.le_refl _) o
        have HSz : Hid (w.heap.size ≤ w3.heap.size) := Nat.le_trans HB2.out.size hb.size
        clear hb c2 HB2
        have HOx : Hid (Ob (w3.alloc (.cells bz.cs.toArray 40)) w3.heap.size bz) := Ob.new w3 bz rfl
        go_upto_region 8 with (refine wpList_store_block (by rfl) _ _ (by rfl) w3.heap.size bz b2 HOx.out (by rfl) (by rfl) ?_; intro w4 hob hsw; have HO4 : Hid (Ob w4 w3.heap.size b2) := hob; have HB4 : Hid (Below w.heap.size w w4) := hsw.below (HBx.out _) HSz.out; clear hob hsw)
        have c3 : w4.cell? ⟨w3.heap.size, 3, none⟩ = some (.int .i64 b2.h) := HO4.out.c 3 _ rfl
        clear HOx HBx HSz HO4
        cases k2
        · have HD : Hid (n2 = 0) := by show _ = _; rw [HC2.out]; simp
          clear HC2
          go_wp2_with fail
          go_ret2
          exact ⟨by rw [HE.out, HD.out]; rfl, HB4.out⟩
        · by_cases h2 : b2.h < 16
          · have HD : Hid (n2 = 1) := by show _ = _; rw [HC2.out]; simp [h2]
            clear HC2
            go_wp2_with fail
            go_ret2
            exact ⟨by rw [HE.out, HD.out]; rfl, HB4.out⟩
          · have HD : Hid (n2 = 0) := by show _ = _; rw [HC2.out]; simp [h2]
            clear HC2
            go_wp2_with fail
            go_ret2
            exact ⟨by rw [HE.out, HD.out]; rfl, HB4.out⟩
end Go.Proofs.Ytppofodijlofdaa
