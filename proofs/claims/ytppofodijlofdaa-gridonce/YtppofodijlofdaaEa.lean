/- DERIVED. told: both sides tell the same of a place. -/
import Derived.Test.YtppofodijlofdaaDp
import Derived.Test.YtppofodijlofdaaDk
import Derived.Test.YtppofodijlofdaaDh
import Derived.Test.YtppofodijlofdaaCs
namespace Go.Proofs.Ytppofodijlofdaa
open Go.RowKit

theorem both_part {w : World} {p m q : Nat} {T : Rc} {v v2 : Value} {L : List Bl} (X Y s : Int) (hg : Gd w p m T v L) (hr : Rd w q T v2 L) (hL : L.length ≤ 1000000) : ∃ n er : Int,
    (∀ u, Below w.heap.size w u → Calls Try.prog 21 #[.pointer (some ⟨p, 0, none⟩), .int .i64 X, .int .i64 Y, .int .i64 s] u fun e w' => e = .returned (.tuple #[.int .i64 n, .int .i64 er]) ∧ Below u.heap.size u w') ∧
    (∀ u, Below w.heap.size w u → Calls Try.prog 30 #[.pointer (some ⟨q, 0, none⟩), .int .i64 X, .int .i64 Y, .int .i64 s] u fun e w' => e = .returned (.tuple #[.int .i64 n, .int .i64 er]) ∧ Below u.heap.size u w') := by
  by_cases h : pok T X Y s
  · exact ⟨_, _, fun u hu => part_ok (hg.to hu) h hL, fun u hu => rpart_ok (hr.to hu) h hL⟩
  · exact ⟨_, _, fun u hu => part_no (hg.to hu) h, fun u hu => rpart_no (hr.to hu) h⟩
theorem both_skip {w : World} {p m q : Nat} {T : Rc} {v v2 : Value} {L : List Bl} (X Y : Int) (hg : Gd w p m T v L) (hr : Rd w q T v2 L) (hL : L.length ≤ 1000000) : ∃ n er : Int,
    (∀ u, Below w.heap.size w u → Calls Try.prog 19 #[.pointer (some ⟨p, 0, none⟩), .int .i64 X, .int .i64 Y] u fun e w' => e = .returned (.tuple #[.int .i64 n, .int .i64 er]) ∧ Below u.heap.size u w') ∧
    (∀ u, Below w.heap.size w u → Calls Try.prog 31 #[.pointer (some ⟨q, 0, none⟩), .int .i64 X, .int .i64 Y] u fun e w' => e = .returned (.tuple #[.int .i64 n, .int .i64 er]) ∧ Below u.heap.size u w') := by
  cases h : ask T X Y 8
  · exact ⟨_, _, fun u hu => skip_no (hg.to hu) h, fun u hu => rskip_no (hr.to hu) h⟩
  · exact ⟨_, _, fun u hu => skip_ok (hg.to hu) h hL, fun u hu => rskip_ok (hr.to hu) h hL⟩
theorem both_inter {w : World} {p m q : Nat} {T : Rc} {v v2 : Value} {L : List Bl} (X Y : Int) (hg : Gd w p m T v L) (hr : Rd w q T v2 L) (hL : L.length ≤ 1000000) : ∃ n er : Int,
    (∀ u, Below w.heap.size w u → Calls Try.prog 20 #[.pointer (some ⟨p, 0, none⟩), .int .i64 X, .int .i64 Y] u fun e w' => e = .returned (.tuple #[.int .i64 n, .int .i64 er]) ∧ Below u.heap.size u w') ∧
    (∀ u, Below w.heap.size w u → Calls Try.prog 32 #[.pointer (some ⟨q, 0, none⟩), .int .i64 X, .int .i64 Y] u fun e w' => e = .returned (.tuple #[.int .i64 n, .int .i64 er]) ∧ Below u.heap.size u w') := by
  cases h : ask T X Y 8
  · exact ⟨_, _, fun u hu => inter_no (hg.to hu) h, fun u hu => rinter_no (hr.to hu) h⟩
  · exact ⟨_, _, fun u hu => inter_ok (hg.to hu) h hL, fun u hu => rinter_ok (hr.to hu) h hL⟩
theorem vcA_4 (s : List (Int × Int)) : ∃ a b c d, vcA s = #[.int .i64 a, .int .i64 b, .int .i64 c, .int .i64 d] := by
  unfold vcA
  match h : vc s, vc_len s with
  | [a, b, c, d], _ => exact ⟨a, b, c, d, rfl⟩
theorem both_vecs {w : World} {p m q : Nat} {T : Rc} {v v2 : Value} {L : List Bl} (X Y W H r : Int) (hg : Gd w p m T v L) (hr : Rd w q T v2 L) (hL : L.length ≤ 1000000) : ∃ a b c d n er : Int,
    (∀ u, Below w.heap.size w u → Calls Try.prog 18 #[.pointer (some ⟨p, 0, none⟩), .agg #[.int .i64 X, .int .i64 Y, .int .i64 W, .int .i64 H], .int .i64 r] u fun e w' => e = .returned (.tuple #[.agg #[.int .i64 a, .int .i64 b, .int .i64 c, .int .i64 d], .int .i64 n, .int .i64 er]) ∧ Below u.heap.size u w') ∧
    (∀ u, Below w.heap.size w u → Calls Try.prog 33 #[.pointer (some ⟨q, 0, none⟩), .agg #[.int .i64 X, .int .i64 Y, .int .i64 W, .int .i64 H], .int .i64 r] u fun e w' => e = .returned (.tuple #[.agg #[.int .i64 a, .int .i64 b, .int .i64 c, .int .i64 d], .int .i64 n, .int .i64 er]) ∧ Below u.heap.size u w') := by
  have fin : ∀ (s : List (Int × Int)) (er : Int), ∃ a b c d n er' : Int, ∀ (u w' : World) (e : Ending), Vq u w' e s er → e = .returned (.tuple #[.agg #[.int .i64 a, .int .i64 b, .int .i64 c, .int .i64 d], .int .i64 n, .int .i64 er']) ∧ Below u.heap.size u w' := fun s er => by
    obtain ⟨a, b, c, d, h⟩ := vcA_4 s
    exact ⟨a, b, c, d, s.length, er, fun u w' e ⟨h1, h2⟩ => ⟨by rw [h1, h], h2⟩⟩
  by_cases h : vok T X Y W r
  · obtain ⟨a, b, c, d, n, er, hf⟩ := fin (vcs L (pls X Y W) r) 0
    exact ⟨a, b, c, d, n, er, fun u hu => (vecs_ok (hg.to hu) h.1 h.2.1 h.2.2.1 h.2.2.2 hL).mono fun e w' h => hf _ _ _ h, fun u hu => (rvecs_ok (hr.to hu) h hL).mono fun e w' h => hf _ _ _ h⟩
  · obtain ⟨a, b, c, d, n, er, hf⟩ := fin [] 2
    exact ⟨a, b, c, d, n, er, fun u hu => (vecs_no (hg.to hu) h).mono fun e w' h => hf _ _ _ h, fun u hu => (rvecs_no (hr.to hu) h).mono fun e w' h => hf _ _ _ h⟩
/-- how told stands: what was asked lies in block z -/
structure To (w : World) (z : Nat) (C : List Int) (u : World) : Prop where
  bx : Ri 42 u z C
  bel : Below z w u
theorem To.to {w : World} {z : Nat} {C : List Int} {u u' : World} (h : To w z C u) (hb : Below u.heap.size u u') : To w z C u' := ⟨h.bx.to hb, h.bel.trans (hb.mono (Nat.le_of_lt h.bx.lt))⟩
theorem To.sw {w : World} {z q : Nat} {C : List Int} {u u' : World} (h : To w z C u) (hs : Sw q u u') (hq : z < q) : To w z C u' := ⟨h.bx.carry (hs.block _ (by omega)), hs.below h.bel (by omega)⟩
theorem To.cs {w : World} {z : Nat} {a b c d e : Int} {u : World} (h : To w z [a, b, c, d, e] u) : u.cell? ⟨z, 0, none⟩ = some (.int .i64 a) ∧ u.cell? ⟨z, 1, none⟩ = some (.int .i64 b) ∧ u.cell? ⟨z, 2, none⟩ = some (.int .i64 c) ∧ u.cell? ⟨z, 3, none⟩ = some (.int .i64 d) ∧ u.cell? ⟨z, 4, none⟩ = some (.int .i64 e) :=
  ⟨h.bx.cell 0 (by simp), h.bx.cell 1 (by simp), h.bx.cell 2 (by simp), h.bx.cell 3 (by simp), h.bx.cell 4 (by simp)⟩
set_option maxRecDepth 100000 in
set_option maxHeartbeats 8000000 in
theorem told_any {w : World} {p m q : Nat} {T : Rc} {v v2 : Value} {L : List Bl} {X Y s W r : Int} (hg : Gd w p m T v L) (hr : Rd w q T v2 L) (hX : I64 X) (hY : I64 Y) (hL : L.length ≤ 1000000) :
    Calls Try.prog 12 #[.pointer (some ⟨p, 0, none⟩), .pointer (some ⟨q, 0, none⟩), .agg #[.int .i64 X, .int .i64 Y, .int .i64 s, .int .i64 W, .int .i64 r]] w fun e w' => e = .returned (.bool true) ∧ Below w.heap.size w w' := by
  have HA1 : Hid (∀ u, Below w.heap.size w u → Calls Try.prog 17 #[.pointer (some ⟨p, 0, none⟩), .int .i64 X, .int .i64 Y] u fun e w' => Aq u w' e (atB L X Y) (atK L X Y)) := fun u hu => at_any (hg.to hu) hX hY hL
  have HA2 : Hid (∀ u, Below w.heap.size w u → Calls Try.prog 29 #[.pointer (some ⟨q, 0, none⟩), .int .i64 X, .int .i64 Y] u fun e w' => Aq u w' e (atB L X Y) (atK L X Y)) := fun u hu => rat_any (hr.to hu) hL
  obtain ⟨n1, e1, P1, P2⟩ := both_part X Y s hg hr hL
  obtain ⟨n2, e2, S1, S2⟩ := both_skip X Y hg hr hL
  obtain ⟨n3, e3, I1, I2⟩ := both_inter X Y hg hr hL
  obtain ⟨va, vb, vd, ve, n4, e4, V1, V2⟩ := both_vecs X Y W s r hg hr hL
  have HP1 : Hid _ := P1
  have HP2 : Hid _ := P2
  have HS1 : Hid _ := S1
  have HS2 : Hid _ := S2
  have HI1 : Hid _ := I1
  have HI2 : Hid _ := I2
  have HV1 : Hid _ := V1
  have HV2 : Hid _ := V2
  clear P1 P2 S1 S2 I1 I2 V1 V2 hg hr hL hX hY
  generalize atB L X Y = b at *
  generalize atK L X Y = bk at *
  have HT : Hid (To w w.heap.size [X, Y, s, W, r] (w.alloc (.cells #[.int .i64 X, .int .i64 Y, .int .i64 s, .int .i64 W, .int .i64 r] 42))) := ⟨Ri.built 42 w [X, Y, s, W, r] rfl, from_alloc _ _⟩
  generalize hP : w.heap.size = z at *
  have HP : Hid (w.heap.size = z) := hP
  clear hP
  go_enter Try.func12, Try.ntmps12
  go_upto_region 1 with fail
  rw [HP.out]
  generalize (w.alloc (.cells #[.int .i64 X, .int .i64 Y, .int .i64 s, .int .i64 W, .int .i64 r] 42)) = V at *
  obtain ⟨c0, c1, c2, c3, c4⟩ := HT.out.cs
  go_wp2_with fail
  refine (HA1.out _ HT.out.bel).mono ?_
  rintro e w1 ⟨rfl, hb⟩
  have HT1 : Hid (To w z [X, Y, s, W, r] w1) := HT.out.to hb
  clear hb c0 c1 c2 c3 c4 HT HA1
  have HTx : Hid (To w z [X, Y, s, W, r] (w1.alloc (.cells bz.cs.toArray 40))) := HT1.out.to (from_alloc _ _)
  have HOx : Hid (Ob (w1.alloc (.cells bz.cs.toArray 40)) w1.heap.size bz) := Ob.new w1 bz rfl
  have HZx : Hid (z < w1.heap.size) := HT1.out.bx.lt
  generalize hz1 : w1.heap.size = z1 at *
  go_upto_region 2 with (refine wpList_store_block (by rfl) _ _ (by rfl) z1 bz b HOx.out (by first | rfl | (rw [← hz1]; rfl)) (by rfl) ?_; intro w2 hob hsw; have HO2 : Hid (Ob w2 z1 b) := hob; have HT2 : Hid (To w z [X, Y, s, W, r] w2) := HTx.out.sw hsw HZx.out; clear hob hsw)
  clear HTx HOx HT1 hz1
  obtain ⟨c0, c1, c2, c3, c4⟩ := HT2.out.cs
  go_wp2_with fail
  refine (HA2.out _ HT2.out.bel).mono ?_
  rintro e w3 ⟨rfl, hb⟩
  have HT3 : Hid (To w z [X, Y, s, W, r] w3) := HT2.out.to hb
  have HO3 : Hid (Ob w3 z1 b) := HO2.out.to hb
  clear HO2
  clear hb c0 c1 c2 c3 c4 HT2 HA2
  have HTx : Hid (To w z [X, Y, s, W, r] (w3.alloc (.cells bz.cs.toArray 40))) := HT3.out.to (from_alloc _ _)
  have HOx : Hid (Ob (w3.alloc (.cells bz.cs.toArray 40)) w3.heap.size bz) := Ob.new w3 bz rfl
  have HOy : Hid (Ob (w3.alloc (.cells bz.cs.toArray 40)) z1 b) := HO3.out.to (from_alloc _ _)
  have HZy : Hid (z < w3.heap.size) := HT3.out.bx.lt
  have HZz : Hid (z1 < w3.heap.size) := HO3.out.lt
  generalize hz3 : w3.heap.size = z3 at *
  go_upto_region 3 with (refine wpList_store_block (by rfl) _ _ (by rfl) z3 bz b HOx.out (by first | rfl | (rw [← hz3]; rfl)) (by rfl) ?_; intro w4 hob hsw; have HO4 : Hid (Ob w4 z3 b) := hob; have HO5 : Hid (Ob w4 z1 b) := HOy.out.carry (hsw.block _ (by have := HZz.out; omega)); have HT4 : Hid (To w z [X, Y, s, W, r] w4) := HTx.out.sw hsw HZy.out; clear hob hsw)
  clear HTx HOx HOy HO3 HT3 hz3
  have hE := fun t => eqb_self b t
  go_upto_region 5 with (first | (refine wpList_load_block (by rfl) _ (by rfl) z1 0 (by rfl) b HO5.out.bc ?_) | (refine wpList_load_block (by rfl) _ (by rfl) z3 0 (by rfl) b HO4.out.bc ?_))
  clear hE HO4 HO5 HZx HZy HZz
  obtain ⟨c0, c1, c2, c3, c4⟩ := HT4.out.cs
  go_wp2_with fail
  refine (HP1.out _ HT4.out.bel).mono ?_
  rintro e w5 ⟨rfl, hb⟩
  have HT5 : Hid (To w z [X, Y, s, W, r] w5) := HT4.out.to hb
  clear hb c0 c1 c2 c3 c4 HT4 HP1
  obtain ⟨c0, c1, c2, c3, c4⟩ := HT5.out.cs
  go_wp2_with fail
  refine (HP2.out _ HT5.out.bel).mono ?_
  rintro e w6 ⟨rfl, hb⟩
  have HT6 : Hid (To w z [X, Y, s, W, r] w6) := HT5.out.to hb
  clear hb c0 c1 c2 c3 c4 HT5 HP2
  obtain ⟨c0, c1, c2, c3, c4⟩ := HT6.out.cs
  go_wp2_with fail
  refine (HS1.out _ HT6.out.bel).mono ?_
  rintro e w7 ⟨rfl, hb⟩
  have HT7 : Hid (To w z [X, Y, s, W, r] w7) := HT6.out.to hb
  clear hb c0 c1 c2 c3 c4 HT6 HS1
  obtain ⟨c0, c1, c2, c3, c4⟩ := HT7.out.cs
  go_wp2_with fail
  refine (HS2.out _ HT7.out.bel).mono ?_
  rintro e w8 ⟨rfl, hb⟩
  have HT8 : Hid (To w z [X, Y, s, W, r] w8) := HT7.out.to hb
  clear hb c0 c1 c2 c3 c4 HT7 HS2
  obtain ⟨c0, c1, c2, c3, c4⟩ := HT8.out.cs
  go_wp2_with fail
  refine (HI1.out _ HT8.out.bel).mono ?_
  rintro e w9 ⟨rfl, hb⟩
  have HT9 : Hid (To w z [X, Y, s, W, r] w9) := HT8.out.to hb
  clear hb c0 c1 c2 c3 c4 HT8 HI1
  obtain ⟨c0, c1, c2, c3, c4⟩ := HT9.out.cs
  go_wp2_with fail
  refine (HI2.out _ HT9.out.bel).mono ?_
  rintro e w10 ⟨rfl, hb⟩
  have HT10 : Hid (To w z [X, Y, s, W, r] w10) := HT9.out.to hb
  clear hb c0 c1 c2 c3 c4 HT9 HI2
  obtain ⟨c0, c1, c2, c3, c4⟩ := HT10.out.cs
  have HTr : Hid (To w z [X, Y, s, W, r] (w10.alloc (.cells #[.int .i64 X, .int .i64 Y, .int .i64 W, .int .i64 s] 23))) := HT10.out.to (from_alloc _ _)
  have HRr : Hid (Ri 23 (w10.alloc (.cells #[.int .i64 X, .int .i64 Y, .int .i64 W, .int .i64 s] 23)) w10.heap.size [X, Y, W, s]) := Ri.built 23 w10 [X, Y, W, s] rfl
  go_upto_region 18 with fail
  generalize w10.heap.size = zr at *
  generalize (w10.alloc (.cells #[.int .i64 X, .int .i64 Y, .int .i64 W, .int .i64 s] 23)) = Wr at *
  clear c0 c1 c2 c3 c4 HT10
  obtain ⟨c0, c1, c2, c3, c4⟩ := HTr.out.cs
  have r0 : Wr.cell? ⟨zr, 0, none⟩ = some (.int .i64 X) := HRr.out.cell 0 (by simp)
  have r1 : Wr.cell? ⟨zr, 1, none⟩ = some (.int .i64 Y) := HRr.out.cell 1 (by simp)
  have r2 : Wr.cell? ⟨zr, 2, none⟩ = some (.int .i64 W) := HRr.out.cell 2 (by simp)
  have r3 : Wr.cell? ⟨zr, 3, none⟩ = some (.int .i64 s) := HRr.out.cell 3 (by simp)
  go_wp2_with fail
  refine (HV1.out _ HTr.out.bel).mono ?_
  rintro e w11 ⟨rfl, hb⟩
  have HT11 : Hid (To w z [X, Y, s, W, r] (w11.alloc (.cells #[.int .i64 va, .int .i64 vb, .int .i64 vd, .int .i64 ve] 38))) := (HTr.out.to hb).to (from_alloc _ _)
  have HR11 : Hid (Ri 23 (w11.alloc (.cells #[.int .i64 va, .int .i64 vb, .int .i64 vd, .int .i64 ve] 38)) zr [X, Y, W, s]) := (HRr.out.to hb).to (from_alloc _ _)
  have HV11 : Hid (Ri 38 (w11.alloc (.cells #[.int .i64 va, .int .i64 vb, .int .i64 vd, .int .i64 ve] 38)) w11.heap.size [va, vb, vd, ve]) := Ri.built 38 w11 [va, vb, vd, ve] rfl
  clear hb c0 c1 c2 c3 c4 r0 r1 r2 r3 HTr HRr HV1
  go_upto_region 19 with fail
  generalize w11.heap.size = zs at *
  generalize (w11.alloc (.cells #[.int .i64 va, .int .i64 vb, .int .i64 vd, .int .i64 ve] 38)) = Ws at *
  obtain ⟨c0, c1, c2, c3, c4⟩ := HT11.out.cs
  have r0 : Ws.cell? ⟨zr, 0, none⟩ = some (.int .i64 X) := HR11.out.cell 0 (by simp)
  have r1 : Ws.cell? ⟨zr, 1, none⟩ = some (.int .i64 Y) := HR11.out.cell 1 (by simp)
  have r2 : Ws.cell? ⟨zr, 2, none⟩ = some (.int .i64 W) := HR11.out.cell 2 (by simp)
  have r3 : Ws.cell? ⟨zr, 3, none⟩ = some (.int .i64 s) := HR11.out.cell 3 (by simp)
  go_wp2_with fail
  refine (HV2.out _ HT11.out.bel).mono ?_
  rintro e w12 ⟨rfl, hb⟩
  have HT12 : Hid (To w z [X, Y, s, W, r] (w12.alloc (.cells #[.int .i64 va, .int .i64 vb, .int .i64 vd, .int .i64 ve] 38))) := (HT11.out.to hb).to (from_alloc _ _)
  have HV12 : Hid (Ri 38 (w12.alloc (.cells #[.int .i64 va, .int .i64 vb, .int .i64 vd, .int .i64 ve] 38)) w12.heap.size [va, vb, vd, ve]) := Ri.built 38 w12 [va, vb, vd, ve] rfl
  have HV13 : Hid (Ri 38 (w12.alloc (.cells #[.int .i64 va, .int .i64 vb, .int .i64 vd, .int .i64 ve] 38)) zs [va, vb, vd, ve]) := (HV11.out.to hb).to (from_alloc _ _)
  clear hb c0 c1 c2 c3 c4 r0 r1 r2 r3 HT11 HR11 HV2 HV11
  go_upto_region 20 with fail
  generalize w12.heap.size = zt at *
  generalize (w12.alloc (.cells #[.int .i64 va, .int .i64 vb, .int .i64 vd, .int .i64 ve] 38)) = Wt at *
  have r0 : Wt.cell? ⟨zs, 0, none⟩ = some (.int .i64 va) := HV13.out.cell 0 (by simp)
  have r1 : Wt.cell? ⟨zs, 1, none⟩ = some (.int .i64 vb) := HV13.out.cell 1 (by simp)
  have r2 : Wt.cell? ⟨zs, 2, none⟩ = some (.int .i64 vd) := HV13.out.cell 2 (by simp)
  have r3 : Wt.cell? ⟨zs, 3, none⟩ = some (.int .i64 ve) := HV13.out.cell 3 (by simp)
  have t0 : Wt.cell? ⟨zt, 0, none⟩ = some (.int .i64 va) := HV12.out.cell 0 (by simp)
  have t1 : Wt.cell? ⟨zt, 1, none⟩ = some (.int .i64 vb) := HV12.out.cell 1 (by simp)
  have t2 : Wt.cell? ⟨zt, 2, none⟩ = some (.int .i64 vd) := HV12.out.cell 2 (by simp)
  have t3 : Wt.cell? ⟨zt, 3, none⟩ = some (.int .i64 ve) := HV12.out.cell 3 (by simp)
  have hEs := fun t => eqvs_same va vb vd ve t
  go_wp2_with fail
  go_ret
  exact ⟨rfl, HT12.out.bel⟩
end Go.Proofs.Ytppofodijlofdaa
