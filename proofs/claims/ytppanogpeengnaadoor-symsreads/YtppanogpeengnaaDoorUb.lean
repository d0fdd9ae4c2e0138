/- DERIVED. The walk of SymsLearn. -/
import Derived.Test.YtppanogpeengnaaDoorSy
import Derived.Deep.RegionHeld3
namespace Go.Proofs.YtppanogpeengnaaDoor
open Go.RowKit L3

/-- a row of ints that came in -/
def Si (w : World) (a : Option Addr) (C : List Int) : Prop :=
  C = [] ∨ ∃ b o, a = some ⟨b, o, none⟩ ∧ b < w.heap.size ∧ ∀ j, j < C.length → w.cell? ⟨b, o + j, none⟩ = some (.int .i64 (C.getD j 0))
theorem Si.at {w : World} {a : Option Addr} {C : List Int} (h : Si w a C) {j : Nat} (hj : j < C.length) : ∃ b o, a = some ⟨b, o, none⟩ ∧ b < w.heap.size ∧ ∀ v, Below w.heap.size w v → v.cell? ⟨b, o + j, none⟩ = some (.int .i64 (C.getD j 0)) := by
  rcases h with rfl | ⟨b, o, h1, h2, h3⟩
  · simp at hj
  · exact ⟨b, o, h1, h2, fun v hv => by rw [newCell hv _ _ h2]; exact h3 j hj⟩
theorem mK_again (k : Int) : mK ((mK k : Nat) : Int) = mK k := by unfold mK; omega
theorem mC_again (k c : Int) : mC ((mK k : Nat) : Int) ((mC k c : Nat) : Int) = mC k c := by
  have h1 := mC_lt k c
  have h2 := (sC_le _ (mK_lt k)).2
  have e : mC ((mK k : Nat) : Int) ((mC k c : Nat) : Int) = (((mC k c : Nat) : Int) % 65536).toNat % sC (mK ((mK k : Nat) : Int)) := rfl
  rw [e, mK_again, show (((mC k c : Nat) : Int) % 65536).toNat = mC k c from by omega, Nat.mod_eq_of_lt h1]
theorem mW_again (k v : Int) : mW ((mK k : Nat) : Int) v = mW k v := by unfold mW; rw [mK_again]

theorem fld4 (v0 v1 v2 v3 v4 : Value) (w : World) : (Instr.field 43 (.agg #[v0, v1, v2, v3, v4]) 4).run Tryd.prog w = .ok v4 w := by kernel_rfl
/-- a table that was made into a variable of its own -/
structure Nw (w U : World) (x g c n : Nat) (m : Int) (C : List Nat) : Prop where
  c0 : U.cell? ⟨x, 0, none⟩ = some (.slice (some ⟨g, 0, none⟩) n c)
  c1 : U.cell? ⟨x, 1, none⟩ = some (.int .i64 m)
  b : Below w.heap.size w U
  sl : Sl U .u16 (some ⟨g, 0, none⟩) C
  gl : w.heap.size ≤ g
  xl : w.heap.size ≤ x ∧ x < U.heap.size
theorem Nw.callFirst {w u u' : World} {g c n : Nat} {m : Int} {C : List Nat} (hu : Below w.heap.size w u) (hs : Sl u' .u16 (some ⟨g, 0, none⟩) C) (hg : u.heap.size ≤ g) (hb : Below u.heap.size u u') : Nw w (u'.alloc (.cells #[.slice (some ⟨g, 0, none⟩) n c, .int .i64 m] 63)) u'.heap.size g c n m C :=
  ⟨by simp [go_sem], by simp [go_sem], to_alloc (below_to hu hb) _, hs.to (from_alloc _ _), Nat.le_trans hu.size hg, Nat.le_trans hu.size hb.size, by simp⟩
theorem Nw.varFirst {w u' : World} {g c n : Nat} {m : Int} {C : List Nat} (hs : Sl u' .u16 (some ⟨g, 0, none⟩) C) (hg : (w.drew.alloc (.cells #[.slice none 0 0, .int .i64 0] 63)).heap.size ≤ g) (hb : Below (w.drew.alloc (.cells #[.slice none 0 0, .int .i64 0] 63)).heap.size (w.drew.alloc (.cells #[.slice none 0 0, .int .i64 0] 63)) u') : Nw w ((u'.setCell ⟨w.heap.size, 0, none⟩ (.slice (some ⟨g, 0, none⟩) n c)).setCell ⟨w.heap.size, 1, none⟩ (.int .i64 m)) w.heap.size g c n m C := by
  have hz : (w.drew.alloc (.cells #[.slice none 0 0, .int .i64 0] 63)).heap.size = w.heap.size + 1 := by simp
  have k0 : u'.cell? ⟨w.heap.size, 0, none⟩ = some (.slice none 0 0) := by rw [newCell hb _ _ (by omega)]; simp [go_sem]
  have k1 : u'.cell? ⟨w.heap.size, 1, none⟩ = some (.int .i64 0) := by rw [newCell hb _ _ (by omega)]; simp [go_sem]
  have hne : ∀ b o, (some ⟨g, 0, none⟩ : Option Addr) = some ⟨b, o, none⟩ → C ≠ [] → b ≠ w.heap.size := fun b o e _ => by
    simp only [Option.some.injEq, Addr.mk.injEq, and_true] at e
    omega
  have hb0 : Below w.heap.size w u' := (below_drew (Below.refl _ _) : Below w.heap.size w w.drew).trans (((Below.refl w.heap.size w.drew).alloc (Nat.le_refl _) _ : Below w.heap.size w.drew (w.drew.alloc (.cells #[.slice none 0 0, .int .i64 0] 63))).trans (hb.mono (by omega)))
  refine ⟨?_, ?_, below_set (below_set hb0 (Nat.le_refl _) _) (Nat.le_refl _) _, sl_far (sl_far hs hne) hne, by omega, Nat.le_refl _, by rw [setCell_size, setCell_size]; have := hb.size; omega⟩
  · rw [World.cell?_setCell_other _ _ _ _ (by simp), World.cell?_setCell_same _ _ _ k0]
  · rw [World.cell?_setCell_same _ _ _ (by rw [World.cell?_setCell_other _ _ _ _ (by simp)]; exact k1)]
theorem upd_true (S : Sx) (kk c v : Nat) : upd S true kk c v = S.set kk ((S.getD kk []).set c (L3.ad (tb S kk c).1 (tb S kk c).2 v, adN (tb S kk c).2)) := rfl

structure LnI (W : World) (lo x bt wv len : Nat) (iv : Value) (wr : World) : Prop where
  ex : ∃ (i : Nat) (O B : Nat → Prop) (S : Sx) (T g k : Nat), i ≤ len ∧ i ≤ 60 ∧ iv = .int .i64 i ∧ Wc wr lo x O S true (i : Int) T g k ∧ k ≤ 2 * i ∧ Hs wr lo bt B S ∧ (∀ y, B y → ¬ O y) ∧ (¬ O wv ∧ ¬ B wv ∧ wv < wr.heap.size) ∧ wr.cell? ⟨wv, 0, none⟩ = some (.slice (some ⟨bt, 0, none⟩) 32 32) ∧ Below lo W wr

set_option maxRecDepth 100000 in
set_option maxHeartbeats 8000000 in
theorem learn_walk (W : World) (kd cx : Int) (a : Option Addr) (cp : Nat) (L : List Int) (hsh : Sh W) (hL : Si W a L) (hLl : L.length ≤ 140737488355328) :
    Calls Tryd.prog 8 #[.int .i64 kd, .int .i64 cx, .slice a L.length cp] W fun e w' => e = .returned (.bool true) ∧ Below W.heap.size W w' := by
  have HSh : Hid (∀ v, Below W.heap.size W v → Sh v) := fun v hv => hsh.to hv
  have HL : Hid (∀ j, j < L.length → ∃ b o, a = some ⟨b, o, none⟩ ∧ b < W.heap.size ∧ ∀ v, Below W.heap.size W v → v.cell? ⟨b, o + j, none⟩ = some (.int .i64 (L.getD j 0))) := fun j hj => hL.at hj
  have HK : Hid (mK kd < 32) := mK_lt kd
  have HC : Hid (mC kd cx < sC (mK kd)) := mC_lt kd cx
  have HKC : Hid (mK ((mK kd : Nat) : Int) = mK kd ∧ mC ((mK kd : Nat) : Int) ((mC kd cx : Nat) : Int) = mC kd cx) := ⟨mK_again kd, mC_again kd cx⟩
  clear hsh hL
  go_enter Tryd.func8, Tryd.ntmps8
  go_wp2_with fail
  refine (awake_ok (HSh.out W (Below.refl _ _))).mono ?_
  rintro e w1 ⟨rfl, hb1⟩
  have HB1 : Hid (Below W.heap.size W w1) := hb1
  have HM : Hid (Calls Tryd.prog 33 #[.agg #[.bool false, .int .i64 0, .int .i64 kd, .int .i64 cx, .int .i64 0]] w1 fun e w' => e = .returned (.agg #[.bool false, .int .i64 0, .int .i64 (mK kd : Nat), .int .i64 (mC kd cx : Nat), .int .i64 (mW kd 0 : Nat)]) ∧ Below w1.heap.size w1 w') := may_s (HSh.out _ hb1)
  clear hb1
  go_wp2_with fail
  refine HM.out.mono ?_
  rintro e w2 ⟨rfl, hb2⟩
  generalize hkk : mK kd = kk at *
  generalize hcc : mC kd cx = cc at *
  generalize mW kd 0 = v0 at *
  clear hkk hcc
  have HB3 : Hid (Below W.heap.size W (w2.alloc (.cells #[.bool false, .int .i64 0, .int .i64 kk, .int .i64 cc, .int .i64 v0] 43))) := below_to HB1.out (to_alloc hb2 _)
  have HX : Hid (∀ v, Below (w2.alloc (.cells #[.bool false, .int .i64 0, .int .i64 kk, .int .i64 cc, .int .i64 v0] 43)).heap.size (w2.alloc (.cells #[.bool false, .int .i64 0, .int .i64 kk, .int .i64 cc, .int .i64 v0] 43)) v → v.cell? ⟨w2.heap.size, 2, none⟩ = some (.int .i64 kk) ∧ v.cell? ⟨w2.heap.size, 3, none⟩ = some (.int .i64 cc)) := fun v hv => by
    rw [newCell hv _ _ (by simp), newCell hv _ _ (by simp)]; simp [go_sem]
  have HXl : Hid (w2.heap.size < (w2.alloc (.cells #[.bool false, .int .i64 0, .int .i64 kk, .int .i64 cc, .int .i64 v0] 43)).heap.size) := by show _ < _; simp
  clear hb2 HM HB1
  go_wp2_with fail
  generalize w2.alloc (.cells #[.bool false, .int .i64 0, .int .i64 kk, .int .i64 cc, .int .i64 v0] 43) = w3 at *
  generalize w2.heap.size = xv at *
  refine (default_hs (HSh.out _ HB3.out)).mono ?_
  rintro e w4 ⟨bt4, B4, rfl, hs4, hb4⟩
  have HB4 : Hid (Below W.heap.size W w4) := below_to HB3.out hb4
  have HX4 : Hid (∀ v, Below w4.heap.size w4 v → v.cell? ⟨xv, 2, none⟩ = some (.int .i64 kk) ∧ v.cell? ⟨xv, 3, none⟩ = some (.int .i64 cc)) := fun v hv => HX.out v (below_to hb4 hv)
  have HW : Hid (Calls Tryd.prog 11 #[.agg #[.slice (some ⟨bt4, 0, none⟩) 32 32], .bool true] w4 fun e w' => ∃ x O, e = .returned (.tuple #[.pointer (some ⟨x, 0, none⟩), .int .i64 0]) ∧ Wc w' w4.heap.size x O dS true 0 0 4294967295 0 ∧ Below w4.heap.size w4 w') := writer_wc (HSh.out _ HB4.out) hs4
  have HXl : Hid (xv < w4.heap.size) := Nat.lt_of_lt_of_le HXl.out hb4.size
  clear hs4 hb4 HB3 HX
  go_wp2_with fail
  refine HW.out.mono ?_
  rintro e w5 ⟨x, O5, rfl, hc5, hb5⟩
  have HB5 : Hid (Below w4.heap.size w4 w5) := hb5
  have HC5 : Hid (Wc w5 w4.heap.size x O5 dS true 0 0 4294967295 0) := hc5
  have HUp : Hid (∀ v, Below w4.heap.size w4 v → Below W.heap.size W v) := fun v hv => below_to HB4.out hv
  clear hc5 hb5 HW HB4
  go_wp2_with fail
  refine (default_hs (HSh.out _ (HUp.out _ HB5.out))).mono ?_
  rintro e w6 ⟨bt, B6, rfl, hs6, hb6⟩
  have hz6 := hb6.size
  have HC7 : Hid (Wc (w6.alloc (.cells #[.slice (some ⟨bt, 0, none⟩) 32 32] 25)) w4.heap.size x O5 dS true 0 0 4294967295 0) := HC5.out.to (below_to hb6 (from_alloc _ _))
  have HS7 : Hid (Hs (w6.alloc (.cells #[.slice (some ⟨bt, 0, none⟩) 32 32] 25)) w4.heap.size bt B6 dS) := (hs6.to (from_alloc _ _)).weak HB5.out.size
  have HD7 : Hid (∀ y, B6 y → ¬ O5 y) := fun y hy e => by have := hs6.ge hy; have := HC5.out.lt e; omega
  have HV7 : Hid (¬ O5 w6.heap.size ∧ ¬ B6 w6.heap.size ∧ w6.heap.size < (w6.alloc (.cells #[.slice (some ⟨bt, 0, none⟩) 32 32] 25)).heap.size) := ⟨fun e => by have := HC5.out.lt e; omega, fun e => by have := hs6.lt e; omega, by simp⟩
  have HG7 : Hid ((w6.alloc (.cells #[.slice (some ⟨bt, 0, none⟩) 32 32] 25)).cell? ⟨w6.heap.size, 0, none⟩ = some (.slice (some ⟨bt, 0, none⟩) 32 32)) := by show _ = _; simp [go_sem]
  have HB7 : Hid (Below w4.heap.size w4 (w6.alloc (.cells #[.slice (some ⟨bt, 0, none⟩) 32 32] 25))) := below_to HB5.out (to_alloc hb6 _)
  clear hs6 hb6 hz6 HC5 HB5
  go_wp2_with fail
  generalize w6.alloc (.cells #[.slice (some ⟨bt, 0, none⟩) 32 32] 25) = w7 at *
  generalize w6.heap.size = wv at *
  go_loopw [11] (fun iv wr => LnI w4 w4.heap.size x bt wv L.length iv wr) (fun iv _ => 60 - (intOf iv).toNat)
  case atStart => exact ⟨⟨0, O5, B6, dS, 0, 4294967295, 0, by omega, by omega, rfl, HC7.out, by omega, HS7.out, HD7.out, HV7.out, HG7.out, HB7.out⟩⟩
  case round =>
    clear HC7 HS7 HD7 HV7 HG7 HB7
    obtain ⟨i, O, B, S, T, g, k, hi1, hi2, rfl, hc, hkb, hs, hdj, hwv, hg, hb⟩ := hrel
    have HCr : Hid (Wc wr w4.heap.size x O S true (i : Int) T g k) := hc
    have HSr : Hid (Hs wr w4.heap.size bt B S) := hs
    have HDr : Hid (∀ y, B y → ¬ O y) := hdj
    have HVr : Hid (¬ O wv ∧ ¬ B wv ∧ wv < wr.heap.size) := hwv
    have HGr : Hid (wr.cell? ⟨wv, 0, none⟩ = some (.slice (some ⟨bt, 0, none⟩) 32 32)) := hg
    have HBr : Hid (Below w4.heap.size w4 wr) := hb
    have HKb : Hid (k ≤ 2 * i) := hkb
    clear hc hs hdj hwv hg hb hkb
    have i0 : (0 : Int) ≤ (i : Int) := by omega
    by_cases hlt : i < L.length ∧ i < 60
    · obtain ⟨hlt1, hlt2⟩ := hlt
      have i1 : (i : Int) < (L.length : Int) := by omega
      have i2 : (i : Int) < 60 := by omega
      obtain ⟨lb, lof, ha, hlb, hcell⟩ := HL.out i hlt1
      subst ha
      generalize L.getD i 0 = lv at *
      have HKp : Hid (∀ v, Below wr.heap.size wr v → v.cell? ⟨xv, 2, none⟩ = some (.int .i64 kk) ∧ v.cell? ⟨xv, 3, none⟩ = some (.int .i64 cc) ∧ v.cell? ⟨lb, lof + i, none⟩ = some (.int .i64 lv)) := fun v hv => by
        have h1 : Below w4.heap.size w4 v := HBr.out.trans (hv.mono HBr.out.size)
        exact ⟨(HX4.out v h1).1, (HX4.out v h1).2, hcell v (HUp.out _ h1)⟩
      have HM : Hid (∀ v, Below wr.heap.size wr v → Calls Tryd.prog 33 #[.agg #[.bool false, .int .i64 0, .int .i64 (kk : Nat), .int .i64 (cc : Nat), .int .i64 lv]] v fun e w' => e = .returned (.agg #[.bool false, .int .i64 0, .int .i64 (kk : Nat), .int .i64 (cc : Nat), .int .i64 (mW (kk : Nat) lv : Nat)]) ∧ Below v.heap.size v w') := fun v hv => by
        have := may_s (n := 0) (k := ((kk : Nat) : Int)) (c := ((cc : Nat) : Int)) (v := lv) (HSh.out v (HUp.out _ (HBr.out.trans (hv.mono HBr.out.size))))
        rw [HKC.out.1, HKC.out.2] at this
        exact this
      have HVl : Hid (mW (kk : Nat) lv < sV kk) := by have := mW_lt ((kk : Nat) : Int) lv; rw [HKC.out.1] at this; exact this
      generalize mW (kk : Nat) lv = vv at *
      clear hcell
      have hbd : Below wr.heap.size wr wr.drew := below_drew (Below.refl _ _)
      have hfl : ∀ u : World, (Instr.field 43 (.agg #[.bool false, .int .i64 0, .int .i64 kk, .int .i64 cc, .int .i64 vv]) 4).run Tryd.prog u = .ok (.int .i64 vv) u := fun u => fld4 _ _ _ _ _ u
      go_wp2_with fail
      go_region_held3 (fun v => v.cell? ⟨xv, 2, none⟩ = some (.int .i64 kk) ∧ v.cell? ⟨xv, 3, none⟩ = some (.int .i64 cc) ∧ v.cell? ⟨lb, lof + i, none⟩ = some (.int .i64 lv))
        ((exact HKp.out _ (by assumption)))
        ((go_at_call 33; refine (HM.out _ (by assumption)).mono ?_; rintro e wA ⟨rfl, hbA⟩; have hzA := below_to (by assumption) hbA))
      have HBA : Hid (Below wr.heap.size wr wA) := hzA
      clear hbA hzA hbd
      have HCA : Hid (Wc wA w4.heap.size x O S true (i : Int) T g k) := HCr.out.to HBA.out
      have HSA : Hid (Hs wA w4.heap.size bt B S) := HSr.out.to HBA.out
      have HB4A : Hid (Below w4.heap.size w4 wA) := HBr.out.trans (HBA.out.mono HBr.out.size)
      obtain ⟨x2, x3⟩ := HX4.out wA HB4A.out
      have htk := HCr.out.ok.at HK.out HC.out
      have HPut : Hid ((L2.ePut T g k (eb (tb S kk cc).1 vv) (ee (tb S kk cc).1 vv)).2.2 ≤ k + 2) := (L2.ePut_ok HCr.out.ev (by have := eb_ee htk.2 (s := vv) (by rw [htk.1]; exact HVl.out); omega) (ee_le htk.2 (by rw [htk.1]; exact HVl.out))).2.2
      have HTk : Hid ((tb S kk cc).1.length = sV kk ∧ TOk (tb S kk cc).1 (tb S kk cc).2) := htk
      have HSy : Hid (Calls Tryd.prog 35 #[.pointer (some ⟨x, 0, none⟩), .int .i64 kk, .int .i64 cc, .int .i64 vv] wA fun e w' => e = .returned (.tuple #[.int .i64 vv, .int .i64 0]) ∧ ∃ O', Wc w' w4.heap.size x O' (upd S true kk cc vv) true ((i : Int) + 1) (L2.ePut T g k (eb (tb S kk cc).1 vv) (ee (tb S kk cc).1 vv)).1 (L2.ePut T g k (eb (tb S kk cc).1 vv) (ee (tb S kk cc).1 vv)).2.1 (L2.ePut T g k (eb (tb S kk cc).1 vv) (ee (tb S kk cc).1 vv)).2.2 ∧ Trn O O' wA w' ∧ Below w4.heap.size wA w') := symbol_wc HCA.out (HSh.out _ (HUp.out _ HB4A.out)) (by have := HKb.out; omega) (by omega) (by omega) HK.out HC.out HVl.out
      generalize (L2.ePut T g k (eb (tb S kk cc).1 vv) (ee (tb S kk cc).1 vv)) = ep at *
      clear htk
      go_wp2_with fail
      refine HSy.out.mono ?_
      rintro e w8 ⟨rfl, O8, hc8, ht8, hb8⟩
      have HC8 : Hid (Wc w8 w4.heap.size x O8 (upd S true kk cc vv) true ((i : Int) + 1) ep.1 ep.2.1 ep.2.2) := hc8
      have HS8 : Hid (Hs w8 w4.heap.size bt B S) := HSA.out.ke ht8.ke (fun b hb e => HDr.out b e hb)
      have HD8 : Hid (∀ y, B y → ¬ O8 y) := fun y hy e => by
        rcases ht8.new y e with e2 | e2
        · exact HDr.out y hy e2
        · have := HSA.out.lt hy; omega
      have HVA : Hid (wv < wA.heap.size) := Nat.lt_of_lt_of_le HVr.out.2.2 HBA.out.size
      have HV8 : Hid (¬ O8 wv ∧ ¬ B wv ∧ wv < w8.heap.size) := ⟨fun e => by
        rcases ht8.new wv e with e2 | e2
        · exact HVr.out.1 e2
        · have := HVA.out; omega, HVr.out.2.1, Nat.lt_of_lt_of_le HVA.out hb8.size⟩
      have HG8 : Hid (w8.cell? ⟨wv, 0, none⟩ = some (.slice (some ⟨bt, 0, none⟩) 32 32)) := by
        show _ = _
        rw [ht8.ke.cell wv 0 HVA.out HVr.out.1, newCell HBA.out _ _ HVr.out.2.2]
        exact HGr.out
      have HB8 : Hid (Below w4.heap.size w4 w8) := HB4A.out.trans hb8
      clear hc8 ht8 hb8 HSy x2 x3 HCA HSA HB4A HBA HVA HCr HSr HDr HVr HGr HBr HM HKp
      obtain ⟨pb, tc, ta, hta⟩ := HS8.out.at HK.out HC.out
      have HTa : Hid (Ta w8 w4.heap.size bt B S kk cc pb tc ta) := hta
      have HAd : Hid (∀ v, Below w8.heap.size w8 v → Calls Tryd.prog 39 #[.agg #[.slice ta (sV kk) tc, .int .i64 (tb S kk cc).2], .int .i64 vv] v fun e w' => ∃ g4 c4, e = .returned (.tuple #[.agg #[.slice (some ⟨g4, 0, none⟩) (sV kk) c4, .int .i64 (adN (tb S kk cc).2)], .int .i64 0]) ∧ Sl w' .u16 (some ⟨g4, 0, none⟩) (L3.ad (tb S kk cc).1 (tb S kk cc).2 vv) ∧ v.heap.size ≤ g4 ∧ Below v.heap.size v w') := fun v hv => by
        have h := adapt_ok (c := tc) (hta.sl v hv) HTk.out.2 (s := vv) (by rw [HTk.out.1]; exact HVl.out)
        rw [HTk.out.1] at h
        refine h.mono ?_
        rintro e w' ⟨g4, c4, rfl, ho, hb⟩
        rw [ad_len, HTk.out.1] at ho ⊢
        exact ⟨g4, c4, rfl, by have := ho.sl; exact this, ho.lies.1, hb⟩
      have HAl : Hid ((L3.ad (tb S kk cc).1 (tb S kk cc).2 vv).length = sV kk ∧ TOk (L3.ad (tb S kk cc).1 (tb S kk cc).2 vv) (adN (tb S kk cc).2)) := ⟨by rw [ad_len]; exact HTk.out.1, ad_ok HTk.out.2 vv⟩
      have HUt : Hid (upd S true kk cc vv = S.set kk ((S.getD kk []).set cc (L3.ad (tb S kk cc).1 (tb S kk cc).2 vv, adN (tb S kk cc).2))) := upd_true S kk cc vv
      have HKp : Hid (∀ v, Below w8.heap.size w8 v → v.cell? ⟨wv, 0, none⟩ = some (.slice (some ⟨bt, 0, none⟩) 32 32) ∧ v.cell? ⟨xv, 2, none⟩ = some (.int .i64 kk) ∧ v.cell? ⟨xv, 3, none⟩ = some (.int .i64 cc) ∧ v.cell? ⟨bt, kk, none⟩ = some (.slice (some ⟨pb, 0, none⟩) (sC kk) (sC kk)) ∧ v.cell? ⟨pb, cc * 2, none⟩ = some (.slice ta (sV kk) tc) ∧ v.cell? ⟨pb, cc * 2 + 1, none⟩ = some (.int .i64 (tb S kk cc).2)) := fun v hv => by
        have h1 := HX4.out v (HB8.out.trans (hv.mono HB8.out.size))
        exact ⟨by rw [newCell hv _ _ HV8.out.2.2]; exact HG8.out, h1.1, h1.2, hta.top v hv, hta.c0 v hv, hta.c1 v hv⟩
      generalize (L3.ad (tb S kk cc).1 (tb S kk cc).2 vv) = C' at *
      generalize adN (tb S kk cc).2 = n' at *
      generalize (tb S kk cc).2 = tn at *
      clear hta
      have hbd : Below w8.heap.size w8 w8.drew := below_drew (Below.refl _ _)
      have k0 : (0 : Int) ≤ (kk : Int) := by omega
      have k1 : (kk : Int) < 32 := by have := HK.out; omega
      have k2 : (0 : Int) ≤ (cc : Int) := by omega
      have k3 : (cc : Int) < (sC kk : Int) := by have := HC.out; omega
      go_wp2_with fail
      go_region_held3 (fun v => v.cell? ⟨wv, 0, none⟩ = some (.slice (some ⟨bt, 0, none⟩) 32 32) ∧ v.cell? ⟨xv, 2, none⟩ = some (.int .i64 kk) ∧ v.cell? ⟨xv, 3, none⟩ = some (.int .i64 cc) ∧ v.cell? ⟨bt, kk, none⟩ = some (.slice (some ⟨pb, 0, none⟩) (sC kk) (sC kk)) ∧ v.cell? ⟨pb, cc * 2, none⟩ = some (.slice ta (sV kk) tc) ∧ v.cell? ⟨pb, cc * 2 + 1, none⟩ = some (.int .i64 tn))
        ((exact HKp.out _ (by (repeat (first | with_reducible assumption | with_reducible refine below_drew ?_ | with_reducible refine to_alloc ?_ _ | with_reducible refine below_set ?_ ?_ _ | exact Nat.le_refl _ | exact Below.size (by assumption) | with_reducible exact Below.refl _ _)))))
        ((go_at_call 39; refine (HAd.out _ (by (repeat (first | with_reducible assumption | with_reducible refine below_drew ?_ | with_reducible refine to_alloc ?_ _ | with_reducible refine below_set ?_ ?_ _ | exact Nat.le_refl _ | exact Below.size (by assumption) | with_reducible exact Below.refl _ _)))).mono ?_; rintro e wB ⟨g4, c4, rfl, hsB, hgB, hbB⟩; have hzB := below_to (w := w8) (by (repeat (first | with_reducible assumption | with_reducible refine below_drew ?_ | with_reducible refine to_alloc ?_ _ | with_reducible refine below_set ?_ ?_ _ | exact Nat.le_refl _ | exact Below.size (by assumption) | with_reducible exact Below.refl _ _))) hbB; have z0 := newCell hbB w8.heap.size 0; have z1 := newCell hbB w8.heap.size 1; have z2 := newFrozen hbB w8.heap.size 0; have z3 := newFrozen hbB w8.heap.size 1))
      · as_aux_lemma =>
        have HN : Hid (Nw w8 (wB.alloc (.cells #[.slice (some ⟨g4, 0, none⟩) (sV kk) c4, .int .i64 n'] 63)) wB.heap.size g4 c4 (sV kk) n' C') := Nw.callFirst (u := w8.drew) hbd hsB hgB hbB
        clear z0 z1 z2 z3 hbd hsB hgB hbB hzB
        generalize wB.alloc (.cells #[.slice (some ⟨g4, 0, none⟩) (sV kk) c4, .int .i64 n'] 63) = U at *
        generalize hx9 : wB.heap.size = x9 at HN ⊢
        clear hx9
        have HPu : Hid (∀ v, Below U.heap.size U v → ∃ B', Hs ((v.setCell ⟨pb, cc * 2, none⟩ (.slice (some ⟨g4, 0, none⟩) (sV kk) c4)).setCell ⟨pb, cc * 2 + 1, none⟩ (.int .i64 n')) w4.heap.size bt B' (upd S true kk cc vv) ∧ (∀ y, B' y → B y ∨ w8.heap.size ≤ y) ∧ Ke B v ((v.setCell ⟨pb, cc * 2, none⟩ (.slice (some ⟨g4, 0, none⟩) (sV kk) c4)).setCell ⟨pb, cc * 2 + 1, none⟩ (.int .i64 n'))) := fun v hv => by
          rw [HUt.out]
          exact HTa.out.put v g4 c4 C' n' (below_to HN.out.b hv) (HN.out.sl.to hv) HN.out.gl HAl.out.1 HAl.out.2
        have HPl : Hid (pb < w8.heap.size ∧ w4.heap.size ≤ pb ∧ wv ≠ pb ∧ bt < w8.heap.size) := ⟨HS8.out.lt HTa.out.own, HS8.out.ge HTa.out.own, fun e => HV8.out.2.1 (by rw [e]; exact HTa.out.own), HS8.out.lt HTa.out.ob⟩
        have HKq : Hid (∀ v, Ke (fun y => y = pb) U v → v.cell? ⟨wv, 0, none⟩ = some (.slice (some ⟨bt, 0, none⟩) 32 32) ∧ v.cell? ⟨xv, 2, none⟩ = some (.int .i64 kk) ∧ v.cell? ⟨xv, 3, none⟩ = some (.int .i64 cc) ∧ v.cell? ⟨bt, kk, none⟩ = some (.slice (some ⟨pb, 0, none⟩) (sC kk) (sC kk)) ∧ v.cell? ⟨x9, 0, none⟩ = some (.slice (some ⟨g4, 0, none⟩) (sV kk) c4) ∧ v.cell? ⟨x9, 1, none⟩ = some (.int .i64 n')) := fun v hv => by
          have hz := HN.out.b.size
          have hp := HPl.out
          have hx := HXl.out
          have hxU := HN.out.xl
          have h8 := HB8.out.size
          obtain ⟨q1, q2, q3, q4, _, _⟩ := HKp.out U HN.out.b
          have hne := HTa.out.ne
          rw [hv.cell wv 0 (by have := HV8.out.2.2; omega) (by omega), hv.cell xv 2 (by omega) (by omega), hv.cell xv 3 (by omega) (by omega), hv.cell bt kk (by omega) (by omega), hv.cell x9 0 hxU.2 (by omega), hv.cell x9 1 hxU.2 (by omega)]
          exact ⟨q1, q2, q3, q4, HN.out.c0, HN.out.c1⟩
        have HRel : Hid (∀ v, v = (U.drew.setCell ⟨pb, cc * 2, none⟩ (.slice (some ⟨g4, 0, none⟩) (sV kk) c4)).setCell ⟨pb, cc * 2 + 1, none⟩ (.int .i64 n') → LnI w4 w4.heap.size x bt wv L.length (.int .i64 ((i : Int) + 1)) v) := fun v hv => by
          subst hv
          obtain ⟨B', s1, s2, s3⟩ := HPu.out U.drew (below_drew (Below.refl _ _))
          have hb9 : Below w8.heap.size w8 U.drew := below_drew HN.out.b
          refine ⟨⟨i + 1, O8, B', _, _, _, _, by omega, by omega, by go_num, (HC8.out.to hb9).ke s3 HD8.out, by have := HPut.out; have := HKb.out; omega, s1, fun y hy e => ?_, ⟨HV8.out.1, fun e => ?_, Nat.lt_of_lt_of_le HV8.out.2.2 (Nat.le_trans hb9.size s3.size)⟩, ?_, ?_⟩⟩
          · rcases s2 y hy with e2 | e2
            · exact HD8.out y e2 e
            · have := HC8.out.lt e; omega
          · rcases s2 wv e with e2 | e2
            · exact HV8.out.2.1 e2
            · have := HV8.out.2.2; omega
          · rw [s3.cell wv 0 (Nat.lt_of_lt_of_le HV8.out.2.2 hb9.size) HV8.out.2.1, newCell hb9 _ _ HV8.out.2.2]; exact HG8.out
          · exact below_set (below_set (HB8.out.trans (hb9.mono HB8.out.size)) HPl.out.2.1 _) HPl.out.2.1 _
        have p0 : U.drew.cell? ⟨pb, cc * 2, none⟩ = some (.slice ta (sV kk) tc) := (HKp.out _ (below_drew HN.out.b)).2.2.2.2.1
        have p1 : U.drew.cell? ⟨pb, cc * 2 + 1, none⟩ = some (.int .i64 tn) := (HKp.out _ (below_drew HN.out.b)).2.2.2.2.2
        have p2 : U.drew.frozen? ⟨pb, cc * 2, none⟩ = false := HTa.out.th _ _ (below_drew HN.out.b)
        have p3 : U.drew.frozen? ⟨pb, cc * 2 + 1, none⟩ = false := HTa.out.th _ _ (below_drew HN.out.b)
        have p4 : U.cell? ⟨pb, cc * 2, none⟩ = some (.slice ta (sV kk) tc) := (HKp.out _ HN.out.b).2.2.2.2.1
        have p5 : U.cell? ⟨pb, cc * 2 + 1, none⟩ = some (.int .i64 tn) := (HKp.out _ HN.out.b).2.2.2.2.2
        have p6 : U.frozen? ⟨pb, cc * 2, none⟩ = false := HTa.out.th _ _ HN.out.b
        have p7 : U.frozen? ⟨pb, cc * 2 + 1, none⟩ = false := HTa.out.th _ _ HN.out.b
        have HI : Hid (i < 60) := hlt2
        go_wp2_with fail
        go_region_held3 (fun v => v.cell? ⟨wv, 0, none⟩ = some (.slice (some ⟨bt, 0, none⟩) 32 32) ∧ v.cell? ⟨xv, 2, none⟩ = some (.int .i64 kk) ∧ v.cell? ⟨xv, 3, none⟩ = some (.int .i64 cc) ∧ v.cell? ⟨bt, kk, none⟩ = some (.slice (some ⟨pb, 0, none⟩) (sC kk) (sC kk)) ∧ v.cell? ⟨x9, 0, none⟩ = some (.slice (some ⟨g4, 0, none⟩) (sV kk) c4) ∧ v.cell? ⟨x9, 1, none⟩ = some (.int .i64 n'))
          ((exact HKq.out _ (by first | exact ke_drew _ _ | exact ke_two _ _ _ _ _ _)))
          ((fail))
        all_goals
          go_wp2_with fail
          go_roundw
          case rel => exact HRel.out _ rfl
          case measure => simp [intOf]; omega
      · as_aux_lemma =>
        have HN : Hid (Nw w8 (((wB.setCell ⟨w8.heap.size, 0, none⟩ (.slice (some ⟨g4, 0, none⟩) (sV kk) c4)).setCell ⟨w8.heap.size, 1, none⟩ (.int .i64 n'))) w8.heap.size g4 c4 (sV kk) n' C') := Nw.varFirst hsB hgB hbB
        clear z0 z1 z2 z3 hbd hsB hgB hbB hzB
        generalize ((wB.setCell ⟨w8.heap.size, 0, none⟩ (.slice (some ⟨g4, 0, none⟩) (sV kk) c4)).setCell ⟨w8.heap.size, 1, none⟩ (.int .i64 n')) = U at *
        generalize hx9 : w8.heap.size = x9 at HN ⊢
        clear hx9
        have HPu : Hid (∀ v, Below U.heap.size U v → ∃ B', Hs ((v.setCell ⟨pb, cc * 2, none⟩ (.slice (some ⟨g4, 0, none⟩) (sV kk) c4)).setCell ⟨pb, cc * 2 + 1, none⟩ (.int .i64 n')) w4.heap.size bt B' (upd S true kk cc vv) ∧ (∀ y, B' y → B y ∨ w8.heap.size ≤ y) ∧ Ke B v ((v.setCell ⟨pb, cc * 2, none⟩ (.slice (some ⟨g4, 0, none⟩) (sV kk) c4)).setCell ⟨pb, cc * 2 + 1, none⟩ (.int .i64 n'))) := fun v hv => by
          rw [HUt.out]
          exact HTa.out.put v g4 c4 C' n' (below_to HN.out.b hv) (HN.out.sl.to hv) HN.out.gl HAl.out.1 HAl.out.2
        have HPl : Hid (pb < w8.heap.size ∧ w4.heap.size ≤ pb ∧ wv ≠ pb ∧ bt < w8.heap.size) := ⟨HS8.out.lt HTa.out.own, HS8.out.ge HTa.out.own, fun e => HV8.out.2.1 (by rw [e]; exact HTa.out.own), HS8.out.lt HTa.out.ob⟩
        have HKq : Hid (∀ v, Ke (fun y => y = pb) U v → v.cell? ⟨wv, 0, none⟩ = some (.slice (some ⟨bt, 0, none⟩) 32 32) ∧ v.cell? ⟨xv, 2, none⟩ = some (.int .i64 kk) ∧ v.cell? ⟨xv, 3, none⟩ = some (.int .i64 cc) ∧ v.cell? ⟨bt, kk, none⟩ = some (.slice (some ⟨pb, 0, none⟩) (sC kk) (sC kk)) ∧ v.cell? ⟨x9, 0, none⟩ = some (.slice (some ⟨g4, 0, none⟩) (sV kk) c4) ∧ v.cell? ⟨x9, 1, none⟩ = some (.int .i64 n')) := fun v hv => by
          have hz := HN.out.b.size
          have hp := HPl.out
          have hx := HXl.out
          have hxU := HN.out.xl
          have h8 := HB8.out.size
          obtain ⟨q1, q2, q3, q4, _, _⟩ := HKp.out U HN.out.b
          have hne := HTa.out.ne
          rw [hv.cell wv 0 (by have := HV8.out.2.2; omega) (by omega), hv.cell xv 2 (by omega) (by omega), hv.cell xv 3 (by omega) (by omega), hv.cell bt kk (by omega) (by omega), hv.cell x9 0 hxU.2 (by omega), hv.cell x9 1 hxU.2 (by omega)]
          exact ⟨q1, q2, q3, q4, HN.out.c0, HN.out.c1⟩
        have HRel : Hid (∀ v, v = (U.drew.setCell ⟨pb, cc * 2, none⟩ (.slice (some ⟨g4, 0, none⟩) (sV kk) c4)).setCell ⟨pb, cc * 2 + 1, none⟩ (.int .i64 n') → LnI w4 w4.heap.size x bt wv L.length (.int .i64 ((i : Int) + 1)) v) := fun v hv => by
          subst hv
          obtain ⟨B', s1, s2, s3⟩ := HPu.out U.drew (below_drew (Below.refl _ _))
          have hb9 : Below w8.heap.size w8 U.drew := below_drew HN.out.b
          refine ⟨⟨i + 1, O8, B', _, _, _, _, by omega, by omega, by go_num, (HC8.out.to hb9).ke s3 HD8.out, by have := HPut.out; have := HKb.out; omega, s1, fun y hy e => ?_, ⟨HV8.out.1, fun e => ?_, Nat.lt_of_lt_of_le HV8.out.2.2 (Nat.le_trans hb9.size s3.size)⟩, ?_, ?_⟩⟩
          · rcases s2 y hy with e2 | e2
            · exact HD8.out y e2 e
            · have := HC8.out.lt e; omega
          · rcases s2 wv e with e2 | e2
            · exact HV8.out.2.1 e2
            · have := HV8.out.2.2; omega
          · rw [s3.cell wv 0 (Nat.lt_of_lt_of_le HV8.out.2.2 hb9.size) HV8.out.2.1, newCell hb9 _ _ HV8.out.2.2]; exact HG8.out
          · exact below_set (below_set (HB8.out.trans (hb9.mono HB8.out.size)) HPl.out.2.1 _) HPl.out.2.1 _
        have p0 : U.drew.cell? ⟨pb, cc * 2, none⟩ = some (.slice ta (sV kk) tc) := (HKp.out _ (below_drew HN.out.b)).2.2.2.2.1
        have p1 : U.drew.cell? ⟨pb, cc * 2 + 1, none⟩ = some (.int .i64 tn) := (HKp.out _ (below_drew HN.out.b)).2.2.2.2.2
        have p2 : U.drew.frozen? ⟨pb, cc * 2, none⟩ = false := HTa.out.th _ _ (below_drew HN.out.b)
        have p3 : U.drew.frozen? ⟨pb, cc * 2 + 1, none⟩ = false := HTa.out.th _ _ (below_drew HN.out.b)
        have p4 : U.cell? ⟨pb, cc * 2, none⟩ = some (.slice ta (sV kk) tc) := (HKp.out _ HN.out.b).2.2.2.2.1
        have p5 : U.cell? ⟨pb, cc * 2 + 1, none⟩ = some (.int .i64 tn) := (HKp.out _ HN.out.b).2.2.2.2.2
        have p6 : U.frozen? ⟨pb, cc * 2, none⟩ = false := HTa.out.th _ _ HN.out.b
        have p7 : U.frozen? ⟨pb, cc * 2 + 1, none⟩ = false := HTa.out.th _ _ HN.out.b
        have HI : Hid (i < 60) := hlt2
        go_wp2_with fail
        go_region_held3 (fun v => v.cell? ⟨wv, 0, none⟩ = some (.slice (some ⟨bt, 0, none⟩) 32 32) ∧ v.cell? ⟨xv, 2, none⟩ = some (.int .i64 kk) ∧ v.cell? ⟨xv, 3, none⟩ = some (.int .i64 cc) ∧ v.cell? ⟨bt, kk, none⟩ = some (.slice (some ⟨pb, 0, none⟩) (sC kk) (sC kk)) ∧ v.cell? ⟨x9, 0, none⟩ = some (.slice (some ⟨g4, 0, none⟩) (sV kk) c4) ∧ v.cell? ⟨x9, 1, none⟩ = some (.int .i64 n'))
          ((exact HKq.out _ (by first | exact ke_drew _ _ | exact ke_two _ _ _ _ _ _)))
          ((fail))
        all_goals
          go_wp2_with fail
          go_roundw
          case rel => exact HRel.out _ rfl
          case measure => simp [intOf]; omega
    · have HF : Hid (∀ u, Below wr.heap.size wr u → Below W.heap.size W u) := fun u hu => HUp.out _ (HBr.out.trans (hu.mono HBr.out.size))
      have HE : Hid (Calls Tryd.prog 16 #[.pointer (some ⟨x, 0, none⟩)] wr fun e w' => ∃ bt B, e = .returned (.tuple #[.agg #[.slice (some ⟨bt, 0, none⟩) 32 32], .int .i64 0]) ∧ Hs w' wr.heap.size bt B S ∧ Below wr.heap.size wr w') := set_wc HCr.out (HSh.out _ (HUp.out _ HBr.out))
      by_cases h1 : i < L.length
      · have i1 : (i : Int) < (L.length : Int) := by omega
        have i2 : ¬ (i : Int) < 60 := by omega
        go_wp2_with fail
        refine HE.out.mono ?_
        rintro e w8 ⟨bt8, B8, rfl, hs8, hb8⟩
        have HB9 : Hid (Below wr.heap.size wr (w8.alloc (.cells #[.slice (some ⟨bt8, 0, none⟩) 32 32] 25))) := to_alloc hb8 _
        have HCk : Hid (Calls Tryd.prog 36 #[.agg #[.slice (some ⟨bt8, 0, none⟩) 32 32], .agg #[.slice (some ⟨bt, 0, none⟩) 32 32]] (w8.alloc (.cells #[.slice (some ⟨bt8, 0, none⟩) 32 32] 25)) fun e w' => e = .returned (.bool true) ∧ Below (w8.alloc (.cells #[.slice (some ⟨bt8, 0, none⟩) 32 32] 25)).heap.size (w8.alloc (.cells #[.slice (some ⟨bt8, 0, none⟩) 32 32] 25)) w') := same_hs (hs8.to (from_alloc _ _)) (HSr.out.to HB9.out)
        have g9 : (w8.alloc (.cells #[.slice (some ⟨bt8, 0, none⟩) 32 32] 25)).cell? ⟨wv, 0, none⟩ = some (.slice (some ⟨bt, 0, none⟩) 32 32) := by rw [newCell HB9.out _ _ HVr.out.2.2]; exact HGr.out
        clear hs8 hb8 HE
        go_wp2_with fail
        refine HCk.out.mono ?_
        rintro e w10 ⟨rfl, hb10⟩
        have HB10 : Hid (Below wr.heap.size wr w10) := below_to HB9.out hb10
        clear hb10 HB9 HCk g9
        go_wp2_with fail
        exact bodyPost_ret (v := .bool true) (by simp [results, Tryd.results8, go_sem]) rfl ⟨rfl, HF.out _ HB10.out⟩
      · have i1 : ¬ (i : Int) < (L.length : Int) := by omega
        go_wp2_with fail
        refine HE.out.mono ?_
        rintro e w8 ⟨bt8, B8, rfl, hs8, hb8⟩
        have HB9 : Hid (Below wr.heap.size wr (w8.alloc (.cells #[.slice (some ⟨bt8, 0, none⟩) 32 32] 25))) := to_alloc hb8 _
        have HCk : Hid (Calls Tryd.prog 36 #[.agg #[.slice (some ⟨bt8, 0, none⟩) 32 32], .agg #[.slice (some ⟨bt, 0, none⟩) 32 32]] (w8.alloc (.cells #[.slice (some ⟨bt8, 0, none⟩) 32 32] 25)) fun e w' => e = .returned (.bool true) ∧ Below (w8.alloc (.cells #[.slice (some ⟨bt8, 0, none⟩) 32 32] 25)).heap.size (w8.alloc (.cells #[.slice (some ⟨bt8, 0, none⟩) 32 32] 25)) w') := same_hs (hs8.to (from_alloc _ _)) (HSr.out.to HB9.out)
        have g9 : (w8.alloc (.cells #[.slice (some ⟨bt8, 0, none⟩) 32 32] 25)).cell? ⟨wv, 0, none⟩ = some (.slice (some ⟨bt, 0, none⟩) 32 32) := by rw [newCell HB9.out _ _ HVr.out.2.2]; exact HGr.out
        clear hs8 hb8 HE
        go_wp2_with fail
        refine HCk.out.mono ?_
        rintro e w10 ⟨rfl, hb10⟩
        have HB10 : Hid (Below wr.heap.size wr w10) := below_to HB9.out hb10
        clear hb10 HB9 HCk g9
        go_wp2_with fail
        exact bodyPost_ret (v := .bool true) (by simp [results, Tryd.results8, go_sem]) rfl ⟨rfl, HF.out _ HB10.out⟩
end Go.Proofs.YtppanogpeengnaaDoor
