/- DERIVED. The walk of the statement RacKnown: the chapter's examples, carries over many bytes, coders that are none. -/
import Derived.Test.YtogaekjohnbbiabDoorLwC
namespace Go.Proofs.YtogaekjohnbbiabDoor
open Go.RowKit

/-- a coder that is none: nil, or zero -/
def Nix (w : World) (v : Value) : Prop := v = .pointer none ∨ ∃ x, v = .pointer (some ⟨x, 0, none⟩) ∧ w.cell? ⟨x, 2, none⟩ = some (.int .u32 0)
theorem Nix.below {w w' : World} {v : Value} (h : Nix w v) (hb : Below w.heap.size w w') : Nix w' v := by
  rcases h with h | ⟨x, h, hc⟩
  · exact Or.inl h
  · exact Or.inr ⟨x, h, by rw [hb.cell (p := ⟨x, 2, none⟩) (World.block_lt_of_cell? w _ hc)]; exact hc⟩
set_option maxHeartbeats 400000 in
theorem enone_nix {w : World} {v : Value} (h : Nix w v) : Calls Tryd.prog 11 #[v] w fun e w' => e = .returned (.bool true) ∧ w' = w := by
  rcases h with rfl | ⟨x, rfl, hc⟩
  · go_enter Tryd.func11, Tryd.ntmps11
    go_wp2
    go_ret
    exact ⟨rfl, rfl⟩
  · go_enter Tryd.func11, Tryd.ntmps11
    go_wp2
    go_ret
    exact ⟨rfl, rfl⟩
set_option maxHeartbeats 400000 in
theorem dnone_nix {w : World} {v : Value} (h : Nix w v) : Calls Tryd.prog 17 #[v] w fun e w' => e = .returned (.bool true) ∧ w' = w := by
  rcases h with rfl | ⟨x, rfl, hc⟩
  · go_enter Tryd.func17, Tryd.ntmps17
    go_wp2
    go_ret
    exact ⟨rfl, rfl⟩
  · go_enter Tryd.func17, Tryd.ntmps17
    go_wp2
    go_ret
    exact ⟨rfl, rfl⟩
set_option maxHeartbeats 400000 in
theorem put_nix {w : World} {v : Value} (h : Nix w v) (lo hi : Nat) : Calls Tryd.prog 5 #[v, .int .u32 lo, .int .u32 hi] w fun e w' => e = .returned (.int .i64 1) ∧ w' = w := by
  go_enter Tryd.func5, Tryd.ntmps5
  go_wp2_with fail
  refine (enone_nix h).mono ?_; rintro e w1 ⟨rfl, rfl⟩
  go_wp2_with fail
  go_ret
  exact ⟨rfl, rfl⟩
set_option maxHeartbeats 400000 in
theorem bytes_nix {w : World} {v : Value} (h : Nix w v) : Calls Tryd.prog 6 #[v] w fun e w' => e = .returned (.slice none 0 0) ∧ w' = w := by
  go_enter Tryd.func6, Tryd.ntmps6
  go_wp2_with fail
  refine (enone_nix h).mono ?_; rintro e w1 ⟨rfl, rfl⟩
  go_wp2_with fail
  go_ret
  exact ⟨rfl, rfl⟩
set_option maxHeartbeats 400000 in
theorem value_nix {w : World} {v : Value} (h : Nix w v) : Calls Tryd.prog 8 #[v] w fun e w' => e = .returned (.tuple #[.int .u32 0, .int .i64 1]) ∧ w' = w := by
  go_enter Tryd.func8, Tryd.ntmps8
  go_wp2_with fail
  refine (dnone_nix h).mono ?_; rintro e w1 ⟨rfl, rfl⟩
  go_wp2_with fail
  go_ret2
  exact ⟨rfl, rfl⟩
set_option maxHeartbeats 400000 in
theorem take_nix {w : World} {v : Value} (h : Nix w v) (lo hi : Nat) : Calls Tryd.prog 9 #[v, .int .u32 lo, .int .u32 hi] w fun e w' => e = .returned (.int .i64 1) ∧ w' = w := by
  go_enter Tryd.func9, Tryd.ntmps9
  go_wp2_with fail
  refine (dnone_nix h).mono ?_; rintro e w1 ⟨rfl, rfl⟩
  go_wp2_with fail
  go_ret
  exact ⟨rfl, rfl⟩

/-- the greatest part, put again and again -/
def nin : Nat → Nat × Nat × Nat
  | 0 => (0, 4294967295, 0)
  | i + 1 => ePut (nin i).1 (nin i).2.1 (nin i).2.2 32767 32768
theorem nin_ok : ∀ i, Ev (nin i).1 (nin i).2.1 (nin i).2.2 ∧ (nin i).2.2 ≤ 2 * i := by
  intro i
  induction i with
  | zero => exact ⟨Ev.first, Nat.le_refl _⟩
  | succ i ih =>
    have h := ePut_ok (lo := 32767) (hi := 32768) ih.1 (by omega) (by omega)
    rw [nin]
    exact ⟨h.1, by have := ih.2; omega⟩
theorem nin_nine : nin 9 = (5708990769494611528448228004894173482029416448, 3221225472, 15) := by decide +kernel
theorem rep_byt (n : Nat) : ∀ y ∈ List.replicate n 255, y < 256 := by
  intro y hy
  rw [List.eq_of_mem_replicate hy]
  omega

def Kn1 (w0 : World) (x b : Nat) (zs : List Nat) (i : Value) (wr : World) : Prop :=
  ∃ (k q c g : Nat), i = .int .i64 k ∧ k ≤ 40 ∧ Dc wr x b zs q c g ∧ Dk c g ∧ Below w0.heap.size w0 wr
def Kn2 (w0 : World) (x : Nat) (i : Value) (wr : World) : Prop :=
  ∃ (k : Nat) (d : Value), i = .int .i64 k ∧ k ≤ 9 ∧ EnS wr w0.heap.size x d (nin k).1 (nin k).2.1 (nin k).2.2 ∧ Below w0.heap.size w0 wr
def Kn3 (w0 : World) (x : Nat) (d : Value) (v1 v2 ok i : Value) (wr : World) : Prop :=
  ∃ k : Nat, i = .int .i64 k ∧ k ≤ 2 ∧ ok = .bool true ∧ Nix wr v1 ∧ Nix wr v2 ∧ EnS wr w0.heap.size x d (nin 9).1 (nin 9).2.1 (nin 9).2.2 ∧ Below w0.heap.size w0 wr

theorem enLow {w : World} {B B' x : Nat} {d : Value} {T g k : Nat} (h : EnS w B x d T g k) (hb : B' ≤ B) : EnS w B' x d T g k := by
  obtain ⟨ys, low, h1, h2⟩ := h
  exact ⟨ys, low, ⟨h1.data, own_mono h1.own hb, h1.apart, h1.low, h1.rng, h1.thaw0, h1.thaw1, h1.thaw2, ⟨Nat.le_trans hb h1.lies.1, h1.lies.2⟩, h1.byt⟩, h2⟩

set_option maxRecDepth 100000 in
set_option maxHeartbeats 4000000 in
theorem known_walk (W : World) : Calls Tryd.prog 3 #[] W fun e w' => e = .returned (.bool true) ∧ Below W.heap.size W w' := by
  go_enter Tryd.func3, Tryd.ntmps3
  go_wp2_with fail
  refine (new_ens W).mono ?_; rintro e u1 ⟨rfl, h1, hb1⟩
  have HB1 : Hid (Below W.heap.size W u1) := hb1
  clear hb1
  go_wp2_with fail
  refine (put_no h1.rng (by omega) 5 5 (by omega)).mono ?_; rintro e u ⟨rfl, rfl⟩
  go_wp2_with fail
  refine (put_no h1.rng (by omega) 6 5 (by omega)).mono ?_; rintro e u ⟨rfl, rfl⟩
  go_wp2_with fail
  refine (put_no h1.rng (by omega) 0 32769 (by omega)).mono ?_; rintro e u ⟨rfl, rfl⟩
  go_wp2_with fail
  refine (bytes_ens h1 Ev.first (by omega)).mono ?_; rintro e u2 ⟨v2, rfl, b2, zs2, hby2, _, hbel2⟩
  obtain rfl := hby2.eq [] (by decide) (by decide) (by decide) (by decide)
  obtain ⟨c2, rfl, _⟩ := hby2.form
  have h2 := h1.below hbel2
  have HB2 : Hid (Below W.heap.size W u2) := HB1.out.trans (hbel2.mono HB1.out.size)
  clear h1 HB1 hby2 hbel2
  simp only [List.length_nil]
  go_wp2_with fail
  have c3 := put_yes h2 Ev.first (by omega) 0 16384 (by omega) (by omega)
  have ev3 := (ePut_ok Ev.first (lo := 0) (hi := 16384) (by omega) (by omega)).1
  rw [show ePut 0 4294967295 0 0 16384 = (0, 2147467264, 0) from by decide +kernel] at c3 ev3
  refine c3.mono ?_; rintro e u3 ⟨rfl, d3, h3, hk3⟩
  have HB3 : Hid (Below W.heap.size W u3) := HB2.out.trans (h2.kwBelow hk3)
  clear c3 hk3 HB2 h2
  go_wp2_with fail
  refine (bytes_ens h3 ev3 (by omega)).mono ?_; rintro e u4 ⟨v4, rfl, b4, zs4, hby4, _, hbel4⟩
  obtain rfl := hby4.eq [] (by decide) (by decide) (by decide) (by decide)
  obtain ⟨c4, rfl, _⟩ := hby4.form
  have h4 := h3.below hbel4
  have HB4 : Hid (Below W.heap.size W u4) := HB3.out.trans (hbel4.mono HB3.out.size)
  clear h3 HB3 hby4 hbel4
  simp only [List.length_nil]
  go_wp2_with fail
  refine (put_yes h4 ev3 (by omega) 32767 32768 (by omega) (by omega)).mono ?_; rintro e u5 ⟨rfl, d5, h5, hk5⟩
  have HB5 : Hid (Below W.heap.size W u5) := HB4.out.trans (h4.kwBelow hk5)
  clear hk5 HB4 h4 h5
  go_wp2_with fail
  refine (read_any (w := u5) (zs := []) (Or.inl ⟨rfl, rfl⟩) (by simp) (by simp)).mono ?_; rintro e u6 ⟨x6, rfl, b6, hd6, hx6, _, hbel6⟩
  have HB6 : Hid (Below W.heap.size W u6) := HB5.out.trans (hbel6.mono HB5.out.size)
  have hx6' : W.heap.size ≤ x6 := Nat.le_trans HB5.out.size hx6
  clear hbel6 HB5 hx6
  rw [show dFirst [] = 0 from by decide +kernel] at hd6
  have k6 : Dk 0 4294967295 := ⟨by omega, by omega, by omega⟩
  go_wp2_with fail
  have c7 := value_dc hd6 k6
  rw [show dVal 0 4294967295 = 0 from by decide +kernel] at c7
  refine c7.mono ?_; rintro e u7 ⟨rfl, n7, rfl⟩
  have hd7 := hd6.same (w' := u6.drewN n7) rfl
  have HB7 : Hid (Below W.heap.size W (u6.drewN n7)) := below_drewN HB6.out n7
  clear c7 hd6 HB6
  generalize u6.drewN n7 = u7 at *
  go_wp2_with fail
  refine (take_no hd7 k6 1 2 (by decide +kernel)).mono ?_; rintro e u8 ⟨rfl, n8, rfl⟩
  have hd8 := hd7.same (w' := u7.drewN n8) rfl
  have HB8 : Hid (Below W.heap.size W (u7.drewN n8)) := below_drewN HB7.out n8
  clear hd7 HB7
  generalize u7.drewN n8 = u8 at *
  go_wp2_with fail
  have c9 := take_yes hd8 k6 0 1 (by decide +kernel)
  rw [show dTake [] 0 4294967295 4 0 1 = (0, 33554176, 5) from by decide +kernel] at c9
  refine c9.mono ?_; rintro e u9 ⟨rfl, hd9, hk9⟩
  have HB9 : Hid (Below W.heap.size W u9) := HB8.out.trans (hk9.toBelow hx6')
  clear c9 hk9 HB8 hd8 k6
  have k9 : Dk 0 33554176 := ⟨by omega, by omega, by omega⟩
  go_wp2_with fail
  have c10 := value_dc hd9 k9
  rw [show dVal 0 33554176 = 0 from by decide +kernel] at c10
  refine c10.mono ?_; rintro e u10 ⟨rfl, n10, rfl⟩
  have HB10 : Hid (Below W.heap.size W (u9.drewN n10)) := below_drewN HB9.out n10
  clear c10 hd9 HB9 k9
  generalize u9.drewN n10 = u10 at *
  go_wp2_with fail
  have hb11 : Below u10.heap.size u10 (u10.alloc (.cells #[.int .u8 255, .int .u8 255, .int .u8 255, .int .u8 255] 5)) := (Below.refl _ _).alloc (Nat.le_refl _) _
  have hlit : (u10.alloc (.cells #[.int .u8 255, .int .u8 255, .int .u8 255, .int .u8 255] 5)).ownsRow 0 5 1 (.slice (some ⟨u10.heap.size, 0, none⟩) ([255, 255, 255, 255] : List Nat).length 4) ([255, 255, 255, 255] : List Nat).length (bs [255, 255, 255, 255]) := World.ownsRow_lit u10 #[.int .u8 255, .int .u8 255, .int .u8 255, .int .u8 255] 4 (Nat.zero_le _) (by decide) (by decide)
  have HB11 : Hid (Below W.heap.size W (u10.alloc (.cells #[.int .u8 255, .int .u8 255, .int .u8 255, .int .u8 255] 5))) := HB10.out.trans (hb11.mono HB10.out.size)
  refine (read_any (SrcOf.ofOwn hlit) (byt_mem (by decide)) (by decide)).mono ?_; rintro e u12 ⟨x12, rfl, b12, hd12, hx12, _, hbel12⟩
  have HB12 : Hid (Below W.heap.size W u12) := HB11.out.trans (hbel12.mono HB11.out.size)
  have hx12' : W.heap.size ≤ x12 := Nat.le_trans HB11.out.size hx12
  clear hbel12 HB11 hx12 hlit hb11 HB10
  rw [show dFirst [255, 255, 255, 255] = 4294967294 from by decide +kernel] at hd12
  have k12 : Dk 4294967294 4294967295 := ⟨by omega, by omega, by omega⟩
  go_wp2_with fail
  have c13 := value_dc hd12 k12
  rw [show dVal 4294967294 4294967295 = 32767 from by decide +kernel] at c13
  refine c13.mono ?_; rintro e u13 ⟨rfl, n13, rfl⟩
  have hd13 := hd12.same (w' := u12.drewN n13) rfl
  have HB13 : Hid (Below W.heap.size W (u12.drewN n13)) := below_drewN HB12.out n13
  clear c13 hd12 HB12
  generalize u12.drewN n13 = u13 at *
  go_wp2_with fail
  have c14 := take_yes hd13 k12 32767 32768 (by decide +kernel)
  rw [show dTake [255, 255, 255, 255] 4294967294 4294967295 4 32767 32768 = (41942272, 41942528, 5) from by decide +kernel] at c14
  refine c14.mono ?_; rintro e u14 ⟨rfl, hd14, hk14⟩
  have HB14 : Hid (Below W.heap.size W u14) := HB13.out.trans (hk14.toBelow hx12')
  clear c14 hk14 HB13 hd13 k12
  have k14 : Dk 41942272 41942528 := ⟨by omega, by omega, by omega⟩
  go_wp2_with fail
  have c15 := value_dc hd14 k14
  rw [show dVal 41942272 41942528 = 32767 from by decide +kernel] at c15
  refine c15.mono ?_; rintro e u15 ⟨rfl, n15, rfl⟩
  have HB15 : Hid (Below W.heap.size W (u14.drewN n15)) := below_drewN HB14.out n15
  clear c15 hd14 HB14 k14
  generalize u14.drewN n15 = u15 at *
  go_wp2_with fail
  have hlit16 : (u15.alloc (.cells #[.int .u8 255, .int .u8 255, .int .u8 255, .int .u8 255, .int .u8 255, .int .u8 255, .int .u8 255, .int .u8 255, .int .u8 255, .int .u8 255, .int .u8 255, .int .u8 255, .int .u8 255, .int .u8 255, .int .u8 255, .int .u8 255] 5)).ownsRow 0 5 1 (.slice (some ⟨u15.heap.size, 0, none⟩) (List.replicate 16 255 : List Nat).length 16) (List.replicate 16 255 : List Nat).length (bs (List.replicate 16 255)) := World.ownsRow_lit u15 #[.int .u8 255, .int .u8 255, .int .u8 255, .int .u8 255, .int .u8 255, .int .u8 255, .int .u8 255, .int .u8 255, .int .u8 255, .int .u8 255, .int .u8 255, .int .u8 255, .int .u8 255, .int .u8 255, .int .u8 255, .int .u8 255] 16 (Nat.zero_le _) (by decide) (by decide)
  have HB16 : Hid (Below W.heap.size W (u15.alloc (.cells #[.int .u8 255, .int .u8 255, .int .u8 255, .int .u8 255, .int .u8 255, .int .u8 255, .int .u8 255, .int .u8 255, .int .u8 255, .int .u8 255, .int .u8 255, .int .u8 255, .int .u8 255, .int .u8 255, .int .u8 255, .int .u8 255] 5))) := HB15.out.alloc HB15.out.size _
  refine (read_any (SrcOf.ofOwn hlit16) (byt_mem (rep_byt 16)) (by decide)).mono ?_; rintro e u17 ⟨x17, rfl, b17, hd17, hx17, _, hbel17⟩
  have HB17 : Hid (Below W.heap.size W u17) := HB16.out.trans (hbel17.mono HB16.out.size)
  have hx17' : W.heap.size ≤ x17 := Nat.le_trans HB16.out.size hx17
  clear hbel17 HB16 hx17 hlit16 HB15
  go_wp2_with fail
  go_loopw [19] (fun i wr => Kn1 W x17 b17 (List.replicate 16 255) i wr) (fun i _ => 40 - (intOf i).toNat)
  case atStart => exact ⟨0, _, _, _, rfl, by omega, hd17, dFirst_ok, HB17.out⟩
  case round =>
    clear hd17 HB17
    obtain ⟨k, q, c, g, rfl, hk, hd, hdk, hbW⟩ := hrel
    have HB : Hid (Below W.heap.size W wr) := hbW
    clear hbW
    by_cases hlt : k < 40
    · have HVA : Hid (∀ u, Dc u x17 b17 (List.replicate 16 255) q c g → Calls Tryd.prog 8 #[.pointer (some ⟨x17, 0, none⟩)] u fun e w' => e = .returned (.tuple #[.int .u32 (dVal c g : Nat), .int .i64 0]) ∧ ∃ k, w' = u.drewN k) := fun u h => value_dc h hdk
      have HTA : Hid (∀ u, Dc u x17 b17 (List.replicate 16 255) q c g → Calls Tryd.prog 9 #[.pointer (some ⟨x17, 0, none⟩), .int .u32 (dVal c g : Nat), .int .u32 32768] u fun e w' => e = .returned (.int .i64 0) ∧ ∃ q' c' g', Dc w' x17 b17 (List.replicate 16 255) q' c' g' ∧ Dk c' g' ∧ Kp x17 u w') := fun u h => by
        have hm : dMay c g (dVal c g) 32768 := ⟨Nat.le_refl _, dVal_lt c g, Nat.le_refl _⟩
        have ho := dTake_ok (q := q) h.byt hm hdk.below hdk.least hdk.most
        exact (take_yes h hdk (dVal c g) 32768 hm).mono fun e w' ⟨h1, h2, h3⟩ => ⟨h1, _, _, _, h2, ⟨ho.1, ho.2.1, ho.2.2.1⟩, h3⟩
      have hv' : ¬ ((32767 : Int) < (dVal c g : Nat)) := by have := dVal_lt c g; omega
      generalize dVal c g = v at *
      have HV : Hid _ := hv'
      clear hv' hdk
      go_wp2_with fail
      refine (HVA.out _ hd).mono ?_; rintro e w1 ⟨rfl, n1, rfl⟩
      have hd1 := hd.same (w' := wr.drewN n1) rfl
      have HB1 : Hid (Below W.heap.size W (wr.drewN n1)) := below_drewN HB.out n1
      clear hd HB
      generalize wr.drewN n1 = w1 at *
      have hv' : ¬ ((32767 : Int) < (v : Int)) := HV.out
      go_wp2_with fail
      all_goals (try (exfalso; omega))
      refine (HTA.out _ hd1).mono ?_; rintro e w2 ⟨rfl, q', c', g', hd2, hdk2, hk2⟩
      have HB2 : Hid (Below W.heap.size W w2) := HB1.out.trans (hk2.toBelow hx17')
      clear hd1 HB1 hk2
      go_wp2_with fail
      all_goals (try (exfalso; have := HV.out; omega))
      go_roundw
      case rel => exact ⟨k + 1, q', c', g', by go_num, by omega, hd2, hdk2, HB2.out⟩
      case measure => simp [intOf]; omega
    · clear hd hdk
      go_wp2_with fail
      refine (new_ens wr).mono ?_; rintro e u18 ⟨rfl, h18, hb18⟩
      have HB18 : Hid (Below W.heap.size W u18) := HB.out.trans (hb18.mono HB.out.size)
      have h18' := enLow h18 HB.out.size
      clear hb18 HB h18
      generalize wr.heap.size = xx at *
      go_wp2_with fail
      go_loopw [23] (fun i wr => Kn2 W xx i wr) (fun i _ => 9 - (intOf i).toNat)
      case atStart => exact ⟨0, _, rfl, by omega, h18', HB18.out⟩
      case round =>
        clear h18' HB18
        obtain ⟨k, d, rfl, hk9, hE, hbW⟩ := hrel
        have HB : Hid (Below W.heap.size W _) := hbW
        have HOK : Hid _ := nin_ok k
        clear hbW
        by_cases hlt9 : k < 9
        · go_wp2_with fail
          refine (put_yes hE HOK.out.1 (by have := HOK.out.2; omega) 32767 32768 (by omega) (by omega)).mono ?_; rintro e w2 ⟨rfl, d2, hE2, hK2⟩
          have HB2 : Hid (Below W.heap.size W w2) := HB.out.trans (hE.kwBelow hK2)
          clear hE hK2 HB
          go_wp2_with fail
          go_roundw
          case rel => exact ⟨k + 1, d2, by go_num, by omega, hE2, HB2.out⟩
          case measure => simp [intOf]; omega
        · obtain rfl : k = 9 := by omega
          go_wp2_with fail
          go_loopw [24, 25, 26, 27] (fun v1 v2 ok i wr => Kn3 W xx d v1 v2 ok i wr) (fun _ _ _ i _ => 2 - (intOf i).toNat)
          case atStart => exact ⟨0, rfl, by omega, rfl, Or.inl rfl, Or.inl rfl, hE, HB.out⟩
          case round =>
            clear hE HB
            obtain ⟨k, rfl, hk2, rfl, hn1, hn2, hE, hbW⟩ := hrel
            have HB : Hid (Below W.heap.size W _) := hbW
            clear hbW
            by_cases hlt2 : k < 2
            · go_wp2_with fail
              refine (value_nix hn2).mono ?_; rintro e w1 ⟨rfl, rfl⟩
              go_wp2_with fail
              refine (put_nix hn1 9 1).mono ?_; rintro e w1 ⟨rfl, rfl⟩
              go_wp2_with fail
              refine (bytes_nix hn1).mono ?_; rintro e w1 ⟨rfl, rfl⟩
              go_wp2_with fail
              refine (take_nix hn2 9 1).mono ?_; rintro e w1 ⟨rfl, rfl⟩
              have hba : Below w1.heap.size w1 ((w1.alloc (.cells #[.slice none 0 0, .int .u64 0, .int .u32 0] 35)).alloc (.cells #[.slice none 0 0, .int .u32 0, .int .u32 0] 37)) := ((Below.refl _ _).alloc (Nat.le_refl _) _).alloc (by simp) _
              have hEa := hE.below hba
              have HBa : Hid _ := HB.out.trans (hba.mono HB.out.size)
              clear hE HB hba
              go_wp2_with fail
              go_roundw
              case rel =>
                refine ⟨_, _, _, _, _, _, _, _, _, _, _, _, _, _, _, _, _, _, _, _, _, _, _, _, _, _, _, _, _, _, _, _, _, _, _, _, _, _, _, _, ?_, rfl⟩
                exact ⟨k + 1, by go_num, by omega, rfl, Or.inr ⟨_, rfl, by simp⟩, Or.inr ⟨_, rfl, by simp⟩, hEa, HBa.out⟩
              case measure => simp [intOf]; omega
            · go_wp2_with fail
              refine (works_true _).mono ?_; rintro e w2 ⟨rfl, hb2⟩
              have hE2 := hE.below hb2
              have HB2 : Hid (Below W.heap.size W w2) := HB.out.trans (hb2.mono HB.out.size)
              clear hE HB hb2
              have ev9 := (nin_ok 9).1
              rw [nin_nine] at hE2 ev9
              go_wp2_with fail
              refine (bytes_ens hE2 ev9 (by omega)).mono ?_; rintro e w3 ⟨v3, rfl, b3, z3, hby3, _, hbel3⟩
              obtain rfl := hby3.eq [255, 255, 255, 254, 255, 255, 255, 255, 255, 255, 255, 255, 255, 255, 255, 64] (by decide) (by decide +kernel) (by decide) (by decide)
              obtain ⟨c3, rfl, _⟩ := hby3.form
              have HB3 : Hid (Below W.heap.size W w3) := HB2.out.trans (hbel3.mono HB2.out.size)
              clear hby3 hbel3 HB2 hE2
              simp only [List.length_cons, List.length_nil]
              go_wp2_with fail
              go_ret
              exact ⟨rfl, HB3.out⟩

end Go.Proofs.YtogaekjohnbbiabDoor
