/- DERIVED. The walk of the statement BitsKnown: the chapter's examples, both ends of each kind, readers and writers that are none. -/
import Derived.Test.YtiheldakkpbkgaaKnC
namespace Go.Proofs.Ytiheldakkpbkgaa
open Go.RowKit

def KnInv (w : World) (n : Nat) (i : Value) (wr : World) : Prop := ∃ k : Nat, i = .int .i64 k ∧ k ≤ n ∧ Below w.heap.size w wr
def Kn2Inv (w : World) (v ok i : Value) (wr : World) : Prop := ∃ k : Nat, i = .int .i64 k ∧ k ≤ 2 ∧ ok = .bool true ∧ NoneR wr v ∧ Below w.heap.size w wr

set_option maxHeartbeats 8000000 in
set_option maxRecDepth 100000 in
theorem known_walk (w : World) : Calls Try.prog 8 #[] w fun e w' => e = .returned (.bool true) ∧ Below w.heap.size w w' := by
  go_enter Try.func8, Try.ntmps8
  go_wp2_with fail
  refine (write_new w).mono ?_; rintro e u0 ⟨rfl, hw0, hb0⟩
  have HB0 : Hid (Below w.heap.size w u0) := hb0
  clear hb0
  go_wp2_with fail
  have c1 := fixed_wr hw0 (by omega) 8 3 (by omega)
  rw [show wFixed 0 0 8 3 = (2, 0, 0) from by decide +kernel] at c1
  refine c1.mono ?_; rintro e u1 ⟨rfl, d1, y1, hw1, hk1⟩
  have HB1 : Hid (Below w.heap.size w u1) := HB0.out.trans (hw0.kwBelow hk1)
  clear c1 hk1 hw0 HB0
  go_wp2_with fail
  have c2 := fixed_wr hw1 (by omega) 0 33 (by omega)
  rw [show wFixed 0 0 0 33 = (2, 0, 0) from by decide +kernel] at c2
  refine c2.mono ?_; rintro e u2 ⟨rfl, d2, y2, hw2, hk2⟩
  have HB2 : Hid (Below w.heap.size w u2) := HB1.out.trans (hw1.kwBelow hk2)
  clear c2 hk2 hw1 HB1
  go_wp2_with fail
  have c3 := fixed_wr hw2 (by omega) 0 (-1) (by omega)
  rw [show wFixed 0 0 0 (-1) = (2, 0, 0) from by decide +kernel] at c3
  refine c3.mono ?_; rintro e u3 ⟨rfl, d3, y3, hw3, hk3⟩
  have HB3 : Hid (Below w.heap.size w u3) := HB2.out.trans (hw2.kwBelow hk3)
  clear c3 hk3 hw2 HB2
  go_wp2_with fail
  have c4 := fixed_wr hw3 (by omega) 0 0 (by omega)
  rw [show wFixed 0 0 0 0 = (0, 0, 0) from by decide +kernel] at c4
  refine c4.mono ?_; rintro e u4 ⟨rfl, d4, y4, hw4, hk4⟩
  have HB4 : Hid (Below w.heap.size w u4) := HB3.out.trans (hw3.kwBelow hk4)
  clear c4 hk4 hw3 HB3
  go_wp2_with fail
  have c5 := fixed_wr hw4 (by omega) 1 0 (by omega)
  rw [show wFixed 0 0 1 0 = (2, 0, 0) from by decide +kernel] at c5
  refine c5.mono ?_; rintro e u5 ⟨rfl, d5, y5, hw5, hk5⟩
  have HB5 : Hid (Below w.heap.size w u5) := HB4.out.trans (hw4.kwBelow hk5)
  clear c5 hk5 hw4 HB4
  go_wp2_with fail
  have c6 := signed_wr hw5 (by omega) 0 0 (by omega) (by omega)
  rw [show wSigned 0 0 0 0 = (2, 0, 0) from by decide +kernel] at c6
  refine c6.mono ?_; rintro e u6 ⟨rfl, d6, y6, hw6, hk6⟩
  have HB6 : Hid (Below w.heap.size w u6) := HB5.out.trans (hw5.kwBelow hk6)
  clear c6 hk6 hw5 HB5
  go_wp2_with fail
  have c7 := signed_wr hw6 (by omega) 0 32 (by omega) (by omega)
  rw [show wSigned 0 0 0 32 = (2, 0, 0) from by decide +kernel] at c7
  refine c7.mono ?_; rintro e u7 ⟨rfl, d7, y7, hw7, hk7⟩
  have HB7 : Hid (Below w.heap.size w u7) := HB6.out.trans (hw6.kwBelow hk7)
  clear c7 hk7 hw6 HB6
  go_wp2_with fail
  have c8 := signed_wr hw7 (by omega) (-2147483648) 31 (by omega) (by omega)
  rw [show wSigned 0 0 (-2147483648) 31 = (2, 0, 0) from by decide +kernel] at c8
  refine c8.mono ?_; rintro e u8 ⟨rfl, d8, y8, hw8, hk8⟩
  have HB8 : Hid (Below w.heap.size w u8) := HB7.out.trans (hw7.kwBelow hk8)
  clear c8 hk8 hw7 HB7
  go_wp2_with fail
  have c9 := signed_wr hw8 (by omega) 4 2 (by omega) (by omega)
  rw [show wSigned 0 0 4 2 = (2, 0, 0) from by decide +kernel] at c9
  refine c9.mono ?_; rintro e u9 ⟨rfl, d9, y9, hw9, hk9⟩
  have HB9 : Hid (Below w.heap.size w u9) := HB8.out.trans (hw8.kwBelow hk9)
  clear c9 hk9 hw8 HB8
  go_wp2_with fail
  have c10 := signed_wr hw9 (by omega) (-4) 2 (by omega) (by omega)
  rw [show wSigned 0 0 (-4) 2 = (2, 0, 0) from by decide +kernel] at c10
  refine c10.mono ?_; rintro e u10 ⟨rfl, d10, y10, hw10, hk10⟩
  have HB10 : Hid (Below w.heap.size w u10) := HB9.out.trans (hw9.kwBelow hk10)
  clear c10 hk10 hw9 HB9
  go_wp2_with fail
  have c11 := uvlc_wr hw10 (by omega) 4294967295 (by omega)
  rw [show wUvlc 0 0 4294967295 = (2, 0, 0) from by decide +kernel] at c11
  refine c11.mono ?_; rintro e u11 ⟨rfl, d11, y11, hw11, hk11⟩
  have HB11 : Hid (Below w.heap.size w u11) := HB10.out.trans (hw10.kwBelow hk11)
  clear c11 hk11 hw10 HB10
  go_wp2_with fail
  have c12 := fixed_wr hw11 (by omega) 1 1 (by omega)
  rw [show wFixed 0 0 1 1 = (0, 1, 1) from by decide +kernel] at c12
  refine c12.mono ?_; rintro e u12 ⟨rfl, d12, y12, hw12, hk12⟩
  have HB12 : Hid (Below w.heap.size w u12) := HB11.out.trans (hw11.kwBelow hk12)
  clear c12 hk12 hw11 HB11
  go_wp2_with fail
  have c13 := leb_wr hw12 (by omega) 1 (by omega)
  rw [show wLeb 1 1 1 = (2, 1, 1) from by decide +kernel] at c13
  refine c13.mono ?_; rintro e u13 ⟨rfl, d13, y13, hw13, hk13⟩
  have HB13 : Hid (Below w.heap.size w u13) := HB12.out.trans (hw12.kwBelow hk13)
  clear c13 hk13 hw12 HB12
  go_wp2_with fail
  have c14 := align_wr hw13
  rw [show wAlign 1 1 = (8, 128) from by decide +kernel] at c14
  refine c14.mono ?_; rintro e u14 ⟨rfl, d14, y14, hw14, hk14⟩
  have HB14 : Hid (Below w.heap.size w u14) := HB13.out.trans (hw13.kwBelow hk14)
  clear c14 hk14 hw13 HB13
  go_wp2_with fail
  have c15 := fixed_wr hw14 (by omega) 4294967295 32 (by omega)
  rw [show wFixed 8 128 4294967295 32 = (0, 40, 554050781183) from by decide +kernel] at c15
  refine c15.mono ?_; rintro e u15 ⟨rfl, d15, y15, hw15, hk15⟩
  have HB15 : Hid (Below w.heap.size w u15) := HB14.out.trans (hw14.kwBelow hk15)
  clear c15 hk15 hw14 HB14
  go_wp2_with fail
  have c16 := signed_wr hw15 (by omega) (-2147483647) 31 (by omega) (by omega)
  rw [show wSigned 40 554050781183 (-2147483647) 31 = (0, 72, 2379629985508532158463) from by decide +kernel] at c16
  refine c16.mono ?_; rintro e u16 ⟨rfl, d16, y16, hw16, hk16⟩
  have HB16 : Hid (Below w.heap.size w u16) := HB15.out.trans (hw15.kwBelow hk16)
  clear c16 hk16 hw15 HB15
  go_wp2_with fail
  have c17 := uvlc_wr hw16 (by omega) 4294967294 (by omega)
  rw [show wUvlc 72 2379629985508532158463 4294967294 = (0, 135, 21948212666400530893378438807316489830399) from by decide +kernel] at c17
  refine c17.mono ?_; rintro e u17 ⟨rfl, d17, y17, hw17, hk17⟩
  have HB17 : Hid (Below w.heap.size w u17) := HB16.out.trans (hw16.kwBelow hk17)
  clear c17 hk17 hw16 HB16
  go_wp2_with fail
  have c18 := align_wr hw17
  rw [show wAlign 135 21948212666400530893378438807316489830399 = (136, 43896425332801061786756877614632979660798) from by decide +kernel] at c18
  refine c18.mono ?_; rintro e u18 ⟨rfl, d18, y18, hw18, hk18⟩
  have HB18 : Hid (Below w.heap.size w u18) := HB17.out.trans (hw17.kwBelow hk18)
  clear c18 hk18 hw17 HB17
  go_wp2_with fail
  have c19 := leb_wr hw18 (by omega) 4294967295 (by omega)
  rw [show wLeb 136 43896425332801061786756877614632979660798 4294967295 = (0, 176, 48264630071215737970738205506028323503658208826752783) from by decide +kernel] at c19
  refine c19.mono ?_; rintro e u19 ⟨rfl, d19, y19, hw19, hk19⟩
  have HB19 : Hid (Below w.heap.size w u19) := HB18.out.trans (hw18.kwBelow hk19)
  clear c19 hk19 hw18 HB18
  go_wp2_with fail
  have c20 := leb_wr hw19 (by omega) 0 (by omega)
  rw [show wLeb 176 48264630071215737970738205506028323503658208826752783 0 = (0, 184, 12355745298231228920508980609543250816936501459648712448) from by decide +kernel] at c20
  refine c20.mono ?_; rintro e u20 ⟨rfl, d20, y20, hw20, hk20⟩
  have HB20 : Hid (Below w.heap.size w u20) := HB19.out.trans (hw19.kwBelow hk20)
  clear c20 hk20 hw19 HB19
  have hyL : y20 = [128, 255, 255, 255, 255, 255, 255, 255, 255, 0, 0, 0, 1, 255, 255, 255, 254, 255, 255, 255, 255, 15, 0] := by have := hw20.wv.bytes; rw [this]; decide +kernel
  subst hyL
  have hE : ∀ X : World, ∀ k, k < 20 → (X.alloc (.cells #[.int .i64 2, .int .i64 2, .int .i64 2, .int .i64 0, .int .i64 2, .int .i64 2, .int .i64 2, .int .i64 2, .int .i64 2, .int .i64 2, .int .i64 2, .int .i64 0, .int .i64 2, .int .i64 0, .int .i64 0, .int .i64 0, .int .i64 0, .int .i64 0, .int .i64 0, .int .i64 0] 30)).cell? ⟨X.heap.size, k, none⟩ = some (.int .i64 (([2, 2, 2, 0, 2, 2, 2, 2, 2, 2, 2, 0, 2, 0, 0, 0, 0, 0, 0, 0] : List Nat).getD k 0 : Nat)) := by
    intro X k hk
    have ho : (X.alloc (.cells #[.int .i64 2, .int .i64 2, .int .i64 2, .int .i64 0, .int .i64 2, .int .i64 2, .int .i64 2, .int .i64 2, .int .i64 2, .int .i64 2, .int .i64 2, .int .i64 0, .int .i64 2, .int .i64 0, .int .i64 0, .int .i64 0, .int .i64 0, .int .i64 0, .int .i64 0, .int .i64 0] 30)).ownsRow 0 30 1 (.slice (some ⟨X.heap.size, 0, none⟩) 20 20) 20 (is [2, 2, 2, 0, 2, 2, 2, 2, 2, 2, 2, 0, 2, 0, 0, 0, 0, 0, 0, 0]) := World.ownsRow_lit X #[.int .i64 2, .int .i64 2, .int .i64 2, .int .i64 0, .int .i64 2, .int .i64 2, .int .i64 2, .int .i64 2, .int .i64 2, .int .i64 2, .int .i64 2, .int .i64 0, .int .i64 2, .int .i64 0, .int .i64 0, .int .i64 0, .int .i64 0, .int .i64 0, .int .i64 0, .int .i64 0] 20 (Nat.zero_le _) (by decide) (by decide)
    rw [ho.cellAt k (by omega)]
    exact is_get _ k (by simpa using hk)
  have HEa : Hid (∀ k, k < 20 → ((u20.alloc (.cells #[.int .i64 2, .int .i64 2, .int .i64 2, .int .i64 0, .int .i64 2, .int .i64 2, .int .i64 2, .int .i64 2, .int .i64 2, .int .i64 2, .int .i64 2, .int .i64 0, .int .i64 2, .int .i64 0, .int .i64 0, .int .i64 0, .int .i64 0, .int .i64 0, .int .i64 0, .int .i64 0] 30)).alloc (.cells #[.int .i64 2, .int .i64 2, .int .i64 2, .int .i64 0, .int .i64 2, .int .i64 2, .int .i64 2, .int .i64 2, .int .i64 2, .int .i64 2, .int .i64 2, .int .i64 0, .int .i64 2, .int .i64 0, .int .i64 0, .int .i64 0, .int .i64 0, .int .i64 0, .int .i64 0, .int .i64 0] 30)).cell? ⟨u20.heap.size, k, none⟩ = some (.int .i64 (([2, 2, 2, 0, 2, 2, 2, 2, 2, 2, 2, 0, 2, 0, 0, 0, 0, 0, 0, 0] : List Nat).getD k 0 : Nat))) := fun k hk => by
    rw [World.cell?_alloc_lt _ _ _ (by simp)]; exact hE u20 k hk
  have HEb : Hid (∀ k, k < 20 → ((u20.alloc (.cells #[.int .i64 2, .int .i64 2, .int .i64 2, .int .i64 0, .int .i64 2, .int .i64 2, .int .i64 2, .int .i64 2, .int .i64 2, .int .i64 2, .int .i64 2, .int .i64 0, .int .i64 2, .int .i64 0, .int .i64 0, .int .i64 0, .int .i64 0, .int .i64 0, .int .i64 0, .int .i64 0] 30)).alloc (.cells #[.int .i64 2, .int .i64 2, .int .i64 2, .int .i64 0, .int .i64 2, .int .i64 2, .int .i64 2, .int .i64 2, .int .i64 2, .int .i64 2, .int .i64 2, .int .i64 0, .int .i64 2, .int .i64 0, .int .i64 0, .int .i64 0, .int .i64 0, .int .i64 0, .int .i64 0, .int .i64 0] 30)).cell? ⟨u20.heap.size + 1, k, none⟩ = some (.int .i64 (([2, 2, 2, 0, 2, 2, 2, 2, 2, 2, 2, 0, 2, 0, 0, 0, 0, 0, 0, 0] : List Nat).getD k 0 : Nat))) := fun k hk => by
    have := hE (u20.alloc (.cells #[.int .i64 2, .int .i64 2, .int .i64 2, .int .i64 0, .int .i64 2, .int .i64 2, .int .i64 2, .int .i64 2, .int .i64 2, .int .i64 2, .int .i64 2, .int .i64 0, .int .i64 2, .int .i64 0, .int .i64 0, .int .i64 0, .int .i64 0, .int .i64 0, .int .i64 0, .int .i64 0] 30)) k hk
    simpa using this
  have hb2 : Below u20.heap.size u20 ((u20.alloc (.cells #[.int .i64 2, .int .i64 2, .int .i64 2, .int .i64 0, .int .i64 2, .int .i64 2, .int .i64 2, .int .i64 2, .int .i64 2, .int .i64 2, .int .i64 2, .int .i64 0, .int .i64 2, .int .i64 0, .int .i64 0, .int .i64 0, .int .i64 0, .int .i64 0, .int .i64 0, .int .i64 0] 30)).alloc (.cells #[.int .i64 2, .int .i64 2, .int .i64 2, .int .i64 0, .int .i64 2, .int .i64 2, .int .i64 2, .int .i64 2, .int .i64 2, .int .i64 2, .int .i64 2, .int .i64 0, .int .i64 2, .int .i64 0, .int .i64 0, .int .i64 0, .int .i64 0, .int .i64 0, .int .i64 0, .int .i64 0] 30)) := ((Below.refl _ _).alloc (Nat.le_refl _) _).alloc (by simp) _
  have hwx := hw20.below hb2
  have HBx : Hid (Below w.heap.size w ((u20.alloc (.cells #[.int .i64 2, .int .i64 2, .int .i64 2, .int .i64 0, .int .i64 2, .int .i64 2, .int .i64 2, .int .i64 2, .int .i64 2, .int .i64 2, .int .i64 2, .int .i64 0, .int .i64 2, .int .i64 0, .int .i64 0, .int .i64 0, .int .i64 0, .int .i64 0, .int .i64 0, .int .i64 0] 30)).alloc (.cells #[.int .i64 2, .int .i64 2, .int .i64 2, .int .i64 0, .int .i64 2, .int .i64 2, .int .i64 2, .int .i64 2, .int .i64 2, .int .i64 2, .int .i64 2, .int .i64 0, .int .i64 2, .int .i64 0, .int .i64 0, .int .i64 0, .int .i64 0, .int .i64 0, .int .i64 0, .int .i64 0] 30))) := HB20.out.trans (hb2.mono HB20.out.size)
  clear hE hb2 hw20 HB20
  go_wp2_with fail
  generalize ((u20.alloc (.cells #[.int .i64 2, .int .i64 2, .int .i64 2, .int .i64 0, .int .i64 2, .int .i64 2, .int .i64 2, .int .i64 2, .int .i64 2, .int .i64 2, .int .i64 2, .int .i64 0, .int .i64 2, .int .i64 0, .int .i64 0, .int .i64 0, .int .i64 0, .int .i64 0, .int .i64 0, .int .i64 0] 30)).alloc (.cells #[.int .i64 2, .int .i64 2, .int .i64 2, .int .i64 0, .int .i64 2, .int .i64 2, .int .i64 2, .int .i64 2, .int .i64 2, .int .i64 2, .int .i64 2, .int .i64 0, .int .i64 2, .int .i64 0, .int .i64 0, .int .i64 0, .int .i64 0, .int .i64 0, .int .i64 0, .int .i64 0] 30)) = X at HEa HEb hwx HBx ⊢
  go_loopw [4] (fun i wr => ∃ k n : Nat, i = .int .i64 k ∧ k ≤ 20 ∧ wr = X.drewN n) (fun i _ => 20 - (intOf i).toNat)
  case atStart => exact ⟨0, 0, rfl, by omega, rfl⟩
  case round =>
    obtain ⟨k, n, rfl, hk, rfl⟩ := hrel
    by_cases hlt : k < 20
    · have q1 : (X.drewN n).cell? ⟨u20.heap.size, k, none⟩ = some (.int .i64 (([2, 2, 2, 0, 2, 2, 2, 2, 2, 2, 2, 0, 2, 0, 0, 0, 0, 0, 0, 0] : List Nat).getD k 0 : Nat)) := HEa.out k hlt
      have q2 : (X.drewN n).cell? ⟨u20.heap.size + 1, k, none⟩ = some (.int .i64 (([2, 2, 2, 0, 2, 2, 2, 2, 2, 2, 2, 0, 2, 0, 0, 0, 0, 0, 0, 0] : List Nat).getD k 0 : Nat)) := HEb.out k hlt
      have hi1 : (0 : Int) ≤ (k : Int) := by omega
      have hi2 : (k : Int) < 20 := by omega
      generalize ([2, 2, 2, 0, 2, 2, 2, 2, 2, 2, 2, 0, 2, 0, 0, 0, 0, 0, 0, 0] : List Nat).getD k 0 = ev at q1 q2
      generalize hXn : X.drewN n = Y at *
      have HX : Hid (X.drewN n = Y) := hXn
      clear hXn
      go_wp2_with fail
      go_quiet (fail)
      go_wp2_with fail
      go_roundw
      case rel => exact ⟨k + 1, n + nq, by go_num, by omega, by rw [← HX.out]; exact drewN_drewN _ _ _⟩
      case measure => simp [intOf]; omega
    · have hwy : Wr (X.drewN n) w.heap.size w.heap.size d20 [128, 255, 255, 255, 255, 255, 255, 255, 255, 0, 0, 0, 1, 255, 255, 255, 254, 255, 255, 255, 255, 15, 0] 184 12355745298231228920508980609543250816936501459648712448 := hwx.carry rfl (fun _ _ => rfl) (Nat.le_refl _)
      have HBy : Hid (Below w.heap.size w (X.drewN n)) := below_drewN HBx.out n
      generalize X.drewN n = Y at *
      clear HEa HEb hwx HBx
      go_wp2_with fail
      refine (bytes_wr hwy (by omega)).mono ?_; rintro e v1 ⟨a1, c1, rfl, ho1, hb1⟩
      have HV1 : Hid (Below w.heap.size w v1) := HBy.out.trans (hb1.mono HBy.out.size)
      have HBt : Hid (∀ i, ([128, 255, 255, 255, 255, 255, 255, 255, 255, 0, 0, 0, 1, 255, 255, 255, 254, 255, 255, 255, 255, 15, 0] : List Nat).getD i 0 < 256) := hwy.wv.byt
      clear hb1 hwy HBy
      go_wp2_with fail
      have hli : (v1.alloc (.cells #[.int .u8 128, .int .u8 255, .int .u8 255, .int .u8 255, .int .u8 255, .int .u8 255, .int .u8 255, .int .u8 255, .int .u8 255, .int .u8 0, .int .u8 0, .int .u8 0, .int .u8 1, .int .u8 255, .int .u8 255, .int .u8 255, .int .u8 254, .int .u8 255, .int .u8 255, .int .u8 255, .int .u8 255, .int .u8 15, .int .u8 0] 5)).ownsRow 0 5 1 (.slice (some ⟨v1.heap.size, 0, none⟩) ([128, 255, 255, 255, 255, 255, 255, 255, 255, 0, 0, 0, 1, 255, 255, 255, 254, 255, 255, 255, 255, 15, 0] : List Nat).length 23) ([128, 255, 255, 255, 255, 255, 255, 255, 255, 0, 0, 0, 1, 255, 255, 255, 254, 255, 255, 255, 255, 15, 0] : List Nat).length (bs [128, 255, 255, 255, 255, 255, 255, 255, 255, 0, 0, 0, 1, 255, 255, 255, 254, 255, 255, 255, 255, 15, 0]) := World.ownsRow_lit v1 #[.int .u8 128, .int .u8 255, .int .u8 255, .int .u8 255, .int .u8 255, .int .u8 255, .int .u8 255, .int .u8 255, .int .u8 255, .int .u8 0, .int .u8 0, .int .u8 0, .int .u8 1, .int .u8 255, .int .u8 255, .int .u8 255, .int .u8 254, .int .u8 255, .int .u8 255, .int .u8 255, .int .u8 255, .int .u8 15, .int .u8 0] 23 (Nat.zero_le _) (by decide) (by decide)
      have hbi : Hid (Below w.heap.size w (v1.alloc (.cells #[.int .u8 128, .int .u8 255, .int .u8 255, .int .u8 255, .int .u8 255, .int .u8 255, .int .u8 255, .int .u8 255, .int .u8 255, .int .u8 0, .int .u8 0, .int .u8 0, .int .u8 1, .int .u8 255, .int .u8 255, .int .u8 255, .int .u8 254, .int .u8 255, .int .u8 255, .int .u8 255, .int .u8 255, .int .u8 15, .int .u8 0] 5))) := HV1.out.alloc HV1.out.size _
      have ce := eqBytes_own (xs := [128, 255, 255, 255, 255, 255, 255, 255, 255, 0, 0, 0, 1, 255, 255, 255, 254, 255, 255, 255, 255, 15, 0]) (ys := [128, 255, 255, 255, 255, 255, 255, 255, 255, 0, 0, 0, 1, 255, 255, 255, 254, 255, 255, 255, 255, 15, 0]) (ho1.alloc (.cells #[.int .u8 128, .int .u8 255, .int .u8 255, .int .u8 255, .int .u8 255, .int .u8 255, .int .u8 255, .int .u8 255, .int .u8 255, .int .u8 0, .int .u8 0, .int .u8 0, .int .u8 1, .int .u8 255, .int .u8 255, .int .u8 255, .int .u8 254, .int .u8 255, .int .u8 255, .int .u8 255, .int .u8 255, .int .u8 15, .int .u8 0] 5)) hli (by decide) HBt.out HBt.out
      rw [show decide (([128, 255, 255, 255, 255, 255, 255, 255, 255, 0, 0, 0, 1, 255, 255, 255, 254, 255, 255, 255, 255, 15, 0] : List Nat) = [128, 255, 255, 255, 255, 255, 255, 255, 255, 0, 0, 0, 1, 255, 255, 255, 254, 255, 255, 255, 255, 15, 0]) = true from by decide] at ce
      refine ce.mono ?_; rintro e v2 ⟨rfl, he⟩
      have HV2 : Hid (Below w.heap.size w v2) := hbi.out.trans (he.mono hbi.out.size)
      clear ce he hbi hli HV1 ho1 HBt
      go_wp2_with fail
      have ho3 : (v2.alloc (.cells #[.int .u8 1, .int .u8 2, .int .u8 3] 5)).ownsRow 0 5 1 (.slice (some ⟨v2.heap.size, 0, none⟩) ([1, 2, 3] : List Nat).length 3) ([1, 2, 3] : List Nat).length (bs [1, 2, 3]) := World.ownsRow_lit v2 #[.int .u8 1, .int .u8 2, .int .u8 3] 3 (Nat.zero_le _) (by decide) (by decide)
      have hb3 : Hid (Below w.heap.size w (v2.alloc (.cells #[.int .u8 1, .int .u8 2, .int .u8 3] 5))) := HV2.out.alloc HV2.out.size _
      refine (new_any (SrcOf.ofOwn ho3) (lit_byt (by decide)) (by decide)).mono ?_; rintro e v4 ⟨r, vd, rfl, hr4, _, _, hb4⟩
      have HV4 : Hid (Below w.heap.size w v4) := hb3.out.trans (hb4.mono hb3.out.size)
      clear hb4 hb3 ho3 HV2
      go_wp2_with fail
      have cr := rest_rd hr4
      rw [show ([1, 2, 3] : List Nat).drop ((0 + 7) / 8) = [1, 2, 3] from by decide, show ([1, 2, 3] : List Nat).length - (0 + 7) / 8 = ([1, 2, 3] : List Nat).length from by decide] at cr
      refine cr.mono ?_; rintro e v5 ⟨a5, c5, rfl, ho5, hb5⟩
      have HV5 : Hid (Below w.heap.size w v5) := HV4.out.trans (hb5.mono HV4.out.size)
      clear hb5 cr hr4 HV4
      go_wp2_with fail
      have hli : (v5.alloc (.cells #[.int .u8 1, .int .u8 2, .int .u8 3] 5)).ownsRow 0 5 1 (.slice (some ⟨v5.heap.size, 0, none⟩) ([1, 2, 3] : List Nat).length 3) ([1, 2, 3] : List Nat).length (bs [1, 2, 3]) := World.ownsRow_lit v5 #[.int .u8 1, .int .u8 2, .int .u8 3] 3 (Nat.zero_le _) (by decide) (by decide)
      have hbi : Hid (Below w.heap.size w (v5.alloc (.cells #[.int .u8 1, .int .u8 2, .int .u8 3] 5))) := HV5.out.alloc HV5.out.size _
      have ce := eqBytes_own (xs := [1, 2, 3]) (ys := [1, 2, 3]) (ho5.alloc (.cells #[.int .u8 1, .int .u8 2, .int .u8 3] 5)) hli (by decide) (lit_byt (by decide)) (lit_byt (by decide))
      rw [show decide (([1, 2, 3] : List Nat) = [1, 2, 3]) = true from by decide] at ce
      refine ce.mono ?_; rintro e v6 ⟨rfl, he⟩
      have HV6 : Hid (Below w.heap.size w v6) := hbi.out.trans (he.mono hbi.out.size)
      clear ce he hbi hli HV5 ho5
      go_wp2_with fail
      go_loopw [7, 8, 9] (fun v ok i wr => Kn2Inv w v ok i wr) (fun _ _ i _ => 2 - (intOf i).toNat)
      case atStart => exact ⟨0, rfl, by omega, rfl, Or.inl rfl, HV6.out⟩
      case round =>
        clear HV6
        obtain ⟨k, rfl, hk, rfl, hn, hbW⟩ := hrel
        have HB : Hid (Below w.heap.size w wr) := hbW
        have hs : w.heap.size ≤ wr.heap.size := hbW.size
        clear hbW
        by_cases hlt : k < 2
        · go_wp2_with fail
          refine (none_fixed hn 99).mono ?_; rintro e z1 ⟨rfl, rfl⟩
          go_wp2_with fail
          refine (none_signed hn 99).mono ?_; rintro e z2 ⟨rfl, rfl⟩
          go_wp2_with fail
          refine (none_uvlc hn).mono ?_; rintro e z3 ⟨rfl, rfl⟩
          go_wp2_with fail
          refine (none_leb hn).mono ?_; rintro e z4 ⟨rfl, rfl⟩
          go_wp2_with fail
          refine (none_align hn).mono ?_; rintro e z5 ⟨rfl, rfl⟩
          go_wp2_with fail
          refine (none_left hn).mono ?_; rintro e z6 ⟨rfl, rfl⟩
          go_wp2_with fail
          refine (none_rest hn).mono ?_; rintro e z7 ⟨rfl, rfl⟩
          go_wp2_with fail
          go_roundw
          case rel => exact ⟨k + 1, by go_num, by omega, rfl, Or.inr ⟨_, rfl, by simp⟩, HB.out.alloc hs _⟩
          case measure => simp [intOf]; omega
        · go_wp2_with fail
          go_loopw [8, 18, 19] (fun ok v i wr => Kn2Inv w v ok i wr) (fun _ _ i _ => 2 - (intOf i).toNat)
          case atStart => exact ⟨0, rfl, by omega, rfl, Or.inl rfl, HB.out⟩
          case round =>
            clear HB hn
            obtain ⟨k, rfl, hk, rfl, hn, hbW⟩ := hrel
            have HB : Hid (Below w.heap.size w wr) := hbW
            have hs : w.heap.size ≤ wr.heap.size := hbW.size
            clear hbW
            by_cases hlt : k < 2
            · go_wp2_with fail
              refine (none_wfixed hn 9 1).mono ?_; rintro e z1 ⟨rfl, rfl⟩
              go_wp2_with fail
              refine (none_wsigned hn 9 1).mono ?_; rintro e z2 ⟨rfl, rfl⟩
              go_wp2_with fail
              refine (none_wuvlc hn 4294967295).mono ?_; rintro e z3 ⟨rfl, rfl⟩
              go_wp2_with fail
              refine (none_wleb hn 0).mono ?_; rintro e z4 ⟨rfl, rfl⟩
              go_wp2_with fail
              refine (none_walign hn).mono ?_; rintro e z5 ⟨rfl, rfl⟩
              go_wp2_with fail
              refine (none_bytes hn).mono ?_; rintro e z6 ⟨rfl, rfl⟩
              go_wp2_with fail
              go_roundw
              case rel => exact ⟨k + 1, by go_num, by omega, rfl, Or.inr ⟨_, rfl, by simp⟩, HB.out.alloc hs _⟩
              case measure => simp [intOf]; omega
            · go_wp2_with fail
              refine (works_true _).mono ?_; rintro e z1 ⟨rfl, hz1⟩
              have HZ1 : Hid (Below w.heap.size w z1) := HB.out.trans (hz1.mono hs)
              clear hz1 HB hn
              go_wp2_with fail
              refine (texts_true _).mono ?_; rintro e z2 ⟨rfl, hz2⟩
              have HZ2 : Hid (Below w.heap.size w z2) := HZ1.out.trans (hz2.mono HZ1.out.size)
              clear hz2 HZ1
              go_wp2_with fail
              go_ret
              exact ⟨rfl, HZ2.out⟩

end Go.Proofs.Ytiheldakkpbkgaa
