/- DERIVED. The walk of the statements' own 'works': a part is put, and found. -/
import Derived.Test.YtogaekjohnbbiabDoorLwA
namespace Go.Proofs.YtogaekjohnbbiabDoor
open Go.RowKit

theorem byt_mem {ys : List Nat} (h : ∀ y ∈ ys, y < 256) : ∀ i, ys.getD i 0 < 256 := by
  intro i
  rw [List.getD_eq_getElem?_getD]
  by_cases hi : i < ys.length
  · rw [List.getElem?_eq_getElem hi]; exact h _ (List.getElem_mem _)
  · rw [List.getElem?_eq_none (by omega)]; simp
/-- the bytes of a number, told -/
theorem By.eq {w : World} {v : Value} {b : Nat} {zs : List Nat} {T k : Nat} (h : By w v b zs T k) (ys : List Nat) (l2 : ys.length ≤ k + 4) (hv : pre ys (k + 4) = T) (hb : ∀ y ∈ ys, y < 256) (hl : 0 < ys.length → ys.getD (ys.length - 1) 0 ≠ 0) : zs = ys := by
  have hp := pre_inj h.byt (byt_mem hb) (k + 4) (h.val.trans hv.symm)
  have l1 := h.len
  have hall : ∀ i, zs.getD i 0 = ys.getD i 0 := fun i => by
    by_cases hi : i < k + 4
    · exact hp i hi
    · rw [getD_len zs (by omega), getD_len ys (by omega)]
  have hlen : zs.length = ys.length := by
    rcases Nat.lt_trichotomy zs.length ys.length with e | e | e
    · exact absurd ((hall _).symm.trans (getD_len zs (by omega))) (hl (by omega))
    · exact e
    · exact absurd ((hall _).trans (getD_len ys (by omega))) (h.last (by omega))
  exact list_eq_of_getD hlen (fun j _ => hall j)

/-- an encoder as it is at first -/
theorem new_ens (w : World) : Calls Tryd.prog 4 #[] w fun e w' => e = .returned (.pointer (some ⟨w.heap.size, 0, none⟩)) ∧ EnS w' w.heap.size w.heap.size (.slice none 0 0) 0 4294967295 0 ∧ Below w.heap.size w w' := by
  refine (new_any w).mono ?_
  rintro e w' ⟨rfl, h1, h2⟩
  exact ⟨rfl, ⟨[], 0, h1, rfl, by simp [pre], by omega⟩, h2⟩

theorem Kp.toBelow {r B : Nat} {w w' : World} (h : Kp r w w') (hB : B ≤ r) : Below B w w' := ⟨h.os, h.tape, h.output, Nat.le_of_eq h.size.symm, fun k hk => h.block k (by omega)⟩
theorem below_drewN {B : Nat} {w u : World} (h : Below B w u) (n : Nat) : Below B w (u.drewN n) := ⟨h.os, h.tape, h.output, h.size, h.block⟩

set_option maxRecDepth 100000 in
set_option maxHeartbeats 2000000 in
theorem works_true (w : World) : Calls Tryd.prog 10 #[] w fun e w' => e = .returned (.bool true) ∧ Below w.heap.size w w' := by
  go_enter Tryd.func10, Tryd.ntmps10
  go_wp2_with fail
  refine (new_ens w).mono ?_; rintro e w1 ⟨rfl, hw1, hb1⟩
  have HB1 : Hid (Below w.heap.size w w1) := hb1
  clear hb1
  go_wp2_with fail
  have c2 := put_yes hw1 Ev.first (by omega) 16384 32768 (by omega) (by omega)
  have ev2 := (ePut_ok Ev.first (lo := 16384) (hi := 32768) (by omega) (by omega)).1
  rw [show ePut 0 4294967295 0 16384 32768 = (2147467264, 2147500031, 0) from by decide +kernel] at c2 ev2
  refine c2.mono ?_; rintro e w2 ⟨rfl, d2, hw2, hk2⟩
  have HB2 : Hid (Below w.heap.size w w2) := HB1.out.trans (hw1.kwBelow hk2)
  clear c2 hk2 HB1 hw1
  go_wp2_with fail
  have c3 := put_yes hw2 ev2 (by omega) 7 9 (by omega) (by omega)
  have ev3 := (ePut_ok ev2 (lo := 7) (hi := 9) (by omega) (by omega)).1
  rw [show ePut 2147467264 2147500031 0 7 9 = (549869060096, 33554432, 1) from by decide +kernel] at c3 ev3
  refine c3.mono ?_; rintro e w3 ⟨rfl, d3, hw3, hk3⟩
  have HB3 : Hid (Below w.heap.size w w3) := HB2.out.trans (hw2.kwBelow hk3)
  clear c3 hk3 HB2 hw2
  go_wp2_with fail
  refine (bytes_ens hw3 ev3 (by omega)).mono ?_; rintro e w4 ⟨v4, rfl, b4, zs4, hby4, hb4, hbel4⟩
  have HB4 : Hid (Below w.heap.size w w4) := HB3.out.trans (hbel4.mono HB3.out.size)
  obtain rfl := hby4.eq [128, 6, 192] (by decide) (by decide +kernel) (by decide) (by decide)
  have hsrc := hby4.src
  have hbyt := hby4.byt
  clear HB3 hw3 hbel4 hby4
  go_wp2_with fail
  refine (read_any hsrc hbyt (by decide)).mono ?_; rintro e w5 ⟨x5, rfl, b5, hd5, hx5, hb5, hbel5⟩
  have HB5 : Hid (Below w.heap.size w w5) := HB4.out.trans (hbel5.mono HB4.out.size)
  have hx5' : w.heap.size ≤ x5 := Nat.le_trans HB4.out.size hx5
  clear HB4 hsrc hbel5 hx5 hb5
  rw [show dFirst [128, 6, 192] = 2147926016 from by decide +kernel] at hd5
  have k5 : Dk 2147926016 4294967295 := ⟨by omega, by omega, by omega⟩
  go_wp2_with fail
  have c6 := value_dc hd5 k5
  rw [show dVal 2147926016 4294967295 = 16387 from by decide +kernel] at c6
  refine c6.mono ?_; rintro e w6 ⟨rfl, n6, rfl⟩
  have hd6 := hd5.same (w' := w5.drewN n6) rfl
  have HB6 : Hid (Below w.heap.size w (w5.drewN n6)) := below_drewN HB5.out n6
  clear c6 hd5 HB5
  generalize w5.drewN n6 = w6 at *
  go_wp2_with fail
  have c7 := take_yes hd6 k5 16384 32768 (by decide +kernel)
  rw [show dTake [128, 6, 192] 2147926016 4294967295 4 16384 32768 = (458752, 2147500031, 4) from by decide +kernel] at c7
  refine c7.mono ?_; rintro e w7 ⟨rfl, hd7, hk7⟩
  have HB7 : Hid (Below w.heap.size w w7) := HB6.out.trans (hk7.toBelow hx5')
  clear c7 hk7 HB6 hd6 k5
  have k7 : Dk 458752 2147500031 := ⟨by omega, by omega, by omega⟩
  go_wp2_with fail
  have c8 := value_dc hd7 k7
  rw [show dVal 458752 2147500031 = 7 from by decide +kernel] at c8
  refine c8.mono ?_; rintro e w8 ⟨rfl, n8, rfl⟩
  have HB8 : Hid (Below w.heap.size w (w7.drewN n8)) := below_drewN HB7.out n8
  clear c8 hd7 HB7 k7
  generalize w7.drewN n8 = w8 at *
  go_wp2_with fail
  refine (new_ens w8).mono ?_; rintro e w9 ⟨rfl, hw9, hb9⟩
  have HB9 : Hid (Below w.heap.size w w9) := HB8.out.trans (hb9.mono HB8.out.size)
  have h8 := HB8.out.size
  clear hb9 HB8
  go_wp2_with fail
  have c10 := put_yes hw9 Ev.first (by omega) 16384 32768 (by omega) (by omega)
  rw [show ePut 0 4294967295 0 16384 32768 = (2147467264, 2147500031, 0) from by decide +kernel] at c10
  refine c10.mono ?_; rintro e w10 ⟨rfl, d10, hw10, hk10⟩
  have HB10 : Hid (Below w.heap.size w w10) := HB9.out.trans ((hw9.kwBelow hk10).mono h8)
  clear c10 hk10 HB9 hw9
  go_wp2_with fail
  refine (bytes_ens hw10 ev2 (by omega)).mono ?_; rintro e w11 ⟨v11, rfl, b11, zs11, hby11, hb11, hbel11⟩
  have HB11 : Hid (Below w.heap.size w w11) := HB10.out.trans (hbel11.mono HB10.out.size)
  obtain rfl := hby11.eq [127, 255, 192] (by decide) (by decide +kernel) (by decide) (by decide)
  clear hbel11 HB10 hw10
  go_wp2_with fail
  have hb12 : Below w11.heap.size w11 (w11.alloc (.cells #[.int .u8 127, .int .u8 255, .int .u8 192] 5)) := (Below.refl _ _).alloc (Nat.le_refl _) _
  have hlit : (w11.alloc (.cells #[.int .u8 127, .int .u8 255, .int .u8 192] 5)).ownsRow 0 5 1 (.slice (some ⟨w11.heap.size, 0, none⟩) ([127, 255, 192] : List Nat).length 3) ([127, 255, 192] : List Nat).length (bs [127, 255, 192]) := World.ownsRow_lit w11 #[.int .u8 127, .int .u8 255, .int .u8 192] 3 (Nat.zero_le _) (by decide) (by decide)
  have hby12 := hby11.below hb12 hby11.lies
  have c12 := eqBytes_rr hby12.rr (Rr.ofOwn hlit) (by decide) hby12.byt hby12.byt
  rw [show decide (([127, 255, 192] : List Nat) = [127, 255, 192]) = true from by decide] at c12
  refine c12.mono ?_; rintro e w12 ⟨rfl, hb13⟩
  have HB12 : Hid (Below w.heap.size w w12) := (HB11.out.trans (hb12.mono HB11.out.size)).trans (hb13.mono (Nat.le_trans HB11.out.size hb12.size))
  clear c12 hb13 hb12 hlit hby12 hby11 HB11
  go_wp2_with fail
  go_ret
  exact ⟨rfl, HB12.out⟩

end Go.Proofs.YtogaekjohnbbiabDoor
