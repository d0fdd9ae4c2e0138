/- DERIVED. The walk of QuantKnown. -/
import Derived.Test.YtaliaoapbjbfaaaQn
namespace Go.Proofs.Ytaliaoapbjbfaaa
open Go.RowKit

set_option maxRecDepth 100000 in
set_option maxHeartbeats 4000000 in
theorem known_walk {w : World} : Calls Try.prog 8 #[] w fun e w' => e = .returned (.bool true) ∧ Below w.heap.size w w' := by
  have HR : Hid (Ri 32 (w.alloc (.cells #[.int .i64 0, .int .i64 0, .int .i64 255, .int .i64 31, .int .i64 100, .int .i64 (-31), .int .i64 0, .int .i64 (-31), .int .i64 256, .int .i64 0, .int .i64 0, .int .i64 32, .int .i64 (-1), .int .i64 0, .int .i64 0, .int .i64 (-32)] 32)) w.heap.size kr1) := Ri.built 32 w kr1 rfl
  have HB : Hid (Below w.heap.size w (w.alloc (.cells #[.int .i64 0, .int .i64 0, .int .i64 255, .int .i64 31, .int .i64 100, .int .i64 (-31), .int .i64 0, .int .i64 (-31), .int .i64 256, .int .i64 0, .int .i64 0, .int .i64 32, .int .i64 (-1), .int .i64 0, .int .i64 0, .int .i64 (-32)] 32))) := from_alloc w _
  go_enter Try.func8, Try.ntmps8
  go_wp2_with fail
  generalize w.alloc (.cells #[.int .i64 0, .int .i64 0, .int .i64 255, .int .i64 31, .int .i64 100, .int .i64 (-31), .int .i64 0, .int .i64 (-31), .int .i64 256, .int .i64 0, .int .i64 0, .int .i64 32, .int .i64 (-1), .int .i64 0, .int .i64 0, .int .i64 (-32)] 32) = v1 at *
  generalize hgw : w.heap.size = g1 at HR
  clear hgw
  go_loopw [1, 38] (fun s i wr => ∃ (k c : Nat) (a : Option Addr), k ≤ 8 ∧ i = .int .i64 k ∧ s = .slice a (3 * k) c ∧ Hid (Kl v1 wr a (3 * k) c (kg1 k))) (fun _ i _ => 8 - (intOf i).toNat)
  case atStart => exact ⟨0, 0, none, by omega, rfl, rfl, ⟨Oi.nil _ _, Below.refl _ _⟩⟩
  case round =>
    obtain ⟨k, c, a, hk, rfl, rfl, H⟩ := hrel
    rename_i wr
    by_cases hlt : k < 8
    · have c0 : 0 ≤ (k : Int) := by omega
      have c1 : (k : Int) < 8 := by omega
      have HT : Hid (Ri 32 wr g1 kr1) := HR.out.below H.out.b HR.out.lt
      have p0 : wr.cell? ⟨g1, k * 2, none⟩ = some (.int .i64 (kr1.getD (k * 2) 0)) := HT.out.cell _ (by show k * 2 < 16; omega)
      have p1 : wr.cell? ⟨g1, k * 2 + 1, none⟩ = some (.int .i64 (kr1.getD (k * 2 + 1) 0)) := HT.out.cell _ (by show k * 2 + 1 < 16; omega)
      have HG : Hid (kg1 (k + 1) = kg1 k ++ [stA (kr1.getD (k * 2) 0) (kr1.getD (k * 2 + 1) 0) 96, stA (kr1.getD (k * 2) 0) (kr1.getD (k * 2 + 1) 0) 48, stE (kr1.getD (k * 2) 0) (kr1.getD (k * 2 + 1) 0)]) := kg1_succ k
      generalize kr1.getD (k * 2) 0 = e0 at *
      generalize kr1.getD (k * 2 + 1) 0 = e1 at *
      have q0 : (wr.alloc (.cells #[.int .i64 e0, .int .i64 e1] 32)).cell? ⟨wr.heap.size, 0, none⟩ = some (.int .i64 e0) := by simp only [World.cell?, heap_alloc_new]; rfl
      have q1 : (wr.alloc (.cells #[.int .i64 e0, .int .i64 e1] 32)).cell? ⟨wr.heap.size, 1, none⟩ = some (.int .i64 e1) := by simp only [World.cell?, heap_alloc_new]; rfl
      have HK : Hid (Kl v1 (wr.alloc (.cells #[.int .i64 e0, .int .i64 e1] 32)) a (3 * k) c (kg1 k)) := ⟨H.out.o.to (from_alloc _ _), H.out.b.alloc H.out.b.size _⟩
      go_wp2_with fail
      generalize wr.alloc (.cells #[.int .i64 e0, .int .i64 e1] 32) = u at *
      refine dc_any.mono ?_
      rintro e w' ⟨rfl, rfl⟩
      go_wp2_with fail
      refine ac_any.mono ?_
      rintro e w' ⟨rfl, rfl⟩
      go_wp2_with (refine wpList_append_ints w' rfl (.tmp 61) (.tmp 65) rfl v1.heap.size (3 * k) c 3 (kg1 k) [stA e0 e1 96, stA e0 e1 48, stE e0 e1] _ rfl rfl (by omega) (by omega) a HK.out.o HK.out.b.size (by omega) rfl rfl ?_; intro gz cz wz hz1 hz2 hz3 hz4)
      have HZ : Hid (Kl v1 wz (some ⟨gz, 0, none⟩) (3 * k + 3) cz (kg1 (k + 1))) := ⟨by rw [HG.out]; exact hz1, HK.out.b.trans hz3⟩
      clear hz1 hz2 hz3 hz4
      go_wp2_with fail
      go_roundw
      case rel => exact ⟨k + 1, cz, some ⟨gz, 0, none⟩, by omega, by go_num, rfl, HZ⟩
      case measure => simp [intOf]; omega
    · obtain rfl : k = 8 := by omega
      have HA : Hid (Ri 3 (wr.alloc (.cells #[.int .i64 4, .int .i64 4, .int .i64 0, .int .i64 936, .int .i64 1613, .int .i64 0, .int .i64 122, .int .i64 172, .int .i64 0, .int .i64 4, .int .i64 4, .int .i64 0, .int .i64 0, .int .i64 0, .int .i64 2, .int .i64 0, .int .i64 0, .int .i64 2, .int .i64 0, .int .i64 0, .int .i64 2, .int .i64 0, .int .i64 0, .int .i64 2] 3)) wr.heap.size ka1) := Ri.built 3 wr ka1 rfl
      have HK : Hid (Kl v1 (wr.alloc (.cells #[.int .i64 4, .int .i64 4, .int .i64 0, .int .i64 936, .int .i64 1613, .int .i64 0, .int .i64 122, .int .i64 172, .int .i64 0, .int .i64 4, .int .i64 4, .int .i64 0, .int .i64 0, .int .i64 0, .int .i64 2, .int .i64 0, .int .i64 0, .int .i64 2, .int .i64 0, .int .i64 0, .int .i64 2, .int .i64 0, .int .i64 0, .int .i64 2] 3)) a 24 c ka1) := ⟨by rw [← kg1_all]; exact H.out.o.to (from_alloc _ _), H.out.b.alloc H.out.b.size _⟩
      go_wp2_with fail
      generalize wr.alloc (.cells #[.int .i64 4, .int .i64 4, .int .i64 0, .int .i64 936, .int .i64 1613, .int .i64 0, .int .i64 122, .int .i64 172, .int .i64 0, .int .i64 4, .int .i64 4, .int .i64 0, .int .i64 0, .int .i64 0, .int .i64 2, .int .i64 0, .int .i64 0, .int .i64 2, .int .i64 0, .int .i64 0, .int .i64 2, .int .i64 0, .int .i64 0, .int .i64 2] 3) = u at *
      generalize wr.heap.size = gu at *
      refine (eq_yes (n := 24) (m := 24) HK.out.o.si HA.out.si rfl rfl rfl (by omega)).mono ?_
      rintro e w9 ⟨rfl, hb9⟩
      have HB : Hid (Below w.heap.size w w9) := (HB.out.trans (HK.out.b.mono HB.out.size)).trans (hb9.mono (HB.out.trans (HK.out.b.mono HB.out.size)).size)
      clear hb9 HA HK H
      have HR2 : Hid (Ri 22 (w9.alloc (.cells #[.int .i64 100, .int .i64 7, .int .i64 4, .int .i64 (-100), .int .i64 7, .int .i64 8, .int .i64 3, .int .i64 7, .int .i64 16, .int .i64 100, .int .i64 7, .int .i64 32, .int .i64 100, .int .i64 7, .int .i64 64, .int .i64 1048576, .int .i64 1, .int .i64 64, .int .i64 (-1048576), .int .i64 1, .int .i64 32, .int .i64 1048577, .int .i64 1, .int .i64 4, .int .i64 0, .int .i64 0, .int .i64 4, .int .i64 0, .int .i64 32769, .int .i64 4, .int .i64 0, .int .i64 1, .int .i64 5, .int .i64 0, .int .i64 1, .int .i64 128, .int .i64 (-1048577), .int .i64 1, .int .i64 4, .int .i64 1048576, .int .i64 32768, .int .i64 4] 22)) w9.heap.size kr2) := Ri.built 22 w9 kr2 rfl
      have HB2 : Hid (Below w.heap.size w (w9.alloc (.cells #[.int .i64 100, .int .i64 7, .int .i64 4, .int .i64 (-100), .int .i64 7, .int .i64 8, .int .i64 3, .int .i64 7, .int .i64 16, .int .i64 100, .int .i64 7, .int .i64 32, .int .i64 100, .int .i64 7, .int .i64 64, .int .i64 1048576, .int .i64 1, .int .i64 64, .int .i64 (-1048576), .int .i64 1, .int .i64 32, .int .i64 1048577, .int .i64 1, .int .i64 4, .int .i64 0, .int .i64 0, .int .i64 4, .int .i64 0, .int .i64 32769, .int .i64 4, .int .i64 0, .int .i64 1, .int .i64 5, .int .i64 0, .int .i64 1, .int .i64 128, .int .i64 (-1048577), .int .i64 1, .int .i64 4, .int .i64 1048576, .int .i64 32768, .int .i64 4] 22))) := to_alloc HB.out _
      clear HR HB
      have HR := HR2
      have HB := HB2
      clear HR2 HB2
      go_wp2_with fail
      generalize w9.alloc (.cells #[.int .i64 100, .int .i64 7, .int .i64 4, .int .i64 (-100), .int .i64 7, .int .i64 8, .int .i64 3, .int .i64 7, .int .i64 16, .int .i64 100, .int .i64 7, .int .i64 32, .int .i64 100, .int .i64 7, .int .i64 64, .int .i64 1048576, .int .i64 1, .int .i64 64, .int .i64 (-1048576), .int .i64 1, .int .i64 32, .int .i64 1048577, .int .i64 1, .int .i64 4, .int .i64 0, .int .i64 0, .int .i64 4, .int .i64 0, .int .i64 32769, .int .i64 4, .int .i64 0, .int .i64 1, .int .i64 5, .int .i64 0, .int .i64 1, .int .i64 128, .int .i64 (-1048577), .int .i64 1, .int .i64 4, .int .i64 1048576, .int .i64 32768, .int .i64 4] 22) = v2 at *
      generalize w9.heap.size = g2 at *
      go_loopw [1, 87] (fun s i wr => ∃ (k c : Nat) (a : Option Addr), k ≤ 14 ∧ i = .int .i64 k ∧ s = .slice a (2 * k) c ∧ Hid (Kl v2 wr a (2 * k) c (kg2 k))) (fun _ i _ => 14 - (intOf i).toNat)
      case atStart => exact ⟨0, 0, none, by omega, rfl, rfl, ⟨Oi.nil _ _, Below.refl _ _⟩⟩
      case round =>
        obtain ⟨k, c, a, hk, rfl, rfl, H⟩ := hrel
        by_cases hlt : k < 14
        · have c0 : 0 ≤ (k : Int) := by omega
          have c1 : (k : Int) < 14 := by omega
          have HT : Hid (Ri 22 wr g2 kr2) := HR.out.below H.out.b HR.out.lt
          have p0 : wr.cell? ⟨g2, k * 3, none⟩ = some (.int .i64 (kr2.getD (k * 3) 0)) := HT.out.cell _ (by show k * 3 < 42; omega)
          have p1 : wr.cell? ⟨g2, k * 3 + 1, none⟩ = some (.int .i64 (kr2.getD (k * 3 + 1) 0)) := HT.out.cell _ (by show k * 3 + 1 < 42; omega)
          have p2 : wr.cell? ⟨g2, k * 3 + 2, none⟩ = some (.int .i64 (kr2.getD (k * 3 + 2) 0)) := HT.out.cell _ (by show k * 3 + 2 < 42; omega)
          have HG : Hid (kg2 (k + 1) = kg2 k ++ [lvA (kr2.getD (k * 3) 0) (kr2.getD (k * 3 + 1) 0) (kr2.getD (k * 3 + 2) 0), lvE (kr2.getD (k * 3) 0) (kr2.getD (k * 3 + 1) 0) (kr2.getD (k * 3 + 2) 0)]) := kg2_succ k
          generalize kr2.getD (k * 3) 0 = e0 at *
          generalize kr2.getD (k * 3 + 1) 0 = e1 at *
          generalize kr2.getD (k * 3 + 2) 0 = e2 at *
          have q0 : (wr.alloc (.cells #[.int .i64 e0, .int .i64 e1, .int .i64 e2] 22)).cell? ⟨wr.heap.size, 0, none⟩ = some (.int .i64 e0) := by simp only [World.cell?, heap_alloc_new]; rfl
          have q1 : (wr.alloc (.cells #[.int .i64 e0, .int .i64 e1, .int .i64 e2] 22)).cell? ⟨wr.heap.size, 1, none⟩ = some (.int .i64 e1) := by simp only [World.cell?, heap_alloc_new]; rfl
          have q2 : (wr.alloc (.cells #[.int .i64 e0, .int .i64 e1, .int .i64 e2] 22)).cell? ⟨wr.heap.size, 2, none⟩ = some (.int .i64 e2) := by simp only [World.cell?, heap_alloc_new]; rfl
          have HK : Hid (Kl v2 (wr.alloc (.cells #[.int .i64 e0, .int .i64 e1, .int .i64 e2] 22)) a (2 * k) c (kg2 k)) := ⟨H.out.o.to (from_alloc _ _), H.out.b.alloc H.out.b.size _⟩
          go_wp2_with fail
          generalize wr.alloc (.cells #[.int .i64 e0, .int .i64 e1, .int .i64 e2] 22) = u at *
          refine level_any.mono ?_
          rintro e w' ⟨rfl, rfl⟩
          go_wp2_with (refine wpList_append_ints w' rfl (.tmp 101) (.tmp 104) rfl v2.heap.size (2 * k) c 2 (kg2 k) [lvA e0 e1 e2, lvE e0 e1 e2] _ rfl rfl (by omega) (by omega) a HK.out.o HK.out.b.size (by omega) rfl rfl ?_; intro gz cz wz hz1 hz2 hz3 hz4)
          have HZ : Hid (Kl v2 wz (some ⟨gz, 0, none⟩) (2 * k + 2) cz (kg2 (k + 1))) := ⟨by rw [HG.out]; exact hz1, HK.out.b.trans hz3⟩
          clear hz1 hz2 hz3 hz4
          go_wp2_with fail
          go_roundw
          case rel => exact ⟨k + 1, cz, some ⟨gz, 0, none⟩, by omega, by go_num, rfl, HZ⟩
          case measure => simp [intOf]; omega
        · obtain rfl : k = 14 := by omega
          have HA : Hid (Ri 3 (wr.alloc (.cells #[.int .i64 14, .int .i64 0, .int .i64 (-14), .int .i64 0, .int .i64 0, .int .i64 0, .int .i64 29, .int .i64 0, .int .i64 57, .int .i64 0, .int .i64 1048576, .int .i64 0, .int .i64 (-1048576), .int .i64 0, .int .i64 0, .int .i64 2, .int .i64 0, .int .i64 2, .int .i64 0, .int .i64 2, .int .i64 0, .int .i64 2, .int .i64 0, .int .i64 2, .int .i64 0, .int .i64 2, .int .i64 32, .int .i64 0] 3)) wr.heap.size ka2) := Ri.built 3 wr ka2 rfl
          have HK : Hid (Kl v2 (wr.alloc (.cells #[.int .i64 14, .int .i64 0, .int .i64 (-14), .int .i64 0, .int .i64 0, .int .i64 0, .int .i64 29, .int .i64 0, .int .i64 57, .int .i64 0, .int .i64 1048576, .int .i64 0, .int .i64 (-1048576), .int .i64 0, .int .i64 0, .int .i64 2, .int .i64 0, .int .i64 2, .int .i64 0, .int .i64 2, .int .i64 0, .int .i64 2, .int .i64 0, .int .i64 2, .int .i64 0, .int .i64 2, .int .i64 32, .int .i64 0] 3)) a 28 c ka2) := ⟨by rw [← kg2_all]; exact H.out.o.to (from_alloc _ _), H.out.b.alloc H.out.b.size _⟩
          go_wp2_with fail
          generalize wr.alloc (.cells #[.int .i64 14, .int .i64 0, .int .i64 (-14), .int .i64 0, .int .i64 0, .int .i64 0, .int .i64 29, .int .i64 0, .int .i64 57, .int .i64 0, .int .i64 1048576, .int .i64 0, .int .i64 (-1048576), .int .i64 0, .int .i64 0, .int .i64 2, .int .i64 0, .int .i64 2, .int .i64 0, .int .i64 2, .int .i64 0, .int .i64 2, .int .i64 0, .int .i64 2, .int .i64 0, .int .i64 2, .int .i64 32, .int .i64 0] 3) = u at *
          generalize wr.heap.size = gu at *
          refine (eq_yes (n := 28) (m := 28) HK.out.o.si HA.out.si rfl rfl rfl (by omega)).mono ?_
          rintro e w9 ⟨rfl, hb9⟩
          have HB : Hid (Below w.heap.size w w9) := (HB.out.trans (HK.out.b.mono HB.out.size)).trans (hb9.mono (HB.out.trans (HK.out.b.mono HB.out.size)).size)
          clear hb9 HA HK H
          have HR2 : Hid (Ri 22 (w9.alloc (.cells #[.int .i64 14, .int .i64 7, .int .i64 4, .int .i64 (-14), .int .i64 7, .int .i64 8, .int .i64 29, .int .i64 7, .int .i64 32, .int .i64 57, .int .i64 7, .int .i64 64, .int .i64 1048576, .int .i64 16, .int .i64 4, .int .i64 40000, .int .i64 1, .int .i64 4, .int .i64 (-40000), .int .i64 1, .int .i64 16, .int .i64 1048576, .int .i64 32768, .int .i64 64, .int .i64 1048577, .int .i64 1, .int .i64 4, .int .i64 0, .int .i64 1, .int .i64 5, .int .i64 16777215, .int .i64 1, .int .i64 4, .int .i64 (-65535), .int .i64 1, .int .i64 32, .int .i64 1048576, .int .i64 15, .int .i64 64, .int .i64 1048576, .int .i64 16, .int .i64 64, .int .i64 (-1048576), .int .i64 16, .int .i64 32] 22)) w9.heap.size kr3) := Ri.built 22 w9 kr3 rfl
          have HB2 : Hid (Below w.heap.size w (w9.alloc (.cells #[.int .i64 14, .int .i64 7, .int .i64 4, .int .i64 (-14), .int .i64 7, .int .i64 8, .int .i64 29, .int .i64 7, .int .i64 32, .int .i64 57, .int .i64 7, .int .i64 64, .int .i64 1048576, .int .i64 16, .int .i64 4, .int .i64 40000, .int .i64 1, .int .i64 4, .int .i64 (-40000), .int .i64 1, .int .i64 16, .int .i64 1048576, .int .i64 32768, .int .i64 64, .int .i64 1048577, .int .i64 1, .int .i64 4, .int .i64 0, .int .i64 1, .int .i64 5, .int .i64 16777215, .int .i64 1, .int .i64 4, .int .i64 (-65535), .int .i64 1, .int .i64 32, .int .i64 1048576, .int .i64 15, .int .i64 64, .int .i64 1048576, .int .i64 16, .int .i64 64, .int .i64 (-1048576), .int .i64 16, .int .i64 32] 22))) := to_alloc HB.out _
          clear HR HB
          have HR := HR2
          have HB := HB2
          clear HR2 HB2
          go_wp2_with fail
          generalize w9.alloc (.cells #[.int .i64 14, .int .i64 7, .int .i64 4, .int .i64 (-14), .int .i64 7, .int .i64 8, .int .i64 29, .int .i64 7, .int .i64 32, .int .i64 57, .int .i64 7, .int .i64 64, .int .i64 1048576, .int .i64 16, .int .i64 4, .int .i64 40000, .int .i64 1, .int .i64 4, .int .i64 (-40000), .int .i64 1, .int .i64 16, .int .i64 1048576, .int .i64 32768, .int .i64 64, .int .i64 1048577, .int .i64 1, .int .i64 4, .int .i64 0, .int .i64 1, .int .i64 5, .int .i64 16777215, .int .i64 1, .int .i64 4, .int .i64 (-65535), .int .i64 1, .int .i64 32, .int .i64 1048576, .int .i64 15, .int .i64 64, .int .i64 1048576, .int .i64 16, .int .i64 64, .int .i64 (-1048576), .int .i64 16, .int .i64 32] 22) = v3 at *
          generalize w9.heap.size = g3 at *
          go_loopw [1, 127] (fun s i wr => ∃ (k c : Nat) (a : Option Addr), k ≤ 15 ∧ i = .int .i64 k ∧ s = .slice a (2 * k) c ∧ Hid (Kl v3 wr a (2 * k) c (kg3 k))) (fun _ i _ => 15 - (intOf i).toNat)
          case atStart => exact ⟨0, 0, none, by omega, rfl, rfl, ⟨Oi.nil _ _, Below.refl _ _⟩⟩
          case round =>
            obtain ⟨k, c, a, hk, rfl, rfl, H⟩ := hrel
            by_cases hlt : k < 15
            · have c0 : 0 ≤ (k : Int) := by omega
              have c1 : (k : Int) < 15 := by omega
              have HT : Hid (Ri 22 wr g3 kr3) := HR.out.below H.out.b HR.out.lt
              have p0 : wr.cell? ⟨g3, k * 3, none⟩ = some (.int .i64 (kr3.getD (k * 3) 0)) := HT.out.cell _ (by show k * 3 < 45; omega)
              have p1 : wr.cell? ⟨g3, k * 3 + 1, none⟩ = some (.int .i64 (kr3.getD (k * 3 + 1) 0)) := HT.out.cell _ (by show k * 3 + 1 < 45; omega)
              have p2 : wr.cell? ⟨g3, k * 3 + 2, none⟩ = some (.int .i64 (kr3.getD (k * 3 + 2) 0)) := HT.out.cell _ (by show k * 3 + 2 < 45; omega)
              have HG : Hid (kg3 (k + 1) = kg3 k ++ [vlA (kr3.getD (k * 3) 0) (kr3.getD (k * 3 + 1) 0) (kr3.getD (k * 3 + 2) 0), lvE (kr3.getD (k * 3) 0) (kr3.getD (k * 3 + 1) 0) (kr3.getD (k * 3 + 2) 0)]) := kg3_succ k
              generalize kr3.getD (k * 3) 0 = e0 at *
              generalize kr3.getD (k * 3 + 1) 0 = e1 at *
              generalize kr3.getD (k * 3 + 2) 0 = e2 at *
              have q0 : (wr.alloc (.cells #[.int .i64 e0, .int .i64 e1, .int .i64 e2] 22)).cell? ⟨wr.heap.size, 0, none⟩ = some (.int .i64 e0) := by simp only [World.cell?, heap_alloc_new]; rfl
              have q1 : (wr.alloc (.cells #[.int .i64 e0, .int .i64 e1, .int .i64 e2] 22)).cell? ⟨wr.heap.size, 1, none⟩ = some (.int .i64 e1) := by simp only [World.cell?, heap_alloc_new]; rfl
              have q2 : (wr.alloc (.cells #[.int .i64 e0, .int .i64 e1, .int .i64 e2] 22)).cell? ⟨wr.heap.size, 2, none⟩ = some (.int .i64 e2) := by simp only [World.cell?, heap_alloc_new]; rfl
              have HK : Hid (Kl v3 (wr.alloc (.cells #[.int .i64 e0, .int .i64 e1, .int .i64 e2] 22)) a (2 * k) c (kg3 k)) := ⟨H.out.o.to (from_alloc _ _), H.out.b.alloc H.out.b.size _⟩
              go_wp2_with fail
              generalize wr.alloc (.cells #[.int .i64 e0, .int .i64 e1, .int .i64 e2] 22) = u at *
              refine value_any.mono ?_
              rintro e w' ⟨rfl, rfl⟩
              go_wp2_with (refine wpList_append_ints w' rfl (.tmp 141) (.tmp 144) rfl v3.heap.size (2 * k) c 2 (kg3 k) [vlA e0 e1 e2, lvE e0 e1 e2] _ rfl rfl (by omega) (by omega) a HK.out.o HK.out.b.size (by omega) rfl rfl ?_; intro gz cz wz hz1 hz2 hz3 hz4)
              have HZ : Hid (Kl v3 wz (some ⟨gz, 0, none⟩) (2 * k + 2) cz (kg3 (k + 1))) := ⟨by rw [HG.out]; exact hz1, HK.out.b.trans hz3⟩
              clear hz1 hz2 hz3 hz4
              go_wp2_with fail
              go_roundw
              case rel => exact ⟨k + 1, cz, some ⟨gz, 0, none⟩, by omega, by go_num, rfl, HZ⟩
              case measure => simp [intOf]; omega
            · obtain rfl : k = 15 := by omega
              have HA : Hid (Ri 3 (wr.alloc (.cells #[.int .i64 98, .int .i64 0, .int .i64 (-98), .int .i64 0, .int .i64 101, .int .i64 0, .int .i64 99, .int .i64 0, .int .i64 0, .int .i64 0, .int .i64 32767, .int .i64 0, .int .i64 (-32768), .int .i64 0, .int .i64 0, .int .i64 0, .int .i64 0, .int .i64 2, .int .i64 0, .int .i64 2, .int .i64 0, .int .i64 2, .int .i64 (-32767), .int .i64 0, .int .i64 32767, .int .i64 0, .int .i64 0, .int .i64 0, .int .i64 0, .int .i64 0] 3)) wr.heap.size ka3) := Ri.built 3 wr ka3 rfl
              have HK : Hid (Kl v3 (wr.alloc (.cells #[.int .i64 98, .int .i64 0, .int .i64 (-98), .int .i64 0, .int .i64 101, .int .i64 0, .int .i64 99, .int .i64 0, .int .i64 0, .int .i64 0, .int .i64 32767, .int .i64 0, .int .i64 (-32768), .int .i64 0, .int .i64 0, .int .i64 0, .int .i64 0, .int .i64 2, .int .i64 0, .int .i64 2, .int .i64 0, .int .i64 2, .int .i64 (-32767), .int .i64 0, .int .i64 32767, .int .i64 0, .int .i64 0, .int .i64 0, .int .i64 0, .int .i64 0] 3)) a 30 c ka3) := ⟨by rw [← kg3_all]; exact H.out.o.to (from_alloc _ _), H.out.b.alloc H.out.b.size _⟩
              go_wp2_with fail
              generalize wr.alloc (.cells #[.int .i64 98, .int .i64 0, .int .i64 (-98), .int .i64 0, .int .i64 101, .int .i64 0, .int .i64 99, .int .i64 0, .int .i64 0, .int .i64 0, .int .i64 32767, .int .i64 0, .int .i64 (-32768), .int .i64 0, .int .i64 0, .int .i64 0, .int .i64 0, .int .i64 2, .int .i64 0, .int .i64 2, .int .i64 0, .int .i64 2, .int .i64 (-32767), .int .i64 0, .int .i64 32767, .int .i64 0, .int .i64 0, .int .i64 0, .int .i64 0, .int .i64 0] 3) = u at *
              generalize wr.heap.size = gu at *
              refine (eq_yes (n := 30) (m := 30) HK.out.o.si HA.out.si rfl rfl rfl (by omega)).mono ?_
              rintro e w9 ⟨rfl, hb9⟩
              have HB : Hid (Below w.heap.size w w9) := (HB.out.trans (HK.out.b.mono HB.out.size)).trans (hb9.mono (HB.out.trans (HK.out.b.mono HB.out.size)).size)
              clear hb9 HA HK H
              have HH : Hid (Hd 28 (w9.alloc (.cells hv1 28)) w9.heap.size hv1) := Hd.built 28 w9 _
              have HB2 : Hid (Below w.heap.size w (w9.alloc (.cells hv1 28))) := to_alloc HB.out _
              clear HB HR
              go_wp2_with (first | (refine wpList_val_if (by rfl) (hb1 _ _ _ (by rfl) (by rfl)) ?_) | (refine wpList_val_if (by rfl) (hal _ _ _ (by rfl)) ?_) | (refine wpList_skip_if (by rfl) (hst _ _ _ hv1 _ _ (by rfl) (by rfl) (by rfl) rfl (by decide +kernel)) ?_) | (refine wpList_load_if (by rfl) 28 (.tmp 19) rfl w9.heap.size 0 rfl hv1.toList _ (HH.out.range rfl) Try.underlying28 rfl Try.size28 ?_))
              generalize w9.alloc (.cells hv1 28) = u1 at *
              generalize w9.heap.size = g19 at *
              refine (k13a _).mono ?_
              rintro e w10 ⟨rfl, hb⟩
              have HH2 : Hid (Hd 28 (w10.alloc (.cells #[.int .i64 16, .int .i64 16, .int .i64 17, .int .i64 20, .int .i64 20, .int .i64 23] 33)) g19 hv1) := (HH.out.to hb).to (from_alloc _ _)
              have HS : Hid (Hd 33 (w10.alloc (.cells #[.int .i64 16, .int .i64 16, .int .i64 17, .int .i64 20, .int .i64 20, .int .i64 23] 33)) w10.heap.size #[.int .i64 16, .int .i64 16, .int .i64 17, .int .i64 20, .int .i64 20, .int .i64 23]) := Hd.built 33 _ _
              have HB3 : Hid (Below w.heap.size w (w10.alloc (.cells #[.int .i64 16, .int .i64 16, .int .i64 17, .int .i64 20, .int .i64 20, .int .i64 23] 33))) := to_alloc (HB2.out.trans (hb.mono HB2.out.size)) _
              clear hb HH HB2
              go_wp2_with (first | (refine wpList_val_if (by rfl) (hb2 _ _ _ (by rfl) (by rfl)) ?_; generalize w10.alloc (.cells #[.int .i64 16, .int .i64 16, .int .i64 17, .int .i64 20, .int .i64 20, .int .i64 23] 33) = u2 at *; generalize w10.heap.size = g20 at *) | (refine wpList_val_if (by rfl) (hal _ _ _ (by rfl)) ?_) | (refine wpList_skip_if (by rfl) (hst _ _ _ hv2 _ _ (by rfl) (by rfl) (by rfl) rfl (by decide +kernel)) ?_) | (refine wpList_load_if (by rfl) 28 (.tmp 22) rfl u2.heap.size 0 rfl hv2.toList _ ((Hd.built 28 u2 hv2).range rfl) Try.underlying28 rfl Try.size28 ?_))
              refine (k13b _).mono ?_
              rintro e w11 ⟨rfl, hb⟩
              have HH3 : Hid (Hd 28 (w11.alloc (.cells #[.int .i64 0, .int .i64 0, .int .i64 0, .int .i64 0, .int .i64 0, .int .i64 0] 33)) g19 hv1) := ((HH2.out.to (from_alloc _ _)).to hb).to (from_alloc _ _)
              have HS3 : Hid (Hd 33 (w11.alloc (.cells #[.int .i64 0, .int .i64 0, .int .i64 0, .int .i64 0, .int .i64 0, .int .i64 0] 33)) g20 #[.int .i64 16, .int .i64 16, .int .i64 17, .int .i64 20, .int .i64 20, .int .i64 23]) := ((HS.out.to (from_alloc _ _)).to hb).to (from_alloc _ _)
              have HB4 : Hid (Below w.heap.size w (w11.alloc (.cells #[.int .i64 0, .int .i64 0, .int .i64 0, .int .i64 0, .int .i64 0, .int .i64 0] 33))) := to_alloc (below_go (to_alloc HB3.out _) hb) _
              clear hb HH2 HS HB3
              go_wp2_with (first | (refine wpList_val_if (by rfl) (hb3 _ _ _ (by rfl)) ?_; generalize w11.alloc (.cells #[.int .i64 0, .int .i64 0, .int .i64 0, .int .i64 0, .int .i64 0, .int .i64 0] 33) = u3 at *))
              refine (k13c _).mono ?_
              rintro e w12 ⟨rfl, hb⟩
              have HH4 : Hid (Hd 28 (w12.alloc (.cells #[.int .i64 0, .int .i64 0, .int .i64 0, .int .i64 0, .int .i64 0, .int .i64 0] 33)) g19 hv1) := (HH3.out.to hb).to (from_alloc _ _)
              have HS4 : Hid (Hd 33 (w12.alloc (.cells #[.int .i64 0, .int .i64 0, .int .i64 0, .int .i64 0, .int .i64 0, .int .i64 0] 33)) g20 #[.int .i64 16, .int .i64 16, .int .i64 17, .int .i64 20, .int .i64 20, .int .i64 23]) := (HS3.out.to hb).to (from_alloc _ _)
              have HB5 : Hid (Below w.heap.size w (w12.alloc (.cells #[.int .i64 0, .int .i64 0, .int .i64 0, .int .i64 0, .int .i64 0, .int .i64 0] 33))) := to_alloc (below_go HB4.out hb) _
              clear hb HH3 HS3 HB4
              have hq : ∀ u, _ := fun u => eq6_self 16 16 17 20 20 23 u
              go_wp2_with (first | (refine wpList_load_if (by rfl) 33 (.tmp 20) rfl g20 0 rfl ([.int .i64 16, .int .i64 16, .int .i64 17, .int .i64 20, .int .i64 20, .int .i64 23] : List Value) _ (HS4.out.range rfl) Try.underlying33 rfl Try.size33 ?_; generalize w12.alloc (.cells #[.int .i64 0, .int .i64 0, .int .i64 0, .int .i64 0, .int .i64 0, .int .i64 0] 33) = u4 at *) | (refine wpList_val_if (by rfl) (hb4 _ _ _ (by rfl)) ?_))
              refine (k15d _).mono ?_
              rintro e w13 ⟨rfl, hb⟩
              have HH5 : Hid (Hd 28 w13 g19 hv1) := HH4.out.to hb
              have HB6 : Hid (Below w.heap.size w w13) := below_go HB5.out hb
              clear hb HH4 HS4 HB5 hq
              go_wp2_with (refine wpList_load_if (by rfl) 28 (.tmp 19) rfl g19 0 rfl hv1.toList _ (HH5.out.range rfl) Try.underlying28 rfl Try.size28 ?_)
              refine (k15a _).mono ?_
              rintro e w14 ⟨rfl, hb⟩
              have HB7 : Hid (Below w.heap.size w w14) := below_go HB6.out hb
              clear hb HH5 HB6
              go_wp2_with (refine wpList_val_if (by rfl) (hb5 _ _ _ (by rfl)) ?_)
              refine (k15e _).mono ?_
              rintro e w15 ⟨rfl, hb⟩
              have HB8 : Hid (Below w.heap.size w w15) := below_go HB7.out hb
              clear hb HB7
              go_wp2_with (refine wpList_val_if (by rfl) (hb6 _ _ _ (by rfl) (by rfl)) ?_)
              refine (k15f _).mono ?_
              rintro e w16 ⟨rfl, hb⟩
              have HB9 : Hid (Below w.heap.size w w16) := below_go HB8.out hb
              clear hb HB8
              go_wp2_with fail
              refine works_any.mono ?_
              rintro e w17 ⟨rfl, rfl⟩
              go_wp2_with fail
              go_ret
              exact ⟨rfl, HB9.out⟩

end Go.Proofs.Ytaliaoapbjbfaaa
