/- DERIVED. The walk of CflKnown. -/
import Derived.Test.YtlcegnnhlfafgaaKa
import Derived.Deep.DeepCutAuto
namespace Go.Proofs.Ytlcegnnhlfafgaa
open Go.RowKit

/-- what was got of the first k predictions -/
structure Gt (V : World) (k : Nat) (l : Value) (wr : World) : Prop where
  ex : ∃ (a : Option Addr) (c : Nat), l = .slice a k c ∧ wr.ownsRow V.heap.size 5 1 (.slice a k c) k (ns .u8 (rs.take k)) ∧ (0 < k → ∃ g, a = some ⟨g, 0, none⟩)
  bel : Below V.heap.size V wr

/-- refused, and only new memory -/
def Kc (w T : World) (s t : Value) : Prop := s = .slice none 0 0 ∧ t = .int .i64 2 ∧ Below w.heap.size w T

set_option maxRecDepth 100000 in
set_option maxHeartbeats 2000000 in
theorem known_walk {w : World} : Calls Try.prog 7 #[] w fun e w' => e = .returned (.bool true) ∧ Below w.heap.size w w' := by
  have hm16 : ∀ u : World, (Instr.makeSlice 24 (.int .i64 16) (.int .i64 16)).run Try.prog u = .ok (.slice (some ⟨u.heap.size, 0, none⟩) 16 16) (u.alloc (.cells (madeCells #[.int .i64 0] 16) 3)) := fun u => mk_ints (n := 16) (by omega) u
  have hm1024 : ∀ u : World, (Instr.makeSlice 24 (.int .i64 1024) (.int .i64 1024)).run Try.prog u = .ok (.slice (some ⟨u.heap.size, 0, none⟩) 1024 1024) (u.alloc (.cells (madeCells #[.int .i64 0] 1024) 3)) := fun u => mk_ints (n := 1024) (by omega) u
  go_enter Try.func7, Try.ntmps7
  go_wp2_with fail
  refine (halves_any (p := 9) (q := 9)).mono ?_
  rintro e u1 ⟨g1, rfl, hr1, _, hb1⟩
  have HB1 : Hid (Below w.heap.size w u1) := hb1
  have HR1 : Hid (Rw u1 g1 (hvL 9 9 64)) := hr1
  clear hb1 hr1
  go_wp2_with fail
  refine (ac_ok (x := 4) (y := 4) (n := 16) (L := hvL 9 9 64) HR1.out.sl sd4 sd4 rfl (hvL_byt (by omega) (by omega) _) rfl).mono ?_
  rintro e u2 ⟨g2, c2, rfl, ho2, hb2⟩
  rw [flat9] at ho2
  have HB2 : Hid (Below w.heap.size w u2) := below_to HB1.out hb2
  have HF2 : Hid (Si u2 (some ⟨g2, 0, none⟩) (List.replicate 16 0)) := ho2.si
  clear hb2 ho2 HB1 HR1
  go_wp2_with fail
  have HB3 : Hid (Below w.heap.size w (u2.alloc (.cells #[.int .u8 255] 5))) := to_alloc HB2.out _
  have HF3 : Hid (Si (u2.alloc (.cells #[.int .u8 255] 5)) (some ⟨g2, 0, none⟩) (List.replicate 16 0)) := HF2.out.to (from_alloc _ _)
  have HL3 : Hid (Sl (u2.alloc (.cells #[.int .u8 255] 5)) .u8 (some ⟨u2.heap.size, 0, none⟩) [255]) := (Rw.built u2 [255] rfl).sl
  generalize (u2.alloc (.cells #[.int .u8 255] 5)) = u3 at *
  clear HB2 HF2
  refine (luma_any (x := 32) (y := 32) (m := 4096) (C := [255]) HL3.out (by decide) sd32 sd32 rfl).mono ?_
  rintro e u4 ⟨g4, rfl, hr4, _, hb4⟩
  have HB4 : Hid (Below w.heap.size w u4) := below_to HB3.out hb4
  have HF4 : Hid (Si u4 (some ⟨g2, 0, none⟩) (List.replicate 16 0)) := HF3.out.to hb4
  have HR4 : Hid (Rw u4 g4 (luL [255] 4096 4096)) := hr4
  have HLl : Hid ((luL [255] 4096 4096).length = 4096) := luL_len _ _ _
  have HLb : Hid (Byt (luL [255] 4096 4096)) := luL_byt (byt1 (by omega)) _ _
  have HLa : Hid (acF (lv (luL [255] 4096 4096) 32) 1024 = List.replicate 1024 0) := most255
  clear hb4 hr4 HB3 HF3 HL3
  generalize luL [255] 4096 4096 = L at *
  go_wp2_with fail
  have HAc : Hid (Calls Try.prog 9 #[.slice (some ⟨g4, 0, none⟩) 4096 4096, .int .i64 32, .int .i64 32] u4 fun e w' => An u4 w' e (List.replicate 1024 0) 1024) := by
    have := ac_ok (x := 32) (y := 32) (n := 1024) (c := 4096) HR4.out.sl sd32 sd32 (by rw [HLl.out]) HLb.out rfl
    rw [HLl.out, HLa.out] at this
    exact this
  refine HAc.out.mono ?_
  rintro e u5 ⟨g5, c5, rfl, ho5, hb5⟩
  have HB5 : Hid (Below w.heap.size w u5) := below_to HB4.out hb5
  have HF5 : Hid (Si u5 (some ⟨g2, 0, none⟩) (List.replicate 16 0)) := HF4.out.to hb5
  have HM5 : Hid (Si u5 (some ⟨g5, 0, none⟩) (List.replicate 1024 0)) := ho5.si
  clear hb5 ho5 HB4 HF4 HR4 HLl HLb HLa HAc
  go_wp2_with fail
  have HB6 : Hid (Below w.heap.size w (u5.alloc (.cells #[.int .u8 1, .int .u8 2, .int .u8 3, .int .u8 4, .int .u8 5, .int .u8 6, .int .u8 7, .int .u8 8, .int .u8 9, .int .u8 10, .int .u8 11, .int .u8 12, .int .u8 13, .int .u8 14, .int .u8 15, .int .u8 16] 5))) := to_alloc HB5.out _
  have HF6 : Hid (Si (u5.alloc (.cells #[.int .u8 1, .int .u8 2, .int .u8 3, .int .u8 4, .int .u8 5, .int .u8 6, .int .u8 7, .int .u8 8, .int .u8 9, .int .u8 10, .int .u8 11, .int .u8 12, .int .u8 13, .int .u8 14, .int .u8 15, .int .u8 16] 5)) (some ⟨g2, 0, none⟩) (List.replicate 16 0)) := HF5.out.to (from_alloc _ _)
  have HM6 : Hid (Si (u5.alloc (.cells #[.int .u8 1, .int .u8 2, .int .u8 3, .int .u8 4, .int .u8 5, .int .u8 6, .int .u8 7, .int .u8 8, .int .u8 9, .int .u8 10, .int .u8 11, .int .u8 12, .int .u8 13, .int .u8 14, .int .u8 15, .int .u8 16] 5)) (some ⟨g5, 0, none⟩) (List.replicate 1024 0)) := HM5.out.to (from_alloc _ _)
  have HL6 : Hid (Sl (u5.alloc (.cells #[.int .u8 1, .int .u8 2, .int .u8 3, .int .u8 4, .int .u8 5, .int .u8 6, .int .u8 7, .int .u8 8, .int .u8 9, .int .u8 10, .int .u8 11, .int .u8 12, .int .u8 13, .int .u8 14, .int .u8 15, .int .u8 16] 5)) .u8 (some ⟨u5.heap.size, 0, none⟩) s16) := (Rw.built u5 s16 rfl).sl
  generalize (u5.alloc (.cells #[.int .u8 1, .int .u8 2, .int .u8 3, .int .u8 4, .int .u8 5, .int .u8 6, .int .u8 7, .int .u8 8, .int .u8 9, .int .u8 10, .int .u8 11, .int .u8 12, .int .u8 13, .int .u8 14, .int .u8 15, .int .u8 16] 5)) = u6 at *
  clear HB5 HF5 HM5
  refine (luma_any (x := 8) (y := 4) (m := 128) (C := s16) HL6.out (by decide) sd8 sd4 rfl).mono ?_
  rintro e u7 ⟨g7, rfl, hr7, _, hb7⟩
  have HB7 : Hid (Below w.heap.size w u7) := below_to HB6.out hb7
  have HF7 : Hid (Si u7 (some ⟨g2, 0, none⟩) (List.replicate 16 0)) := HF6.out.to hb7
  have HM7 : Hid (Si u7 (some ⟨g5, 0, none⟩) (List.replicate 1024 0)) := HM6.out.to hb7
  have HR7 : Hid (Rw u7 g7 (luL s16 128 128)) := hr7
  have HLl : Hid ((luL s16 128 128).length = 128) := luL_len _ _ _
  have HLb : Hid (Byt (luL s16 128 128)) := luL_byt s16_byt _ _
  have HL0 : Hid ((acF (lv (luL s16 128 128) 8) 32).getD 0 0 = -56) := obl0
  have HL7 : Hid ((acF (lv (luL s16 128 128) 8) 32).getD 7 0 = 56) := obl7
  have HL31 : Hid ((acF (lv (luL s16 128 128) 8) 32).getD 31 0 = 56) := obl31
  clear hb7 hr7 HB6 HF6 HM6 HL6
  generalize luL s16 128 128 = L at *
  go_wp2_with fail
  have HAc : Hid (Calls Try.prog 9 #[.slice (some ⟨g7, 0, none⟩) 128 128, .int .i64 8, .int .i64 4] u7 fun e w' => An u7 w' e (acF (lv L 8) 32) 32) := by
    have := ac_ok (x := 8) (y := 4) (n := 32) (c := 128) HR7.out.sl sd8 sd4 (by rw [HLl.out]) HLb.out rfl
    rw [HLl.out] at this
    exact this
  refine HAc.out.mono ?_
  rintro e u8 ⟨g8, c8, rfl, ho8, hb8⟩
  have HB8 : Hid (Below w.heap.size w u8) := below_to HB7.out hb8
  have HF8 : Hid (Si u8 (some ⟨g2, 0, none⟩) (List.replicate 16 0)) := HF7.out.to hb8
  have HM8 : Hid (Si u8 (some ⟨g5, 0, none⟩) (List.replicate 1024 0)) := HM7.out.to hb8
  have HO8 : Hid (∀ t : World, Below u8.heap.size u8 t → t.cell? ⟨g8, 0, none⟩ = some (.int .i64 (-56)) ∧ t.cell? ⟨g8, 7, none⟩ = some (.int .i64 56) ∧ t.cell? ⟨g8, 31, none⟩ = some (.int .i64 56)) := fun t ht => by
    have o := ho8.to ht
    refine ⟨?_, ?_, ?_⟩
    · rw [o.cellAt 0 (by omega), HL0.out]
    · rw [o.cellAt 7 (by omega), HL7.out]
    · rw [o.cellAt 31 (by omega), HL31.out]
  clear hb8 ho8 HB7 HF7 HM7 HR7 HLl HLb HL0 HL7 HL31 HAc
  have e16 : eqI (List.replicate 16 (0 : Int)) (List.replicate 16 0) = true := eqI_self _
  have e1024 : eqI (List.replicate 1024 (0 : Int)) (List.replicate 1024 0) = true := eqI_self _
  go_wp2_with fail
  have HF9 : Hid (Si (u8.alloc (.cells (madeCells #[.int .i64 0] 16) 3)) (some ⟨g2, 0, none⟩) (List.replicate 16 0)) := HF8.out.to (from_alloc _ _)
  have HZ9 : Hid (Si (u8.alloc (.cells (madeCells #[.int .i64 0] 16) 3)) (some ⟨u8.heap.size, 0, none⟩) (List.replicate 16 0)) := (Ri.made 3 u8 16 rfl).si
  have HM9 : Hid (Si (u8.alloc (.cells (madeCells #[.int .i64 0] 16) 3)) (some ⟨g5, 0, none⟩) (List.replicate 1024 0)) := HM8.out.to (from_alloc _ _)
  have HB9 : Hid (Below u8.heap.size u8 (u8.alloc (.cells (madeCells #[.int .i64 0] 16) 3))) := from_alloc _ _
  generalize (u8.alloc (.cells (madeCells #[.int .i64 0] 16) 3)) = u9 at *
  clear HF8 HM8
  refine (eqInts_at (n := 16) (m := 16) HF9.out HZ9.out (by simp) (by simp) (by omega) (by omega)).mono ?_
  rintro e v1 ⟨rfl, hb10⟩
  rw [e16]
  have HM10 : Hid (Si v1 (some ⟨g5, 0, none⟩) (List.replicate 1024 0)) := HM9.out.to hb10
  have HB10 : Hid (Below u8.heap.size u8 v1) := below_to HB9.out hb10
  clear hb10 HF9 HZ9 HM9 HB9 e16
  go_wp2_with fail
  have HZ11 : Hid (Si (v1.alloc (.cells (madeCells #[.int .i64 0] 1024) 3)) (some ⟨v1.heap.size, 0, none⟩) (List.replicate 1024 0)) := (Ri.made 3 v1 1024 rfl).si
  have HM11 : Hid (Si (v1.alloc (.cells (madeCells #[.int .i64 0] 1024) 3)) (some ⟨g5, 0, none⟩) (List.replicate 1024 0)) := HM10.out.to (from_alloc _ _)
  have HB11 : Hid (Below u8.heap.size u8 (v1.alloc (.cells (madeCells #[.int .i64 0] 1024) 3))) := to_alloc HB10.out _
  generalize (v1.alloc (.cells (madeCells #[.int .i64 0] 1024) 3)) = v2 at *
  clear HM10 HB10 hm16 hm1024
  refine (eqInts_at (n := 1024) (m := 1024) HM11.out HZ11.out (by simp) (by simp) (by omega) (by omega)).mono ?_
  rintro e v3 ⟨rfl, hb12⟩
  rw [e1024]
  have HB12 : Hid (Below u8.heap.size u8 v3) := below_to HB11.out hb12
  obtain ⟨d0, d7, d31⟩ := HO8.out v3 HB12.out
  have HB13 : Hid (Below w.heap.size w v3) := below_to HB8.out HB12.out
  clear hb12 HM11 HZ11 HB11 HB12 HO8 HB8 e1024
  go_upto_region 6 with fail
  go_wp2_with fail
  have HTb : Hid (Ri 43 (v3.alloc (.cells #[.int .i64 100, .int .i64 40, .int .i64 (-16), .int .i64 250, .int .i64 2048, .int .i64 16, .int .i64 5, .int .i64 (-2048), .int .i64 16, .int .i64 100, .int .i64 16, .int .i64 2, .int .i64 100, .int .i64 15, .int .i64 2, .int .i64 100, .int .i64 (-16), .int .i64 2, .int .i64 100, .int .i64 (-15), .int .i64 2, .int .i64 0, .int .i64 (-1), .int .i64 16, .int .i64 255, .int .i64 2, .int .i64 16, .int .i64 100, .int .i64 2, .int .i64 16] 43)) v3.heap.size tbl) := Ri.built 43 v3 tbl rfl
  have HB14 : Hid (Below w.heap.size w (v3.alloc (.cells #[.int .i64 100, .int .i64 40, .int .i64 (-16), .int .i64 250, .int .i64 2048, .int .i64 16, .int .i64 5, .int .i64 (-2048), .int .i64 16, .int .i64 100, .int .i64 16, .int .i64 2, .int .i64 100, .int .i64 15, .int .i64 2, .int .i64 100, .int .i64 (-16), .int .i64 2, .int .i64 100, .int .i64 (-15), .int .i64 2, .int .i64 0, .int .i64 (-1), .int .i64 16, .int .i64 255, .int .i64 2, .int .i64 16, .int .i64 100, .int .i64 2, .int .i64 16] 43))) := to_alloc HB13.out _
  generalize (v3.alloc (.cells #[.int .i64 100, .int .i64 40, .int .i64 (-16), .int .i64 250, .int .i64 2048, .int .i64 16, .int .i64 5, .int .i64 (-2048), .int .i64 16, .int .i64 100, .int .i64 16, .int .i64 2, .int .i64 100, .int .i64 15, .int .i64 2, .int .i64 100, .int .i64 (-16), .int .i64 2, .int .i64 100, .int .i64 (-15), .int .i64 2, .int .i64 0, .int .i64 (-1), .int .i64 16, .int .i64 255, .int .i64 2, .int .i64 16, .int .i64 100, .int .i64 2, .int .i64 16] 43)) = v4 at *
  generalize v3.heap.size = gt at *
  have HT : Hid (Gt v4 0 (.slice none 0 0) v4) := ⟨⟨none, 0, rfl, World.ownsRow_nil _ _ _ _, fun h => by omega⟩, Below.refl _ _⟩
  clear d0 d7 d31 HB13
  go_loopw [8, 115] (fun l i wr => ∃ k : Nat, k ≤ 10 ∧ i = .int .i64 k ∧ Gt v4 k l wr) (fun _ i _ => 10 - (intOf i).toNat)
  case atStart => exact ⟨0, by omega, rfl, HT.out⟩
  case round =>
    clear HT
    obtain ⟨k, hk, rfl, ⟨⟨ad, cp, rfl, hown, hsome⟩, hbel⟩⟩ := hrel
    have k0 : (0 : Int) ≤ (k : Int) := by omega
    by_cases hlt : k < 10
    · have k1 : (k : Int) < 10 := by omega
      obtain ⟨q0, q1, q2, q3, q4, q5, q6, q7, q8⟩ := tbl_at k hlt
      have htab := HTb.out.to hbel
      have c0 := htab.cell (k * 3) (by show _ < 30; omega)
      have c1 := htab.cell (k * 3 + 1) (by show _ < 30; omega)
      have c2 := htab.cell (k * 3 + 2) (by show _ < 30; omega)
      rw [q0] at c0
      rw [q1] at c1
      rw [q2] at c2
      have HO : Hid (wr.ownsRow v4.heap.size 5 1 (.slice ad k cp) k (ns .u8 (rs.take k))) := hown
      have HB : Hid (Below v4.heap.size v4 wr) := hbel
      clear hown hsome htab hbel q0 q1 q2
      generalize tb k = x0 at *
      generalize ty k = x1 at *
      generalize ta k = x2 at *
      have x9 : (x0 : Int) < 256 := by omega
      go_wp2_with fail
      have HBV : Hid (Below wr.heap.size wr (((wr.alloc (.cells #[.int .i64 (x0 : Int), .int .i64 x1, .int .i64 x2] 43)).alloc (.cells #[.int .u8 (x0 : Int)] 5)).alloc (.cells #[.int .i64 x1] 3))) := to_alloc (to_alloc (from_alloc _ _) _) _
      have HRV : Hid (Rw (((wr.alloc (.cells #[.int .i64 (x0 : Int), .int .i64 x1, .int .i64 x2] 43)).alloc (.cells #[.int .u8 (x0 : Int)] 5)).alloc (.cells #[.int .i64 x1] 3)) (wr.heap.size + 1) [x0]) := (Rw.built _ [x0] (by simp)).to (from_alloc _ _)
      have HIV : Hid (Ri 3 (((wr.alloc (.cells #[.int .i64 (x0 : Int), .int .i64 x1, .int .i64 x2] 43)).alloc (.cells #[.int .u8 (x0 : Int)] 5)).alloc (.cells #[.int .i64 x1] 3)) (wr.heap.size + 1 + 1) [x1]) := Ri.built 3 _ [x1] (by simp)
      generalize (((wr.alloc (.cells #[.int .i64 (x0 : Int), .int .i64 x1, .int .i64 x2] 43)).alloc (.cells #[.int .u8 (x0 : Int)] 5)).alloc (.cells #[.int .i64 x1] 3)) = v at *
      clear c0 c1 c2
      refine (predict_ok (C := [x0]) (A := [x1]) (n := 1) HRV.out.sl HIV.out.si (byt1 q3) ⟨by simp, rfl, by
        refine wiB_yes fun j hj => ?_
        obtain rfl : j = 0 := by simpa using hj
        exact ⟨q4, q5⟩, q6, q7⟩ rfl).mono ?_
      rw [q8]
      rintro e v5 ⟨gp, rfl, hr5, _, hb5⟩
      have HBv : Hid (Below wr.heap.size wr v5) := below_to HBV.out hb5
      have c0 : v5.cell? ⟨gp, 0, none⟩ = some (.int .u8 (rs.getD k 0 : Nat)) := hr5.cell 0 (by simp)
      have HOv : Hid (v5.ownsRow v4.heap.size 5 1 (.slice ad k cp) k (ns .u8 (rs.take k))) := own_below HO.out HBv.out
      have HBw : Hid (Below v4.heap.size v4 v5) := below_to HB.out HBv.out
      have HSz : Hid (v4.heap.size ≤ v5.heap.size) := HBw.out.size
      have HTk : Hid (rs.take k ++ [rs.getD k 0] = rs.take (k + 1)) := take_step (by show _ < 10; omega)
      clear hr5 hb5 HBV HRV HIV HO HB q3 q4 q5 q6 q7 q8
      generalize rs.getD k 0 = z at *
      go_wp2_with (at_builtin; refine wpList_append_u8 _ (by rfl) _ _ (by rfl) v4.heap.size k (rs.take k) (.slice ad k cp) _ z rfl HOv.out HSz.out (by omega) (by rfl) (by rfl) ?_; intro g cap w5 how hb6)
      go_roundw
      case rel => exact ⟨k + 1, by omega, by go_num, ⟨⟨_, cap, rfl, by rw [← HTk.out]; exact how, fun _ => ⟨g, rfl⟩⟩, HBw.out.trans hb6⟩⟩
      case measure => simp [intOf]; omega
    · obtain rfl : k = 10 := by omega
      have HOw : Hid (Sl wr .u8 ad rs) := by
        have h10 : rs.take 10 = rs := rfl
        rw [h10] at hown
        exact own_sl (n := 10) (L := rs) rfl (by omega) hown (hsome (by omega))
      have HBr : Hid (Below w.heap.size w wr) := below_to HB14.out hbel
      clear hown hsome hbel HTb HB14
      have ers : eqB rs rs = true := eqB_self _
      obtain ⟨O96, hm96⟩ : ∃ O : Obj, ∀ u : World, (Instr.makeSlice 22 (.int .i64 96) (.int .i64 96)).run Try.prog u = .ok (.slice (some ⟨u.heap.size, 0, none⟩) 96 96) (u.alloc O) := ⟨_, fun u => mk_row (n := 96) (by omega) u⟩
      obtain ⟨O63, hm63⟩ : ∃ O : Obj, ∀ u : World, (Instr.makeSlice 22 (.int .i64 63) (.int .i64 63)).run Try.prog u = .ok (.slice (some ⟨u.heap.size, 0, none⟩) 63 63) (u.alloc O) := ⟨_, fun u => mk_row (n := 63) (by omega) u⟩
      obtain ⟨O80, hm80⟩ : ∃ O : Obj, ∀ u : World, (Instr.makeSlice 22 (.int .i64 80) (.int .i64 80)).run Try.prog u = .ok (.slice (some ⟨u.heap.size, 0, none⟩) 80 80) (u.alloc O) := ⟨_, fun u => mk_row (n := 80) (by omega) u⟩
      obtain ⟨O576, hm576⟩ : ∃ O : Obj, ∀ u : World, (Instr.makeSlice 22 (.int .i64 576) (.int .i64 576)).run Try.prog u = .ok (.slice (some ⟨u.heap.size, 0, none⟩) 576 576) (u.alloc O) := ⟨_, fun u => mk_row (n := 576) (by omega) u⟩
      obtain ⟨O64, hm64⟩ : ∃ O : Obj, ∀ u : World, (Instr.makeSlice 22 (.int .i64 64) (.int .i64 64)).run Try.prog u = .ok (.slice (some ⟨u.heap.size, 0, none⟩) 64 64) (u.alloc O) := ⟨_, fun u => mk_row (n := 64) (by omega) u⟩
      obtain ⟨O1025, hm1025⟩ : ∃ O : Obj, ∀ u : World, (Instr.makeSlice 22 (.int .i64 1025) (.int .i64 1025)).run Try.prog u = .ok (.slice (some ⟨u.heap.size, 0, none⟩) 1025 1025) (u.alloc O) := ⟨_, fun u => mk_row (n := 1025) (by omega) u⟩
      obtain ⟨Q1025, hn1025⟩ : ∃ O : Obj, ∀ u : World, (Instr.makeSlice 24 (.int .i64 1025) (.int .i64 1025)).run Try.prog u = .ok (.slice (some ⟨u.heap.size, 0, none⟩) 1025 1025) (u.alloc O) := ⟨_, fun u => mk_ints (n := 1025) (by omega) u⟩
      go_wp2_with fail
      have HS0 : Hid (Sl (wr.alloc (.cells #[.int .u8 90, .int .u8 255, .int .u8 0, .int .u8 101, .int .u8 100, .int .u8 99, .int .u8 100, .int .u8 0, .int .u8 255, .int .u8 101] 5)) .u8 ad rs) := HOw.out.to (from_alloc _ _)
      have HS1 : Hid (Sl (wr.alloc (.cells #[.int .u8 90, .int .u8 255, .int .u8 0, .int .u8 101, .int .u8 100, .int .u8 99, .int .u8 100, .int .u8 0, .int .u8 255, .int .u8 101] 5)) .u8 (some ⟨wr.heap.size, 0, none⟩) rs) := (Rw.built wr rs rfl).sl
      have HB0 : Hid (Below w.heap.size w (wr.alloc (.cells #[.int .u8 90, .int .u8 255, .int .u8 0, .int .u8 101, .int .u8 100, .int .u8 99, .int .u8 100, .int .u8 0, .int .u8 255, .int .u8 101] 5))) := to_alloc HBr.out _
      generalize (wr.alloc (.cells #[.int .u8 90, .int .u8 255, .int .u8 0, .int .u8 101, .int .u8 100, .int .u8 99, .int .u8 100, .int .u8 0, .int .u8 255, .int .u8 101] 5)) = x0 at *
      clear HOw HBr
      refine (eqBytes_at (n := 10) (m := 10) HS0.out HS1.out rfl rfl (by omega) (by omega)).mono ?_
      rintro e x1 ⟨rfl, hb1⟩
      rw [ers]
      have HC1 : Hid (Below w.heap.size w x1) := below_to HB0.out hb1
      clear hb1 HS0 HS1 HB0 ers
      go_wp2_with fail
      have HC2 : Hid (Below w.heap.size w (x1.alloc O96)) := to_alloc HC1.out _
      generalize (x1.alloc O96) = x2 at *
      clear HC1
      refine (ac_bad fun L hL => aok_side (Or.inl (by decide))).mono ?_
      rintro e w' ⟨rfl, rfl⟩
      go_wp2_with fail
      have HC3 : Hid (Below w.heap.size w ((x2.alloc (.cells #[.int .u8 1] 5)).alloc (.cells #[.int .i64 1, .int .i64 1] 3))) := to_alloc (to_alloc HC2.out _) _
      have HI3 : Hid (Ri 3 ((x2.alloc (.cells #[.int .u8 1] 5)).alloc (.cells #[.int .i64 1, .int .i64 1] 3)) (x2.heap.size + 1) [1, 1]) := Ri.built 3 _ [1, 1] (by simp)
      generalize ((x2.alloc (.cells #[.int .u8 1] 5)).alloc (.cells #[.int .i64 1, .int .i64 1] 3)) = x3 at *
      clear HC2
      refine (predict_no (C := [1]) (A := [1, 1]) HI3.out.si (by decide) (fun k => absurd k.len (by decide))).mono ?_
      rintro e x4 ⟨rfl, hb4⟩
      have HC4 : Hid (Below w.heap.size w x4) := below_to HC3.out hb4
      clear hb4 HI3 HC3
      go_wp2_with fail
      have HC5 : Hid (Below w.heap.size w (x4.alloc O63)) := to_alloc HC4.out _
      generalize (x4.alloc O63) = x5 at *
      clear HC4
      refine (ac_bad fun L hL => aok_len (x := 4) (y := 4) hL (by decide)).mono ?_
      rintro e w' ⟨rfl, rfl⟩
      go_wp2_with fail
      have HC6 : Hid (Below w.heap.size w (x5.alloc O80)) := to_alloc HC5.out _
      generalize (x5.alloc O80) = x6 at *
      clear HC5
      refine (ac_bad fun L hL => aok_side (Or.inl (by decide))).mono ?_
      rintro e w' ⟨rfl, rfl⟩
      go_wp2_with fail
      have HC7 : Hid (Below w.heap.size w (x6.alloc O576)) := to_alloc HC6.out _
      generalize (x6.alloc O576) = x7 at *
      clear HC6
      refine (ac_bad fun L hL => aok_side (Or.inl (by decide))).mono ?_
      rintro e w' ⟨rfl, rfl⟩
      go_wp2_with fail
      refine (ac_bad fun L hL => aok_side (Or.inl (by decide))).mono ?_
      rintro e w' ⟨rfl, rfl⟩
      go_wp2_with fail
      have HC8 : Hid (Below w.heap.size w (x7.alloc O64)) := to_alloc HC7.out _
      generalize (x7.alloc O64) = x8 at *
      clear HC7
      refine (ac_bad fun L hL => aok_side (Or.inl (by decide))).mono ?_
      rintro e w' ⟨rfl, rfl⟩
      go_wp2_with fail
      have HC9 : Hid (Below w.heap.size w ((x8.alloc (.cells #[.int .u8 1, .int .u8 2] 5)).alloc (.cells #[.int .i64 1] 3))) := to_alloc (to_alloc HC8.out _) _
      have HI9 : Hid (Ri 3 ((x8.alloc (.cells #[.int .u8 1, .int .u8 2] 5)).alloc (.cells #[.int .i64 1] 3)) (x8.heap.size + 1) [1]) := Ri.built 3 _ [1] (by simp)
      generalize ((x8.alloc (.cells #[.int .u8 1, .int .u8 2] 5)).alloc (.cells #[.int .i64 1] 3)) = x9 at *
      clear HC8
      refine (predict_no (C := [1, 2]) (A := [1]) HI9.out.si (by decide) (fun k => absurd k.len (by decide))).mono ?_
      rintro e x10 ⟨rfl, hb10⟩
      have HC10 : Hid (Below w.heap.size w x10) := below_to HC9.out hb10
      clear hb10 HI9 HC9
      go_wp2_with fail
      have HC11 : Hid (Below w.heap.size w ((x10.alloc (.cells #[.int .u8 1] 5)).alloc (.cells #[.int .i64 2049] 3))) := to_alloc (to_alloc HC10.out _) _
      have HI11 : Hid (Ri 3 ((x10.alloc (.cells #[.int .u8 1] 5)).alloc (.cells #[.int .i64 2049] 3)) (x10.heap.size + 1) [2049]) := Ri.built 3 _ [2049] (by simp)
      generalize ((x10.alloc (.cells #[.int .u8 1] 5)).alloc (.cells #[.int .i64 2049] 3)) = x11 at *
      clear HC10
      refine (predict_no (C := [1]) (A := [2049]) HI11.out.si (by decide) (fun k => absurd k.nums (by decide))).mono ?_
      rintro e x12 ⟨rfl, hb12⟩
      have HC12 : Hid (Below w.heap.size w x12) := below_to HC11.out hb12
      clear hb12 HI11 HC11
      go_wp2_with fail
      have HC13 : Hid (Below w.heap.size w ((x12.alloc (.cells #[.int .u8 1] 5)).alloc (.cells #[.int .i64 (-2049)] 3))) := to_alloc (to_alloc HC12.out _) _
      have HI13 : Hid (Ri 3 ((x12.alloc (.cells #[.int .u8 1] 5)).alloc (.cells #[.int .i64 (-2049)] 3)) (x12.heap.size + 1) [-2049]) := Ri.built 3 _ [-2049] (by simp)
      generalize ((x12.alloc (.cells #[.int .u8 1] 5)).alloc (.cells #[.int .i64 (-2049)] 3)) = x13 at *
      clear HC12
      refine (predict_no (C := [1]) (A := [-2049]) HI13.out.si (by decide) (fun k => absurd k.nums (by decide))).mono ?_
      rintro e x14 ⟨rfl, hb14⟩
      have HC14 : Hid (Below w.heap.size w x14) := below_to HC13.out hb14
      clear hb14 HI13 HC13
      go_wp2_with fail
      have HC15 : Hid (Below w.heap.size w ((x14.alloc (.cells #[.int .u8 1] 5)).alloc (.cells #[.int .i64 1] 3))) := to_alloc (to_alloc HC14.out _) _
      have HI15 : Hid (Ri 3 ((x14.alloc (.cells #[.int .u8 1] 5)).alloc (.cells #[.int .i64 1] 3)) (x14.heap.size + 1) [1]) := Ri.built 3 _ [1] (by simp)
      generalize ((x14.alloc (.cells #[.int .u8 1] 5)).alloc (.cells #[.int .i64 1] 3)) = x15 at *
      clear HC14
      refine (predict_no (C := [1]) (A := [1]) HI15.out.si (by decide) (fun k => absurd k.a1 (by decide))).mono ?_
      rintro e x16 ⟨rfl, hb16⟩
      have HC16 : Hid (Below w.heap.size w x16) := below_to HC15.out hb16
      clear hb16 HI15 HC15
      go_wp2_with fail
      have HC17 : Hid (Below w.heap.size w ((x16.alloc (.cells #[.int .u8 1] 5)).alloc (.cells #[.int .i64 1] 3))) := to_alloc (to_alloc HC16.out _) _
      have HI17 : Hid (Ri 3 ((x16.alloc (.cells #[.int .u8 1] 5)).alloc (.cells #[.int .i64 1] 3)) (x16.heap.size + 1) [1]) := Ri.built 3 _ [1] (by simp)
      generalize ((x16.alloc (.cells #[.int .u8 1] 5)).alloc (.cells #[.int .i64 1] 3)) = x17 at *
      clear HC16
      refine (predict_no (C := [1]) (A := [1]) HI17.out.si (by decide) (fun k => absurd k.a0 (by decide))).mono ?_
      rintro e x18 ⟨rfl, hb18⟩
      have HC18 : Hid (Below w.heap.size w x18) := below_to HC17.out hb18
      clear hb18 HI17 HC17
      go_upto_region 29 with fail
      go_cut [38, 39] (fun s t T => Kc w T s t)
      case first =>
        have HCd : Hid (Below w.heap.size w x18.drew) := below_drew HC18.out
        go_region_held3 (fun _ => True) ((exact trivial)) ((go_at_call 15; refine predict_long.mono ?_; rintro e w' ⟨rfl, rfl⟩))
        all_goals
          go_wp2_with fail
          go_meet
          exact ⟨rfl, rfl, to_alloc (to_alloc HCd.out _) _⟩
      case rest =>
        obtain ⟨rfl, rfl, hkc⟩ := hcut
        have HCc : Hid (Below w.heap.size w wc) := hkc
        clear hkc hm96 hm63 hm80 hm576 hm64 hm1025 hn1025
        go_wp2_with fail
        refine (predict_nil ⟨by omega, by omega⟩).mono ?_
        rintro e y1 ⟨g9, rfl, _, _, hb9⟩
        have HCy : Hid (Below w.heap.size w y1) := below_to HCc.out hb9
        rw [show (pdL [] [] 0).length = 0 from rfl]
        clear hb9 HCc
        go_wp2_with fail
        refine works_any.mono ?_
        rintro e y2 ⟨rfl, hb10⟩
        have HCz : Hid (Below w.heap.size w y2) := below_to HCy.out hb10
        clear hb10
        go_wp2_with fail
        go_ret
        exact ⟨rfl, HCz.out⟩

end Go.Proofs.Ytlcegnnhlfafgaa
