/- DERIVED. The walk of MotionBlends. -/
import Derived.Test.YtpideemiijhkgaaDoorBl
namespace Go.Proofs.YtpideemiijhkgaaDoor
open Go.RowKit

set_option maxRecDepth 100000 in
set_option maxHeartbeats 4000000 in
theorem blends_walk {u : World} {a b : Option Addr} {c d : Nat} {C D : List Nat} {bw X Y w ht : Int} (hg : Gt u) (hi : ByIn u a c C) (hj : ByIn u b d D) (hxy : X ≤ 9223372036854775807 ∧ Y ≤ 9223372036854775807) (hl : C.length ≤ 140737488355328 ∧ D.length ≤ 140737488355328) :
    Calls Tryd.prog 5 #[.agg #[.slice a C.length c, .int .i64 bw, .int .i64 X, .int .i64 Y, .int .i64 w, .int .i64 ht, .slice b D.length d]] u fun e w' => e = .returned (.bool true) ∧ Below u.heap.size u w' := by
  obtain ⟨L, er, lL, hP, hQ⟩ := both_above hi.byt hj.byt hl.1 bw X Y w ht hxy.1 hxy.2
  obtain ⟨M, em, lM, hP2, hQ2⟩ := both_left hi.byt hj.byt hl.1 bw X Y w ht hxy.1 hxy.2
  have HP : Hid _ := hP
  have HQ : Hid _ := hQ
  have HP2 : Hid _ := hP2
  have HQ2 : Hid _ := hQ2
  have HL : Hid (L.length ≤ 140737488355328 ∧ M.length ≤ 140737488355328) := ⟨lL, lM⟩
  have HG : Hid (Gt u) := hg
  have HS : Hid (Sl u .u8 a C) := hi.sl
  have HT : Hid (Sl u .u8 b D) := hj.sl
  have HlC : Hid (C.length ≤ 140737488355328) := hl.1
  have HlD : Hid (D.length ≤ 140737488355328) := hl.2
  have HD0 : Hid (Bd u.heap.size a C.length c bw X Y w ht b D.length d (u.alloc (.cells #[.slice a C.length c, .int .i64 bw, .int .i64 X, .int .i64 Y, .int .i64 w, .int .i64 ht, .slice b D.length d] 51))) := Bd.built u a b C.length c D.length d bw X Y w ht
  have HB0 : Hid (Below u.heap.size u (u.alloc (.cells #[.slice a C.length c, .int .i64 bw, .int .i64 X, .int .i64 Y, .int .i64 w, .int .i64 ht, .slice b D.length d] 51))) := from_alloc _ _
  have hz : u.heap.size < (u.alloc (.cells #[.slice a C.length c, .int .i64 bw, .int .i64 X, .int .i64 Y, .int .i64 w, .int .i64 ht, .slice b D.length d] 51)).heap.size := by simp
  clear hP hQ hP2 hQ2 hg hi hj hl hxy lL lM
  go_enter Tryd.func5, Tryd.ntmps5
  go_upto_region 1 with fail
  generalize (u.alloc (.cells #[.slice a C.length c, .int .i64 bw, .int .i64 X, .int .i64 Y, .int .i64 w, .int .i64 ht, .slice b D.length d] 51)) = V at *
  have HCx : Hid (∀ t : World, Below V.drew.heap.size V.drew t → Calls Tryd.prog 15 #[.slice a C.length c] t fun e w' => ∃ a' c', e = .returned (.slice a' C.length c') ∧ Nw t w' a' c' C ∧ Below t.heap.size t w') := fun t ht => copyBytes_any (HS.out.to (below_to HB0.out (below_to (below_drew (Below.refl _ _)) ht))) HlC.out
  have HCy : Hid (∀ t : World, Below V.drew.heap.size V.drew t → Calls Tryd.prog 15 #[.slice b D.length d] t fun e w' => ∃ a' c', e = .returned (.slice a' D.length c') ∧ Nw t w' a' c' D ∧ Below t.heap.size t w') := fun t ht => copyBytes_any (HT.out.to (below_to HB0.out (below_to (below_drew (Below.refl _ _)) ht))) HlD.out
  have HK : Hid (∀ t : World, Below V.drew.heap.size V.drew t → t.cell? ⟨u.heap.size, 0, none⟩ = some (.slice a C.length c) ∧ t.cell? ⟨u.heap.size, 6, none⟩ = some (.slice b D.length d)) := fun t ht => by
    have h := HD0.out.below hz (below_to (below_drew (Below.refl _ _)) ht)
    exact ⟨h.c0, h.c6⟩
  go_cut [3, 4] (fun s3 s4 T => ∃ xa xc ya yc, s3 = .slice xa C.length xc ∧ s4 = .slice ya D.length yc ∧ Sl T .u8 xa C ∧ C.length ≤ xc ∧ Sl T .u8 ya D ∧ Below V.heap.size V T)
  case first =>
    go_region_held3 (fun t => t.cell? ⟨u.heap.size, 0, none⟩ = some (.slice a C.length c) ∧ t.cell? ⟨u.heap.size, 6, none⟩ = some (.slice b D.length d))
      ((exact HK.out _ (by first | exact Below.refl _ _ | assumption | exact below_to hbx hby | exact below_to hby hbx)))
      ((first | (go_at_call 15; with_reducible refine (HCx.out _ (by first | exact Below.refl _ _ | assumption)).mono ?_; rintro e wx ⟨xa, xc, rfl, nx, hbx⟩) | (go_at_call 15; with_reducible refine (HCy.out _ (by first | exact Below.refl _ _ | assumption)).mono ?_; rintro e wy ⟨ya, yc, rfl, ny, hby⟩)))
    all_goals
      go_wp2_with fail
      go_meet
      first
        | exact ⟨xa, xc, ya, yc, rfl, rfl, nx.sl.to hby, nx.cap, ny.sl, below_to (below_to (below_drew (Below.refl _ _)) hbx) hby⟩
        | exact ⟨xa, xc, ya, yc, rfl, rfl, nx.sl, nx.cap, ny.sl.to hbx, below_to (below_to (below_drew (Below.refl _ _)) hby) hbx⟩
  obtain ⟨xa, xc, ya, yc, rfl, rfl, sx, cx, sy, hb⟩ := hcut
  rename World => v2
  have SX : Hid (Sl v2 .u8 xa C) := sx
  have CX : Hid (C.length ≤ xc) := cx
  have SY : Hid (Sl v2 .u8 ya D) := sy
  have hd := HD0.out.below hz hb
  have HD2 : Hid (Bd u.heap.size a C.length c bw X Y w ht b D.length d v2) := hd
  have HB2 : Hid (Below u.heap.size u v2) := below_to HB0.out hb
  have hz2 : u.heap.size < v2.heap.size := Nat.lt_of_lt_of_le hz hb.size
  have e0 := hd.c0
  have e1 := hd.c1
  have e2 := hd.c2
  have e3 := hd.c3
  have e4 := hd.c4
  have e5 := hd.c5
  have e6 := hd.c6
  clear sx cx sy hb hd HCx HCy HK HD0 HB0 hz
  go_wp2_with fail
  refine (HP.out _ _ _ _ _ SX.out SY.out CX.out).mono ?_
  rintro e v3 ⟨a1, rfl, haw, hb⟩
  have A3 : Hid (Aw v2 v3 a1 L) := haw
  have B3 : Hid (Below v2.heap.size v2 v3) := hb
  have hd := HD2.out.below hz2 hb
  clear e0 e1 e2 e3 e4 e5 e6
  have e0 := hd.c0
  have e1 := hd.c1
  have e2 := hd.c2
  have e3 := hd.c3
  have e4 := hd.c4
  have e5 := hd.c5
  have e6 := hd.c6
  clear haw hb hd HP
  go_wp2_with fail
  refine (HQ.out _ _ _ _ _ (HS.out.to (below_to HB2.out B3.out)) (HT.out.to (below_to HB2.out B3.out))).mono ?_
  rintro e v4 ⟨b1, k1, rfl, hsl, hb, _⟩
  have A4 : Hid (Aw v2 v4 a1 L) := A3.out.to hb
  have S4 : Hid (Sl v4 .u8 b1 L) := hsl
  have B4 : Hid (Below v2.heap.size v2 v4) := below_to B3.out hb
  have hd := HD2.out.below hz2 B4.out
  clear e0 e1 e2 e3 e4 e5 e6
  have e0 := hd.c0
  have e1 := hd.c1
  have e2 := hd.c2
  have e3 := hd.c3
  have e4 := hd.c4
  have e5 := hd.c5
  have e6 := hd.c6
  clear hsl hb hd A3 B3 HQ
  go_wp2_with fail
  refine (HP2.out _ _ _ _ _ (SX.out.to B4.out) (SY.out.to B4.out) CX.out).mono ?_
  rintro e v5 ⟨a2, rfl, haw, hb⟩
  have A5 : Hid (Aw v2 v5 a1 L) := A4.out.to hb
  have S5 : Hid (Sl v5 .u8 b1 L) := S4.out.to hb
  have C5 : Hid (Aw v4 v5 a2 M) := haw
  have B5 : Hid (Below v2.heap.size v2 v5) := below_to B4.out hb
  have N4 : Hid (∀ i o s, a1 = some ⟨i, o, s⟩ → i < v4.heap.size) := fun i o s e => (A4.out.new i o s e).2
  have Z5 : Hid (v4.heap.size ≤ v5.heap.size) := hb.size
  have hd := HD2.out.below hz2 B5.out
  clear e0 e1 e2 e3 e4 e5 e6
  have e0 := hd.c0
  have e1 := hd.c1
  have e2 := hd.c2
  have e3 := hd.c3
  have e4 := hd.c4
  have e5 := hd.c5
  have e6 := hd.c6
  clear haw hb hd A4 S4 HP2
  go_wp2_with fail
  refine (HQ2.out _ _ _ _ _ (HS.out.to (below_to HB2.out B5.out)) (HT.out.to (below_to HB2.out B5.out))).mono ?_
  rintro e v6 ⟨b2, k2, rfl, hsl, hb, hnw⟩
  have A6 : Hid (Aw v2 v6 a1 L) := A5.out.to hb
  have S6 : Hid (Sl v6 .u8 b1 L) := S5.out.to hb
  have C6 : Hid (Aw v4 v6 a2 M) := C5.out.to hb
  have T6 : Hid (Sl v6 .u8 b2 M) := hsl
  have W6 : Hid (∀ i o s, b2 = some ⟨i, o, s⟩ → v5.heap.size ≤ i) := hnw
  have B6 : Hid (Below v2.heap.size v2 v6) := below_to B5.out hb
  have Z6 : Hid (v4.heap.size ≤ v6.heap.size) := Nat.le_trans Z5.out hb.size
  clear e0 e1 e2 e3 e4 e5 e6
  clear hsl hb hnw A5 S5 C5 B5 HQ2
  go_wp2_with fail
  refine (told_ko A6.out S6.out HL.out.1).mono ?_
  rintro e v7 ⟨rfl, hk⟩
  have C7 : Hid (Aw v4 v7 a2 M) := C6.out.ko hk N4.out
  have T7 : Hid (Sl v7 .u8 b2 M) := T6.out.ko hk (fun i o s o' s' e1 e2 => by
    have h1 := N4.out i o s e1
    have h2 := W6.out i o' s' e2
    have h3 := Z5.out
    omega)
  have B7 : Hid (Below v2.heap.size v2 v7) := B6.out.trans (hk.below B6.out.size (fun i o s e => (A6.out.new i o s e).1))
  have Z7 : Hid (v4.heap.size ≤ v7.heap.size) := Nat.le_trans Z6.out hk.size
  clear hk A6 S6 C6 T6 W6
  go_wp2_with fail
  refine (told_ko C7.out T7.out HL.out.2).mono ?_
  rintro e v8 ⟨rfl, hk⟩
  have B8 : Hid (Below v2.heap.size v2 v8) := B7.out.trans (hk.below B7.out.size (fun i o s e => Nat.le_trans B4.out.size (C7.out.new i o s e).1))
  have hd := HD2.out.below hz2 B8.out
  have e0 := hd.c0
  have D8 : Hid (Bd u.heap.size a C.length c bw X Y w ht b D.length d v8) := hd
  clear hk hd C7 T7 B7
  go_wp2_with fail
  refine (eqBytes_same (C := C) (SX.out.to B8.out) (HS.out.to (below_to HB2.out B8.out)) rfl HlC.out).mono ?_
  rintro e v9 ⟨rfl, hb⟩
  have B9 : Hid (Below v2.heap.size v2 v9) := below_to B8.out hb
  have hd := HD2.out.below hz2 B9.out
  have e6 := hd.c6
  clear hb hd e0 B8 D8
  go_wp2_with fail
  refine (eqBytes_same (C := D) (SY.out.to B9.out) (HT.out.to (below_to HB2.out B9.out)) rfl HlD.out).mono ?_
  rintro e w1 ⟨rfl, hb⟩
  have B10 : Hid (Below u.heap.size u w1) := below_to HB2.out (below_to B9.out hb)
  clear hb e6 B9
  go_wp2_with fail
  refine (works_true (HG.out.to B10.out)).mono ?_
  rintro e w2 ⟨rfl, hb⟩
  have B11 : Hid (Below u.heap.size u w2) := below_to B10.out hb
  clear hb B10
  go_wp2_with fail
  go_ret
  exact ⟨rfl, B11.out⟩

end Go.Proofs.YtpideemiijhkgaaDoor
