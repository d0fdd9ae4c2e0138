/- DERIVED. The walk of PartUsed. -/
import Derived.Test.YtjijgeeejhijhaaFa
import Derived.Test.YtjijgeeejhijhaaFc
import Derived.Test.YtjijgeeejhijhaaUb
import Derived.Test.YtjijgeeejhijhaaFd
namespace Go.Proofs.Ytjijgeeejhijhaa
open Go.RowKit

set_option maxRecDepth 100000 in
set_option maxHeartbeats 16000000 in
theorem used_walk {W : World} {x y s s' ax ay aw ah : Int} {a : Option Addr} {c : Nat} {C : List Int} (hs : Si W a C) (hc : C.length ≤ c) (hl : C.length ≤ 17592186043904) : Calls Try.prog 7 #[.agg #[.int .i64 x, .int .i64 y, .int .i64 s, .int .i64 s'], .agg #[.int .i64 ax, .int .i64 ay, .int .i64 aw, .int .i64 ah], .slice a C.length c] W fun e w' => e = .returned (.bool true) ∧ Below W.heap.size W w' := by
  have HL : Hid (C.length ≤ 17592186043904) := hl
  have HSi : Hid (Si W a C) := hs
  have K3 : Hid (Fr ((W.alloc (.cells #[.int .i64 x, .int .i64 y, .int .i64 s, .int .i64 s'] 23)).alloc (.cells #[.int .i64 ax, .int .i64 ay, .int .i64 aw, .int .i64 ah] 23)) W.heap.size x y s s') := ⟨by simp [go_sem], by simp [go_sem], by simp [go_sem], by simp [go_sem]⟩
  have K4 : Hid (Fr ((W.alloc (.cells #[.int .i64 x, .int .i64 y, .int .i64 s, .int .i64 s'] 23)).alloc (.cells #[.int .i64 ax, .int .i64 ay, .int .i64 aw, .int .i64 ah] 23)) (W.heap.size + 1) ax ay aw ah) := ⟨by simp [go_sem], by simp [go_sem], by simp [go_sem], by simp [go_sem]⟩
  have KB : Hid (Below W.heap.size W ((W.alloc (.cells #[.int .i64 x, .int .i64 y, .int .i64 s, .int .i64 s'] 23)).alloc (.cells #[.int .i64 ax, .int .i64 ay, .int .i64 aw, .int .i64 ah] 23))) := to_alloc (from_alloc _ _) _
  have KZ : Hid (W.heap.size + 2 ≤ ((W.alloc (.cells #[.int .i64 x, .int .i64 y, .int .i64 s, .int .i64 s'] 23)).alloc (.cells #[.int .i64 ax, .int .i64 ay, .int .i64 aw, .int .i64 ah] 23)).heap.size) := by show _ ≤ _; simp
  have KF : Hid (∀ j, ((W.alloc (.cells #[.int .i64 x, .int .i64 y, .int .i64 s, .int .i64 s'] 23)).alloc (.cells #[.int .i64 ax, .int .i64 ay, .int .i64 aw, .int .i64 ah] 23)).frozen? ⟨W.heap.size, j, none⟩ = false ∧ ((W.alloc (.cells #[.int .i64 x, .int .i64 y, .int .i64 s, .int .i64 s'] 23)).alloc (.cells #[.int .i64 ax, .int .i64 ay, .int .i64 aw, .int .i64 ah] 23)).frozen? ⟨W.heap.size + 1, j, none⟩ = false) := fun j => ⟨by first | (simp [go_sem]; done) | (simp [World.frozen?, go_sem]; done), by first | (simp [go_sem]; done) | (simp [World.frozen?, go_sem]; done)⟩
  have HBr : Hid (∀ t, Calls Try.prog 19 #[.agg #[.int .i64 x, .int .i64 y, .int .i64 s, .int .i64 s'], .agg #[.int .i64 ax, .int .i64 ay, .int .i64 aw, .int .i64 ah]] t fun e w' => e = .returned (.tuple #[.agg #[.int .i64 (brS x y).1, .int .i64 (brS x y).2.1, .int .i64 64, .int .i64 64], .agg #[.int .i64 (brA ax ay aw ah).1, .int .i64 (brA ax ay aw ah).2.1, .int .i64 (brA ax ay aw ah).2.2.1, .int .i64 (brA ax ay aw ah).2.2.2]]) ∧ Below t.heap.size t w') := fun t => brought_any
  have hsq := brS_sqr x y
  have har := brA_are ax ay aw ah
  have ha8 := brA_8 ax ay aw ah
  generalize (brS x y).1 = X at *
  generalize (brS x y).2.1 = Y at *
  generalize brA ax ay aw ah = ar at *
  obtain ⟨AX, AY, AW, AH⟩ := ar
  simp only at har ha8
  have HBl : Hid (∀ t, Si t a C → Calls Try.prog 16 #[.agg #[.int .i64 X, .int .i64 Y, .int .i64 64, .int .i64 64], .agg #[.int .i64 AX, .int .i64 AY, .int .i64 AW, .int .i64 AH], .slice a C.length c] t fun e w' => Bq t w' e (tree (AX, AY, AW, AH) C 3 X Y 0)) := fun t ht => blocks_ok hsq har ht (by omega)
  obtain ⟨hrg, -, hX1, hY1⟩ := sqr_in hsq
  obtain ⟨-, -, ⟨hX0, -, hX8⟩, ⟨hY0, -, hY8⟩⟩ := rgn_in hrg
  obtain ⟨⟨A0, A0', -⟩, ⟨A1, A1', -⟩, ⟨A2, A2', -⟩, ⟨A3, A3', -⟩⟩ := are_in har
  obtain ⟨p, hp⟩ : ∃ p, tree (AX, AY, AW, AH) C 3 X Y 0 = p := ⟨_, rfl⟩
  obtain ⟨l, n⟩ := p
  have hn := tree_used (ar := (AX, AY, AW, AH)) (C := C) 3 X Y 0 (Nat.zero_le _)
  have hm := tree_mx (ar := (AX, AY, AW, AH)) (C := C) 3 X Y 0
  have hlen := tree_len (ar := (AX, AY, AW, AH)) (C := C) 3 X Y 0
  have e21 : 0 + mx 3 = 21 := by decide
  have e64 : lf 3 = 64 := rfl
  rw [e21, hp] at hm
  rw [hp, e64] at hlen
  rw [hp] at hn
  simp only at hn hm hlen
  obtain ⟨u1, u2, u3⟩ := used_all (ar := (AX, AY, AW, AH)) (C := C) (X := X) (Y := Y) (n := n) (by rw [hp]) hn.2
  rw [hp] at u1 u3 HBl
  obtain ⟨q, hq⟩ : ∃ q, tree (AX, AY, AW, AH) (tnL C n ++ [3, 3, 3]) 3 X Y 0 = q := ⟨_, rfl⟩
  have hlenq := tree_len (ar := (AX, AY, AW, AH)) (C := tnL C n ++ [3, 3, 3]) 3 X Y 0
  have hmq := tree_mx (ar := (AX, AY, AW, AH)) (C := tnL C n ++ [3, 3, 3]) 3 X Y 0
  rw [e21, hq] at hmq
  rw [hq, e64] at hlenq
  rw [hq] at u2 u3
  obtain ⟨lq, m⟩ := q
  simp only at u2 hlenq hmq
  have HBt : Hid (∀ t a' c', Si t a' (C.take n) → Calls Try.prog 16 #[.agg #[.int .i64 X, .int .i64 Y, .int .i64 64, .int .i64 64], .agg #[.int .i64 AX, .int .i64 AY, .int .i64 AW, .int .i64 AH], .slice a' n c'] t fun e w' => Bq t w' e (l, n)) := fun t a' c' ht => by
    have h := blocks_ok (c := c') hsq har ht (by rw [List.length_take]; omega)
    rw [u1, List.length_take, Nat.min_eq_left hn.2] at h; exact h
  have HBd : Hid (∀ t a' c', Si t a' (tnL C n ++ [3, 3, 3]) → Calls Try.prog 16 #[.agg #[.int .i64 X, .int .i64 Y, .int .i64 64, .int .i64 64], .agg #[.int .i64 AX, .int .i64 AY, .int .i64 AW, .int .i64 AH], .slice a' (n + 3) c'] t fun e w' => Bq t w' e (lq, m)) := fun t a' c' ht => by
    have h := blocks_ok (c := c') hsq har ht (by rw [List.length_append, tnL_len]; show n + 3 ≤ _; omega)
    rw [hq, List.length_append, tnL_len] at h; exact h
  have HBr4 : Hid (∀ t z, Calls Try.prog 21 #[.int .i64 z, .int .i64 40] t fun e w' => e = .returned (.int .i64 (z % 40)) ∧ t = w') := fun t z => bring_any (by omega) (by omega)
  have HU : Hid (n ≤ m ∧ (n = C.length ∨ (lq, m) = (l, n))) := ⟨u2, u3⟩
  have HLl : Hid (l.length ≤ 64 ∧ lq.length ≤ 64) := ⟨hlen, hlenq⟩
  have HM : Hid (n ≤ 21) := hm
  have HM2 : Hid (m ≤ 21) := hmq
  have HN2 : Hid (n ≤ C.length) := hn.2
  have HC : Hid (C.length ≤ c) := hc
  obtain ⟨a1, ha1, ha1s⟩ := cut_to (a := a) (len := C.length) (c := c) (n := n) (Nat.le_trans hn.2 hc)
  have HA1 : Hid (Si W a1 (C.take n)) := ha1s _ _ hs
  clear ha1s hs hl hc hsq har ha8 hrg hX8 hY8 hn hm hmq hlen hlenq e21 e64 hp hq u1 u2 u3
  go_enter Try.func7, Try.ntmps7
  go_upto_region 1 with fail
  generalize ((W.alloc (.cells #[.int .i64 x, .int .i64 y, .int .i64 s, .int .i64 s'] 23)).alloc (.cells #[.int .i64 ax, .int .i64 ay, .int .i64 aw, .int .i64 ah] 23)) = V0 at *
  go_wp2_with fail
  refine (works_true _).mono ?_
  rintro e V1 ⟨rfl, hb⟩
  have M3 : Hid (Fr V1 W.heap.size x y s s') := K3.out.below hb (by have := KZ.out; omega)
  have M4 : Hid (Fr V1 (W.heap.size + 1) ax ay aw ah) := K4.out.below hb (by have := KZ.out; omega)
  have MF : Hid (∀ j, V1.frozen? ⟨W.heap.size, j, none⟩ = false ∧ V1.frozen? ⟨W.heap.size + 1, j, none⟩ = false) := fun j => ⟨by rw [newFrozen hb _ _ (by have := KZ.out; omega)]; exact (KF.out j).1, by rw [newFrozen hb _ _ (by have := KZ.out; omega)]; exact (KF.out j).2⟩
  have MB : Hid (Below W.heap.size W V1) := below_to KB.out (hb.mono (by have := KZ.out; omega))
  have MZ : Hid (W.heap.size + 2 ≤ V1.heap.size) := Nat.le_trans KZ.out hb.size
  clear hb K3 K4 KB KZ KF
  obtain ⟨r0, r1, r2, r3⟩ := M3.out
  obtain ⟨a0, a1', a2, a3⟩ := M4.out
  go_wp2_with fail
  refine (HBr.out _).mono ?_
  rintro e V2 ⟨rfl, hb⟩
  have N3 : Hid (Fr V2 W.heap.size x y s s') := M3.out.below hb (by have := MZ.out; omega)
  have N4 : Hid (Fr V2 (W.heap.size + 1) ax ay aw ah) := M4.out.below hb (by have := MZ.out; omega)
  have NF : Hid (∀ j, V2.frozen? ⟨W.heap.size, j, none⟩ = false ∧ V2.frozen? ⟨W.heap.size + 1, j, none⟩ = false) := fun j => ⟨by rw [newFrozen hb _ _ (by have := MZ.out; omega)]; exact (MF.out j).1, by rw [newFrozen hb _ _ (by have := MZ.out; omega)]; exact (MF.out j).2⟩
  have NB : Hid (Below W.heap.size W V2) := below_to MB.out (hb.mono (by have := MZ.out; omega))
  have NZ : Hid (W.heap.size + 2 ≤ V2.heap.size) := Nat.le_trans MZ.out hb.size
  clear hb r0 r1 r2 r3 a0 a1' a2 a3 M3 M4 MF MB MZ HBr
  obtain ⟨r0, r1, r2, r3⟩ := N3.out
  obtain ⟨a0, a1', a2, a3⟩ := N4.out
  obtain ⟨f0, g0⟩ := NF.out 0
  obtain ⟨f1, g1⟩ := NF.out 1
  obtain ⟨f2, g2⟩ := NF.out 2
  obtain ⟨f3, g3⟩ := NF.out 3
  have P3 : Hid (Fr ((((((((V2.setCell ⟨W.heap.size, 0, none⟩ (.int .i64 X)).setCell ⟨W.heap.size, 1, none⟩ (.int .i64 Y)).setCell ⟨W.heap.size, 2, none⟩ (.int .i64 64)).setCell ⟨W.heap.size, 3, none⟩ (.int .i64 64)).setCell ⟨W.heap.size + 1, 0, none⟩ (.int .i64 AX)).setCell ⟨W.heap.size + 1, 1, none⟩ (.int .i64 AY)).setCell ⟨W.heap.size + 1, 2, none⟩ (.int .i64 AW)).setCell ⟨W.heap.size + 1, 3, none⟩ (.int .i64 AH)) W.heap.size X Y 64 64) := fr_off (fr_off (fr_off (fr_off (N3.out.set4 X Y 64 64) (by omega) _) (by omega) _) (by omega) _) (by omega) _
  have P4 : Hid (Fr ((((((((V2.setCell ⟨W.heap.size, 0, none⟩ (.int .i64 X)).setCell ⟨W.heap.size, 1, none⟩ (.int .i64 Y)).setCell ⟨W.heap.size, 2, none⟩ (.int .i64 64)).setCell ⟨W.heap.size, 3, none⟩ (.int .i64 64)).setCell ⟨W.heap.size + 1, 0, none⟩ (.int .i64 AX)).setCell ⟨W.heap.size + 1, 1, none⟩ (.int .i64 AY)).setCell ⟨W.heap.size + 1, 2, none⟩ (.int .i64 AW)).setCell ⟨W.heap.size + 1, 3, none⟩ (.int .i64 AH)) (W.heap.size + 1) AX AY AW AH) := (fr_off (fr_off (fr_off (fr_off N4.out (by omega) _) (by omega) _) (by omega) _) (by omega) _).set4 AX AY AW AH
  have PB : Hid (Below W.heap.size W ((((((((V2.setCell ⟨W.heap.size, 0, none⟩ (.int .i64 X)).setCell ⟨W.heap.size, 1, none⟩ (.int .i64 Y)).setCell ⟨W.heap.size, 2, none⟩ (.int .i64 64)).setCell ⟨W.heap.size, 3, none⟩ (.int .i64 64)).setCell ⟨W.heap.size + 1, 0, none⟩ (.int .i64 AX)).setCell ⟨W.heap.size + 1, 1, none⟩ (.int .i64 AY)).setCell ⟨W.heap.size + 1, 2, none⟩ (.int .i64 AW)).setCell ⟨W.heap.size + 1, 3, none⟩ (.int .i64 AH))) := below_set (below_set (below_set (below_set (below_set (below_set (below_set (below_set NB.out (by simp) _) (by simp) _) (by simp) _) (by simp) _) (by simp) _) (by simp) _) (by simp) _) (by simp) _
  have PZ : Hid (W.heap.size + 2 ≤ ((((((((V2.setCell ⟨W.heap.size, 0, none⟩ (.int .i64 X)).setCell ⟨W.heap.size, 1, none⟩ (.int .i64 Y)).setCell ⟨W.heap.size, 2, none⟩ (.int .i64 64)).setCell ⟨W.heap.size, 3, none⟩ (.int .i64 64)).setCell ⟨W.heap.size + 1, 0, none⟩ (.int .i64 AX)).setCell ⟨W.heap.size + 1, 1, none⟩ (.int .i64 AY)).setCell ⟨W.heap.size + 1, 2, none⟩ (.int .i64 AW)).setCell ⟨W.heap.size + 1, 3, none⟩ (.int .i64 AH)).heap.size) := by show _ ≤ _; simpa using NZ.out
  go_upto_region 4 with fail
  generalize ((((((((V2.setCell ⟨W.heap.size, 0, none⟩ (.int .i64 X)).setCell ⟨W.heap.size, 1, none⟩ (.int .i64 Y)).setCell ⟨W.heap.size, 2, none⟩ (.int .i64 64)).setCell ⟨W.heap.size, 3, none⟩ (.int .i64 64)).setCell ⟨W.heap.size + 1, 0, none⟩ (.int .i64 AX)).setCell ⟨W.heap.size + 1, 1, none⟩ (.int .i64 AY)).setCell ⟨W.heap.size + 1, 2, none⟩ (.int .i64 AW)).setCell ⟨W.heap.size + 1, 3, none⟩ (.int .i64 AH)) = V3 at *
  clear r0 r1 r2 r3 a0 a1' a2 a3 f0 f1 f2 f3 g0 g1 g2 g3 N3 N4 NF NB NZ
  obtain ⟨r0, r1, r2, r3⟩ := P3.out
  obtain ⟨a0, a1', a2, a3⟩ := P4.out
  go_wp2_with fail
  refine (HBl.out _ (HSi.out.to PB.out)).mono ?_
  rintro e V4 ⟨v, rfl, ho, hb⟩
  obtain ⟨av, cv, hv, hsr⟩ := ho.sl
  subst hv
  have Q3 : Hid (Fr V4 W.heap.size X Y 64 64) := P3.out.below hb (by have := PZ.out; omega)
  have Q4 : Hid (Fr V4 (W.heap.size + 1) AX AY AW AH) := P4.out.below hb (by have := PZ.out; omega)
  have QB : Hid (Below W.heap.size W V4) := below_to PB.out (hb.mono (by have := PZ.out; omega))
  have QZ : Hid (W.heap.size + 2 ≤ V4.heap.size) := Nat.le_trans PZ.out hb.size
  have QS : Hid (Sr V4 av l) := hsr
  clear ho hsr hb r0 r1 r2 r3 a0 a1' a2 a3 P3 P4 PB PZ HBl
  obtain ⟨r0, r1, r2, r3⟩ := Q3.out
  obtain ⟨a0, a1', a2, a3⟩ := Q4.out
  have n0 : (0 : Int) ≤ (n : Int) := by omega
  have n1 : (n : Int) ≤ (C.length : Int) := by have := HN2.out; omega
  have n2 : (n : Int) ≤ 21 := by have := HM.out; omega
  go_upto_region 7 with fail
  have HD : Hid (Below V4.heap.size V4 V4.drew) := below_drew (Below.refl _ _)
  have HK : Hid (∀ t : World, Below V4.heap.size V4 t → t.cell? ⟨W.heap.size, 0, none⟩ = some (.int .i64 X) ∧ t.cell? ⟨W.heap.size, 1, none⟩ = some (.int .i64 Y) ∧ t.cell? ⟨W.heap.size, 2, none⟩ = some (.int .i64 64) ∧ t.cell? ⟨W.heap.size, 3, none⟩ = some (.int .i64 64) ∧ t.cell? ⟨W.heap.size + 1, 0, none⟩ = some (.int .i64 AX) ∧ t.cell? ⟨W.heap.size + 1, 1, none⟩ = some (.int .i64 AY) ∧ t.cell? ⟨W.heap.size + 1, 2, none⟩ = some (.int .i64 AW) ∧ t.cell? ⟨W.heap.size + 1, 3, none⟩ = some (.int .i64 AH)) := fun t ht => by
    have a := Q3.out.below ht (by have := QZ.out; omega)
    have b := Q4.out.below ht (by have := QZ.out; omega)
    exact ⟨a.r0, a.r1, a.r2, a.r3, b.r0, b.r1, b.r2, b.r3⟩
  have HCa : Hid (Calls Try.prog 16 #[.agg #[.int .i64 X, .int .i64 Y, .int .i64 64, .int .i64 64], .agg #[.int .i64 AX, .int .i64 AY, .int .i64 AW, .int .i64 AH], .slice a1 n c] V4.drew fun e w' => Bq V4.drew w' e (l, n)) := HBt.out _ _ _ (HA1.out.to (below_drew QB.out))
  clear HBt HA1
  go_cut [10, 11, 12] (fun s10 s11 s12 T => ∃ bv db, s10 = .slice bv l.length db ∧ s11 = .int .i64 n ∧ s12 = .int .i64 0 ∧ Hid (Sr T bv l) ∧ Hid (Below V4.heap.size V4 T))
  case first =>
    clear r0 r1 r2 r3 a0 a1' a2 a3
    go_region_held3 (fun t => t.cell? ⟨W.heap.size, 0, none⟩ = some (.int .i64 X) ∧ t.cell? ⟨W.heap.size, 1, none⟩ = some (.int .i64 Y) ∧ t.cell? ⟨W.heap.size, 2, none⟩ = some (.int .i64 64) ∧ t.cell? ⟨W.heap.size, 3, none⟩ = some (.int .i64 64) ∧ t.cell? ⟨W.heap.size + 1, 0, none⟩ = some (.int .i64 AX) ∧ t.cell? ⟨W.heap.size + 1, 1, none⟩ = some (.int .i64 AY) ∧ t.cell? ⟨W.heap.size + 1, 2, none⟩ = some (.int .i64 AW) ∧ t.cell? ⟨W.heap.size + 1, 3, none⟩ = some (.int .i64 AH))
      ((exact HK.out _ (by first | exact HD.out | exact hbX | exact below_drew hbX)))
      ((go_at_call 16; refine HCa.out.mono ?_; rintro e w5 ⟨v, rfl, ho, hb5⟩; have hbX : Below V4.heap.size V4 w5 := below_to HD.out hb5; obtain ⟨bv, db, hv, hsb⟩ := ho.sl; subst hv))
    all_goals
      go_wp2_with fail
      go_meet
      first
        | exact ⟨_, _, rfl, rfl, rfl, hsb, hbX⟩
        | exact ⟨_, _, rfl, rfl, rfl, hsb.to (below_drew (Below.refl _ _)), below_drew hbX⟩
  obtain ⟨bv, db, rfl, rfl, rfl, hsb, hbX⟩ := hcut
  rename World => V5
  have R3 : Hid (Fr V5 W.heap.size X Y 64 64) := Q3.out.below hbX (by have := QZ.out; omega)
  have R4 : Hid (Fr V5 (W.heap.size + 1) AX AY AW AH) := Q4.out.below hbX (by have := QZ.out; omega)
  have RB : Hid (Below W.heap.size W V5) := below_to QB.out (hbX.mono (by have := QZ.out; omega))
  have RZ : Hid (W.heap.size + 2 ≤ V5.heap.size) := Nat.le_trans QZ.out hbX.out.size
  have RS : Hid (Sr V5 av l) := QS.out.to hbX
  have RT : Hid (Sr V5 bv l) := hsb
  clear hsb hbX r0 r1 r2 r3 a0 a1' a2 a3 Q3 Q4 QB QZ QS HD HK HCa
  have RO : Hid (Oi V5 V5.heap.size none 0 0 (tnL C 0)) := Oi.nil _ _
  have HKr : Hid (∀ t : World, Below V5.heap.size V5 t → t.cell? ⟨W.heap.size, 0, none⟩ = some (.int .i64 X) ∧ t.cell? ⟨W.heap.size, 1, none⟩ = some (.int .i64 Y) ∧ t.cell? ⟨W.heap.size, 2, none⟩ = some (.int .i64 64) ∧ t.cell? ⟨W.heap.size, 3, none⟩ = some (.int .i64 64) ∧ t.cell? ⟨W.heap.size + 1, 0, none⟩ = some (.int .i64 AX) ∧ t.cell? ⟨W.heap.size + 1, 1, none⟩ = some (.int .i64 AY) ∧ t.cell? ⟨W.heap.size + 1, 2, none⟩ = some (.int .i64 AW) ∧ t.cell? ⟨W.heap.size + 1, 3, none⟩ = some (.int .i64 AH)) := fun t ht => by
    have a := R3.out.below ht (by have := RZ.out; omega)
    have b := R4.out.below ht (by have := RZ.out; omega)
    exact ⟨a.r0, a.r1, a.r2, a.r3, b.r0, b.r1, b.r2, b.r3⟩
  have HSV : Hid (Si V5 a C) := HSi.out.to RB.out
  clear ha1 HSi
  go_wp2_with fail
  go_loopw [13, 14] (fun v i t => ∃ (k : Nat) (ad : Option Addr) (cc : Nat), v = .slice ad k cc ∧ i = .int .i64 k ∧ k ≤ n ∧ Oi t V5.heap.size ad k cc (tnL C k) ∧ Below V5.heap.size V5 t) (fun _ i _ => n - (intOf i).toNat)
  case atStart => exact ⟨0, _, _, rfl, rfl, Nat.zero_le _, RO.out, Below.refl _ _⟩
  case round =>
    clear RO
    obtain ⟨k, ad, cc, rfl, rfl, hk, ho, hb⟩ := hrel
    have HO : Hid (Oi wr V5.heap.size ad k cc (tnL C k)) := ho
    have HB : Hid (Below V5.heap.size V5 wr) := hb
    have HZ : Hid (V5.heap.size ≤ wr.heap.size) := hb.size
    by_cases hlt : k < n
    · obtain ⟨b0, o0, rfl, -, hcell⟩ := (HSV.out.to hb).form (by have := HN2.out; omega)
      have hc := hcell k (by have := HN2.out; omega)
      have HT : Hid (C.getD k 0 % 40 - 40 * ((k % 3 : Nat) : Int) = tn C k) := rfl
      generalize C.getD k 0 = z at *
      have e1 : (k : Int).tmod 3 = ((k % 3 : Nat) : Int) := by rw [Int.tmod_eq_emod_of_nonneg (by omega)]; omega
      have e1' : (k : Int) % 3 = ((k % 3 : Nat) : Int) := by omega
      have b1 : k % 3 < 3 := by omega
      generalize k % 3 = m3 at *
      have k0 : (0 : Int) ≤ (k : Int) := by omega
      have k1 : (k : Int) < (C.length : Int) := by have := HN2.out; omega
      have k2 : (k : Int) < 21 := by have := HM.out; omega
      have k3 : (k : Int) < (n : Int) := by omega
      clear hcell ho hb
      go_wp2_with fail
      refine (HBr4.out _ _).mono ?_
      rintro e w5 ⟨rfl, rfl⟩
      obtain ⟨z0, z1⟩ := emod_in z 40 (by omega)
      generalize z % 40 = z4 at *
      go_wp2_with (at_builtin; refine wpList_append_int _ (by rfl) _ _ (by rfl) V5.heap.size k cc (tnL C k) ad _ HO.out HZ.out (by omega) (by rfl) (by rfl) ?_; intro g cap w6 h1 h2 h3; have H1 : Hid _ := h1; have H2 : Hid _ := h2; clear h1 h2 h3)
      go_roundw
      case rel => exact ⟨k + 1, _, _, rfl, by go_num, by omega, by rw [tnL_succ, ← HT.out]; exact H1.out, HB.out.trans H2.out⟩
      case measure => simp [intOf]; omega
    · obtain rfl : k = n := by omega
      clear ho hb
      have HSt : Hid (∀ t, Below V5.heap.size V5 t → Calls Try.prog 23 #[.slice av l.length cv, .slice bv l.length db] t fun e w' => e = .returned (.bool true) ∧ Below t.heap.size t w') := fun t ht => by
        have h := same_any (c := cv) (d := db) (RS.out.to ht) (RT.out.to ht) (by have := HLl.out.1; omega) (by have := HLl.out.1; omega)
        rwa [eqR_self] at h
      go_wp2_with (at_builtin; refine wpList_append_333 _ (by rfl) _ _ (by rfl) V5.heap.size k cc (tnL C k) ad HO.out HZ.out (by have := HM.out; omega) (by rfl) (by rfl) ?_; intro g cap w6 h1 h2; have H1 : Hid (Oi w6 V5.heap.size (some ⟨g, 0, none⟩) (k + 3) cap (tnL C k ++ [3, 3, 3])) := h1; have H2 : Hid (Below V5.heap.size V5 w6) := HB.out.trans h2; clear h1 h2; obtain ⟨r0, r1, r2, r3, a0, a1', a2, a3⟩ := HKr.out _ H2.out)
      refine (HBd.out _ _ _ H1.out.si).mono ?_
      rintro e w7 ⟨v, he, ho3, hb7⟩
      obtain ⟨dv, cd3, hv, hsd⟩ := ho3.sl
      subst hv
      have he' : e = .returned (.tuple #[.slice dv lq.length cd3, .int .i64 (m : Int), .int .i64 0]) := he
      clear he ho3
      subst he'
      have HS7 : Hid (Sr w7 dv lq) := hsd
      have HB7 : Hid (Below V5.heap.size V5 w7) := below_to H2.out (hb7.mono (by have := H2.out.size; omega))
      clear hsd hb7 r0 r1 r2 r3 a0 a1' a2 a3 H1 H2 HB HO HZ HBd HBr4
      have m0 : (k : Int) ≤ (m : Int) := by have := HU.out.1; omega
      have m1 : (m : Int) ≤ 21 := by have := HM2.out; omega
      have k0 : (0 : Int) ≤ (k : Int) := by omega
      have k1 : (k : Int) ≤ (C.length : Int) := by have := HN2.out; omega
      go_wp2_with fail
      refine (HSt.out _ HB7.out).mono ?_
      rintro e w8 ⟨rfl, hb8⟩
      have HB8 : Hid (Below V5.heap.size V5 w8) := below_to HB7.out (hb8.mono (by have := HB7.out.size; omega))
      have HS8 : Hid (Sr w8 dv lq) := HS7.out.to hb8
      clear hb8 HB7 HS7
      by_cases hnc : k = C.length
      · have hnc' : (k : Int) = (C.length : Int) := by omega
        go_wp2_with fail
        go_ret
        exact ⟨rfl, RB.out.trans (HB8.out.mono (by have := RZ.out; omega))⟩
      · have hnc' : ¬ (k : Int) = (C.length : Int) := by omega
        obtain ⟨e1, e2⟩ : lq = l ∧ m = k := by
          rcases HU.out.2 with h | h
          · exact absurd h hnc
          · simpa using h
        subst e1 e2
        go_wp2_with fail
        have h := same_any (c := cv) (d := cd3) (RS.out.to HB8.out) HS8.out (by have := HLl.out.1; omega) (by have := HLl.out.1; omega)
        rw [eqR_self] at h
        refine h.mono ?_
        rintro e w9 ⟨rfl, hb9⟩
        have HB9 : Hid (Below V5.heap.size V5 w9) := below_to HB8.out (hb9.mono (by have := HB8.out.size; omega))
        go_wp2_with fail
        go_ret
        exact ⟨rfl, RB.out.trans (HB9.out.mono (by have := RZ.out; omega))⟩
end Go.Proofs.Ytjijgeeejhijhaa
