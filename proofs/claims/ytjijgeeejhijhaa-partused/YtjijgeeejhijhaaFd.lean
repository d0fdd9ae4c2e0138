/- DERIVED. The walk of PartTiles. -/
import Derived.Test.YtjijgeeejhijhaaFa
import Derived.Test.YtjijgeeejhijhaaFc
import Derived.Test.YtjijgeeejhijhaaWa
namespace Go.Proofs.Ytjijgeeejhijhaa
open Go.RowKit

/-- what cover does -/
def Cov : Prop := ∀ {W : World} {X Y S : Int} {a : Option Addr} {c : Nat} {l : List Rc}, Sr W a l → l.length ≤ 1000 → (0 ≤ X ∧ X ≤ 10000) → (0 ≤ Y ∧ Y ≤ 10000) → (0 ≤ S ∧ S ≤ 64) → (∀ p ∈ l, Gd X Y S p) →
    Calls Try.prog 20 #[.agg #[.int .i64 X, .int .i64 Y, .int .i64 S, .int .i64 S], .slice a l.length c] W fun e w' => e = .returned (.tuple #[.agg (is (tf (cvF l X Y))).toArray, .bool true]) ∧ Below W.heap.size W w'
theorem un_mk {n a b : Int} (h : a ≤ n ∧ n ≤ b ∧ n % 8 = 0) : un n a b = true := decide_eq_true h
theorem brS_sqr (x y : Int) : sqr (brS x y).1 (brS x y).2.1 64 64 = true := by
  obtain ⟨h0, h1⟩ := emod_in x 129 (by omega)
  obtain ⟨h2, h3⟩ := emod_in y 129 (by omega)
  unfold sqr brS
  simp only
  have h4 : 8 * (x % 129) ≤ 1024 := by omega
  have h5 : 8 * (y % 129) ≤ 1024 := by omega
  rw [rgn_mk (by omega) (by omega) (by omega)]
  simp [h4, h5]
theorem brA_are (x y a b : Int) : are (brA x y a b).1 (brA x y a b).2.1 (brA x y a b).2.2.1 (brA x y a b).2.2.2 = true := by
  obtain ⟨h0, h1⟩ := emod_in x 129 (by omega)
  obtain ⟨h2, h3⟩ := emod_in y 129 (by omega)
  obtain ⟨h4, h5⟩ := emod_in a 128 (by omega)
  obtain ⟨h6, h7⟩ := emod_in b 128 (by omega)
  unfold are brA
  simp only
  rw [un_mk (by omega), un_mk (by omega), un_mk (by omega), un_mk (by omega)]; rfl
theorem brA_8 (x y a b : Int) : A8 (brA x y a b) := ⟨by unfold brA; simp only []; omega, by unfold brA; simp only []; omega, by unfold brA; simp only []; omega, by unfold brA; simp only []; omega⟩
/-- a cell of a square is covered once, if it lies in the area -/
theorem tree_cell {ar : Rc} {C : List Int} {X Y : Int} {u : Nat} (ha : A8 ar) (hX : X % 8 = 0) (hY : Y % 8 = 0) {j : Nat} (hj : j < 64) :
    cvF (tree ar C 3 X Y u).1 X Y j = if ar.1 ≤ X + 8 * ((j % 8 : Nat) : Int) ∧ X + 8 * ((j % 8 : Nat) : Int) < ar.1 + ar.2.2.1 ∧ ar.2.1 ≤ Y + 8 * ((j / 8 : Nat) : Int) ∧ Y + 8 * ((j / 8 : Nat) : Int) < ar.2.1 + ar.2.2.2 then 1 else 0 := by
  unfold cvF
  rw [tree_cnt ha _ _ 3 (by omega) X Y u hX hY]
  have h1 : inn (X, Y, sd 3, sd 3) (X + 8 * ((j % 8 : Nat) : Int)) (Y + 8 * ((j / 8 : Nat) : Int)) = 1 := by
    unfold inn
    show (if X ≤ _ ∧ _ < X + 64 ∧ Y ≤ _ ∧ _ < Y + 64 then 1 else 0) = 1
    rw [if_pos (by omega)]
  rw [h1, Nat.one_mul]
  unfold inn
  split <;> rfl

set_option maxRecDepth 100000 in
set_option maxHeartbeats 16000000 in
theorem tiles_core (hcov : Cov) {W : World} {x y s s' ax ay aw ah : Int} {a : Option Addr} {c : Nat} {C : List Int} (hs : Si W a C) (hl : C.length ≤ 17592186043904) : Calls Try.prog 5 #[.agg #[.int .i64 x, .int .i64 y, .int .i64 s, .int .i64 s'], .agg #[.int .i64 ax, .int .i64 ay, .int .i64 aw, .int .i64 ah], .slice a C.length c] W fun e w' => e = .returned (.bool true) ∧ Below W.heap.size W w' := by
  have HL : Hid (C.length ≤ 17592186043904) := hl
  have HSi : Hid (Si W a C) := hs
  have K3 : Hid (Fr ((W.alloc (.cells #[.int .i64 x, .int .i64 y, .int .i64 s, .int .i64 s'] 23)).alloc (.cells #[.int .i64 ax, .int .i64 ay, .int .i64 aw, .int .i64 ah] 23)) W.heap.size x y s s') := ⟨by simp [go_sem], by simp [go_sem], by simp [go_sem], by simp [go_sem]⟩
  have K4 : Hid (Fr ((W.alloc (.cells #[.int .i64 x, .int .i64 y, .int .i64 s, .int .i64 s'] 23)).alloc (.cells #[.int .i64 ax, .int .i64 ay, .int .i64 aw, .int .i64 ah] 23)) (W.heap.size + 1) ax ay aw ah) := ⟨by simp [go_sem], by simp [go_sem], by simp [go_sem], by simp [go_sem]⟩
  have KB : Hid (Below W.heap.size W ((W.alloc (.cells #[.int .i64 x, .int .i64 y, .int .i64 s, .int .i64 s'] 23)).alloc (.cells #[.int .i64 ax, .int .i64 ay, .int .i64 aw, .int .i64 ah] 23))) := to_alloc (from_alloc _ _) _
  have KZ : Hid (W.heap.size + 2 ≤ ((W.alloc (.cells #[.int .i64 x, .int .i64 y, .int .i64 s, .int .i64 s'] 23)).alloc (.cells #[.int .i64 ax, .int .i64 ay, .int .i64 aw, .int .i64 ah] 23)).heap.size) := by show _ ≤ _; simp
  have KF : Hid (∀ j, ((W.alloc (.cells #[.int .i64 x, .int .i64 y, .int .i64 s, .int .i64 s'] 23)).alloc (.cells #[.int .i64 ax, .int .i64 ay, .int .i64 aw, .int .i64 ah] 23)).frozen? ⟨W.heap.size, j, none⟩ = false ∧ ((W.alloc (.cells #[.int .i64 x, .int .i64 y, .int .i64 s, .int .i64 s'] 23)).alloc (.cells #[.int .i64 ax, .int .i64 ay, .int .i64 aw, .int .i64 ah] 23)).frozen? ⟨W.heap.size + 1, j, none⟩ = false) := fun j => ⟨by first | (simp [go_sem]; done) | (simp [World.frozen?, go_sem]; done), by first | (simp [go_sem]; done) | (simp [World.frozen?, go_sem]; done)⟩
  have HBr : Hid (∀ t, Calls Try.prog 19 #[.agg #[.int .i64 x, .int .i64 y, .int .i64 s, .int .i64 s'], .agg #[.int .i64 ax, .int .i64 ay, .int .i64 aw, .int .i64 ah]] t fun e w' => e = .returned (.tuple #[.agg #[.int .i64 (brS x y).1, .int .i64 (brS x y).2.1, .int .i64 64, .int .i64 64], .agg #[.int .i64 (brA ax ay aw ah).1, .int .i64 (brA ax ay aw ah).2.1, .int .i64 (brA ax ay aw ah).2.2.1, .int .i64 (brA ax ay aw ah).2.2.2]]) ∧ Below t.heap.size t w') := fun t => brought_any
  have hsq := brS_sqr x y
  have har := brA_are ax ay aw ah
  have ha8 := brA_8 ax ay aw ah
  generalize (brS x y).1 = X at *
  generalize (brS x y).2.1 = Y at *
  generalize brA ax ay aw ah = ar at *
  obtain ⟨AX, AY, AW, AH⟩ := ar
  simp only at har ha8
  have HBl : Hid (∀ t, Si t a C → Calls Try.prog 16 #[.agg #[.int .i64 X, .int .i64 Y, .int .i64 64, .int .i64 64], .agg #[.int .i64 AX, .int .i64 AY, .int .i64 AW, .int .i64 AH], .slice a C.length c] t fun e w' => Bq t w' e (tree (AX, AY, AW, AH) C 3 X Y 0)) := fun t ht => blocks_ok hsq har ht (by omega)
  obtain ⟨hrg, -, hX1, hY1⟩ := sqr_in hsq
  obtain ⟨-, -, ⟨hX0, -, hX8⟩, ⟨hY0, -, hY8⟩⟩ := rgn_in hrg
  obtain ⟨⟨A0, A0', -⟩, ⟨A1, A1', -⟩, ⟨A2, A2', -⟩, ⟨A3, A3', -⟩⟩ := are_in har
  have hn := tree_used (ar := (AX, AY, AW, AH)) (C := C) 3 X Y 0 (Nat.zero_le _)
  have hm := tree_mx (ar := (AX, AY, AW, AH)) (C := C) 3 X Y 0
  have HCo : Hid (∀ j, j < 64 → cvF (tree (AX, AY, AW, AH) C 3 X Y 0).1 X Y j = if AX ≤ X + 8 * ((j % 8 : Nat) : Int) ∧ X + 8 * ((j % 8 : Nat) : Int) < AX + AW ∧ AY ≤ Y + 8 * ((j / 8 : Nat) : Int) ∧ Y + 8 * ((j / 8 : Nat) : Int) < AY + AH then 1 else 0) := fun j hj => tree_cell ha8 hX8 hY8 hj
  have HCv : Hid (∀ t a c, Sr t a (tree (AX, AY, AW, AH) C 3 X Y 0).1 → Calls Try.prog 20 #[.agg #[.int .i64 X, .int .i64 Y, .int .i64 64, .int .i64 64], .slice a (tree (AX, AY, AW, AH) C 3 X Y 0).1.length c] t fun e w' => e = .returned (.tuple #[.agg (is (tf (cvF (tree (AX, AY, AW, AH) C 3 X Y 0).1 X Y))).toArray, .bool true]) ∧ Below t.heap.size t w') := fun t a c ht => by
    have hlen := tree_len (ar := (AX, AY, AW, AH)) (C := C) 3 X Y 0
    exact hcov ht (by have : lf 3 = 64 := rfl; omega) ⟨hX0, by omega⟩ ⟨hY0, by omega⟩ ⟨by omega, by omega⟩ (tree_gd 3 (by omega) X Y 0)
  have e21 : 0 + mx 3 = 21 := by decide
  rw [e21] at hm
  generalize tree (AX, AY, AW, AH) C 3 X Y 0 = p at *
  obtain ⟨l, n⟩ := p
  simp only at hn hm HCo HCv
  have hn2 : n ≤ C.length := hn.2
  have hLen : (tf (cvF l X Y)).length = 64 := tf_len _
  have HGet : Hid (∀ j, j < 64 → (tf (cvF l X Y)).getD j 0 = cvF l X Y j) := fun j hj => tf_get _ hj
  generalize tf (cvF l X Y) = LL at *
  have HLn : Hid (LL.length = 64) := hLen
  have HM : Hid (n ≤ 21) := hm
  have HN2 : Hid (n ≤ C.length) := hn2
  clear hcov hs hl hsq har ha8 hrg hX8 hY8 hn hm hn2 hLen e21
  go_enter Try.func5, Try.ntmps5
  go_upto_region 1 with fail
  generalize ((W.alloc (.cells #[.int .i64 x, .int .i64 y, .int .i64 s, .int .i64 s'] 23)).alloc (.cells #[.int .i64 ax, .int .i64 ay, .int .i64 aw, .int .i64 ah] 23)) = V0 at *
  go_wp2_with fail
  refine (works_true _).mono ?_
  rintro e V1 ⟨rfl, hb⟩
  have M3 : Hid (Fr V1 W.heap.size x y s s') := K3.out.below hb (by have := KZ.out; omega)
  have M4 : Hid (Fr V1 (W.heap.size + 1) ax ay aw ah) := K4.out.below hb (by have := KZ.out; omega)
  have MF : Hid (∀ j, V1.frozen? ⟨W.heap.size, j, none⟩ = false ∧ V1.frozen? ⟨W.heap.size + 1, j, none⟩ = false) := fun j => ⟨by rw [newFrozen hb _ _ (by have := KZ.out; omega)]; exact (KF.out j).1, by rw [newFrozen hb _ _ (by have := KZ.out; omega)]; exact (KF.out j).2⟩
  have MB : Hid (Below W.heap.size W V1) := below_to KB.out (hb.mono (by have := KZ.out; omega))
  have MZ : Hid (W.heap.size + 2 ≤ V1.heap.size) := Nat.le_trans KZ.out hb.size
  clear hb K3 K4 KB KZ KF
  obtain ⟨r0, r1, r2, r3⟩ := M3.out
  obtain ⟨a0, a1, a2, a3⟩ := M4.out
  go_wp2_with fail
  refine (HBr.out _).mono ?_
  rintro e V2 ⟨rfl, hb⟩
  have N3 : Hid (Fr V2 W.heap.size x y s s') := M3.out.below hb (by have := MZ.out; omega)
  have N4 : Hid (Fr V2 (W.heap.size + 1) ax ay aw ah) := M4.out.below hb (by have := MZ.out; omega)
  have NF : Hid (∀ j, V2.frozen? ⟨W.heap.size, j, none⟩ = false ∧ V2.frozen? ⟨W.heap.size + 1, j, none⟩ = false) := fun j => ⟨by rw [newFrozen hb _ _ (by have := MZ.out; omega)]; exact (MF.out j).1, by rw [newFrozen hb _ _ (by have := MZ.out; omega)]; exact (MF.out j).2⟩
  have NB : Hid (Below W.heap.size W V2) := below_to MB.out (hb.mono (by have := MZ.out; omega))
  have NZ : Hid (W.heap.size + 2 ≤ V2.heap.size) := Nat.le_trans MZ.out hb.size
  clear hb r0 r1 r2 r3 a0 a1 a2 a3 M3 M4 MF MB MZ HBr
  obtain ⟨r0, r1, r2, r3⟩ := N3.out
  obtain ⟨a0, a1, a2, a3⟩ := N4.out
  obtain ⟨f0, g0⟩ := NF.out 0
  obtain ⟨f1, g1⟩ := NF.out 1
  obtain ⟨f2, g2⟩ := NF.out 2
  obtain ⟨f3, g3⟩ := NF.out 3
  have P3 : Hid (Fr ((((((((V2.setCell ⟨W.heap.size, 0, none⟩ (.int .i64 X)).setCell ⟨W.heap.size, 1, none⟩ (.int .i64 Y)).setCell ⟨W.heap.size, 2, none⟩ (.int .i64 64)).setCell ⟨W.heap.size, 3, none⟩ (.int .i64 64)).setCell ⟨W.heap.size + 1, 0, none⟩ (.int .i64 AX)).setCell ⟨W.heap.size + 1, 1, none⟩ (.int .i64 AY)).setCell ⟨W.heap.size + 1, 2, none⟩ (.int .i64 AW)).setCell ⟨W.heap.size + 1, 3, none⟩ (.int .i64 AH)) W.heap.size X Y 64 64) := fr_off (fr_off (fr_off (fr_off (N3.out.set4 X Y 64 64) (by omega) _) (by omega) _) (by omega) _) (by omega) _
  have P4 : Hid (Fr ((((((((V2.setCell ⟨W.heap.size, 0, none⟩ (.int .i64 X)).setCell ⟨W.heap.size, 1, none⟩ (.int .i64 Y)).setCell ⟨W.heap.size, 2, none⟩ (.int .i64 64)).setCell ⟨W.heap.size, 3, none⟩ (.int .i64 64)).setCell ⟨W.heap.size + 1, 0, none⟩ (.int .i64 AX)).setCell ⟨W.heap.size + 1, 1, none⟩ (.int .i64 AY)).setCell ⟨W.heap.size + 1, 2, none⟩ (.int .i64 AW)).setCell ⟨W.heap.size + 1, 3, none⟩ (.int .i64 AH)) (W.heap.size + 1) AX AY AW AH) := (fr_off (fr_off (fr_off (fr_off N4.out (by omega) _) (by omega) _) (by omega) _) (by omega) _).set4 AX AY AW AH
  have PB : Hid (Below W.heap.size W ((((((((V2.setCell ⟨W.heap.size, 0, none⟩ (.int .i64 X)).setCell ⟨W.heap.size, 1, none⟩ (.int .i64 Y)).setCell ⟨W.heap.size, 2, none⟩ (.int .i64 64)).setCell ⟨W.heap.size, 3, none⟩ (.int .i64 64)).setCell ⟨W.heap.size + 1, 0, none⟩ (.int .i64 AX)).setCell ⟨W.heap.size + 1, 1, none⟩ (.int .i64 AY)).setCell ⟨W.heap.size + 1, 2, none⟩ (.int .i64 AW)).setCell ⟨W.heap.size + 1, 3, none⟩ (.int .i64 AH))) := below_set (below_set (below_set (below_set (below_set (below_set (below_set (below_set NB.out (by simp) _) (by simp) _) (by simp) _) (by simp) _) (by simp) _) (by simp) _) (by simp) _) (by simp) _
  have PZ : Hid (W.heap.size + 2 ≤ ((((((((V2.setCell ⟨W.heap.size, 0, none⟩ (.int .i64 X)).setCell ⟨W.heap.size, 1, none⟩ (.int .i64 Y)).setCell ⟨W.heap.size, 2, none⟩ (.int .i64 64)).setCell ⟨W.heap.size, 3, none⟩ (.int .i64 64)).setCell ⟨W.heap.size + 1, 0, none⟩ (.int .i64 AX)).setCell ⟨W.heap.size + 1, 1, none⟩ (.int .i64 AY)).setCell ⟨W.heap.size + 1, 2, none⟩ (.int .i64 AW)).setCell ⟨W.heap.size + 1, 3, none⟩ (.int .i64 AH)).heap.size) := by show _ ≤ _; simpa using NZ.out
  go_upto_region 4 with fail
  generalize ((((((((V2.setCell ⟨W.heap.size, 0, none⟩ (.int .i64 X)).setCell ⟨W.heap.size, 1, none⟩ (.int .i64 Y)).setCell ⟨W.heap.size, 2, none⟩ (.int .i64 64)).setCell ⟨W.heap.size, 3, none⟩ (.int .i64 64)).setCell ⟨W.heap.size + 1, 0, none⟩ (.int .i64 AX)).setCell ⟨W.heap.size + 1, 1, none⟩ (.int .i64 AY)).setCell ⟨W.heap.size + 1, 2, none⟩ (.int .i64 AW)).setCell ⟨W.heap.size + 1, 3, none⟩ (.int .i64 AH)) = V3 at *
  clear r0 r1 r2 r3 a0 a1 a2 a3 f0 f1 f2 f3 g0 g1 g2 g3 N3 N4 NF NB NZ
  obtain ⟨r0, r1, r2, r3⟩ := P3.out
  obtain ⟨a0, a1, a2, a3⟩ := P4.out
  go_wp2_with fail
  refine (HBl.out _ (HSi.out.to PB.out)).mono ?_
  rintro e V4 ⟨v, rfl, ho, hb⟩
  obtain ⟨av, cv, hv, hsr⟩ := ho.sl
  subst hv
  have Q3 : Hid (Fr V4 W.heap.size X Y 64 64) := P3.out.below hb (by have := PZ.out; omega)
  have Q4 : Hid (Fr V4 (W.heap.size + 1) AX AY AW AH) := P4.out.below hb (by have := PZ.out; omega)
  have QB : Hid (Below W.heap.size W V4) := below_to PB.out (hb.mono (by have := PZ.out; omega))
  have QZ : Hid (W.heap.size + 2 ≤ V4.heap.size) := Nat.le_trans PZ.out hb.size
  have QS : Hid (Sr V4 av l) := hsr
  clear ho hsr hb r0 r1 r2 r3 a0 a1 a2 a3 P3 P4 PB PZ HBl HSi
  obtain ⟨r0, r1, r2, r3⟩ := Q3.out
  have n0 : (0 : Int) ≤ (n : Int) := by omega
  have n1 : (n : Int) ≤ (C.length : Int) := by have := HN2.out; omega
  have n2 : (n : Int) ≤ 21 := by have := HM.out; omega
  go_wp2_with fail
  refine (HCv.out _ _ _ QS.out).mono ?_
  rintro e V5 ⟨rfl, hb⟩
  have R3 : Hid (Fr V5 W.heap.size X Y 64 64) := Q3.out.below hb (by have := QZ.out; omega)
  have R4 : Hid (Fr V5 (W.heap.size + 1) AX AY AW AH) := Q4.out.below hb (by have := QZ.out; omega)
  have RB : Hid (Below W.heap.size W V5) := below_to QB.out (hb.mono (by have := QZ.out; omega))
  have RZ : Hid (W.heap.size + 2 ≤ V5.heap.size) := Nat.le_trans QZ.out hb.size
  clear hb r0 r1 r2 r3 Q3 Q4 QB QZ QS HCv n0 n1 n2
  have hz : Ri 41 (V5.alloc (.cells (is (List.replicate 64 0)).toArray 41)) V5.heap.size (List.replicate 64 0) := ⟨heap_alloc_new _ _⟩
  obtain ⟨a8, h9, h10, h11, h12, h13⟩ := setCells_is V5.heap.size LL _ 0 _ hz (by rw [HLn.out]; simp)
  have h8 : Ri 41 ((V5.alloc (.cells (is (List.replicate 64 0)).toArray 41)).setCells V5.heap.size 0 (is LL)) V5.heap.size LL := by
    have e : (List.replicate 64 (0 : Int)).take 0 ++ LL ++ (List.replicate 64 (0 : Int)).drop (0 + LL.length) = LL := by rw [List.drop_eq_nil_of_le (by rw [HLn.out]; simp)]; simp
    rw [e] at a8; exact a8
  have hTh : Hid ((V5.alloc (.cells (is (List.replicate 64 0)).toArray 41)).there V5.heap.size 0 (is LL).toArray.size) := by
    have := ri_there hz
    rw [List.length_replicate] at this
    show World.there _ _ _ _
    rw [show (is LL).toArray.size = 64 from by simp [is_length, HLn.out]]; exact this
  have hbz : Below V5.heap.size V5 ((V5.alloc (.cells (is (List.replicate 64 0)).toArray 41)).setCells V5.heap.size 0 (is LL)) := by
    have hb := from_alloc V5 (.cells (is (List.replicate 64 0)).toArray 41)
    exact ⟨h10.trans hb.os, h11.trans hb.tape, h12.trans hb.output, by rw [h13]; exact hb.size, fun i hi => by rw [h9 i (by omega)]; exact hb.block i hi⟩
  have T3 : Hid (Fr ((V5.alloc (.cells (is (List.replicate 64 0)).toArray 41)).setCells V5.heap.size 0 (is LL)) W.heap.size X Y 64 64) := R3.out.below hbz (by have := RZ.out; omega)
  have T4 : Hid (Fr ((V5.alloc (.cells (is (List.replicate 64 0)).toArray 41)).setCells V5.heap.size 0 (is LL)) (W.heap.size + 1) AX AY AW AH) := R4.out.below hbz (by have := RZ.out; omega)
  have TB : Hid (Below W.heap.size W ((V5.alloc (.cells (is (List.replicate 64 0)).toArray 41)).setCells V5.heap.size 0 (is LL))) := below_to RB.out (hbz.mono (by have := RZ.out; omega))
  have TR : Hid (Ri 41 ((V5.alloc (.cells (is (List.replicate 64 0)).toArray 41)).setCells V5.heap.size 0 (is LL)) V5.heap.size LL) := h8
  clear hz a8 h9 h10 h11 h12 h13 h8 hbz R3 R4 RB RZ
  go_upto_region 11 with (refine wpList_store_mid (by rfl) 41 _ _ (by rfl) V5.heap.size 0 (is LL).toArray (by rfl) (by rfl) hTh.out (by rw [Try.info41]; simp [is_length, HLn.out]) (all_oneCell_toArray (is_one LL)) ?_)
  clear hTh
  generalize hp10 : V5.heap.size = p10 at *
  go_loopw [12] (fun i t => ∃ k : Nat, k ≤ 64 ∧ i = .int .i64 k ∧ Fr t W.heap.size X Y 64 64 ∧ Fr t (W.heap.size + 1) AX AY AW AH ∧ Ri 41 t p10 LL ∧ Below W.heap.size W t) (fun i _ => 64 - (intOf i).toNat)
  case atStart => exact ⟨0, by omega, rfl, T3.out, T4.out, TR.out, TB.out⟩
  case round =>
    clear T3 T4 TR TB hp10
    obtain ⟨k, hk, rfl, h3, h4, hr, hb⟩ := hrel
    by_cases hlt : k < 64
    · have hco := HCo.out k hlt
      have hget := HGet.out k hlt
      have hcell := hr.cell k (by rw [HLn.out]; exact hlt)
      rw [hget, hco] at hcell
      have e1 : (k : Int).tmod 8 = ((k % 8 : Nat) : Int) := by rw [Int.tmod_eq_emod_of_nonneg (by omega)]; omega
      have e2 : (k : Int).tdiv 8 = ((k / 8 : Nat) : Int) := by rw [Int.tdiv_eq_ediv_of_nonneg (by omega)]; omega
      have b1 : k % 8 < 8 := by omega
      have b2 : k / 8 < 8 := by omega
      have e1' : (k : Int) % 8 = ((k % 8 : Nat) : Int) := by omega
      have e2' : (k : Int) / 8 = ((k / 8 : Nat) : Int) := by omega
      generalize k % 8 = m8 at *
      generalize k / 8 = d8 at *
      clear hco hget
      obtain ⟨px, hpx⟩ : ∃ z : Int, X + 8 * (m8 : Int) = z := ⟨_, rfl⟩
      obtain ⟨py, hpy⟩ : ∃ z : Int, Y + 8 * (d8 : Int) = z := ⟨_, rfl⟩
      rw [hpx, hpy] at hcell
      have bx0 : 0 ≤ px ∧ px ≤ 2000 := by omega
      have by0 : 0 ≤ py ∧ py ≤ 2000 := by omega
      have HR : Hid (Ri 41 wr p10 LL) := hr
      have H3 : Hid (Fr wr W.heap.size X Y 64 64) := h3
      have H4 : Hid (Fr wr (W.heap.size + 1) AX AY AW AH) := h4
      have HB : Hid (Below W.heap.size W wr) := hb
      obtain ⟨r0, r1, r2, r3⟩ := h3
      have k0 : (0 : Int) ≤ (k : Int) := by omega
      have k1 : (k : Int) < 64 := by omega
      clear hr h4 hb
      go_wp2_with fail
      go_quiet (fail)
      have U3 : Hid (Fr (wr.drewN nq) W.heap.size X Y 64 64) := ⟨H3.out.r0, H3.out.r1, H3.out.r2, H3.out.r3⟩
      have U4 : Hid (Fr (wr.drewN nq) (W.heap.size + 1) AX AY AW AH) := ⟨H4.out.r0, H4.out.r1, H4.out.r2, H4.out.r3⟩
      have UR : Hid (Ri 41 (wr.drewN nq) p10 LL) := ⟨HR.out.heap⟩
      have UB : Hid (Below W.heap.size W (wr.drewN nq)) := below_drewN HB.out _
      have hcell' : (wr.drewN nq).cell? ⟨p10, k, none⟩ = some (.int .i64 (if AX ≤ px ∧ px < AX + AW ∧ AY ≤ py ∧ py < AY + AH then 1 else 0)) := hcell
      clear hcell H3 H4 HR HB r0 r1 r2 r3
      generalize wr.drewN nq = w1 at *
      obtain ⟨a0, a1, a2, a3⟩ := U4.out
      by_cases c1 : AX ≤ px
      · by_cases c2 : px < AX + AW
        · by_cases c3 : AY ≤ py
          · by_cases c4 : py < AY + AH
            · rw [if_pos ⟨c1, c2, c3, c4⟩] at hcell'
              go_wp2_with fail
              go_roundw
              case rel => exact ⟨k + 1, by omega, by go_num, U3.out, U4.out, UR.out, UB.out⟩
              case measure => simp [intOf]; omega
            · rw [if_neg (fun q => c4 q.2.2.2)] at hcell'
              go_wp2_with fail
              go_roundw
              case rel => exact ⟨k + 1, by omega, by go_num, U3.out, U4.out, UR.out, UB.out⟩
              case measure => simp [intOf]; omega
          · rw [if_neg (fun q => c3 q.2.2.1)] at hcell'
            go_wp2_with fail
            go_roundw
            case rel => exact ⟨k + 1, by omega, by go_num, U3.out, U4.out, UR.out, UB.out⟩
            case measure => simp [intOf]; omega
        · rw [if_neg (fun q => c2 q.2.1)] at hcell'
          go_wp2_with fail
          go_roundw
          case rel => exact ⟨k + 1, by omega, by go_num, U3.out, U4.out, UR.out, UB.out⟩
          case measure => simp [intOf]; omega
      · rw [if_neg (fun q => c1 q.1)] at hcell'
        go_wp2_with fail
        go_roundw
        case rel => exact ⟨k + 1, by omega, by go_num, U3.out, U4.out, UR.out, UB.out⟩
        case measure => simp [intOf]; omega
    · obtain rfl : k = 64 := by omega
      have HB : Hid (Below W.heap.size W wr) := hb
      clear h3 h4 hr hb
      go_wp2_with fail
      go_ret
      exact ⟨rfl, HB.out⟩
end Go.Proofs.Ytjijgeeejhijhaa
