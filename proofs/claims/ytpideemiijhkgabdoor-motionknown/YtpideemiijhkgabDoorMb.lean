/- DERIVED. blended, with either closure. -/
import Derived.Test.YtpideemiijhkgabDoorMa
namespace Go.Proofs.YtpideemiijhkgabDoor
open Go.RowKit

/-- what may be blended -/
structure BOk (C : List Nat) (w X Y rw rh : Int) (D : List Nat) : Prop where
  w0 : 1 ≤ w
  w1 : w ≤ 64
  hw : ∃ h : Int, 1 ≤ h ∧ h ≤ 64 ∧ (C.length : Int) = w * h ∧ Win w h X Y rw rh
  l : (D.length : Int) = rw * rh
theorem BOk.nat {C : List Nat} {w X Y rw rh : Int} {D : List Nat} (k : BOk C w X Y rw rh D) : ∃ w' h' X' Y' rw' rh' : Nat, w = (w' : Int) ∧ X = (X' : Int) ∧ Y = (Y' : Int) ∧ rw = (rw' : Int) ∧ rh = (rh' : Int) ∧ 1 ≤ w' ∧ w' ≤ 64 ∧ 1 ≤ h' ∧ h' ≤ 64 ∧ C.length = w' * h' ∧ 1 ≤ rw' ∧ 1 ≤ rh' ∧ X' + rw' ≤ w' ∧ Y' + rh' ≤ h' ∧ D.length = rw' * rh' := by
  obtain ⟨k0, k1, ⟨h, h0, h1, hl, hw⟩, kl⟩ := k
  obtain ⟨i1, i2, i3, i4, i5, i6⟩ := hw
  obtain ⟨w', rfl⟩ : ∃ n : Nat, w = (n : Int) := ⟨w.toNat, by omega⟩
  obtain ⟨h', rfl⟩ : ∃ n : Nat, h = (n : Int) := ⟨h.toNat, by omega⟩
  obtain ⟨X', rfl⟩ : ∃ n : Nat, X = (n : Int) := ⟨X.toNat, by omega⟩
  obtain ⟨Y', rfl⟩ : ∃ n : Nat, Y = (n : Int) := ⟨Y.toNat, by omega⟩
  obtain ⟨rw', rfl⟩ : ∃ n : Nat, rw = (n : Int) := ⟨rw.toNat, by omega⟩
  obtain ⟨rh', rfl⟩ : ∃ n : Nat, rh = (n : Int) := ⟨rh.toNat, by omega⟩
  rw [← Int.natCast_mul] at hl kl
  exact ⟨w', h', X', Y', rw', rh', rfl, rfl, rfl, rfl, rfl, by omega, by omega, by omega, by omega, by omega, by omega, by omega, by omega, by omega, by omega⟩
theorem BOk.of {C D : List Nat} {w h X Y rw rh : Nat} (w0 : 1 ≤ w) (w1 : w ≤ 64) (h0 : 1 ≤ h) (h1 : h ≤ 64) (hl : C.length = w * h) (r0 : 1 ≤ rw) (r1 : 1 ≤ rh) (hX : X + rw ≤ w) (hY : Y + rh ≤ h) (hlD : D.length = rw * rh) : BOk C (w : Int) (X : Int) (Y : Int) (rw : Int) (rh : Int) D :=
  ⟨by omega, by omega, ⟨(h : Int), by omega, by omega, by rw [hl, Int.natCast_mul], ⟨by omega, by omega, by omega, by omega, by omega, by omega⟩⟩, by rw [hlD, Int.natCast_mul]⟩

set_option maxRecDepth 100000 in
set_option maxHeartbeats 1000000 in
theorem blended_no {u : World} {a ao : Option Addr} {c co : Nat} {C D : List Nat} {w X Y rw rh : Int} {fv : Value} (hs : Sl u .u8 a C) (hc : C.length ≤ c) (hCl : C.length ≤ 140737488355328) (bX : X ≤ 9223372036854775807) (bY : Y ≤ 9223372036854775807) (hn : ¬ BOk C w X Y rw rh D) :
    Calls Tryd.prog 16 #[.slice a C.length c, .int .i64 w, .agg #[.int .i64 X, .int .i64 Y, .int .i64 rw, .int .i64 rh], .slice ao D.length co, fv] u fun e w' => e = .returned (.tuple #[.slice none 0 0, .int .i64 2]) ∧ Below u.heap.size u w' := by
  by_cases w0 : w < 1
  · clear hn hs bX bY
    go_enter Tryd.func16, Tryd.ntmps16
    go_wp2_with fail
    go_ret2
    exact ⟨rfl, from_alloc _ _⟩
  by_cases w1 : 64 < w
  · clear hn hs bX bY
    go_enter Tryd.func16, Tryd.ntmps16
    go_wp2_with fail
    go_ret2
    exact ⟨rfl, from_alloc _ _⟩
  by_cases w2 : w * 64 < (C.length : Int)
  · clear hn hs bX bY
    go_enter Tryd.func16, Tryd.ntmps16
    go_wp2_with fail
    go_ret2
    exact ⟨rfl, from_alloc _ _⟩
  obtain ⟨x, rfl⟩ : ∃ n : Nat, w = (n : Int) := ⟨w.toNat, by omega⟩
  obtain ⟨y, hy⟩ : ∃ y, y = C.length / x := ⟨_, rfl⟩
  have q1 : (C.length : Int) / (x : Int) = (y : Int) := by rw [hy, Int.natCast_ediv]
  have q2 : (C.length : Int).tdiv (x : Int) = (y : Int) := by rw [Int.tdiv_eq_ediv_of_nonneg (by omega)]; exact q1
  have hy1 : y ≤ 64 := by rw [hy]; exact Nat.div_le_of_le_mul (by omega)
  have i0 : (1 : Int) ≤ (x : Int) := by omega
  have i1 : (x : Int) ≤ 64 := by omega
  have i2 : (x : Int) ≠ 0 := by omega
  have i3 : (C.length : Int) ≤ (x : Int) * 64 := by omega
  have hx0 : 1 ≤ x := by omega
  clear w0 w1 w2 hy
  have HCut : Hid ((∀ t : World, Below u.heap.size u t → Calls Tryd.prog 27 #[.agg #[.int .i64 (x : Int), .int .i64 (y : Int), .slice a C.length c], .agg #[.int .i64 X, .int .i64 Y, .int .i64 rw, .int .i64 rh]] t fun e w' => e = .returned (.tuple #[.slice none 0 0, .int .i64 2]) ∧ Below t.heap.size t w') ∨ ∃ n : Nat, n ≠ D.length ∧ ∀ t : World, Below u.heap.size u t → Calls Tryd.prog 27 #[.agg #[.int .i64 (x : Int), .int .i64 (y : Int), .slice a C.length c], .agg #[.int .i64 X, .int .i64 Y, .int .i64 rw, .int .i64 rh]] t fun e w' => ∃ g, e = .returned (.tuple #[.slice (some ⟨g, 0, none⟩) n n, .int .i64 0]) ∧ Below t.heap.size t w') := by
    by_cases hp : POk (x : Int) (y : Int) C
    · by_cases hw : Win (x : Int) (y : Int) X Y rw rh
      · have h0 := hp.h0
        obtain ⟨i1, i2, i3, i4, i5, i6⟩ := hw
        obtain ⟨X', rfl⟩ : ∃ n : Nat, X = (n : Int) := ⟨X.toNat, by omega⟩
        obtain ⟨Y', rfl⟩ : ∃ n : Nat, Y = (n : Int) := ⟨Y.toNat, by omega⟩
        obtain ⟨rw', rfl⟩ : ∃ n : Nat, rw = (n : Int) := ⟨rw.toNat, by omega⟩
        obtain ⟨rh', rfl⟩ : ∃ n : Nat, rh = (n : Int) := ⟨rh.toNat, by omega⟩
        have hl : C.length = x * y := by have := hp.len; rw [← Int.natCast_mul] at this; omega
        refine Or.inr ⟨rw' * rh', fun e => hn (BOk.of hx0 (by omega) (by omega) hy1 hl (by omega) (by omega) (by omega) (by omega) e.symm), fun t ht => ?_⟩
        refine (cut_ok (hs.to ht) hx0 (by omega) (by omega) (by omega) hl hc (w := rw') (h := rh') (X := X') (Y := Y') (by omega) (by omega) (by omega) (by omega)).mono ?_
        rintro e w' ⟨g, rfl, _, _, hb⟩
        rw [cutL_len]
        exact ⟨g, rfl, hb⟩
      · exact Or.inl fun t _ => cut_out hp hw bX bY
    · exact Or.inl fun t _ => cut_bad hp
  clear hn hs hc bX bY
  rcases HCut.out with hcut | ⟨n, hne, hcut⟩
  · have HC : Hid _ := hcut
    clear hcut HCut
    go_enter Tryd.func16, Tryd.ntmps16
    go_wp2_with fail
    refine (HC.out _ (to_alloc (from_alloc _ _) _)).mono ?_
    rintro e v1 ⟨rfl, hb⟩
    have HB : Hid (Below u.heap.size u v1) := below_to (to_alloc (from_alloc _ _) _) hb
    clear hb HC
    go_wp2_with fail
    go_ret2
    exact ⟨rfl, HB.out⟩
  · have HC : Hid _ := hcut
    have hb1 : ((D.length : Int) != (n : Int)) = true := by rw [bne_iff_ne]; omega
    clear hcut HCut hne
    go_enter Tryd.func16, Tryd.ntmps16
    go_wp2_with fail
    refine (HC.out _ (to_alloc (from_alloc _ _) _)).mono ?_
    rintro e v1 ⟨g, rfl, hb⟩
    have HB : Hid (Below u.heap.size u v1) := below_to (to_alloc (from_alloc _ _) _) hb
    clear hb HC
    go_wp2_with fail
    go_ret2
    exact ⟨rfl, HB.out⟩

set_option maxRecDepth 100000 in
set_option maxHeartbeats 2000000 in
theorem blended_above {u : World} {a ao : Option Addr} {c co b : Nat} {C D : List Nat} {w h X Y rw rh : Nat} {kf : Nat → Nat → Nat} (hs : Sl u .u8 a C) (hC : Byt C) (ho : Sl u .u8 ao D) (hD : Byt D) (w0 : 1 ≤ w) (w1 : w ≤ 64) (h0 : 1 ≤ h) (h1 : h ≤ 64) (hl : C.length = w * h) (hc : C.length ≤ c) (r0 : 1 ≤ rw) (r1 : 1 ≤ rh) (hX : X + rw ≤ w) (hY : Y + rh ≤ h) (hlD : D.length = rw * rh) (hk : ∀ x y, x < rw → y < rh → kf x y ≤ 64)
    (hK : ∀ x y, x < rw → y < rh → ∀ t : World, Below u.heap.size u t → Calls Tryd.prog 17 #[.int .i64 (x : Int), .int .i64 (y : Int), .pointer (some ⟨b, 0, none⟩)] t fun e w' => e = .returned (.int .i64 (kf x y : Nat)) ∧ t = w') :
    Calls Tryd.prog 16 #[.slice a C.length c, .int .i64 (w : Int), .agg #[.int .i64 (X : Int), .int .i64 (Y : Int), .int .i64 (rw : Int), .int .i64 (rh : Int)], .slice ao D.length co, .func (.func 17) #[] #[.pointer (some ⟨b, 0, none⟩)]] u fun e w' => Sq u w' e (mbL w C X Y rw rh kf D) := by
  obtain ⟨n, hn⟩ : ∃ n, n = rw * rh := ⟨_, rfl⟩
  have hnb : n ≤ 64 * 64 := by rw [hn]; exact Nat.mul_le_mul (by omega) (by omega)
  have hn0 : 0 < n := by rw [hn]; exact Nat.mul_pos r0 r1
  have HN : Hid (n = rw * rh) := hn
  obtain ⟨bo, oo, rfl, hbo, hco⟩ := ho.form (by rw [hlD, ← hn]; exact hn0)
  have HO : Hid (Sl u .u8 (some ⟨bo, oo, none⟩) D) := ho
  have HLD : Hid (D.length = n) := by show _ = _; rw [hlD, ← hn]
  rw [hlD, ← hn]
  have l1 : (C.length : Int) ≤ (w : Int) * 64 := by
    have : C.length ≤ w * 64 := by rw [hl]; exact Nat.mul_le_mul_left _ h1
    omega
  have q1 : (C.length : Int) / (w : Int) = (h : Int) := by rw [hl, Int.natCast_mul, Int.mul_ediv_cancel_left _ (by omega)]
  have q2 : (C.length : Int).tdiv (w : Int) = (h : Int) := by rw [Int.tdiv_eq_ediv_of_nonneg (by omega)]; exact q1
  have i0 : (1 : Int) ≤ (w : Int) := by omega
  have i1 : (w : Int) ≤ 64 := by omega
  have i2 : (w : Int) ≠ 0 := by omega
  have HS : Hid (Sl u .u8 a C) := hs
  have HBC : Hid (Byt C) := hC
  have HBD : Hid (Byt D) := hD
  have HKb : Hid _ := hk
  have HKc : Hid _ := hK
  have HCut : Hid (∀ t : World, Below u.heap.size u t → Calls Tryd.prog 27 #[.agg #[.int .i64 (w : Int), .int .i64 (h : Int), .slice a C.length c], .agg #[.int .i64 (X : Int), .int .i64 (Y : Int), .int .i64 (rw : Int), .int .i64 (rh : Int)]] t fun e w' => Sq t w' e (cutL w C X Y rw rh)) := fun t ht => cut_ok (hs.to ht) w0 (by omega) h0 (by omega) hl hc r0 r1 hX hY
  have HLay : Hid (∀ t : World, ∀ g, Sl t .u8 a C → Rw t g (blB w C X Y rw rh kf D) → Calls Tryd.prog 28 #[.agg #[.int .i64 (w : Int), .int .i64 (h : Int), .slice a C.length c], .agg #[.int .i64 (X : Int), .int .i64 (Y : Int), .int .i64 (rw : Int), .int .i64 (rh : Int)], .slice (some ⟨g, 0, none⟩) n n] t fun e w' => Pn t w' e w h (mbL w C X Y rw rh kf D)) := fun t g ht hr => by
    have := lay_ok (c := c) (cb := n) (B := blB w C X Y rw rh kf D) ht w0 (by omega) h0 (by omega) hl r0 r1 hX hY hr.sl (blB_len _ _ _ _ _ _ _ _) (by rw [blB_len, ← hn]; exact Nat.le_refl _)
    rw [blB_len, ← hn] at this
    exact this
  have k2 : (rw : Int) ≠ 0 := by omega
  have j0 : (1 : Int) ≤ (rw : Int) := by omega
  have j1 : (rw : Int) ≤ 64 := by omega
  have n1 : (n : Int) ≤ 4096 := by omega
  clear hs hC ho hD hk hK hl hc hlD hco hn hnb hbo
  go_enter Tryd.func16, Tryd.ntmps16
  go_wp2_with fail
  refine (HCut.out _ (to_alloc (from_alloc _ _) _)).mono ?_
  rintro e v1 ⟨g, rfl, hg, hr, hb⟩
  rw [cutL_len, ← HN.out]
  have HR : Hid (Rw v1 g (blP w C X Y rw rh kf D 0)) := by show Rw _ _ _; rw [blP_zero]; exact hr
  have hz : u.heap.size + 2 ≤ g := by simpa using hg
  have hgl : g < v1.heap.size := hr.lt
  have HB1 : Hid (Below u.heap.size u v1) := below_to (to_alloc (from_alloc _ _) _) hb
  have HRc : Hid (v1.cell? ⟨u.heap.size, 0, none⟩ = some (.int .i64 (X : Int)) ∧ v1.cell? ⟨u.heap.size, 1, none⟩ = some (.int .i64 (Y : Int)) ∧ v1.cell? ⟨u.heap.size, 2, none⟩ = some (.int .i64 (rw : Int)) ∧ v1.cell? ⟨u.heap.size, 3, none⟩ = some (.int .i64 (rh : Int))) := by
    refine ⟨?_, ?_, ?_, ?_⟩ <;> (rw [newCell hb _ _ (by simp; omega)]; simp [go_sem])
  have HPc : Hid (v1.cell? ⟨u.heap.size + 1, 0, none⟩ = some (.int .i64 (w : Int)) ∧ v1.cell? ⟨u.heap.size + 1, 1, none⟩ = some (.int .i64 (h : Int)) ∧ v1.cell? ⟨u.heap.size + 1, 2, none⟩ = some (.slice a C.length c)) := by
    refine ⟨?_, ?_, ?_⟩ <;> (rw [newCell hb _ _ (by simp)]; simp [go_sem])
  have HPf : Hid (∀ o, v1.frozen? ⟨u.heap.size + 1, o, none⟩ = false) := fun o => by rw [newFrozen hb _ _ (by simp)]; simp [go_sem]
  clear hg hr hb HCut l1 q1 q2
  go_wp2_with fail
  go_loopw [55] (fun i wr => ∃ m : Nat, m ≤ n ∧ i = .int .i64 m ∧ Rw wr g (blP w C X Y rw rh kf D m) ∧ Kf g v1 wr) (fun i _ => n - (intOf i).toNat)
  case atStart => exact ⟨0, by omega, rfl, HR.out, Kf.refl _ _⟩
  case round =>
    clear HR
    obtain ⟨m, hm, rfl, hr, hf⟩ := hrel
    have HBu : Hid (Below u.heap.size u wr) := HB1.out.trans (hf.below (by omega) HB1.out.size)
    by_cases hlt : m < n
    · have hmn : m < rw * rh := by rw [← HN.out]; exact hlt
      have c0 := hr.cell m (by rw [blP_len]; exact hmn)
      rw [blP_get hmn] at c0
      have c2 : wr.cell? ⟨u.heap.size, 2, none⟩ = some (.int .i64 (rw : Int)) := by rw [hf.cell _ _ (by omega) (by omega)]; exact HRc.out.2.2.1
      have hO := HO.out.low HB1.out hf (by omega)
      obtain ⟨b', o', e', _, hcc⟩ := hO.form (by rw [HLD.out]; exact hn0)
      simp only [Option.some.injEq, Addr.mk.injEq, and_true] at e'
      obtain ⟨rfl, rfl⟩ := e'
      have c3 := hcc m (by rw [HLD.out]; exact hlt)
      have t0 := hr.thaw m
      have hsb : cutF w C X Y rw m < 256 := HBC.out _
      have hdb : D.getD m 0 < 256 := HBD.out _
      have hx : m % rw < rw := Nat.mod_lt _ r0
      have hy : m / rw < rh := div_of hmn
      have hkb := HKb.out _ _ hx hy
      have HKm : Hid (∀ t : World, Below u.heap.size u t → Calls Tryd.prog 17 #[.int .i64 ((m % rw : Nat) : Int), .int .i64 ((m / rw : Nat) : Int), .pointer (some ⟨b, 0, none⟩)] t fun e w' => e = .returned (.int .i64 (kf (m % rw) (m / rw) : Nat)) ∧ t = w') := HKc.out _ _ hx hy
      have HW : Hid (∀ z, z = ((bl (kf (m % rw) (m / rw)) (cutF w C X Y rw m) (D.getD m 0) : Nat) : Int) → Rw (wr.drew.setCell ⟨g, m, none⟩ (.int .u8 z)) g (blP w C X Y rw rh kf D (m + 1)) ∧ Kf g v1 (wr.drew.setCell ⟨g, m, none⟩ (.int .u8 z))) := by
        rintro z rfl
        refine ⟨?_, hf.drew.kb (Kb.setCell _ _ _ _)⟩
        rw [← blP_set hmn]
        exact hr.drew.set _ _
      have em : (m : Int) % (rw : Int) = ((m % rw : Nat) : Int) := by rw [Int.natCast_emod]
      have em' : (m : Int).tmod (rw : Int) = ((m % rw : Nat) : Int) := by rw [Int.tmod_eq_emod_of_nonneg (by omega)]; exact em
      have ed : (m : Int) / (rw : Int) = ((m / rw : Nat) : Int) := by rw [Int.natCast_ediv]
      have ed' : (m : Int).tdiv (rw : Int) = ((m / rw : Nat) : Int) := by rw [Int.tdiv_eq_ediv_of_nonneg (by omega)]; exact ed
      generalize kf (m % rw) (m / rw) = kk at *
      generalize cutF w C X Y rw m = s at *
      generalize D.getD m 0 = d at *
      generalize m % rw = mx at *
      generalize m / rw = my at *
      have ew : IntKind.i64.wrap (my : Int) = (my : Int) := by rw [IntKind.wrap_i64]; omega
      obtain ⟨p1, hp1⟩ : ∃ p1, p1 = kk * s := ⟨_, rfl⟩
      obtain ⟨p2, hp2⟩ : ∃ p2, p2 = (64 - kk) * d := ⟨_, rfl⟩
      have p1b : p1 ≤ 64 * 255 := by rw [hp1]; exact Nat.mul_le_mul hkb (by omega)
      have p2b : p2 ≤ 64 * 255 := by rw [hp2]; exact Nat.mul_le_mul (by omega) (by omega)
      have e1 : (kk : Int) * (s : Int) = (p1 : Int) := by rw [hp1, Int.natCast_mul]
      have e2 : (64 - (kk : Int)) * (d : Int) = (p2 : Int) := by rw [hp2, Int.natCast_mul]; congr 1; omega
      have HBl : Hid (bl kk s d = (p1 + p2 + 32) / 64) := by show _ = _; rw [hp1, hp2]; rfl
      have bb : (p1 + p2 + 32) / 64 < 256 := by rw [← HBl.out]; exact bl_lt hkb hsb hdb
      have m0 : (0 : Int) ≤ (m : Int) := by omega
      have m1 : (m : Int) < (n : Int) := by omega
      have kk1 : (kk : Int) ≤ 64 := by omega
      have p1c : (p1 : Int) ≤ 16320 := by omega
      have p2c : (p2 : Int) ≤ 16320 := by omega
      have bc : ((p1 : Int) + (p2 : Int) + 32) / 64 < 256 := by omega
      have HKq : Hid (Calls Tryd.prog 17 #[.int .i64 (mx : Int), .int .i64 (my : Int), .pointer (some ⟨b, 0, none⟩)] wr.drew fun e w' => e = .returned (.int .i64 (kk : Int)) ∧ wr.drew = w') := HKm.out _ (below_drew HBu.out)
      have HKK : Hid (wr.drew.cell? ⟨u.heap.size, 2, none⟩ = some (.int .i64 (rw : Int)) ∧ Below u.heap.size u wr.drew) := ⟨c2, below_drew HBu.out⟩
      clear hr hf hO hcc hp1 hp2 hkb hmn hm HKm
      go_wp2_with fail
      have kz : ¬ (rw : Int) = 0 := by omega
      have kz2 : ¬ rw = 0 := by omega
      have ew2 : IntKind.i64.wrap (mx : Int) = (mx : Int) := by rw [IntKind.wrap_i64]; omega
      go_region_held3 (fun t => t.cell? ⟨u.heap.size, 2, none⟩ = some (.int .i64 (rw : Int)) ∧ Below u.heap.size u t)
        ((exact HKK.out))
        ((first | (go_at_call 17; refine HKq.out.mono ?_; rintro e w5 ⟨rfl, rfl⟩) | (refine HKq.out.mono ?_; rintro e w5 ⟨rfl, rfl⟩)))
      go_wp2_with fail
      go_roundw
      case rel => exact ⟨m + 1, by omega, by go_num, (HW.out _ (by rw [HBl.out]; omega)).1, (HW.out _ (by rw [HBl.out]; omega)).2⟩
      case measure => simp [intOf]; omega
    · obtain rfl : m = n := by omega
      have HRn : Hid (Rw wr g (blB w C X Y rw rh kf D)) := by show Rw _ _ _; rw [← blP_all, ← HN.out]; exact hr
      have HSn : Hid (Sl wr .u8 a C) := HS.out.low HB1.out hf (by omega)
      have f0 : wr.cell? ⟨u.heap.size, 0, none⟩ = some (.int .i64 (X : Int)) := by rw [hf.cell _ _ (by omega) (by omega)]; exact HRc.out.1
      have f1 : wr.cell? ⟨u.heap.size, 1, none⟩ = some (.int .i64 (Y : Int)) := by rw [hf.cell _ _ (by omega) (by omega)]; exact HRc.out.2.1
      have f2 : wr.cell? ⟨u.heap.size, 2, none⟩ = some (.int .i64 (rw : Int)) := by rw [hf.cell _ _ (by omega) (by omega)]; exact HRc.out.2.2.1
      have f3 : wr.cell? ⟨u.heap.size, 3, none⟩ = some (.int .i64 (rh : Int)) := by rw [hf.cell _ _ (by omega) (by omega)]; exact HRc.out.2.2.2
      have g0 : wr.cell? ⟨u.heap.size + 1, 0, none⟩ = some (.int .i64 (w : Int)) := by rw [hf.cell _ _ (by omega) (by omega)]; exact HPc.out.1
      have g1 : wr.cell? ⟨u.heap.size + 1, 1, none⟩ = some (.int .i64 (h : Int)) := by rw [hf.cell _ _ (by omega) (by omega)]; exact HPc.out.2.1
      have g2 : wr.cell? ⟨u.heap.size + 1, 2, none⟩ = some (.slice a C.length c) := by rw [hf.cell _ _ (by omega) (by omega)]; exact HPc.out.2.2
      have HPw : Hid (∀ o, wr.frozen? ⟨u.heap.size + 1, o, none⟩ = false) := fun o => by rw [hf.frozen _ _ (by omega) (by omega)]; exact HPf.out o
      have hzw : u.heap.size + 2 ≤ wr.heap.size := by have := hf.size; omega
      have G0 : Hid _ := g0
      have G1 : Hid _ := g1
      have G2 : Hid _ := g2
      clear hr hf
      go_wp2_with fail
      refine (HLay.out _ _ HSn.out HRn.out).mono ?_
      rintro e v2 ⟨g', rfl, hg', hr', hb'⟩
      rw [mbL_len]
      have t0 : v2.cell? ⟨u.heap.size + 1, 0, none⟩ = some (.int .i64 (w : Int)) := by rw [newCell hb' _ _ (by omega)]; exact G0.out
      have t1 : v2.cell? ⟨u.heap.size + 1, 1, none⟩ = some (.int .i64 (h : Int)) := by rw [newCell hb' _ _ (by omega)]; exact G1.out
      have t2 : v2.cell? ⟨u.heap.size + 1, 2, none⟩ = some (.slice a C.length c) := by rw [newCell hb' _ _ (by omega)]; exact G2.out
      have y0 : v2.frozen? ⟨u.heap.size + 1, 0, none⟩ = false := by rw [newFrozen hb' _ _ (by omega)]; exact HPw.out 0
      have y1 : v2.frozen? ⟨u.heap.size + 1, 1, none⟩ = false := by rw [newFrozen hb' _ _ (by omega)]; exact HPw.out 1
      have y2 : v2.frozen? ⟨u.heap.size + 1, 2, none⟩ = false := by rw [newFrozen hb' _ _ (by omega)]; exact HPw.out 2
      have HR2 : Hid (Rw v2 g' (mbL w C X Y rw rh kf D)) := hr'
      have HB2 : Hid (Below u.heap.size u v2) := below_to HBu.out hb'
      have hne : u.heap.size + 2 ≤ g' := by omega
      clear hr' hb' hg' f0 f1 f2 f3 g0 g1 g2 HLay
      go_wp2_with fail
      go_ret2
      refine ⟨g', ret_sl (by rw [mbL_len]), by omega, ((HR2.out.far (a := ⟨u.heap.size + 1, 0, none⟩) (by simp; omega) _).far (a := ⟨u.heap.size + 1, 1, none⟩) (by simp; omega) _).far (a := ⟨u.heap.size + 1, 2, none⟩) (by simp; omega) _, ?_⟩
      exact below_set (below_set (below_set HB2.out (by simp) _) (by simp) _) (by simp) _

set_option maxRecDepth 100000 in
set_option maxHeartbeats 2000000 in
theorem blended_left {u : World} {a ao : Option Addr} {c co b : Nat} {C D : List Nat} {w h X Y rw rh : Nat} {kf : Nat → Nat → Nat} (hs : Sl u .u8 a C) (hC : Byt C) (ho : Sl u .u8 ao D) (hD : Byt D) (w0 : 1 ≤ w) (w1 : w ≤ 64) (h0 : 1 ≤ h) (h1 : h ≤ 64) (hl : C.length = w * h) (hc : C.length ≤ c) (r0 : 1 ≤ rw) (r1 : 1 ≤ rh) (hX : X + rw ≤ w) (hY : Y + rh ≤ h) (hlD : D.length = rw * rh) (hk : ∀ x y, x < rw → y < rh → kf x y ≤ 64)
    (hK : ∀ x y, x < rw → y < rh → ∀ t : World, Below u.heap.size u t → Calls Tryd.prog 18 #[.int .i64 (x : Int), .int .i64 (y : Int), .pointer (some ⟨b, 0, none⟩)] t fun e w' => e = .returned (.int .i64 (kf x y : Nat)) ∧ t = w') :
    Calls Tryd.prog 16 #[.slice a C.length c, .int .i64 (w : Int), .agg #[.int .i64 (X : Int), .int .i64 (Y : Int), .int .i64 (rw : Int), .int .i64 (rh : Int)], .slice ao D.length co, .func (.func 18) #[] #[.pointer (some ⟨b, 0, none⟩)]] u fun e w' => Sq u w' e (mbL w C X Y rw rh kf D) := by
  obtain ⟨n, hn⟩ : ∃ n, n = rw * rh := ⟨_, rfl⟩
  have hnb : n ≤ 64 * 64 := by rw [hn]; exact Nat.mul_le_mul (by omega) (by omega)
  have hn0 : 0 < n := by rw [hn]; exact Nat.mul_pos r0 r1
  have HN : Hid (n = rw * rh) := hn
  obtain ⟨bo, oo, rfl, hbo, hco⟩ := ho.form (by rw [hlD, ← hn]; exact hn0)
  have HO : Hid (Sl u .u8 (some ⟨bo, oo, none⟩) D) := ho
  have HLD : Hid (D.length = n) := by show _ = _; rw [hlD, ← hn]
  rw [hlD, ← hn]
  have l1 : (C.length : Int) ≤ (w : Int) * 64 := by
    have : C.length ≤ w * 64 := by rw [hl]; exact Nat.mul_le_mul_left _ h1
    omega
  have q1 : (C.length : Int) / (w : Int) = (h : Int) := by rw [hl, Int.natCast_mul, Int.mul_ediv_cancel_left _ (by omega)]
  have q2 : (C.length : Int).tdiv (w : Int) = (h : Int) := by rw [Int.tdiv_eq_ediv_of_nonneg (by omega)]; exact q1
  have i0 : (1 : Int) ≤ (w : Int) := by omega
  have i1 : (w : Int) ≤ 64 := by omega
  have i2 : (w : Int) ≠ 0 := by omega
  have HS : Hid (Sl u .u8 a C) := hs
  have HBC : Hid (Byt C) := hC
  have HBD : Hid (Byt D) := hD
  have HKb : Hid _ := hk
  have HKc : Hid _ := hK
  have HCut : Hid (∀ t : World, Below u.heap.size u t → Calls Tryd.prog 27 #[.agg #[.int .i64 (w : Int), .int .i64 (h : Int), .slice a C.length c], .agg #[.int .i64 (X : Int), .int .i64 (Y : Int), .int .i64 (rw : Int), .int .i64 (rh : Int)]] t fun e w' => Sq t w' e (cutL w C X Y rw rh)) := fun t ht => cut_ok (hs.to ht) w0 (by omega) h0 (by omega) hl hc r0 r1 hX hY
  have HLay : Hid (∀ t : World, ∀ g, Sl t .u8 a C → Rw t g (blB w C X Y rw rh kf D) → Calls Tryd.prog 28 #[.agg #[.int .i64 (w : Int), .int .i64 (h : Int), .slice a C.length c], .agg #[.int .i64 (X : Int), .int .i64 (Y : Int), .int .i64 (rw : Int), .int .i64 (rh : Int)], .slice (some ⟨g, 0, none⟩) n n] t fun e w' => Pn t w' e w h (mbL w C X Y rw rh kf D)) := fun t g ht hr => by
    have := lay_ok (c := c) (cb := n) (B := blB w C X Y rw rh kf D) ht w0 (by omega) h0 (by omega) hl r0 r1 hX hY hr.sl (blB_len _ _ _ _ _ _ _ _) (by rw [blB_len, ← hn]; exact Nat.le_refl _)
    rw [blB_len, ← hn] at this
    exact this
  have k2 : (rw : Int) ≠ 0 := by omega
  have j0 : (1 : Int) ≤ (rw : Int) := by omega
  have j1 : (rw : Int) ≤ 64 := by omega
  have n1 : (n : Int) ≤ 4096 := by omega
  clear hs hC ho hD hk hK hl hc hlD hco hn hnb hbo
  go_enter Tryd.func16, Tryd.ntmps16
  go_wp2_with fail
  refine (HCut.out _ (to_alloc (from_alloc _ _) _)).mono ?_
  rintro e v1 ⟨g, rfl, hg, hr, hb⟩
  rw [cutL_len, ← HN.out]
  have HR : Hid (Rw v1 g (blP w C X Y rw rh kf D 0)) := by show Rw _ _ _; rw [blP_zero]; exact hr
  have hz : u.heap.size + 2 ≤ g := by simpa using hg
  have hgl : g < v1.heap.size := hr.lt
  have HB1 : Hid (Below u.heap.size u v1) := below_to (to_alloc (from_alloc _ _) _) hb
  have HRc : Hid (v1.cell? ⟨u.heap.size, 0, none⟩ = some (.int .i64 (X : Int)) ∧ v1.cell? ⟨u.heap.size, 1, none⟩ = some (.int .i64 (Y : Int)) ∧ v1.cell? ⟨u.heap.size, 2, none⟩ = some (.int .i64 (rw : Int)) ∧ v1.cell? ⟨u.heap.size, 3, none⟩ = some (.int .i64 (rh : Int))) := by
    refine ⟨?_, ?_, ?_, ?_⟩ <;> (rw [newCell hb _ _ (by simp; omega)]; simp [go_sem])
  have HPc : Hid (v1.cell? ⟨u.heap.size + 1, 0, none⟩ = some (.int .i64 (w : Int)) ∧ v1.cell? ⟨u.heap.size + 1, 1, none⟩ = some (.int .i64 (h : Int)) ∧ v1.cell? ⟨u.heap.size + 1, 2, none⟩ = some (.slice a C.length c)) := by
    refine ⟨?_, ?_, ?_⟩ <;> (rw [newCell hb _ _ (by simp)]; simp [go_sem])
  have HPf : Hid (∀ o, v1.frozen? ⟨u.heap.size + 1, o, none⟩ = false) := fun o => by rw [newFrozen hb _ _ (by simp)]; simp [go_sem]
  clear hg hr hb HCut l1 q1 q2
  go_wp2_with fail
  go_loopw [55] (fun i wr => ∃ m : Nat, m ≤ n ∧ i = .int .i64 m ∧ Rw wr g (blP w C X Y rw rh kf D m) ∧ Kf g v1 wr) (fun i _ => n - (intOf i).toNat)
  case atStart => exact ⟨0, by omega, rfl, HR.out, Kf.refl _ _⟩
  case round =>
    clear HR
    obtain ⟨m, hm, rfl, hr, hf⟩ := hrel
    have HBu : Hid (Below u.heap.size u wr) := HB1.out.trans (hf.below (by omega) HB1.out.size)
    by_cases hlt : m < n
    · have hmn : m < rw * rh := by rw [← HN.out]; exact hlt
      have c0 := hr.cell m (by rw [blP_len]; exact hmn)
      rw [blP_get hmn] at c0
      have c2 : wr.cell? ⟨u.heap.size, 2, none⟩ = some (.int .i64 (rw : Int)) := by rw [hf.cell _ _ (by omega) (by omega)]; exact HRc.out.2.2.1
      have hO := HO.out.low HB1.out hf (by omega)
      obtain ⟨b', o', e', _, hcc⟩ := hO.form (by rw [HLD.out]; exact hn0)
      simp only [Option.some.injEq, Addr.mk.injEq, and_true] at e'
      obtain ⟨rfl, rfl⟩ := e'
      have c3 := hcc m (by rw [HLD.out]; exact hlt)
      have t0 := hr.thaw m
      have hsb : cutF w C X Y rw m < 256 := HBC.out _
      have hdb : D.getD m 0 < 256 := HBD.out _
      have hx : m % rw < rw := Nat.mod_lt _ r0
      have hy : m / rw < rh := div_of hmn
      have hkb := HKb.out _ _ hx hy
      have HKm : Hid (∀ t : World, Below u.heap.size u t → Calls Tryd.prog 18 #[.int .i64 ((m % rw : Nat) : Int), .int .i64 ((m / rw : Nat) : Int), .pointer (some ⟨b, 0, none⟩)] t fun e w' => e = .returned (.int .i64 (kf (m % rw) (m / rw) : Nat)) ∧ t = w') := HKc.out _ _ hx hy
      have HW : Hid (∀ z, z = ((bl (kf (m % rw) (m / rw)) (cutF w C X Y rw m) (D.getD m 0) : Nat) : Int) → Rw (wr.drew.setCell ⟨g, m, none⟩ (.int .u8 z)) g (blP w C X Y rw rh kf D (m + 1)) ∧ Kf g v1 (wr.drew.setCell ⟨g, m, none⟩ (.int .u8 z))) := by
        rintro z rfl
        refine ⟨?_, hf.drew.kb (Kb.setCell _ _ _ _)⟩
        rw [← blP_set hmn]
        exact hr.drew.set _ _
      have em : (m : Int) % (rw : Int) = ((m % rw : Nat) : Int) := by rw [Int.natCast_emod]
      have em' : (m : Int).tmod (rw : Int) = ((m % rw : Nat) : Int) := by rw [Int.tmod_eq_emod_of_nonneg (by omega)]; exact em
      have ed : (m : Int) / (rw : Int) = ((m / rw : Nat) : Int) := by rw [Int.natCast_ediv]
      have ed' : (m : Int).tdiv (rw : Int) = ((m / rw : Nat) : Int) := by rw [Int.tdiv_eq_ediv_of_nonneg (by omega)]; exact ed
      generalize kf (m % rw) (m / rw) = kk at *
      generalize cutF w C X Y rw m = s at *
      generalize D.getD m 0 = d at *
      generalize m % rw = mx at *
      generalize m / rw = my at *
      have ew : IntKind.i64.wrap (my : Int) = (my : Int) := by rw [IntKind.wrap_i64]; omega
      obtain ⟨p1, hp1⟩ : ∃ p1, p1 = kk * s := ⟨_, rfl⟩
      obtain ⟨p2, hp2⟩ : ∃ p2, p2 = (64 - kk) * d := ⟨_, rfl⟩
      have p1b : p1 ≤ 64 * 255 := by rw [hp1]; exact Nat.mul_le_mul hkb (by omega)
      have p2b : p2 ≤ 64 * 255 := by rw [hp2]; exact Nat.mul_le_mul (by omega) (by omega)
      have e1 : (kk : Int) * (s : Int) = (p1 : Int) := by rw [hp1, Int.natCast_mul]
      have e2 : (64 - (kk : Int)) * (d : Int) = (p2 : Int) := by rw [hp2, Int.natCast_mul]; congr 1; omega
      have HBl : Hid (bl kk s d = (p1 + p2 + 32) / 64) := by show _ = _; rw [hp1, hp2]; rfl
      have bb : (p1 + p2 + 32) / 64 < 256 := by rw [← HBl.out]; exact bl_lt hkb hsb hdb
      have m0 : (0 : Int) ≤ (m : Int) := by omega
      have m1 : (m : Int) < (n : Int) := by omega
      have kk1 : (kk : Int) ≤ 64 := by omega
      have p1c : (p1 : Int) ≤ 16320 := by omega
      have p2c : (p2 : Int) ≤ 16320 := by omega
      have bc : ((p1 : Int) + (p2 : Int) + 32) / 64 < 256 := by omega
      have HKq : Hid (Calls Tryd.prog 18 #[.int .i64 (mx : Int), .int .i64 (my : Int), .pointer (some ⟨b, 0, none⟩)] wr.drew fun e w' => e = .returned (.int .i64 (kk : Int)) ∧ wr.drew = w') := HKm.out _ (below_drew HBu.out)
      have HKK : Hid (wr.drew.cell? ⟨u.heap.size, 2, none⟩ = some (.int .i64 (rw : Int)) ∧ Below u.heap.size u wr.drew) := ⟨c2, below_drew HBu.out⟩
      clear hr hf hO hcc hp1 hp2 hkb hmn hm HKm
      go_wp2_with fail
      have kz : ¬ (rw : Int) = 0 := by omega
      have kz2 : ¬ rw = 0 := by omega
      have ew2 : IntKind.i64.wrap (mx : Int) = (mx : Int) := by rw [IntKind.wrap_i64]; omega
      go_region_held3 (fun t => t.cell? ⟨u.heap.size, 2, none⟩ = some (.int .i64 (rw : Int)) ∧ Below u.heap.size u t)
        ((exact HKK.out))
        ((first | (go_at_call 18; refine HKq.out.mono ?_; rintro e w5 ⟨rfl, rfl⟩) | (refine HKq.out.mono ?_; rintro e w5 ⟨rfl, rfl⟩)))
      go_wp2_with fail
      go_roundw
      case rel => exact ⟨m + 1, by omega, by go_num, (HW.out _ (by rw [HBl.out]; omega)).1, (HW.out _ (by rw [HBl.out]; omega)).2⟩
      case measure => simp [intOf]; omega
    · obtain rfl : m = n := by omega
      have HRn : Hid (Rw wr g (blB w C X Y rw rh kf D)) := by show Rw _ _ _; rw [← blP_all, ← HN.out]; exact hr
      have HSn : Hid (Sl wr .u8 a C) := HS.out.low HB1.out hf (by omega)
      have f0 : wr.cell? ⟨u.heap.size, 0, none⟩ = some (.int .i64 (X : Int)) := by rw [hf.cell _ _ (by omega) (by omega)]; exact HRc.out.1
      have f1 : wr.cell? ⟨u.heap.size, 1, none⟩ = some (.int .i64 (Y : Int)) := by rw [hf.cell _ _ (by omega) (by omega)]; exact HRc.out.2.1
      have f2 : wr.cell? ⟨u.heap.size, 2, none⟩ = some (.int .i64 (rw : Int)) := by rw [hf.cell _ _ (by omega) (by omega)]; exact HRc.out.2.2.1
      have f3 : wr.cell? ⟨u.heap.size, 3, none⟩ = some (.int .i64 (rh : Int)) := by rw [hf.cell _ _ (by omega) (by omega)]; exact HRc.out.2.2.2
      have g0 : wr.cell? ⟨u.heap.size + 1, 0, none⟩ = some (.int .i64 (w : Int)) := by rw [hf.cell _ _ (by omega) (by omega)]; exact HPc.out.1
      have g1 : wr.cell? ⟨u.heap.size + 1, 1, none⟩ = some (.int .i64 (h : Int)) := by rw [hf.cell _ _ (by omega) (by omega)]; exact HPc.out.2.1
      have g2 : wr.cell? ⟨u.heap.size + 1, 2, none⟩ = some (.slice a C.length c) := by rw [hf.cell _ _ (by omega) (by omega)]; exact HPc.out.2.2
      have HPw : Hid (∀ o, wr.frozen? ⟨u.heap.size + 1, o, none⟩ = false) := fun o => by rw [hf.frozen _ _ (by omega) (by omega)]; exact HPf.out o
      have hzw : u.heap.size + 2 ≤ wr.heap.size := by have := hf.size; omega
      have G0 : Hid _ := g0
      have G1 : Hid _ := g1
      have G2 : Hid _ := g2
      clear hr hf
      go_wp2_with fail
      refine (HLay.out _ _ HSn.out HRn.out).mono ?_
      rintro e v2 ⟨g', rfl, hg', hr', hb'⟩
      rw [mbL_len]
      have t0 : v2.cell? ⟨u.heap.size + 1, 0, none⟩ = some (.int .i64 (w : Int)) := by rw [newCell hb' _ _ (by omega)]; exact G0.out
      have t1 : v2.cell? ⟨u.heap.size + 1, 1, none⟩ = some (.int .i64 (h : Int)) := by rw [newCell hb' _ _ (by omega)]; exact G1.out
      have t2 : v2.cell? ⟨u.heap.size + 1, 2, none⟩ = some (.slice a C.length c) := by rw [newCell hb' _ _ (by omega)]; exact G2.out
      have y0 : v2.frozen? ⟨u.heap.size + 1, 0, none⟩ = false := by rw [newFrozen hb' _ _ (by omega)]; exact HPw.out 0
      have y1 : v2.frozen? ⟨u.heap.size + 1, 1, none⟩ = false := by rw [newFrozen hb' _ _ (by omega)]; exact HPw.out 1
      have y2 : v2.frozen? ⟨u.heap.size + 1, 2, none⟩ = false := by rw [newFrozen hb' _ _ (by omega)]; exact HPw.out 2
      have HR2 : Hid (Rw v2 g' (mbL w C X Y rw rh kf D)) := hr'
      have HB2 : Hid (Below u.heap.size u v2) := below_to HBu.out hb'
      have hne : u.heap.size + 2 ≤ g' := by omega
      clear hr' hb' hg' f0 f1 f2 f3 g0 g1 g2 HLay
      go_wp2_with fail
      go_ret2
      refine ⟨g', ret_sl (by rw [mbL_len]), by omega, ((HR2.out.far (a := ⟨u.heap.size + 1, 0, none⟩) (by simp; omega) _).far (a := ⟨u.heap.size + 1, 1, none⟩) (by simp; omega) _).far (a := ⟨u.heap.size + 1, 2, none⟩) (by simp; omega) _, ?_⟩
      exact below_set (below_set (below_set HB2.out (by simp) _) (by simp) _) (by simp) _

end Go.Proofs.YtpideemiijhkgabDoor
