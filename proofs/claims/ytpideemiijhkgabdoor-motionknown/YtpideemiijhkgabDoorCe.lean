/- DERIVED. The walk of the program's Fetch, where it answers a block. -/
import Derived.Test.YtpideemiijhkgabDoorCd
namespace Go.Proofs.YtpideemiijhkgabDoor
open Go.RowKit

/-- a block that is being written: i columns are there, and of the next one j samples -/
def fkL (C : List Nat) (x y : Nat) (X Y : Int) (T S : List Int) (w h i j : Nat) : List Nat := tab (w * h) fun n => if n % w < i ∨ (n % w = i ∧ n / w < j) then bk C x y X Y T S (n % w) (n / w) else 0
theorem fkL_len (C : List Nat) (x y : Nat) (X Y : Int) (T S : List Int) (w h i j : Nat) : (fkL C x y X Y T S w h i j).length = w * h := tab_len _ _
theorem fkL_zero (C : List Nat) (x y : Nat) (X Y : Int) (T S : List Int) (w h : Nat) : fkL C x y X Y T S w h 0 0 = List.replicate (w * h) 0 := (tab_zero fun j _ => by rw [if_neg (fun k => by rcases k with k | ⟨_, k⟩ <;> exact Nat.not_lt_zero _ k)]).symm
theorem fkL_all (C : List Nat) (x y : Nat) (X Y : Int) (T S : List Int) {w : Nat} (h : Nat) (h0 : 0 < w) : fkL C x y X Y T S w h w 0 = bL C x y X Y T S w h := tab_eq fun j _ => by rw [if_pos (Or.inl (Nat.mod_lt _ h0))]
theorem fkL_col (C : List Nat) (x y : Nat) (X Y : Int) (T S : List Int) (w h i : Nat) : fkL C x y X Y T S w h i h = fkL C x y X Y T S w h (i + 1) 0 := tab_eq fun n hn => by
  have h1 : n / w < h := div_of hn
  generalize n / w = b at *
  generalize n % w = a at *
  by_cases h : a < i + 1
  · rw [if_pos (by omega), if_pos (Or.inl h)]
  · rw [if_neg (by omega), if_neg (by omega)]
theorem fkL_set (C : List Nat) (x y : Nat) (X Y : Int) (T S : List Int) {w h i j : Nat} (hi : i < w) (hj : j < h) : (fkL C x y X Y T S w h i j).set (j * w + i) (bk C x y X Y T S i j) = fkL C x y X Y T S w h i (j + 1) := by
  obtain ⟨d, m⟩ := dm_of (y := j) hi
  refine tab_set (at_lt hj hi) (by rw [d, m, if_pos (Or.inr ⟨rfl, by omega⟩)]) fun n hn hne => ?_
  obtain ⟨p, q⟩ := parts n w (by omega)
  generalize n / w = b at *
  generalize n % w = a at *
  by_cases h : a < i ∨ (a = i ∧ b < j)
  · rw [if_pos h, if_pos (by omega)]
  · rw [if_neg h, if_neg]
    intro k
    have e1 : a = i := by omega
    have e2 : b = j := by omega
    rw [e1, e2] at p
    exact hne p
/-- where a column's numbers stand -/
theorem coA_get (C : List Nat) (x y : Nat) (X Y : Int) (T : List Int) {wd hi i j : Nat} (h : i < wd) (hj : j < hi) : (coA C x y X Y T wd hi).getD (i * hi + j) 0 = mm C x y X Y T i j := by
  obtain ⟨d, m⟩ := dm_of (y := i) hj
  unfold coA
  rw [tbi_get _ (by rw [Nat.mul_comm wd hi]; exact at_lt h hj), d, m]

/-- samples in new memory -/
def Fd (u w' : World) (e : Ending) (L : List Nat) : Prop := ∃ g, e = .returned (.tuple #[.slice (some ⟨g, 0, none⟩) L.length L.length, .int .i64 0]) ∧ Rw w' g L ∧ u.heap.size ≤ g ∧ Below u.heap.size u w'

set_option maxRecDepth 100000 in
set_option maxHeartbeats 2000000 in
theorem fetch_core {u : World} {a : Option Addr} {c x y wd ht k f g : Nat} {C : List Nat} {px py X Y : Int} (hgt : Gt u) (hs : Sl u .u8 a C) (hC : Byt C) (hx0 : 1 ≤ x) (hx1 : x ≤ 512) (hy0 : 1 ≤ y) (hy1 : y ≤ 512) (hl : C.length = x * y)
    (X0 : -1048576 ≤ px ∧ px ≤ 1048576) (Y0 : -1048576 ≤ py ∧ py ≤ 1048576) (w0 : 4 ≤ wd) (w1 : wd ≤ 64) (h0 : 4 ≤ ht) (h1 : ht ≤ 64) (hk : k < 3) (hX : px / 16 = X) (hY : py / 16 = Y) (hf : px % 16 = (f : Int)) (hg : py % 16 = (g : Int)) :
    Calls Tryd.prog 26 #[.agg #[.int .i64 (x : Int), .int .i64 (y : Int), .slice a C.length c], .int .i64 px, .int .i64 py, .int .i64 (wd : Int), .int .i64 (ht : Int), .int .i64 (k : Int)] u fun e w' => Fd u w' e (bL C x y X Y (tp k f) (tp k g) wd ht) := by
  have hck : ck (x : Int) (y : Int) C = 0 := ck_ok (POk.of hx0 hx1 hy0 hy1 hl)
  have b1 := and15 px
  have b2 := and15 py
  rw [hf] at b1
  rw [hg] at b2
  have H0 : Hid (∀ t : World, Calls Tryd.prog 33 #[.int .i64 px] t fun e w' => e = .returned (.bool true) ∧ t = w') := fun t => by
    have := isPlace_any (w := t) (z := px)
    rwa [decide_eq_true X0] at this
  have H1 : Hid (∀ t : World, Calls Tryd.prog 33 #[.int .i64 py] t fun e w' => e = .returned (.bool true) ∧ t = w') := fun t => by
    have := isPlace_any (w := t) (z := py)
    rwa [decide_eq_true Y0] at this
  have H2 : Hid (∀ t : World, Calls Tryd.prog 34 #[.int .i64 (wd : Int)] t fun e w' => e = .returned (.bool true) ∧ t = w') := fun t => by
    have := isSide_any (w := t) (z := (wd : Int))
    rwa [decide_eq_true (by omega)] at this
  have H3 : Hid (∀ t : World, Calls Tryd.prog 34 #[.int .i64 (ht : Int)] t fun e w' => e = .returned (.bool true) ∧ t = w') := fun t => by
    have := isSide_any (w := t) (z := (ht : Int))
    rwa [decide_eq_true (by omega)] at this
  have H4 : Hid (∀ t : World, Calls Tryd.prog 35 #[.int .i64 (k : Int)] t fun e w' => e = .returned (.bool true) ∧ t = w') := fun t => by
    have := isKind_any (w := t) (z := (k : Int))
    rwa [decide_eq_true (by omega)] at this
  have f16 : f < 16 := by omega
  have g16 : g < 16 := by omega
  have HT : Hid (Tk (tp k f)) := tp_tk hk f16
  have HU : Hid (Tk (tp k g)) := tp_tk hk g16
  have HA : Hid (∀ t : World, Gt t → Calls Tryd.prog 37 #[.int .i64 (k : Int), .int .i64 (f : Int)] t fun e w' => e = .returned (tv (tp k f)) ∧ Below t.heap.size t w') := fun t ht => tapsOf_any ht hk f16
  have HG : Hid (∀ t : World, Gt t → Calls Tryd.prog 37 #[.int .i64 (k : Int), .int .i64 (g : Int)] t fun e w' => e = .returned (tv (tp k g)) ∧ Below t.heap.size t w') := fun t ht => tapsOf_any ht hk g16
  have HXb : Hid (-65536 ≤ X ∧ X ≤ 65536 ∧ -65536 ≤ Y ∧ Y ≤ 65536) := by show _ ∧ _; omega
  have HGt : Hid (Gt u) := hgt
  have HSl : Hid (Sl u .u8 a C) := hs
  have HBy : Hid (Byt C) := hC
  have HP : Hid (1 ≤ x ∧ x ≤ 512 ∧ 1 ≤ y ∧ y ≤ 512 ∧ C.length = x * y) := ⟨hx0, hx1, hy0, hy1, hl⟩
  obtain ⟨hi, hhi⟩ : ∃ hi, hi = ht + 7 := ⟨_, rfl⟩
  have e7 : (ht : Int) + 8 - 1 = (hi : Int) := by omega
  have HHi : Hid (hi = ht + 7) := hhi
  obtain ⟨n, hn⟩ : ∃ n, n = wd * ht := ⟨_, rfl⟩
  have hnb : n ≤ 64 * 64 := by rw [hn]; exact Nat.mul_le_mul w1 h1
  have HN : Hid (n = wd * ht) := hn
  have en : (wd : Int) * (ht : Int) = (n : Int) := by rw [← Int.natCast_mul, hn]
  have n1 : (n : Int) ≤ 4096 := by omega
  have mk1 := fun v => mk_row (n := n) (by omega) v
  have w2 : (4 : Int) ≤ (wd : Int) := by omega
  have w3 : (wd : Int) ≤ 64 := by omega
  have h2 : (4 : Int) ≤ (ht : Int) := by omega
  have h3 : (ht : Int) ≤ 64 := by omega
  have HR : Hid (∀ t : World, Below u.heap.size u t → ∀ hb tb xb, Fn t hb tb xb (tp k f) 3 4 → Calls Tryd.prog 38 #[.agg #[.int .i64 (x : Int), .int .i64 (y : Int), .slice a C.length c], .int .i64 X, .int .i64 Y, .int .i64 (wd : Int), .int .i64 (hi : Int), cv hb tb xb] t fun e w' => Sn t w' e (coA C x y X Y (tp k f) wd hi)) := fun t ht hb tb xb hf => summedRows_any (hs.to ht) hC hx0 hx1 hy0 hy1 hl (by omega) (by omega) (by omega) (by omega) (by omega) w1 (by omega) (by omega) hf (tp_tk hk f16)
  have HLT : Hid ((tp k f).length = 8 ∧ (tp k g).length = 8) := ⟨tp_len k hk f f16, tp_len k hk g g16⟩
  generalize tp k f = T at *
  generalize tp k g = S at *
  have X2 : -1048576 ≤ px := X0.1
  have X3 : px ≤ 1048576 := X0.2
  have Y2 : -1048576 ≤ py := Y0.1
  have Y3 : py ≤ 1048576 := Y0.2
  clear hn hhi hs hC hnb hx0 hx1 hy0 hy1 hl X0 Y0 hgt hf hg
  go_enter Tryd.func26, Tryd.ntmps26
  go_wp2_with fail
  refine check_any.mono ?_
  rintro e w1 ⟨rfl, hb⟩
  rw [hck]
  have d0 : w1.cell? ⟨u.heap.size, 0, none⟩ = some (.int .i64 (x : Int)) := by rw [newCell hb _ _ (by simp)]; simp
  have d1 : w1.cell? ⟨u.heap.size, 1, none⟩ = some (.int .i64 (y : Int)) := by rw [newCell hb _ _ (by simp)]; simp
  have d2 : w1.cell? ⟨u.heap.size, 2, none⟩ = some (.slice a C.length c) := by rw [newCell hb _ _ (by simp)]; simp
  have hlt1 : u.heap.size < w1.heap.size := Nat.lt_of_lt_of_le (by simp) hb.size
  have HB1 : Hid (Below u.heap.size u w1) := below_to (from_alloc u _) hb
  clear hb hck
  go_wp2_with (first | (go_at_call 33; with_reducible refine (H0.out _).mono ?_; rintro e w' ⟨rfl, rfl⟩) | (go_at_call 33; with_reducible refine (H1.out _).mono ?_; rintro e w' ⟨rfl, rfl⟩) | (go_at_call 34; with_reducible refine (H2.out _).mono ?_; rintro e w' ⟨rfl, rfl⟩) | (go_at_call 34; with_reducible refine (H3.out _).mono ?_; rintro e w' ⟨rfl, rfl⟩) | (go_at_call 35; with_reducible refine (H4.out _).mono ?_; rintro e w' ⟨rfl, rfl⟩) | fail)
  refine (HA.out _ (HGt.out.to HB1.out)).mono ?_
  rintro e v1 ⟨rfl, hb1⟩
  go_wp2_with fail
  refine (summer_any HLT.out.1 (D := 8) ⟨Or.inl ⟨rfl, rfl, rfl⟩⟩).mono ?_
  rintro e v2 ⟨rfl, hfn, hb2, hz2⟩
  have HF1 : Hid (Fn v2 (v1.heap.size + 2) v1.heap.size (v1.heap.size + 1) T 3 4) := hfn
  have HB2 : Hid (Below w1.heap.size w1 v2) := below_to hb1 hb2
  generalize v1.heap.size + 2 = hbA at *
  generalize v1.heap.size + 1 = xbA at *
  generalize v1.heap.size = tbA at *
  clear hb1 hb2 hfn hz2 H0 H1 H2 H3 H4 HA v1
  go_wp2_with fail
  refine (HG.out _ (HGt.out.to (below_to HB1.out HB2.out))).mono ?_
  rintro e v3 ⟨rfl, hb3⟩
  go_wp2_with fail
  refine (summer_any HLT.out.2 (D := 2048) ⟨Or.inr ⟨rfl, rfl, rfl⟩⟩).mono ?_
  rintro e v4 ⟨rfl, hfn, hb4, hz4⟩
  have HF2 : Hid (Fn v4 (v3.heap.size + 2) v3.heap.size (v3.heap.size + 1) S 11 1024) := hfn
  have HF3 : Hid (Fn v4 hbA tbA xbA T 3 4) := HF1.out.to (below_to hb3 hb4)
  have hb5 := below_to HB2.out (below_to hb3 hb4)
  have HB4 : Hid (Below u.heap.size u v4) := below_to HB1.out hb5
  have q0 : v4.cell? ⟨u.heap.size, 0, none⟩ = some (.int .i64 (x : Int)) := by rw [newCell hb5 _ _ hlt1]; exact d0
  have q1 : v4.cell? ⟨u.heap.size, 1, none⟩ = some (.int .i64 (y : Int)) := by rw [newCell hb5 _ _ hlt1]; exact d1
  have q2 : v4.cell? ⟨u.heap.size, 2, none⟩ = some (.slice a C.length c) := by rw [newCell hb5 _ _ hlt1]; exact d2
  generalize v3.heap.size + 2 = hbB at *
  generalize v3.heap.size + 1 = xbB at *
  generalize v3.heap.size = tbB at *
  clear hb3 hb4 hb5 hfn hz4 HG HB2 HF1 v3 v2 d0 d1 d2
  go_wp2_with fail
  refine (HR.out _ HB4.out _ _ _ HF3.out).mono ?_
  rintro e v5 ⟨gc, rfl, hri, hlo, hb6⟩
  rw [coA_len]
  obtain ⟨m, hm⟩ : ∃ m, m = wd * hi := ⟨_, rfl⟩
  rw [← hm]
  have HM : Hid (m = wd * hi) := hm
  have HI5 : Hid (Ri 3 v5 gc (coA C x y X Y T wd hi)) := hri
  have HF5 : Hid (Fn v5 hbB tbB xbB S 11 1024) := HF2.out.to hb6
  have HB5 : Hid (Below u.heap.size u v5) := below_to HB4.out hb6
  unfold cv
  have hmb : m ≤ 64 * 71 := by rw [hm]; exact Nat.mul_le_mul (by omega) (by have := HHi.out; omega)
  have m1 : (m : Int) ≤ 4544 := by omega
  clear hri hlo hb6 HF2 HF3 HR q0 q1 q2 hm hmb v4 hlt1 w1 HB1 HLT HB4
  go_wp2_with fail
  obtain ⟨s, hs⟩ : ∃ s, s = v5.heap.size := ⟨_, rfl⟩
  rw [← hs]
  have HR0 : Hid (Rw (v5.alloc (.cells (madeCells #[.int .u8 0] n) 5)) s (fkL C x y X Y T S wd ht 0 0)) := by
    show Rw _ _ _
    rw [fkL_zero, ← HN.out]; exact Rw.madeAt v5 n hs.symm
  have HI6 : Hid (∀ t : World, Below s (v5.alloc (.cells (madeCells #[.int .u8 0] n) 5)) t → Ri 3 t gc (coA C x y X Y T wd hi) ∧ Fn t hbB tbB xbB S 11 1024 ∧ Below u.heap.size u t) := fun t ht => by
    have hfr := from_alloc v5 (.cells (madeCells #[.int .u8 0] n) 5)
    rw [← hs] at hfr
    have hal : Below s v5 t := hfr.trans ht
    have h5 := HF5.out
    exact ⟨HI5.out.below hal (by rw [hs]; exact HI5.out.lt), h5.below hal (by rw [hs]; exact h5.l0) (by rw [hs]; exact h5.l1) (by rw [hs]; exact h5.l2), HB5.out.trans (hal.mono (by rw [hs]; exact HB5.out.size))⟩
  have HLo : Hid (u.heap.size ≤ s) := by show _ ≤ _; rw [hs]; exact HB5.out.size
  generalize (v5.alloc (.cells (madeCells #[.int .u8 0] n) 5)) = V at *
  clear hs HI5 HF5 HB5 mk1 v5
  go_loopw [77] (fun i wr => ∃ i' : Nat, i' ≤ wd ∧ i = .int .i64 i' ∧ Rw wr s (fkL C x y X Y T S wd ht i' 0) ∧ Below s V wr) (fun i _ => wd - (intOf i).toNat)
  case atStart => exact ⟨0, by omega, rfl, HR0.out, Below.refl _ _⟩
  case round =>
    clear HR0
    obtain ⟨i, hi', rfl, hrw, hbv⟩ := hrel
    by_cases hlt : i < wd
    · have i0 : (0 : Int) ≤ (i : Int) := by omega
      have i1 : (i : Int) < (wd : Int) := by omega
      have hc0 : i * hi + hi ≤ m := by rw [HM.out, Nat.mul_comm wd hi]; exact row_le hlt
      have e1 : (i : Int) * (hi : Int) = ((i * hi : Nat) : Int) := by rw [Int.natCast_mul]
      have HZ : Hid (∀ j k', j < ht → k' < 8 → (coA C x y X Y T wd hi).getD (i * hi + j + k') 0 = mm C x y X Y T i (j + k')) := fun j k' hj hk' => by rw [Nat.add_assoc]; exact coA_get C x y X Y T hlt (by have := HHi.out; omega)
      have HZ2 : Hid (i * hi + hi ≤ m) := hc0
      generalize i * hi = z at *
      have z1 : (z : Int) < (m : Int) := by have := HHi.out; omega
      have z0 : (0 : Int) ≤ (z : Int) := by omega
      have HS : Hid _ := hrw
      have HB : Hid _ := hbv
      clear hrw hbv hc0
      go_wp2_with fail
      go_loopw [86] (fun q wr => ∃ j : Nat, j ≤ ht ∧ q = .int .i64 j ∧ Rw wr s (fkL C x y X Y T S wd ht i j) ∧ Below s V wr) (fun q _ => ht - (intOf q).toNat)
      case atStart => exact ⟨0, by omega, rfl, HS.out, HB.out⟩
      case round =>
        clear HS HB
        obtain ⟨j, hj, rfl, hrw, hbv⟩ := hrel
        by_cases hlj : j < ht
        · have j0 : (0 : Int) ≤ (j : Int) := by omega
          have j1 : (j : Int) < (ht : Int) := by omega
          have hjw : j * wd + i < n := by rw [HN.out]; exact at_lt hlj hlt
          have j2 : (j : Int) < (m : Int) - (z : Int) := by have := HZ2.out; have := HHi.out; omega
          obtain ⟨hri, hfn, hbu⟩ := HI6.out _ hbv
          have HF : Hid (Calls Tryd.prog 42 #[.slice (some ⟨gc, z + j, none⟩) (m - z - j) (m - z - j), .pointer (some ⟨hbB, 0, none⟩), .pointer (some ⟨tbB, 0, none⟩), .pointer (some ⟨xbB, 0, none⟩)] wr fun e w' => e = .returned (.int .i64 ((1024 + dt S (fun k' => mm C x y X Y T i (j + k')) 8) / 2048)) ∧ Below wr.heap.size wr w') := by
            have hh := HHi.out
            have hz := HZ2.out
            refine sum_any (F := fun k' => mm C x y X Y T i (j + k')) hfn HU.out (D := 2048) ⟨Or.inr ⟨rfl, rfl, rfl⟩⟩ (by omega) (fun k' hk' => ?_) (fun k' => mm_in HBy.out HT.out _ _ _ _ _ _)
            rw [hri.cell _ (by rw [coA_len, ← HM.out]; omega), HZ.out j k' hlj hk']
          have HW : Hid (∀ x', x' = ((bk C x y X Y T S i j : Nat) : Int) → ∀ w2, Below wr.heap.size wr w2 → Rw (w2.setCell ⟨s, j * wd + i, none⟩ (.int .u8 x')) s (fkL C x y X Y T S wd ht i (j + 1)) ∧ Below s V (w2.setCell ⟨s, j * wd + i, none⟩ (.int .u8 x'))) := by
            rintro x' rfl w2 h2
            refine ⟨?_, below_set (hbv.trans (h2.mono (Nat.le_of_lt hrw.lt))) (Nat.le_refl _) _⟩
            rw [← fkL_set C x y X Y T S hlt hlj]
            exact (hrw.to h2).set _ _
          have HD : Hid (∀ w2, Below wr.heap.size wr w2 → w2.cell? ⟨s, j * wd + i, none⟩ = some (.int .u8 ((fkL C x y X Y T S wd ht i j).getD (j * wd + i) 0 : Nat)) ∧ w2.frozen? ⟨s, j * wd + i, none⟩ = false) := fun w2 h2 => ⟨(hrw.to h2).cell _ (by rw [fkL_len, ← HN.out]; exact hjw), (hrw.to h2).thaw _⟩
          have HK : Hid (bk C x y X Y T S i j = clp ((1024 + dt S (fun k' => mm C x y X Y T i (j + k')) 8) / 2048)) := rfl
          generalize (fkL C x y X Y T S wd ht i j).getD (j * wd + i) 0 = old at *
          generalize (1024 + dt S (fun k' => mm C x y X Y T i (j + k')) 8) / 2048 = M at *
          have e2 : (j : Int) * (wd : Int) = ((j * wd : Nat) : Int) := by rw [Int.natCast_mul]
          generalize j * wd = p at *
          have e3 : (p : Int) + (i : Int) = ((p + i : Nat) : Int) := by omega
          have p1 : (p : Int) ≤ 4096 := by omega
          have p2 : ((p + i : Nat) : Int) < (n : Int) := by omega
          have p3 : (0 : Int) ≤ ((p + i : Nat) : Int) := by omega
          generalize p + i = q at *
          clear hrw hbv hri hfn hbu hjw
          go_wp2_with fail
          refine HF.out.mono ?_
          rintro e w2 ⟨rfl, hb2⟩
          obtain ⟨d0, d1⟩ := HD.out _ hb2
          have HB2 : Hid _ := hb2
          clear hb2 HF HD
          go_wp2_with fail
          refine clipped_any.mono ?_
          rintro e w3 ⟨rfl, rfl⟩
          rw [← HK.out]
          go_wp2_with fail
          go_roundw
          case rel => exact ⟨j + 1, by omega, by go_num, (HW.out _ rfl _ HB2.out).1, (HW.out _ rfl _ HB2.out).2⟩
          case measure => simp [intOf]; omega
        · obtain rfl : j = ht := by omega
          have HS : Hid (Rw wr s (fkL C x y X Y T S wd j (i + 1) 0)) := by show Rw _ _ _; rw [← fkL_col]; exact hrw
          have HB : Hid _ := hbv
          clear hrw hbv
          go_wp2_with fail
          go_roundw
          case rel => exact ⟨i + 1, by omega, by go_num, HS.out, HB.out⟩
          case measure => simp [intOf]; omega
    · obtain rfl : i = wd := by omega
      have HS : Hid (Rw wr s (bL C x y X Y T S i ht)) := by show Rw _ _ _; rw [← fkL_all _ _ _ _ _ _ _ _ (by omega)]; exact hrw
      have HB : Hid _ := (HI6.out _ hbv).2.2
      clear hrw hbv
      go_wp2_with fail
      refine bodyPost_ret (v := .tuple #[.slice (some ⟨s, 0, none⟩) n n, .int .i64 0]) (by simp [results, Tryd.results26, go_sem]) rfl ⟨s, ?_, HS.out, HLo.out, HB.out⟩
      rw [bL_len, ← HN.out]

theorem fetch_ok {u : World} {a : Option Addr} {c x y wd ht k : Nat} {C : List Nat} {px py : Int} (hgt : Gt u) (hs : Sl u .u8 a C) (hC : Byt C) (h : FOk (x : Int) (y : Int) C px py (wd : Int) (ht : Int) (k : Int)) :
    Calls Tryd.prog 26 #[.agg #[.int .i64 (x : Int), .int .i64 (y : Int), .slice a C.length c], .int .i64 px, .int .i64 py, .int .i64 (wd : Int), .int .i64 (ht : Int), .int .i64 (k : Int)] u fun e w' => Fd u w' e (fe C x y px py wd ht k) := by
  obtain ⟨x', y', ex, ey, p0, p1, p2, p3, p4⟩ := h.pl.nat
  obtain rfl : x = x' := by omega
  obtain rfl : y = y' := by omega
  have h1 := h.w
  have h2 := h.h
  have h3 := h.k
  exact fetch_core hgt hs hC p0 p1 p2 p3 p4 h.x h.y (by omega) (by omega) (by omega) (by omega) (by omega) rfl rfl (by omega) (by omega)

end Go.Proofs.YtpideemiijhkgabDoor
