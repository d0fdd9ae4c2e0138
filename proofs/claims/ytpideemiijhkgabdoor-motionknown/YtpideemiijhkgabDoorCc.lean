/- DERIVED. The sums along the rows of a block. -/
import Derived.Test.YtpideemiijhkgabDoorCb
namespace Go.Proofs.YtpideemiijhkgabDoor
open Go.RowKit

/-- columns and a row that are being written, in the blocks g and g + 1 -/
structure Sr (V0 : World) (g : Nat) (L R : List Int) (wr : World) : Prop where
  col : Ri 3 wr g L
  row : Ri 3 wr (g + 1) R
  bel : Below g V0 wr
theorem Sr.to {V0 wr w1 : World} {g : Nat} {L R : List Int} (h : Sr V0 g L R wr) (hb : Below wr.heap.size wr w1) : Sr V0 g L R w1 := ⟨h.col.to hb, h.row.to hb, h.bel.trans (hb.mono (Nat.le_of_lt h.col.lt))⟩
theorem Sr.setRow {V0 wr : World} {g : Nat} {L R R' : List Int} (h : Sr V0 g L R wr) {k : Nat} {x : Int} (e : R.set k x = R') : Sr V0 g L R' (wr.setCell ⟨g + 1, k, none⟩ (.int .i64 x)) := ⟨h.col.far (by simp) _, by rw [← e]; exact h.row.set k x, below_set h.bel (by simp) _⟩
theorem Sr.setCol {V0 wr : World} {g : Nat} {L R L' : List Int} (h : Sr V0 g L R wr) {k : Nat} {x : Int} (e : L.set k x = L') : Sr V0 g L' R (wr.setCell ⟨g, k, none⟩ (.int .i64 x)) := ⟨by rw [← e]; exact h.col.set k x, h.row.far (by simp) _, below_set h.bel (by simp) _⟩

/-- the sums column by column: j rows are done, and in the next one i columns -/
def coL (C : List Nat) (x y : Nat) (X Y : Int) (T : List Int) (wd hi j i : Nat) : List Int := tbi (wd * hi) fun n => if n % hi < j ∨ (n % hi = j ∧ n / hi < i) then mm C x y X Y T (n / hi) (n % hi) else 0
def coA (C : List Nat) (x y : Nat) (X Y : Int) (T : List Int) (wd hi : Nat) : List Int := tbi (wd * hi) fun n => mm C x y X Y T (n / hi) (n % hi)
theorem coL_len (C : List Nat) (x y : Nat) (X Y : Int) (T : List Int) (wd hi j i : Nat) : (coL C x y X Y T wd hi j i).length = wd * hi := tbi_len _ _
theorem coA_len (C : List Nat) (x y : Nat) (X Y : Int) (T : List Int) (wd hi : Nat) : (coA C x y X Y T wd hi).length = wd * hi := tbi_len _ _
theorem coL_zero (C : List Nat) (x y : Nat) (X Y : Int) (T : List Int) (wd hi : Nat) : coL C x y X Y T wd hi 0 0 = List.replicate (wd * hi) 0 := (tbi_zero fun j _ => by rw [if_neg (fun k => by rcases k with k | ⟨_, k⟩ <;> exact Nat.not_lt_zero _ k)]).symm
theorem coL_all (C : List Nat) (x y : Nat) (X Y : Int) (T : List Int) (wd : Nat) {hi : Nat} (h0 : 0 < hi) : coL C x y X Y T wd hi hi 0 = coA C x y X Y T wd hi := tbi_eq fun j _ => by rw [if_pos (Or.inl (Nat.mod_lt _ h0))]
theorem coL_row (C : List Nat) (x y : Nat) (X Y : Int) (T : List Int) (wd : Nat) {hi : Nat} (j : Nat) : coL C x y X Y T wd hi j wd = coL C x y X Y T wd hi (j + 1) 0 := tbi_eq fun n hn => by
  have h1 : n / hi < wd := by rw [Nat.mul_comm] at hn; exact div_of hn
  generalize n / hi = b at *
  generalize n % hi = a at *
  by_cases h : a < j + 1
  · rw [if_pos (by omega), if_pos (Or.inl h)]
  · rw [if_neg (by omega), if_neg (by omega)]
theorem coL_set (C : List Nat) (x y : Nat) (X Y : Int) (T : List Int) {wd hi j i : Nat} (hj : j < hi) (hi' : i < wd) : (coL C x y X Y T wd hi j i).set (i * hi + j) (mm C x y X Y T i j) = coL C x y X Y T wd hi j (i + 1) := by
  obtain ⟨d, m⟩ := dm_of (y := i) hj
  refine tbi_set (by rw [Nat.mul_comm wd hi]; exact at_lt hi' hj) (by rw [d, m, if_pos (Or.inr ⟨rfl, by omega⟩)]) fun n hn hne => ?_
  have h0 : 0 < hi := by omega
  obtain ⟨p, q⟩ := parts n hi h0
  generalize n / hi = b at *
  generalize n % hi = a at *
  by_cases h : a < j ∨ (a = j ∧ b < i)
  · rw [if_pos h, if_pos (by omega)]
  · rw [if_neg h, if_neg]
    intro k
    have e1 : a = j := by omega
    have e2 : b = i := by omega
    rw [e1, e2] at p
    exact hne p
/-- a row of samples, k of them there -/
def roL (C : List Nat) (x y : Nat) (X Y : Int) (R : List Int) (n j k : Nat) : List Int := tbi n fun i => if i < k then (sp C x y (X + (i : Int) - 3) (Y + (j : Int) - 3) : Int) else R.getD i 0
theorem roL_len (C : List Nat) (x y : Nat) (X Y : Int) (R : List Int) (n j k : Nat) : (roL C x y X Y R n j k).length = n := tbi_len _ _
theorem roL_zero (C : List Nat) (x y : Nat) (X Y : Int) {R : List Int} {n : Nat} (h : R.length = n) (j : Nat) : roL C x y X Y R n j 0 = R := ext_getD (by rw [roL_len, h]) fun i hi => by
  rw [roL_len] at hi; unfold roL; rw [tbi_get _ hi, if_neg (by omega)]
theorem roL_set (C : List Nat) (x y : Nat) (X Y : Int) (R : List Int) {n k : Nat} (j : Nat) (h : k < n) : (roL C x y X Y R n j k).set k (sp C x y (X + (k : Int) - 3) (Y + (j : Int) - 3) : Int) = roL C x y X Y R n j (k + 1) := tbi_set h (by rw [if_pos (by omega)]) fun i _ hne => by
  by_cases e : i < k
  · rw [if_pos e, if_pos (by omega)]
  · rw [if_neg e, if_neg (by omega)]
theorem roL_get (C : List Nat) (x y : Nat) (X Y : Int) (R : List Int) {n : Nat} (j : Nat) {i : Nat} (h : i < n) : (roL C x y X Y R n j n).getD i 0 = (sp C x y (X + (i : Int) - 3) (Y + (j : Int) - 3) : Int) := by unfold roL; rw [tbi_get _ h, if_pos h]

/-- sums in new memory -/
def Sn (u w' : World) (e : Ending) (L : List Int) : Prop := ∃ g, e = .returned (.slice (some ⟨g, 0, none⟩) L.length L.length) ∧ Ri 3 w' g L ∧ u.heap.size ≤ g ∧ Below u.heap.size u w'

set_option maxRecDepth 100000 in
set_option maxHeartbeats 2000000 in
theorem summedRows_any {u : World} {a : Option Addr} {c x y wd hi hb tb xb : Nat} {C : List Nat} {X Y : Int} {T : List Int} (hs : Sl u .u8 a C) (hC : Byt C) (hx0 : 1 ≤ x) (hx1 : x ≤ 512) (hy0 : 1 ≤ y) (hy1 : y ≤ 512) (hl : C.length = x * y)
    (X0 : -65536 ≤ X) (X1 : X ≤ 65536) (Y0 : -65536 ≤ Y) (Y1 : Y ≤ 65536) (w0 : 1 ≤ wd) (w1 : wd ≤ 64) (h0 : 1 ≤ hi) (h1 : hi ≤ 71) (hf : Fn u hb tb xb T 3 4) (hT : Tk T) :
    Calls Tryd.prog 38 #[.agg #[.int .i64 (x : Int), .int .i64 (y : Int), .slice a C.length c], .int .i64 X, .int .i64 Y, .int .i64 (wd : Int), .int .i64 (hi : Int), cv hb tb xb] u fun e w' => Sn u w' e (coA C x y X Y T wd hi) := by
  obtain ⟨n, hn⟩ : ∃ n, n = wd * hi := ⟨_, rfl⟩
  have hnb : n ≤ 64 * 71 := by rw [hn]; exact Nat.mul_le_mul w1 h1
  have HN : Hid (n = wd * hi) := hn
  have en : (wd : Int) * (hi : Int) = (n : Int) := by rw [← Int.natCast_mul, hn]
  have n1 : (n : Int) ≤ 4544 := by omega
  have mk1 := fun v => mk_ints (n := n) (by omega) v
  obtain ⟨r, hr⟩ : ∃ r, r = wd + 7 := ⟨_, rfl⟩
  have er : (wd : Int) + 8 - 1 = (r : Int) := by omega
  have mk2 := fun v => mk_ints (n := r) (by omega) v
  have HR7 : Hid (r = wd + 7) := hr
  have r1 : (r : Int) ≤ 71 := by omega
  have w2 : (1 : Int) ≤ (wd : Int) := by omega
  have w3 : (wd : Int) ≤ 64 := by omega
  have h2 : (1 : Int) ≤ (hi : Int) := by omega
  have h3 : (hi : Int) ≤ 71 := by omega
  have HSl : Hid (Sl u .u8 a C) := hs
  have HFn : Hid (Fn u hb tb xb T 3 4) := hf
  have HTk : Hid (Tk T) := hT
  have HBy : Hid (Byt C) := hC
  have HP : Hid (1 ≤ x ∧ x ≤ 512 ∧ 1 ≤ y ∧ y ≤ 512 ∧ C.length = x * y) := ⟨hx0, hx1, hy0, hy1, hl⟩
  unfold cv
  clear hn hr hs hf hT hC hnb hx0 hx1 hy0 hy1 hl
  go_enter Tryd.func38, Tryd.ntmps38
  go_wp2_with fail
  have HSr : Hid (Sr (u.alloc (.cells #[.int .i64 (x : Int), .int .i64 (y : Int), .slice a C.length c] 39)) (u.heap.size + 1) (coL C x y X Y T wd hi 0 0) (List.replicate r 0) (((u.alloc (.cells #[.int .i64 (x : Int), .int .i64 (y : Int), .slice a C.length c] 39)).alloc (.cells (madeCells #[.int .i64 0] n) 3)).alloc (.cells (madeCells #[.int .i64 0] r) 3))) := by
    refine ⟨?_, Ri.made 3 _ r (by simp), ?_⟩
    · rw [coL_zero, ← HN.out]
      exact (Ri.made 3 (u.alloc _) n (by simp)).to (from_alloc _ _)
    · exact ((Below.refl _ _).alloc (by simp) _).alloc (by simp) _
  have HV0 : Hid (Below u.heap.size u (u.alloc (.cells #[.int .i64 (x : Int), .int .i64 (y : Int), .slice a C.length c] 39))) := from_alloc _ _
  have HVc : Hid (∀ t : World, Below (u.heap.size + 1) (u.alloc (.cells #[.int .i64 (x : Int), .int .i64 (y : Int), .slice a C.length c] 39)) t → t.cell? ⟨u.heap.size, 0, none⟩ = some (.int .i64 (x : Int)) ∧ t.cell? ⟨u.heap.size, 1, none⟩ = some (.int .i64 (y : Int)) ∧ t.cell? ⟨u.heap.size, 2, none⟩ = some (.slice a C.length c)) := fun t ht => by
    rw [newCell ht _ _ (by omega), newCell ht _ _ (by omega), newCell ht _ _ (by omega)]
    simp
  have HVb : Hid (∀ t : World, Below (u.heap.size + 1) (u.alloc (.cells #[.int .i64 (x : Int), .int .i64 (y : Int), .slice a C.length c] 39)) t → Below u.heap.size u t) := fun t ht => HV0.out.trans (ht.mono (by omega))
  generalize (u.alloc (.cells #[.int .i64 (x : Int), .int .i64 (y : Int), .slice a C.length c] 39)) = V0 at *
  generalize (((V0.alloc (.cells (madeCells #[.int .i64 0] n) 3)).alloc (.cells (madeCells #[.int .i64 0] r) 3))) = V1 at *
  clear mk1 mk2 HV0
  go_loopw [27] (fun i wr => ∃ j : Nat, j ≤ hi ∧ i = .int .i64 j ∧ ∃ R, R.length = r ∧ Sr V0 (u.heap.size + 1) (coL C x y X Y T wd hi j 0) R wr) (fun i _ => hi - (intOf i).toNat)
  case atStart => exact ⟨0, by omega, rfl, _, by simp, HSr.out⟩
  case round =>
    clear HSr
    obtain ⟨j, hj, rfl, R, hRl, hsr⟩ := hrel
    have HR : Hid (R.length = r) := hRl
    by_cases hlt : j < hi
    · have j0 : (0 : Int) ≤ (j : Int) := by omega
      have j1 : (j : Int) < (hi : Int) := by omega
      have HS : Hid (Sr V0 (u.heap.size + 1) (coL C x y X Y T wd hi j 0) (roL C x y X Y R r j 0) wr) := by show Sr _ _ _ _ _; rw [roL_zero _ _ _ _ _ hRl]; exact hsr
      clear hsr hRl
      go_wp2_with fail
      go_loopw [32] (fun i wr => ∃ k : Nat, k ≤ r ∧ i = .int .i64 k ∧ Sr V0 (u.heap.size + 1) (coL C x y X Y T wd hi j 0) (roL C x y X Y R r j k) wr) (fun i _ => r - (intOf i).toNat)
      case atStart => exact ⟨0, by omega, rfl, HS.out⟩
      case round =>
        clear HS
        obtain ⟨k, hk, rfl, hsr⟩ := hrel
        by_cases hlk : k < r
        · have k0 : (0 : Int) ≤ (k : Int) := by omega
          have k1 : (k : Int) < (r : Int) := by omega
          obtain ⟨p0, p1, p2⟩ := HVc.out _ hsr.bel
          have HS : Hid _ := hsr
          have HA : Hid (Calls Tryd.prog 44 #[.agg #[.int .i64 (x : Int), .int .i64 (y : Int), .slice a C.length c], .int .i64 (X + (k : Int) - 3), .int .i64 (Y + (j : Int) - 3)] wr fun e w' => e = .returned (.int .u8 (sp C x y (X + (k : Int) - 3) (Y + (j : Int) - 3) : Nat)) ∧ Below wr.heap.size wr w') := by
            obtain ⟨q0, q1, q2, q3, q4⟩ := HP.out
            exact at_ok (HSl.out.to (HVb.out _ hsr.bel)) q0 q1 q2 q3 q4
          have HW : Hid (∀ x', x' = (sp C x y (X + (k : Int) - 3) (Y + (j : Int) - 3) : Int) → ∀ w2, Below wr.heap.size wr w2 → Sr V0 (u.heap.size + 1) (coL C x y X Y T wd hi j 0) (roL C x y X Y R r j (k + 1)) (w2.setCell ⟨u.heap.size + 1 + 1, k, none⟩ (.int .i64 x'))) := by
            rintro x' rfl w2 h2
            exact (HS.out.to h2).setRow (roL_set C x y X Y R j hlk)
          have hsb : sp C x y (X + (k : Int) - 3) (Y + (j : Int) - 3) < 256 := HBy.out _
          clear hsr
          generalize sp C x y (X + (k : Int) - 3) (Y + (j : Int) - 3) = s at *
          go_wp2_with fail
          refine HA.out.mono ?_
          rintro e w2 ⟨rfl, hb2⟩
          have d0 := (HS.out.to hb2).row.cell k (by rw [roL_len]; exact hlk)
          have d1 := (HS.out.to hb2).row.thaw k
          have HB2 : Hid _ := hb2
          have s1 : (s : Int) < 256 := by omega
          clear hb2 p0 p1 p2 HA
          generalize (roL C x y X Y R r j k).getD k 0 = old at *
          go_wp2_with fail
          go_roundw
          case rel => exact ⟨k + 1, by omega, by go_num, HW.out _ rfl _ HB2.out⟩
          case measure => simp [intOf]; omega
        · obtain rfl : k = r := by omega
          have HS : Hid _ := hsr
          clear hsr
          go_wp2_with fail
          go_loopw [51] (fun i wr => ∃ i' : Nat, i' ≤ wd ∧ i = .int .i64 i' ∧ Sr V0 (u.heap.size + 1) (coL C x y X Y T wd hi j i') (roL C x y X Y R k j k) wr) (fun i _ => wd - (intOf i).toNat)
          case atStart => exact ⟨0, by omega, rfl, HS.out⟩
          case round =>
            clear HS
            obtain ⟨i, hiw, rfl, hsr⟩ := hrel
            by_cases hli : i < wd
            · have i0 : (0 : Int) ≤ (i : Int) := by omega
              have i1 : (i : Int) < (wd : Int) := by omega
              have hr7 := HR7.out
              have i2 : (i : Int) ≤ (k : Int) := by omega
              have hil : i * hi + j < n := by rw [HN.out, Nat.mul_comm wd hi]; exact at_lt hli hlt
              have hih : i * hi ≤ n := by omega
              have HS : Hid _ := hsr
              have HF : Hid (Calls Tryd.prog 42 #[.slice (some ⟨u.heap.size + 1 + 1, i, none⟩) (k - i) (k - i), .pointer (some ⟨hb, 0, none⟩), .pointer (some ⟨tb, 0, none⟩), .pointer (some ⟨xb, 0, none⟩)] wr fun e w' => e = .returned (.int .i64 (mm C x y X Y T i j)) ∧ Below wr.heap.size wr w') := by
                refine sum_any (F := fun m => (sp C x y (X + (i : Int) + (m : Int) - 3) (Y + (j : Int) - 3) : Int)) (HFn.out.to (HVb.out _ hsr.bel)) HTk.out (D := 8) ⟨Or.inl ⟨rfl, rfl, rfl⟩⟩ (by omega) (fun m hm => ?_) (fun m => ?_)
                · rw [hsr.row.cell (i + m) (by rw [roL_len]; omega), roL_get _ _ _ _ _ _ _ (by omega), Int.natCast_add, Int.add_assoc X]
                · have := HBy.out (nr (Y + (j : Int) - 3) y * x + nr (X + (i : Int) + (m : Int) - 3) x)
                  simp only [sp]; omega
              have HW : Hid (∀ x', x' = mm C x y X Y T i j → ∀ w2, Below wr.heap.size wr w2 → Sr V0 (u.heap.size + 1) (coL C x y X Y T wd hi j (i + 1)) (roL C x y X Y R k j k) (w2.setCell ⟨u.heap.size + 1, i * hi + j, none⟩ (.int .i64 x'))) := by
                rintro x' rfl w2 h2
                exact (HS.out.to h2).setCol (coL_set C x y X Y T hlt hli)
              have e1 : (i : Int) * (hi : Int) = ((i * hi : Nat) : Int) := by rw [Int.natCast_mul]
              have HD : Hid (∀ w2, Below wr.heap.size wr w2 → w2.cell? ⟨u.heap.size + 1, i * hi + j, none⟩ = some (.int .i64 ((coL C x y X Y T wd hi j i).getD (i * hi + j) 0)) ∧ w2.frozen? ⟨u.heap.size + 1, i * hi + j, none⟩ = false) := fun w2 h2 => ⟨(HS.out.to h2).col.cell _ (by rw [coL_len, ← HN.out]; exact hil), (HS.out.to h2).col.thaw _⟩
              generalize (coL C x y X Y T wd hi j i).getD (i * hi + j) 0 = old at *
              generalize mm C x y X Y T i j = M at *
              generalize hz : i * hi = z at *
              have e2 : (z : Int) + (j : Int) = ((z + j : Nat) : Int) := by omega
              have z1 : (z : Int) ≤ 4544 := by omega
              have z2 : ((z + j : Nat) : Int) < (n : Int) := by omega
              have z3 : (0 : Int) ≤ ((z + j : Nat) : Int) := by omega
              generalize z + j = q at *
              clear hsr hr7 hz hih hil
              go_wp2_with fail
              refine HF.out.mono ?_
              rintro e w2 ⟨rfl, hb2⟩
              obtain ⟨d0, d1⟩ := HD.out _ hb2
              have HB2 : Hid _ := hb2
              clear hb2 HF HD
              go_wp2_with fail
              go_roundw
              case rel => exact ⟨i + 1, by omega, by go_num, HW.out _ rfl _ HB2.out⟩
              case measure => simp [intOf]; omega
            · obtain rfl : i = wd := by omega
              have HS : Hid (Sr V0 (u.heap.size + 1) (coL C x y X Y T i hi (j + 1) 0) (roL C x y X Y R k j k) wr) := by show Sr _ _ _ _ _; rw [← coL_row]; exact hsr
              clear hsr
              go_wp2_with fail
              go_roundw
              case rel => exact ⟨j + 1, by omega, by go_num, _, by rw [roL_len], HS.out⟩
              case measure => simp [intOf]; omega
    · obtain rfl : j = hi := by omega
      have HS : Hid (Sr V0 (u.heap.size + 1) (coA C x y X Y T wd j) R wr) := by show Sr _ _ _ _ _; rw [← coL_all _ _ _ _ _ _ _ (by omega)]; exact hsr
      clear hsr
      go_wp2_with fail
      go_ret
      exact ⟨u.heap.size + 1, by rw [coA_len, ← HN.out]; rfl, HS.out.col, by omega, HVb.out _ HS.out.bel⟩

end Go.Proofs.YtpideemiijhkgabDoor
