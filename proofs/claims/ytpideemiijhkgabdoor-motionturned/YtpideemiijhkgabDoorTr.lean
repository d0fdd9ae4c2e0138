/- DERIVED. Samples turned about their falling diagonal; Left of what is turned. -/
import Derived.Test.YtpideemiijhkgabDoorMc
import Derived.Test.YtpideemiijhkgabDoorMg
namespace Go.Proofs.YtpideemiijhkgabDoor
open Go.RowKit

/-- rows of w, turned -/
def trF (w h p : Nat) : Nat := p % h * w + p / h
def trL (w h : Nat) (C : List Nat) : List Nat := tab C.length fun p => C.getD (trF w h p) 0
def trP (w h : Nat) (C : List Nat) (k : Nat) : List Nat := tab C.length fun p => if trF w h p < k then C.getD (trF w h p) 0 else 0
theorem trL_len (w h : Nat) (C : List Nat) : (trL w h C).length = C.length := tab_len _ _
theorem trP_len (w h : Nat) (C : List Nat) (k : Nat) : (trP w h C k).length = C.length := tab_len _ _
theorem trL_byt {w h : Nat} {C : List Nat} (hC : Byt C) : Byt (trL w h C) := tab_byt fun _ => hC _
theorem trP_zero (w h : Nat) (C : List Nat) : trP w h C 0 = List.replicate C.length 0 := (tab_zero fun j _ => by rw [if_neg (by omega)]).symm
theorem trF_of {w h x y : Nat} (hy : y < h) : trF w h (x * h + y) = y * w + x := by
  unfold trF
  rw [(dm_of hy).1, (dm_of hy).2]
theorem trF_lt {w h p : Nat} (h0 : 0 < h) (hp : p < w * h) : trF w h p < w * h := by
  obtain ⟨_, p2⟩ := parts p h h0
  have hx : p / h < w := Nat.div_lt_of_lt_mul (by rw [Nat.mul_comm]; exact hp)
  exact at_lt p2 hx
theorem trF_back {w h p : Nat} (h0 : 0 < h) (hp : p < w * h) : trF w h p % w * h + trF w h p / w = p := by
  obtain ⟨p1, _⟩ := parts p h h0
  have hx : p / h < w := Nat.div_lt_of_lt_mul (by rw [Nat.mul_comm]; exact hp)
  unfold trF
  rw [(dm_of hx).1, (dm_of hx).2, ← p1]
theorem trP_all {w h : Nat} {C : List Nat} (h0 : 0 < h) (hl : C.length = w * h) : trP w h C C.length = trL w h C := tab_eq fun j hj => by
  rw [if_pos (by rw [hl] at hj ⊢; exact trF_lt h0 hj)]
theorem tr_at {w h k : Nat} (w0 : 0 < w) (hk : k < w * h) : k % w * h + k / w < w * h ∧ trF w h (k % w * h + k / w) = k := by
  obtain ⟨p1, p2⟩ := parts k w w0
  have hy : k / w < h := div_of hk
  refine ⟨?_, by rw [trF_of hy, ← p1]⟩
  rw [Nat.mul_comm w h]
  exact at_lt p2 hy
theorem trP_set {w h : Nat} {C : List Nat} {k : Nat} (w0 : 0 < w) (h0 : 0 < h) (hl : C.length = w * h) (hk : k < C.length) : (trP w h C k).set (k % w * h + k / w) (C.getD k 0) = trP w h C (k + 1) := by
  obtain ⟨q1, q2⟩ := tr_at w0 (by rw [← hl]; exact hk)
  refine tab_set (by rw [hl]; exact q1) (by rw [q2, if_pos (by omega)]) fun j hj hne => ?_
  have hn : trF w h j ≠ k := fun e => hne (by
    have := trF_back h0 (by rw [← hl]; exact hj)
    rw [e] at this
    exact this.symm)
  by_cases e : trF w h j < k
  · rw [if_pos e, if_pos (by omega)]
  · rw [if_neg e, if_neg (by omega)]
theorem trL_get {w h x y : Nat} {C : List Nat} (hl : C.length = w * h) (hx : x < w) (hy : y < h) : (trL w h C).getD (x * h + y) 0 = C.getD (y * w + x) 0 := by
  unfold trL
  rw [tab_get _ (by rw [hl, Nat.mul_comm w h]; exact at_lt hx hy), trF_of hy]
/-- what is blended from above, turned, is what is turned, blended from the left -/
theorem mbL_turned {w h X Y rw rh : Nat} {C D : List Nat} (_ : 0 < w) (h0 : 0 < h) (hl : C.length = w * h) (hD : D.length = rw * rh) (_ : X + rw ≤ w) (_ : Y + rh ≤ h) (f : Nat → Nat) :
    mbL h (trL w h C) Y X rh rw (fun x _ => f x) (trL rw rh D) = trL w h (mbL w C X Y rw rh (fun _ y => f y) D) := by
  have e1 : trL w h (mbL w C X Y rw rh (fun _ y => f y) D) = tab C.length fun p => (mbL w C X Y rw rh (fun _ y => f y) D).getD (trF w h p) 0 := by
    unfold trL
    rw [mbL_len]
  rw [e1]
  refine eq_tab (by rw [mbL_len, trL_len]) fun p hp => ?_
  have hp' : p < w * h := by rw [← hl]; exact hp
  obtain ⟨p1, hy⟩ := parts p h h0
  have hx : p / h < w := Nat.div_lt_of_lt_mul (by rw [Nat.mul_comm]; exact hp')
  have hi : trF w h p < C.length := by rw [hl]; exact trF_lt h0 hp'
  unfold mbL
  rw [layL_get hi, layL_get (by rw [trL_len]; exact hp)]
  unfold layF
  have c1 : trF w h p % w = p / h := by unfold trF; exact (dm_of hx).2
  have c2 : trF w h p / w = p % h := by unfold trF; exact (dm_of hx).1
  have c3 : trF w h p = p % h * w + p / h := rfl
  rw [c1, c2, c3]
  have c4 : (trL w h C).getD p 0 = C.getD (p % h * w + p / h) 0 := by
    have := trL_get hl hx hy
    rw [← p1] at this
    exact this
  rw [c4]
  generalize hxe : p / h = x at *
  generalize hye : p % h = y at *
  by_cases hc : X ≤ x ∧ x < X + rw ∧ Y ≤ y ∧ y < Y + rh
  · obtain ⟨d0, d1, d2, d3⟩ := hc
    rw [if_pos ⟨d2, d3, d0, d1⟩, if_pos ⟨d0, d1, d2, d3⟩]
    have ex : x - X < rw := by omega
    have ey : y - Y < rh := by omega
    unfold blB
    rw [tab_get _ (show (x - X) * rh + (y - Y) < rh * rw from at_lt ex ey), tab_get _ (show (y - Y) * rw + (x - X) < rw * rh from at_lt ey ex)]
    unfold cutF
    rw [(dm_of ey).1, (dm_of ey).2, (dm_of ex).1, (dm_of ex).2, trL_get hD ex ey, show X + (x - X) = x from by omega, show Y + (y - Y) = y from by omega, trL_get hl hx hy]
  · rw [if_neg (fun k => hc ⟨k.2.2.1, k.2.2.2, k.1, k.2.1⟩), if_neg hc]

def Tz (u w' : World) (e : Ending) (n : Nat) (L : List Nat) : Prop := ∃ g, e = .returned (.slice (some ⟨g, 0, none⟩) n n) ∧ Rw w' g L ∧ Below u.heap.size u w'
set_option maxRecDepth 100000 in
set_option maxHeartbeats 1000000 in
theorem transposed_ok {u : World} {a : Option Addr} {c w h n : Nat} {C : List Nat} (hs : Sl u .u8 a C) (hC : Byt C) (w0 : 1 ≤ w) (w1 : w ≤ 64) (h0 : 1 ≤ h) (h1 : h ≤ 64) (hl : C.length = w * h) (hn : C.length = n) :
    Calls Tryd.prog 9 #[.slice a n c, .int .i64 (w : Int)] u fun e w' => Tz u w' e n (trL w h C) := by
  have hbn : n ≤ 4096 := by rw [← hn, hl]; exact Nat.mul_le_mul w1 h1
  have mk := fun v => mk_row (n := n) (by omega) v
  have n1 : (n : Int) ≤ 4096 := by omega
  have HR : Hid (Rw (u.alloc (.cells (madeCells #[.int .u8 0] n) 5)) u.heap.size (trP w h C 0)) := by show Rw _ _ _; rw [trP_zero, hn]; exact Rw.made u _
  have HV : Hid (Below u.heap.size u (u.alloc (.cells (madeCells #[.int .u8 0] n) 5))) := from_alloc _ _
  have HA : Hid (trP w h C n = trL w h C) := by show _ = _; rw [← hn]; exact trP_all h0 hl
  have HLp : Hid (∀ k, (trP w h C k).length = n) := fun k => by rw [trP_len, hn]
  have HSt : Hid (∀ k, k < n → (trP w h C k).set (k % w * h + k / w) (C.getD k 0) = trP w h C (k + 1)) := fun k hk => trP_set w0 h0 hl (by rw [hn]; exact hk)
  have HQ : Hid (∀ k, k < n → k % w * h + k / w < n) := fun k hk => by rw [← hn, hl] at hk ⊢; exact (tr_at w0 hk).1
  have HBy : Hid (∀ k, C.getD k 0 < 256) := hC
  have HS : Hid (∀ k, k < n → ∃ b1 o1, a = some ⟨b1, o1, none⟩ ∧ b1 < u.heap.size ∧ u.cell? ⟨b1, o1 + k, none⟩ = some (.int .u8 (C.getD k 0 : Nat))) := fun k hk => by
    obtain ⟨b1, o1, e1, l1, f1⟩ := hs.form (by omega)
    exact ⟨b1, o1, e1, l1, f1 k (by omega)⟩
  have hdv : (n : Int).tdiv (w : Int) = (h : Int) := by
    rw [Int.tdiv_eq_ediv_of_nonneg (by omega), ← hn, hl, Int.natCast_mul, Int.mul_ediv_cancel_left _ (by omega)]
  have hdv2 : (n : Int) / (w : Int) = (h : Int) := by rw [← hn, hl, Int.natCast_mul, Int.mul_ediv_cancel_left _ (by omega)]
  have wz : ¬ (w : Int) = 0 := by omega
  have wz2 : ¬ w = 0 := by omega
  have wi1 : (w : Int) ≤ 64 := by omega
  have hi1 : (h : Int) ≤ 64 := by omega
  have hi0 : (0 : Int) ≤ (h : Int) := by omega
  clear hs hC hl hn hbn
  go_enter Tryd.func9, Tryd.ntmps9
  go_wp2_with fail
  generalize (u.alloc (.cells (madeCells #[.int .u8 0] n) 5)) = V at *
  clear mk
  go_loopw [7] (fun i wr => ∃ k : Nat, k ≤ n ∧ i = .int .i64 k ∧ Rw wr u.heap.size (trP w h C k) ∧ Below u.heap.size u wr) (fun i _ => n - (intOf i).toNat)
  case atStart => exact ⟨0, by omega, rfl, HR.out, HV.out⟩
  case round =>
    clear HR HV
    obtain ⟨k, hk, rfl, hr, hb⟩ := hrel
    by_cases hlt : k < n
    · obtain ⟨b1, o1, rfl, l1, f1⟩ := HS.out k hlt
      have y1 := HBy.out k
      have hq := HQ.out k hlt
      have HW : Hid (Rw (wr.drew.setCell ⟨u.heap.size, k % w * h + k / w, none⟩ (.int .u8 (C.getD k 0 : Nat))) u.heap.size (trP w h C (k + 1)) ∧ Below u.heap.size u (wr.drew.setCell ⟨u.heap.size, k % w * h + k / w, none⟩ (.int .u8 (C.getD k 0 : Nat)))) := by
        refine ⟨?_, below_set (below_drew hb) (by simp) _⟩
        rw [← HSt.out k hlt]
        exact hr.drew.set _ _
      have z0 := hr.cell (k % w * h + k / w) (by rw [HLp.out]; exact hq)
      have z1 := hr.thaw (k % w * h + k / w)
      have z2 : wr.drew.cell? ⟨u.heap.size, k % w * h + k / w, none⟩ = some (.int .u8 ((trP w h C k).getD (k % w * h + k / w) 0 : Nat)) := z0
      have z3 : wr.drew.frozen? ⟨u.heap.size, k % w * h + k / w, none⟩ = false := z1
      have r1 : wr.cell? ⟨b1, o1 + k, none⟩ = some (.int .u8 (C.getD k 0 : Nat)) := by rw [newCell hb _ _ l1]; exact f1
      have HKK : Hid (∀ q v, wr.drew.cell? ⟨b1, o1 + k, none⟩ = some (.int .u8 (C.getD k 0 : Nat)) ∧ (wr.drew.setCell ⟨u.heap.size, q, none⟩ v).cell? ⟨b1, o1 + k, none⟩ = some (.int .u8 (C.getD k 0 : Nat))) := fun q v => ⟨r1, by rw [World.cell?_setCell_other _ _ _ _ (by simp <;> omega)]; exact r1⟩
      generalize (trP w h C k).getD (k % w * h + k / w) 0 = old at *
      generalize C.getD k 0 = s at *
      have m1 : (k : Int).tmod (w : Int) = ((k % w : Nat) : Int) := by rw [Int.tmod_eq_emod_of_nonneg (by omega)]; rfl
      have m2 : (k : Int).tdiv (w : Int) = ((k / w : Nat) : Int) := by rw [Int.tdiv_eq_ediv_of_nonneg (by omega)]; rfl
      have m5 : (k : Int) % (w : Int) = ((k % w : Nat) : Int) := by rfl
      have m6 : (k : Int) / (w : Int) = ((k / w : Nat) : Int) := by rfl
      have m3 : k % w < 64 := by have := Nat.mod_lt k (show w > 0 by omega); omega
      generalize k % w = p at *
      generalize k / w = r at *
      have e2 : (p : Int) * (h : Int) = ((p * h : Nat) : Int) := by rw [Int.natCast_mul]
      generalize p * h = ph at *
      have e3 : (ph : Int) + (r : Int) = ((ph + r : Nat) : Int) := by omega
      have t1 : IntKind.i64.wrap (ph : Int) = (ph : Int) := by rw [IntKind.wrap_i64]; omega
      have t2 : IntKind.i64.wrap (p : Int) = (p : Int) := by rw [IntKind.wrap_i64]; omega
      have t3 : IntKind.i64.wrap (r : Int) = (r : Int) := by rw [IntKind.wrap_i64]; omega
      have p2 : ((ph + r : Nat) : Int) < (n : Int) := by omega
      have p3 : (0 : Int) ≤ ((ph + r : Nat) : Int) := by omega
      generalize ph + r = q at *
      have t4 : IntKind.i64.wrap (q : Int) = (q : Int) := by rw [IntKind.wrap_i64]; omega
      have k0 : (0 : Int) ≤ (k : Int) := by omega
      have k1 : (k : Int) < (n : Int) := by omega
      clear hr hb f1 r1 hq
      go_wp2_with fail
      go_region_held3 (fun t => t.cell? ⟨b1, o1 + k, none⟩ = some (.int .u8 (s : Int)))
        ((first | exact (HKK.out 0 undef).1 | exact (HKK.out _ _).2))
        ((fail))
      go_wp2_with fail
      go_roundw
      case rel => exact ⟨k + 1, by omega, by go_num, HW.out.1, HW.out.2⟩
      case measure => simp [intOf]; omega
    · obtain rfl : k = n := by omega
      have HR : Hid (Rw wr u.heap.size (trL w h C)) := by show Rw _ _ _; rw [← HA.out]; exact hr
      have HB : Hid _ := hb
      clear hr hb
      go_wp2_with fail
      go_ret
      exact ⟨u.heap.size, rfl, HR.out, HB.out⟩

end Go.Proofs.YtpideemiijhkgabDoor
