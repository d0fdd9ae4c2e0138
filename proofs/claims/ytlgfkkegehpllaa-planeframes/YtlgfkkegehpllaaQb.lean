/- DERIVED. The document's Check, Same, Clip, At, Apart. -/
import Derived.Test.YtlgfkkegehpllaaQa
namespace Go.Proofs.Ytlgfkkegehpllaa
open Go.RowKit

/-- nothing but the count of draws has turned -/
def Dn (v w : World) : Prop := ∃ m, w = v.drewN m
theorem Dn.refl (v : World) : Dn v v := ⟨0, rfl⟩
theorem Dn.drewN {v w : World} (h : Dn v w) (n : Nat) : Dn v (w.drewN n) := by obtain ⟨m, rfl⟩ := h; exact ⟨m + n, drewN_drewN _ _ _⟩
theorem Dn.cell {v w : World} (h : Dn v w) (a : Addr) : w.cell? a = v.cell? a := by obtain ⟨m, rfl⟩ := h; rfl
theorem Dn.below {v w : World} (h : Dn v w) : Below v.heap.size v w := by obtain ⟨m, rfl⟩ := h; exact below_drewN (Below.refl _ _) m

set_option maxHeartbeats 1000000 in
theorem rcheck_any {w : World} {a : Option Addr} {c : Nat} {C : List Nat} {W H : Int} :
    Calls Try.prog 11 #[.agg #[.int .i64 W, .int .i64 H, .slice a C.length c]] w fun e w' => e = .returned (.int .i64 (ck W H C)) ∧ Below w.heap.size w w' := by
  by_cases h0 : W < 1
  · rw [ck_no (fun k => by have := k.w0; omega)]
    go_enter Try.func11, Try.ntmps11
    go_wp2
    go_ret
    exact ⟨rfl, from_alloc _ _⟩
  by_cases h1 : 512 < W
  · rw [ck_no (fun k => by have := k.w1; omega)]
    go_enter Try.func11, Try.ntmps11
    go_wp2
    go_ret
    exact ⟨rfl, from_alloc _ _⟩
  by_cases h2 : H < 1
  · rw [ck_no (fun k => by have := k.h0; omega)]
    go_enter Try.func11, Try.ntmps11
    go_wp2
    go_ret
    exact ⟨rfl, from_alloc _ _⟩
  by_cases h3 : 512 < H
  · rw [ck_no (fun k => by have := k.h1; omega)]
    go_enter Try.func11, Try.ntmps11
    go_wp2
    go_ret
    exact ⟨rfl, from_alloc _ _⟩
  have i0 : 1 ≤ W := by omega
  have i1 : W ≤ 512 := by omega
  have i2 : 1 ≤ H := by omega
  have i3 : H ≤ 512 := by omega
  have p0 : 0 ≤ W * H := Int.mul_nonneg (by omega) (by omega)
  have p1 : W * H ≤ 512 * 512 := Int.mul_le_mul i1 i3 (by omega) (by omega)
  have p2 : W * H ≤ 262144 := p1
  clear h0 h1 h2 h3 p1
  by_cases h4 : (C.length : Int) = W * H
  · rw [ck_ok ⟨i0, i1, i2, i3, h4⟩]
    have h4' : ((C.length : Int) != W * H) = false := by simp [h4]
    have H4 : Hid _ := h4
    clear h4
    go_enter Try.func11, Try.ntmps11
    go_wp2
    go_ret
    exact ⟨rfl, from_alloc _ _⟩
  · rw [ck_no (fun k => h4 k.len)]
    have h4' : ((C.length : Int) != W * H) = true := by simp [h4]
    go_enter Try.func11, Try.ntmps11
    go_wp2
    go_ret
    exact ⟨rfl, from_alloc _ _⟩


set_option maxHeartbeats 1000000 in
theorem rsame_any {w : World} {a b : Option Addr} {c d : Nat} {C D : List Nat} {W H W' H' : Int} (h1 : Sl w .u8 a C) (h2 : Sl w .u8 b D) (hC : C.length ≤ 140737488355328) (hD : D.length ≤ 140737488355328) :
    Calls Try.prog 13 #[.agg #[.int .i64 W, .int .i64 H, .slice a C.length c], .agg #[.int .i64 W', .int .i64 H', .slice b D.length d]] w fun e w' => e = .returned (.bool (smB W H C W' H' D)) ∧ Below w.heap.size w w' := by
  have HB : Hid (Below w.heap.size w ((w.alloc (.cells #[.int .i64 W, .int .i64 H, .slice a C.length c] 24)).alloc (.cells #[.int .i64 W', .int .i64 H', .slice b D.length d] 24))) := to_alloc (from_alloc _ _) _
  have E : Hid (Calls Try.prog 25 #[.slice a C.length c, .slice b D.length d] ((w.alloc (.cells #[.int .i64 W, .int .i64 H, .slice a C.length c] 24)).alloc (.cells #[.int .i64 W', .int .i64 H', .slice b D.length d] 24)) fun e w' => e = .returned (.bool (eqB C D)) ∧ Below ((w.alloc (.cells #[.int .i64 W, .int .i64 H, .slice a C.length c] 24)).alloc (.cells #[.int .i64 W', .int .i64 H', .slice b D.length d] 24)).heap.size ((w.alloc (.cells #[.int .i64 W, .int .i64 H, .slice a C.length c] 24)).alloc (.cells #[.int .i64 W', .int .i64 H', .slice b D.length d] 24)) w') := eqBytes_any (h1.to HB.out) (h2.to HB.out) hC hD
  clear h1 h2 hC hD
  by_cases hW : W = W'
  · by_cases hH : H = H'
    · subst hW hH
      rw [smB_eq]
      go_enter Try.func13, Try.ntmps13
      go_wp2_with fail
      refine E.out.mono ?_
      rintro e w1 ⟨rfl, hb⟩
      have HB1 : Hid (Below w.heap.size w w1) := below_to HB.out hb
      clear hb
      go_wp2_with fail
      go_ret
      exact ⟨rfl, HB1.out⟩
    · subst hW
      rw [smB_no (fun k => hH k.2.1)]
      have hH' : (H == H') = false := by simp [hH]
      clear hH
      go_enter Try.func13, Try.ntmps13
      go_wp2_with fail
      go_ret
      exact ⟨rfl, HB.out⟩
  · rw [smB_no (fun k => hW k.1)]
    have hW' : (W == W') = false := by simp [hW]
    clear hW
    go_enter Try.func13, Try.ntmps13
    go_wp2_with fail
    go_ret
    exact ⟨rfl, HB.out⟩


set_option maxHeartbeats 1000000 in
theorem clip_any {w : World} {i : Int} {n m : Nat} (_h0 : 1 ≤ n) (hm : m = n - 1) :
    Calls Try.prog 47 #[.int .i64 i, .int .i64 0, .int .i64 (m : Int)] w fun e w' => e = .returned (.int .i64 (nr i n : Nat)) ∧ w' = w := by
  have i0 : (0 : Int) ≤ (m : Int) := by omega
  by_cases h1 : i < 0
  · rw [show nr i n = 0 from by unfold nr; rw [if_pos h1]]
    go_enter Try.func47, Try.ntmps47
    go_wp2
    go_ret
    exact ⟨rfl, rfl⟩
  · by_cases h2 : (m : Int) < i
    · rw [show nr i n = m from by unfold nr; rw [if_neg h1]; omega]
      go_enter Try.func47, Try.ntmps47
      go_wp2
      go_ret
      exact ⟨rfl, rfl⟩
    · have e : ((nr i n : Nat) : Int) = i := by unfold nr; rw [if_neg h1]; omega
      rw [e]
      go_enter Try.func47, Try.ntmps47
      go_wp2
      go_ret
      exact ⟨rfl, rfl⟩

set_option maxRecDepth 100000 in
set_option maxHeartbeats 1000000 in
theorem rat_ok {w : World} {a : Option Addr} {c : Nat} {C : List Nat} {x y : Nat} {i j : Int} (hs : Sl w .u8 a C) (hx0 : 1 ≤ x) (hx1 : x ≤ 512) (hy0 : 1 ≤ y) (hy1 : y ≤ 512) (hl : C.length = x * y) :
    Calls Try.prog 15 #[.agg #[.int .i64 (x : Int), .int .i64 (y : Int), .slice a C.length c], .int .i64 i, .int .i64 j] w fun e w' => e = .returned (.int .u8 (C.getD (nr j y * x + nr i x) 0 : Nat)) ∧ Below w.heap.size w w' := by
  have hck : ck (x : Int) (y : Int) C = 0 := ck_ok (POk.of hx0 hx1 hy0 hy1 hl)
  obtain ⟨xm, hxm⟩ : ∃ m, m = x - 1 := ⟨_, rfl⟩
  obtain ⟨ym, hym⟩ : ∃ m, m = y - 1 := ⟨_, rfl⟩
  have hwx : IntKind.i64.wrap ((x : Int) - 1) = (xm : Int) := by rw [IntKind.wrap_i64]; omega
  have hwy : IntKind.i64.wrap ((y : Int) - 1) = (ym : Int) := by rw [IntKind.wrap_i64]; omega
  have hnx := nr_lt (i := i) hx0
  have hny := nr_lt (i := j) hy0
  have hin : nr j y * x + nr i x < x * y := at_lt hny hnx
  have hp := prod_le hx1 hy1
  obtain ⟨b, o, rfl, hbl, hcell⟩ := hs.form (by omega)
  have hce := hcell (nr j y * x + nr i x) (by omega)
  have NI : Hid (∀ u : World, Calls Try.prog 47 #[.int .i64 i, .int .i64 0, .int .i64 (xm : Int)] u fun e w' => e = .returned (.int .i64 (nr i x : Nat)) ∧ w' = u) := fun u => clip_any hx0 hxm
  have NJ : Hid (∀ u : World, Calls Try.prog 47 #[.int .i64 j, .int .i64 0, .int .i64 (ym : Int)] u fun e w' => e = .returned (.int .i64 (nr j y : Nat)) ∧ w' = u) := fun u => clip_any hy0 hym
  generalize hi' : nr i x = q2 at *
  generalize hj' : nr j y = q1 at *
  clear hi' hj'
  generalize hz : q1 * x = z at *
  have hw1 : IntKind.i64.wrap ((q1 : Int) * (x : Int)) = (z : Int) := by rw [← Int.natCast_mul, hz, IntKind.wrap_i64]; omega
  generalize ht : z + q2 = t at *
  have hw2 : IntKind.i64.wrap ((z : Int) + (q2 : Int)) = (t : Int) := by rw [← Int.natCast_add, ht, IntKind.wrap_i64]; omega
  have b0 : (0 : Int) ≤ (t : Int) := by omega
  have b1 : (t : Int) < (C.length : Int) := by omega
  generalize C.getD t 0 = val at *
  have HCE : Hid _ := hce
  have HBL : Hid _ := hbl
  clear hz ht hs hcell hnx hny hin hp hce hbl hl hxm hym
  go_enter Try.func15, Try.ntmps15
  go_wp2_with fail
  refine rcheck_any.mono ?_
  rintro e w1 ⟨rfl, hb⟩
  rw [hck]
  have d0 : w1.cell? ⟨w.heap.size, 0, none⟩ = some (.int .i64 (x : Int)) := by rw [newCell hb _ _ (by simp)]; simp
  have d1 : w1.cell? ⟨w.heap.size, 1, none⟩ = some (.int .i64 (y : Int)) := by rw [newCell hb _ _ (by simp)]; simp
  have d2 : w1.cell? ⟨w.heap.size, 2, none⟩ = some (.slice (some ⟨b, o, none⟩) C.length c) := by rw [newCell hb _ _ (by simp)]; simp
  have d3 : w1.cell? ⟨b, o + t, none⟩ = some (.int .u8 (val : Nat)) := by
    have hbl := HBL.out
    rw [newCell hb _ _ (by simp; omega), newCell (from_alloc _ _) _ _ hbl]; exact HCE.out
  have HB : Hid _ := below_to (from_alloc w _) hb
  clear hb hck
  go_wp2_with fail
  go_quiet ((first | (go_at_call 47; with_reducible exact Calls.quiet_of_same (NI.out _)) | (go_at_call 47; with_reducible exact Calls.quiet_of_same (NJ.out _))))
  go_wp2
  go_ret
  exact ⟨rfl, below_drewN HB.out _⟩


theorem rat_no {w : World} {a : Option Addr} {c : Nat} {C : List Nat} {W H i j : Int} (hn : ¬ POk W H C) :
    Calls Try.prog 15 #[.agg #[.int .i64 W, .int .i64 H, .slice a C.length c], .int .i64 i, .int .i64 j] w fun e w' => e = .returned (.int .u8 0) ∧ Below w.heap.size w w' := by
  have hck : ck W H C = 2 := ck_no hn
  go_enter Try.func15, Try.ntmps15
  go_wp2_with fail
  refine rcheck_any.mono ?_
  rintro e w1 ⟨rfl, hb⟩
  rw [hck]
  have HB : Hid _ := below_to (from_alloc w _) hb
  clear hb hck
  go_wp2_with fail
  go_ret
  exact ⟨rfl, HB.out⟩


set_option maxRecDepth 100000 in
set_option maxHeartbeats 2000000 in
theorem rapart_ok {u : World} {a b : Option Addr} {c d : Nat} {C D : List Nat} {W H : Int} (hs : Sl u .u8 a C) (hs2 : Sl u .u8 b D) (hp : POk W H C) (hp2 : POk W H D) (hC : Byt C) (hD : Byt D) :
    Calls Try.prog 17 #[.agg #[.int .i64 W, .int .i64 H, .slice a C.length c], .agg #[.int .i64 W, .int .i64 H, .slice b D.length d]] u fun e w' => e = .returned (.tuple #[.int .u64 (apS C D C.length : Nat), .int .i64 0]) ∧ Below u.heap.size u w' := by
  obtain ⟨x, y, rfl, rfl, hx0, hx1, hy0, hy1, hl⟩ := hp.nat
  have hcd : C.length = D.length := by have h1 := hp.len; have h2 := hp2.len; omega
  have hck : ck (x : Int) (y : Int) C = 0 := ck_ok hp
  have hck2 : ck (x : Int) (y : Int) D = 0 := ck_ok hp2
  have hpr := prod_le hx1 hy1
  have h0 : 0 < C.length := by rw [hl]; exact Nat.mul_pos hx0 hy0
  have hn : (C.length : Int) ≤ 262144 := by omega
  obtain ⟨b1, o1, rfl, hbl, hc1⟩ := hs.form h0
  obtain ⟨b2, o2, rfl, hbl2, hc2⟩ := hs2.form (by omega)
  have Q1 : Hid (∀ j, j < C.length → u.cell? ⟨b1, o1 + j, none⟩ = some (.int .u8 (C.getD j 0 : Nat))) := hc1
  have Q2 : Hid (∀ j, j < C.length → u.cell? ⟨b2, o2 + j, none⟩ = some (.int .u8 (D.getD j 0 : Nat))) := fun j hj => hc2 j (by omega)
  have HC : Hid (Byt C) := hC
  have HD : Hid (Byt D) := hD
  have HN : Hid (C.length = D.length) := hcd
  have n1 : ((x : Int) != (x : Int)) = false := by simp
  have n2 : ((y : Int) != (y : Int)) = false := by simp
  clear hs hs2 hp hp2 hl hcd hpr h0 hc1 hc2 hC hD
  go_enter Try.func17, Try.ntmps17
  go_wp2_with fail
  refine rcheck_any.mono ?_
  rintro e w1 ⟨rfl, hb⟩
  rw [hck]
  have d0 : w1.cell? ⟨u.heap.size, 0, none⟩ = some (.int .i64 (x : Int)) := by rw [newCell hb _ _ (by simp; omega)]; simp
  have d1 : w1.cell? ⟨u.heap.size, 1, none⟩ = some (.int .i64 (y : Int)) := by rw [newCell hb _ _ (by simp; omega)]; simp
  have d2 : w1.cell? ⟨u.heap.size, 2, none⟩ = some (.slice (some ⟨b1, o1, none⟩) C.length c) := by rw [newCell hb _ _ (by simp; omega)]; simp
  have d3 : w1.cell? ⟨u.heap.size + 1, 0, none⟩ = some (.int .i64 (x : Int)) := by rw [newCell hb _ _ (by simp)]; simp
  have d4 : w1.cell? ⟨u.heap.size + 1, 1, none⟩ = some (.int .i64 (y : Int)) := by rw [newCell hb _ _ (by simp)]; simp
  have d5 : w1.cell? ⟨u.heap.size + 1, 2, none⟩ = some (.slice (some ⟨b2, o2, none⟩) D.length d) := by rw [newCell hb _ _ (by simp)]; simp
  have hz1 : u.heap.size + 2 ≤ w1.heap.size := by have := hb.size; simp at this; omega
  have HB : Hid (Below u.heap.size u w1) := below_to (to_alloc (from_alloc u _) _) hb
  clear hb hck
  go_wp2_with fail
  refine rcheck_any.mono ?_
  rintro e w2 ⟨rfl, hb⟩
  rw [hck2]
  have c0 : w2.cell? ⟨u.heap.size, 0, none⟩ = some (.int .i64 (x : Int)) := by rw [newCell hb _ _ (by omega)]; exact d0
  have c1 : w2.cell? ⟨u.heap.size, 1, none⟩ = some (.int .i64 (y : Int)) := by rw [newCell hb _ _ (by omega)]; exact d1
  have c2 : w2.cell? ⟨u.heap.size, 2, none⟩ = some (.slice (some ⟨b1, o1, none⟩) C.length c) := by rw [newCell hb _ _ (by omega)]; exact d2
  have c3 : w2.cell? ⟨u.heap.size + 1, 0, none⟩ = some (.int .i64 (x : Int)) := by rw [newCell hb _ _ (by omega)]; exact d3
  have c4 : w2.cell? ⟨u.heap.size + 1, 1, none⟩ = some (.int .i64 (y : Int)) := by rw [newCell hb _ _ (by omega)]; exact d4
  have c5 : w2.cell? ⟨u.heap.size + 1, 2, none⟩ = some (.slice (some ⟨b2, o2, none⟩) D.length d) := by rw [newCell hb _ _ (by omega)]; exact d5
  have HB2 : Hid (Below u.heap.size u w2) := below_to HB.out hb
  have R1 : Hid (∀ j, j < C.length → w2.cell? ⟨b1, o1 + j, none⟩ = some (.int .u8 (C.getD j 0 : Nat))) := fun j hj => by rw [newCell HB2.out _ _ hbl]; exact Q1.out j hj
  have R2 : Hid (∀ j, j < C.length → w2.cell? ⟨b2, o2 + j, none⟩ = some (.int .u8 (D.getD j 0 : Nat))) := fun j hj => by rw [newCell HB2.out _ _ hbl2]; exact Q2.out j hj
  clear hb d0 d1 d2 d3 d4 d5 HB hck2 hz1 Q1 Q2
  go_wp2_with fail
  go_loopw [6, 7] (fun s i wr => ∃ k : Nat, k ≤ C.length ∧ i = .int .i64 k ∧ s = .int .u64 (apS C D k : Nat) ∧ Dn w2 wr) (fun _ i _ => C.length - (intOf i).toNat)
  case atStart => exact ⟨0, Nat.zero_le _, rfl, rfl, Dn.refl _⟩
  case round =>
    obtain ⟨k, hk, rfl, rfl, hdn⟩ := hrel
    have HDn : Hid (Dn w2 wr) := hdn
    have a2 : wr.cell? ⟨u.heap.size, 2, none⟩ = some (.slice (some ⟨b1, o1, none⟩) C.length c) := by rw [hdn.cell]; exact c2
    have a5 : wr.cell? ⟨u.heap.size + 1, 2, none⟩ = some (.slice (some ⟨b2, o2, none⟩) D.length d) := by rw [hdn.cell]; exact c5
    clear c0 c1 c2 c3 c4 c5
    by_cases hlt : k < C.length
    · have r1 : wr.cell? ⟨b1, o1 + k, none⟩ = some (.int .u8 (C.getD k 0 : Nat)) := by rw [hdn.cell]; exact R1.out k hlt
      have r2 : wr.cell? ⟨b2, o2 + k, none⟩ = some (.int .u8 (D.getD k 0 : Nat)) := by rw [hdn.cell]; exact R2.out k hlt
      have b0 : 0 ≤ (k : Int) := by omega
      have b3 : (k : Int) < (C.length : Int) := by omega
      have b4 : (k : Int) < (D.length : Int) := by have := HN.out; omega
      have l1 := HC.out k
      have l2 := HD.out k
      have hle := apS_le HC.out HD.out k
      have HS : Hid (apS C D (k + 1) = apS C D k + sqd (C.getD k 0) (D.getD k 0)) := rfl
      generalize C.getD k 0 = p1 at *
      generalize D.getD k 0 = p2 at *
      have hq := sqd_le l1 l2
      have e1 := sqd_int p1 p2
      generalize sqd p1 p2 = q at *
      generalize apS C D k = s at *
      have p3 : (p1 : Int) ≤ 255 := by omega
      have p4 : (p2 : Int) ≤ 255 := by omega
      have p5 : (q : Int) ≤ 65025 := by omega
      have p6 : (s : Int) ≤ 17046053600 := by omega
      have p7 : IntKind.i64.wrap ((p1 : Int) - (p2 : Int)) = (p1 : Int) - (p2 : Int) := by rw [IntKind.wrap_i64]; omega
      have p8 : IntKind.i64.wrap (p1 : Int) = (p1 : Int) := by rw [IntKind.wrap_i64]; omega
      have p9 : IntKind.i64.wrap (p2 : Int) = (p2 : Int) := by rw [IntKind.wrap_i64]; omega
      clear hle l1 l2 hq hdn
      go_wp2_with fail
      go_quiet (fail)
      go_wp2_with fail
      go_roundw
      case rel => exact ⟨k + 1, by omega, by go_num, by rw [HS.out]; go_num, HDn.out.drewN _⟩
      case measure => simp [intOf]; omega
    · have hk' : k = C.length := by omega
      subst hk'
      go_wp2_with fail
      go_ret2
      exact ⟨rfl, below_to HB2.out HDn.out.below⟩

end Go.Proofs.Ytlgfkkegehpllaa
