/- DERIVED. What both Acs refuse; the walk of the document's Ac. -/
import Derived.Test.YtlcegnnhlfafgaaCc
namespace Go.Proofs.Ytlcegnnhlfafgaa
open Go.RowKit

/-- a block that Ac takes -/
def AOk (L : List Nat) (z1 z2 : Int) : Prop := ∃ x y : Nat, z1 = (x : Int) ∧ z2 = (y : Int) ∧ Sd x ∧ Sd y ∧ L.length = 4 * x * y

theorem not_four {L : List Nat} {x y : Nat} (hx : Sd x) (hy : Sd y) (h : ¬ AOk L (x : Int) (y : Int)) : ((L.length : Int) != 4 * ((x * y : Nat) : Int)) = true := by
  rw [bne_iff_ne]
  intro e
  exact h ⟨x, y, rfl, rfl, hx, hy, by rw [Nat.mul_assoc]; omega⟩

set_option maxRecDepth 100000 in
set_option maxHeartbeats 1000000 in
theorem ac_no {w : World} {a : Option Addr} {c : Nat} {L : List Nat} {z1 z2 : Int} (h : ¬ AOk L z1 z2) :
    Calls Try.prog 9 #[.slice a L.length c, .int .i64 z1, .int .i64 z2] w fun e w' => e = .returned (.tuple #[.slice none 0 0, .int .i64 2]) ∧ w = w' := by
  cases e1 : sdB z1 with
  | false =>
    clear h
    go_enter Try.func9, Try.ntmps9
    go_wp2_with (first | (go_at_call 22; refine isSide_any.mono ?_; rintro e w' ⟨rfl, rfl⟩; rw [e1]) | fail)
    go_returns
    exact ⟨rfl, rfl⟩
  | true =>
    cases e2 : sdB z2 with
    | false =>
      clear h
      go_enter Try.func9, Try.ntmps9
      go_wp2_with (first | (go_at_call 22; refine isSide_any.mono ?_; rintro e w' ⟨rfl, rfl⟩; first | rw [e1] | rw [e2]) | fail)
      go_returns
      exact ⟨rfl, rfl⟩
    | true =>
      obtain ⟨x, rfl, hx⟩ := sdB_true e1
      obtain ⟨y, rfl, hy⟩ := sdB_true e2
      have ne := not_four hx hy h
      obtain ⟨q, hq, eq, q0, q1⟩ := side_sq hx hy
      rw [← hq] at ne
      have e4 : 4 * (x : Int) * (y : Int) = 4 * (q : Int) := by rw [Int.mul_assoc, eq]
      have x0 : (4 : Int) ≤ (x : Int) := by have := hx.lo; omega
      have x1 : (x : Int) ≤ 32 := by have := hx.hi; omega
      have n1 : (q : Int) ≤ 1024 := by omega
      clear h hx hy hq
      go_enter Try.func9, Try.ntmps9
      go_wp2_with (first | (go_at_call 22; refine isSide_any.mono ?_; rintro e w' ⟨rfl, rfl⟩; first | rw [e1] | rw [e2]) | fail)
      go_returns
      exact ⟨rfl, rfl⟩

set_option maxRecDepth 100000 in
set_option maxHeartbeats 1000000 in
theorem rac_no {w : World} {a : Option Addr} {c : Nat} {L : List Nat} {z1 z2 : Int} (h : ¬ AOk L z1 z2) :
    Calls Try.prog 10 #[.slice a L.length c, .int .i64 z1, .int .i64 z2] w fun e w' => e = .returned (.tuple #[.slice none 0 0, .int .i64 2]) ∧ w = w' := by
  cases e1 : sdB z1 with
  | false =>
    clear h
    go_enter Try.func10, Try.ntmps10
    go_wp2_with (first | (go_at_call 25; refine side_any.mono ?_; rintro e w' ⟨rfl, rfl⟩; rw [e1]) | fail)
    go_returns
    exact ⟨rfl, rfl⟩
  | true =>
    cases e2 : sdB z2 with
    | false =>
      clear h
      go_enter Try.func10, Try.ntmps10
      go_wp2_with (first | (go_at_call 25; refine side_any.mono ?_; rintro e w' ⟨rfl, rfl⟩; first | rw [e1] | rw [e2]) | fail)
      go_returns
      exact ⟨rfl, rfl⟩
    | true =>
      obtain ⟨x, rfl, hx⟩ := sdB_true e1
      obtain ⟨y, rfl, hy⟩ := sdB_true e2
      have ne := not_four hx hy h
      obtain ⟨q, hq, eq, q0, q1⟩ := side_sq hx hy
      rw [← hq] at ne
      have e4 : 4 * (x : Int) * (y : Int) = 4 * (q : Int) := by rw [Int.mul_assoc, eq]
      have x0 : (4 : Int) ≤ (x : Int) := by have := hx.lo; omega
      have x1 : (x : Int) ≤ 32 := by have := hx.hi; omega
      have n1 : (q : Int) ≤ 1024 := by omega
      clear h hx hy hq
      go_enter Try.func10, Try.ntmps10
      go_wp2_with (first | (go_at_call 25; refine side_any.mono ?_; rintro e w' ⟨rfl, rfl⟩; first | rw [e1] | rw [e2]) | fail)
      go_returns
      exact ⟨rfl, rfl⟩

/-- the document's list and sum, behind k places -/
structure Rh (w : World) (f : Nat → Nat) (n k : Nat) (l s : Value) (wr : World) : Prop where
  list : Hv w f k l wr
  sum : s = .int .i64 ((n / 2 + sm f k : Nat) : Int)

set_option maxRecDepth 100000 in
set_option maxHeartbeats 2000000 in
theorem rac_ok {w : World} {a : Option Addr} {c x y n : Nat} {L : List Nat} (hs : Sl w .u8 a L) (hx : Sd x) (hy : Sd y) (hl : L.length = 4 * x * y) (hb : Byt L) (hn : n = x * y) :
    Calls Try.prog 10 #[.slice a L.length c, .int .i64 (x : Int), .int .i64 (y : Int)] w fun e w' => An w w' e (acF (lv L x) n) n := by
  obtain ⟨q, hq, eq, q0, q1⟩ := side_sq hx hy
  obtain rfl : n = q := by omega
  have hll : 0 < L.length := by rw [hl, Nat.mul_assoc, ← hn]; omega
  obtain ⟨b, o, rfl, hbl, hc⟩ := hs.form hll
  have HC : Hid (∀ t : World, Below w.heap.size w t → ∀ j, j < L.length → t.cell? ⟨b, o + j, none⟩ = some (.int .u8 (L.getD j 0 : Nat))) := fun t ht j hj => by rw [newCell ht _ _ hbl]; exact hc j hj
  have HPL : Hid (∀ i, i < n → pl x i + 2 * x + 1 < L.length) := fun i hi => by
    have := pl_lt (w := x) (h := y) (i := i) (by rw [← hn]; exact hi)
    show _ < _
    rw [hl]; exact this
  have HBy : Hid (Byt L) := hb
  have x0 : (4 : Int) ≤ (x : Int) := by have := hx.lo; omega
  have x1 : (x : Int) ≤ 32 := by have := hx.hi; omega
  have y1 : (y : Int) ≤ 32 := by have := hy.hi; omega
  have xz : (x : Int) ≠ 0 := by omega
  have e4 : 4 * (x : Int) * (y : Int) = 4 * (n : Int) := by rw [Int.mul_assoc, eq]
  have hll4 : (L.length : Int) = 4 * (n : Int) := by rw [hl, Nat.mul_assoc, ← hn]; omega
  have ne : ((L.length : Int) != 4 * (n : Int)) = false := by rw [hll4]; simp
  have l1 : (L.length : Int) ≤ 4096 := by omega
  have HLn : Hid (L.length ≤ 4096) := by show _ ≤ _; omega
  have sx := sdB_yes hx
  have sy := sdB_yes hy
  have HM : Hid (mn (lv L x) n ≤ 2040) := mn_le (by omega) (fun i _ => lv_le hb _ _)
  have HF : Hid (∀ i, lv L x i ≤ 2040) := fun i => lv_le hb _ _
  have HSm : Hid (∀ k, k ≤ n → sm (lv L x) k ≤ 2088960) := fun k hk => by
    have h2 := sm_le (f := lv L x) (n := k) (M := 2040) (fun i _ => lv_le hb _ _)
    have h3 : k * 2040 ≤ 1024 * 2040 := Nat.mul_le_mul_right _ (by omega)
    show _ ≤ _
    omega
  have n0 : (16 : Int) ≤ (n : Int) := by omega
  have n1 : (n : Int) ≤ 1024 := by omega
  have nz : (n : Int) ≠ 0 := by omega
  have HX4 : Hid (4 ≤ x ∧ x ≤ 32) := ⟨hx.lo, hx.hi⟩
  have HO : Hid (Rh w (lv L x) n 0 (.slice none 0 0) (.int .i64 ((n : Int) / 2)) w) := ⟨⟨none, 0, rfl, Oi.nil _ _, Below.refl _ _⟩, by rw [sm, Nat.add_zero, Int.natCast_ediv]; rfl⟩
  clear hs hx hy hl hb hn hq hbl hc hll hll4
  go_enter Try.func10, Try.ntmps10
  go_wp2_with (first | (go_at_call 25; refine side_any.mono ?_; rintro e w' ⟨rfl, rfl⟩; first | rw [sx] | rw [sy]) | fail)
  go_loopw [8, 9, 10] (fun l s i wr => ∃ k : Nat, k ≤ n ∧ i = .int .i64 k ∧ Rh w (lv L x) n k l s wr) (fun _ _ i _ => n - (intOf i).toNat)
  case atStart => exact ⟨0, by omega, rfl, HO.out⟩
  case round =>
    clear HO
    obtain ⟨k, hk, rfl, ho⟩ := hrel
    have k0 : (0 : Int) ≤ (k : Int) := by omega
    by_cases hlt : k < n
    · have k1 : (k : Int) < (n : Int) := by omega
      obtain ⟨⟨ad, cp, rfl, hoi, hbel⟩, rfl⟩ := ho
      have hp := HPL.out _ hlt
      obtain ⟨t, ht⟩ : ∃ t, t = pl x k := ⟨_, rfl⟩
      rw [← ht] at hp
      have htt := ht
      unfold pl at htt
      obtain ⟨d, hd⟩ : ∃ d, d = k / x := ⟨_, rfl⟩
      obtain ⟨r, hr⟩ : ∃ r, r = k % x := ⟨_, rfl⟩
      rw [← hd, ← hr] at htt
      have hdl : d ≤ 1024 := by rw [hd]; exact Nat.le_trans (Nat.div_le_self _ _) (by omega)
      have hrl : r < x := by rw [hr]; exact Nat.mod_lt _ (by have := HX4.out; omega)
      have wd0 : (k : Int) / (x : Int) = (d : Int) := by rw [hd, Int.natCast_ediv]
      have wd1 : (k : Int).tdiv (x : Int) = (d : Int) := by rw [Int.tdiv_eq_ediv_of_nonneg (by omega)]; exact wd0
      have wr0 : (k : Int) % (x : Int) = (r : Int) := by rw [hr, Int.natCast_emod]
      have wr1 : (k : Int).tmod (x : Int) = (r : Int) := by rw [Int.tmod_eq_emod_of_nonneg (by omega)]; exact wr0
      obtain ⟨d4, hd4⟩ : ∃ d4, d4 = d * 4 := ⟨_, rfl⟩
      obtain ⟨p, hpp⟩ : ∃ p, p = d4 * x := ⟨_, rfl⟩
      obtain ⟨r2, hr2⟩ : ∃ r2, r2 = r * 2 := ⟨_, rfl⟩
      rw [← hd4, ← hpp, ← hr2] at htt
      have wd2 : IntKind.i64.wrap (d : Int) = (d : Int) := by rw [IntKind.wrap_i64]; omega
      have wd3 : IntKind.i64.wrap ((d : Int) * 4) = (d4 : Int) := by rw [IntKind.wrap_i64]; omega
      have ep : (d4 : Int) * (x : Int) = (p : Int) := by rw [hpp]; simp
      have wd4 : IntKind.i64.wrap ((p : Nat) : Int) = (p : Int) := by rw [IntKind.wrap_i64]; have := HLn.out; omega
      have wr2 : IntKind.i64.wrap ((r : Int) * 2) = (r2 : Int) := by rw [IntKind.wrap_i64]; omega
      have wt : IntKind.i64.wrap ((p : Int) + (r2 : Int)) = (t : Int) := by rw [IntKind.wrap_i64]; have := HLn.out; omega
      obtain ⟨x2, hx2⟩ : ∃ x2, x2 = 2 * x := ⟨_, rfl⟩
      obtain ⟨t2, ht2⟩ : ∃ t2, t2 = t + x2 := ⟨_, rfl⟩
      obtain ⟨t3, ht3⟩ : ∃ t3, t3 = t + 1 := ⟨_, rfl⟩
      obtain ⟨t4, ht4⟩ : ∃ t4, t4 = t2 + 1 := ⟨_, rfl⟩
      have hLn := HLn.out
      have hX4 := HX4.out
      have w1 : IntKind.i64.wrap (2 * (x : Int)) = (x2 : Int) := by rw [IntKind.wrap_i64]; omega
      have w2 : IntKind.i64.wrap ((t : Int) + (x2 : Int)) = (t2 : Int) := by rw [IntKind.wrap_i64]; omega
      have w3 : IntKind.i64.wrap ((t : Int) + 1) = (t3 : Int) := by rw [IntKind.wrap_i64]; omega
      have w4 : IntKind.i64.wrap ((t2 : Int) + 1) = (t4 : Int) := by rw [IntKind.wrap_i64]; omega
      have HCr : Hid (∀ m, (wr.drewN m).cell? ⟨b, o + t, none⟩ = some (.int .u8 (L.getD t 0 : Nat)) ∧ (wr.drewN m).cell? ⟨b, o + t2, none⟩ = some (.int .u8 (L.getD t2 0 : Nat)) ∧ (wr.drewN m).cell? ⟨b, o + t3, none⟩ = some (.int .u8 (L.getD t3 0 : Nat)) ∧ (wr.drewN m).cell? ⟨b, o + t4, none⟩ = some (.int .u8 (L.getD t4 0 : Nat))) := fun m => ⟨HC.out _ (below_drewN hbel m) _ (by omega), HC.out _ (below_drewN hbel m) _ (by omega), HC.out _ (below_drewN hbel m) _ (by omega), HC.out _ (below_drewN hbel m) _ (by omega)⟩
      have t0 : (0 : Int) ≤ (t : Int) := by omega
      have t1 : (t : Int) < (L.length : Int) := by omega
      have t20 : (0 : Int) ≤ (t2 : Int) := by omega
      have t21 : (t2 : Int) < (L.length : Int) := by omega
      have t30 : (0 : Int) ≤ (t3 : Int) := by omega
      have t31 : (t3 : Int) < (L.length : Int) := by omega
      have t40 : (0 : Int) ≤ (t4 : Int) := by omega
      have t41 : (t4 : Int) < (L.length : Int) := by omega
      have b1 := HBy.out t
      have b2 := HBy.out t2
      have b3 := HBy.out t3
      have b4 := HBy.out t4
      have HE : Hid (2 * (L.getD t 0 + L.getD t3 0 + L.getD t2 0 + L.getD t4 0) = lv L x k) := by show _ = _; unfold lv; rw [← ht, ht4, ht2, ht3, hx2]
      generalize L.getD t 0 = v1 at *
      generalize L.getD t2 0 = v2 at *
      generalize L.getD t3 0 = v3 at *
      generalize L.getD t4 0 = v4 at *
      have HV : Hid (wrap64 (2 * wrap64 (wrap64 (wrap64 (wrap64 (v1 : Int) + wrap64 (v3 : Int)) + wrap64 (v2 : Int)) + wrap64 (v4 : Int))) = ((lv L x k : Nat) : Int)) := by
        have := HE.out
        show _ = _
        rw [w64 (v1 : Int) (by omega), w64 (v2 : Int) (by omega), w64 (v3 : Int) (by omega), w64 (v4 : Int) (by omega), w64 ((v1 : Int) + v3) (by omega), w64 ((v1 : Int) + v3 + v2) (by omega), w64 ((v1 : Int) + v3 + v2 + v4) (by omega), w64 _ (by omega)]
        omega
      have sB := HSm.out k hk
      have sB1 := HSm.out (k + 1) hlt
      have fB := HF.out k
      have HS1 : Hid (((n / 2 + sm (lv L x) k : Nat) : Int) + ((lv L x k : Nat) : Int) = ((n / 2 + sm (lv L x) (k + 1) : Nat) : Int)) := by show _ = _; rw [sm]; omega
      generalize hsum : n / 2 + sm (lv L x) k = S at *
      have sS : (S : Int) ≤ 2100000 := by omega
      have HOi : Hid (Oi wr w.heap.size ad k cp (nm (lv L x) k)) := hoi
      have HB : Hid (Below w.heap.size w wr) := hbel
      have HBs : Hid (w.heap.size ≤ wr.heap.size) := hbel.size
      have HfB : Hid (lv L x k ≤ 2040) := fB
      clear HE hp htt hd hr hdl hrl hd4 hpp hr2 hx2 ht ht2 ht3 ht4 hoi hbel b1 b2 b3 b4 hLn hX4 sB sB1 fB hsum
      go_wp2_with fail
      go_quiet (fail)
      obtain ⟨c1, c2, c3, c4⟩ := HCr.out nq
      generalize hW : wr.drewN nq = v at *
      have HW : Hid (wr.drewN nq = v) := hW
      clear hW
      go_wp2_with fail
      go_quiet (fail)
      rw [HV.out]
      clear HV c1 c2 c3 c4
      have HNs : Hid (nm (lv L x) k ++ [((lv L x k : Nat) : Int)] = nm (lv L x) (k + 1)) := nm_step _ _
      have fB := HfB.out
      clear HfB
      generalize lv L x k = vv at *
      have vB : (vv : Int) ≤ 2040 := by omega
      have HOv : Hid (Oi (v.drewN nq) w.heap.size ad k cp (nm (lv L x) k)) := by rw [← HW.out]; exact (HOi.out.drewN _).drewN _
      have HBv : Hid (Below w.heap.size w (v.drewN nq)) := by rw [← HW.out]; exact below_drewN (below_drewN HB.out _) _
      have HBsv : Hid (w.heap.size ≤ (v.drewN nq).heap.size) := HBv.out.size
      generalize hW2 : v.drewN nq = v2' at *
      clear hW2 HW HOi HB HBs
      go_wp2_with (at_builtin; refine wpList_append_int _ (by rfl) _ _ (by rfl) w.heap.size k cp (nm (lv L x) k) ad _ HOv.out HBsv.out (by omega) (by rfl) (by rfl) ?_; intro g cap w5 how hb5 _)
      go_roundw
      case rel =>
        rw [HNs.out] at how
        exact ⟨k + 1, by omega, by go_num, ⟨_, cap, rfl, how, HBv.out.trans hb5⟩, by rw [HS1.out]⟩
      case measure => simp [intOf]; omega
    · obtain rfl : k = n := by omega
      obtain ⟨⟨ad, cp, rfl, hoi, hbel⟩, rfl⟩ := ho
      obtain ⟨g, rfl⟩ := own_some hoi (by omega)
      have sB := HSm.out k (Nat.le_refl _)
      have HMn : Hid (((k / 2 + sm (lv L x) k : Nat) : Int) / (k : Int) = ((mn (lv L x) k : Nat) : Int)) := by show _ = _; unfold mn; rw [Nat.add_comm, Int.natCast_ediv]
      have HLs : Hid (Ls w (lv L x) k g cp 0 wr) := ⟨by rw [lsF_zero]; exact hoi, hbel⟩
      clear hoi hbel
      have m1 : ((mn (lv L x) k : Nat) : Int) ≤ 2040 := by have := HM.out; omega
      generalize hsum : k / 2 + sm (lv L x) k = S at *
      have sS : (S : Int) ≤ 2100000 := by omega
      have s0 : (0 : Int) ≤ (S : Int) := by omega
      have hdiv := HMn.out
      generalize hm : mn (lv L x) k = m at *
      have HMM : Hid (mn (lv L x) k = m) := hm
      clear hm hsum sB
      go_wp2_with fail
      go_loopw [14] (fun i wr => ∃ j : Nat, j ≤ k ∧ i = .int .i64 j ∧ Ls w (lv L x) k g cp j wr) (fun i _ => k - (intOf i).toNat)
      case atStart => exact ⟨0, by omega, rfl, HLs.out⟩
      case round =>
        clear HLs
        obtain ⟨j, hj, rfl, hls⟩ := hrel
        have j0 : (0 : Int) ≤ (j : Int) := by omega
        by_cases hltj : j < k
        · have j1 : (j : Int) < (k : Int) := by omega
          have c0 := hls.own.cellAt j hltj
          rw [lsF_get _ _ _ _ _ hltj, if_neg (by omega)] at c0
          have f0 := hls.own.ri j
          have v1 := HF.out j
          have HNx : Hid (Ls w (lv L x) k g cp (j + 1) (wr.setCell ⟨g, j, none⟩ (.int .i64 ((lv L x j : Int) - (m : Int))))) := by rw [← HMM.out]; exact hls.set hltj
          clear hls
          generalize lv L x j = v at *
          have v2 : (v : Int) ≤ 2040 := by omega
          go_wp2_with fail
          go_roundw
          case rel => exact ⟨j + 1, by omega, by go_num, HNx.out⟩
          case measure => simp [intOf]; omega
        · obtain rfl : j = k := by omega
          have HR : Hid (An w wr (.returned (.tuple #[.slice (some ⟨g, 0, none⟩) j cp, .int .i64 0])) (acF (lv L x) j) j) := ⟨g, cp, rfl, by rw [← lsF_all]; exact hls.own, hls.bel⟩
          clear hls
          go_wp2_with fail
          go_returns
          exact HR.out

end Go.Proofs.Ytlcegnnhlfafgaa
