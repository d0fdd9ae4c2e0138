/- DERIVED. The walk of CoefsAny. -/
import Derived.Test.YtkmnpechhdendaaDoorYq
import Derived.Deep.Light
import Derived.Deep.Cut
import Derived.Deep.CutBlock
namespace Go.Proofs.YtkmnpechhdendaaDoor
open Go.RowKit L3

theorem run_mono {α : Type} (p : Prg α) : ∀ s, s.n ≤ (p.run s).2.n := by
  induction p with
  | ret a => intro s; exact Nat.le_refl _
  | stop => intro s; exact Nat.le_refl _
  | sym kk cx z k ih => intro s; have := ih (syA s kk cx z) (syN s kk cx (syA s kk cx z)); rw [(syN_W s kk cx _).2.2.2.1] at this; exact Nat.le_trans (by omega) this
  | bits n z k ih => intro s; have := ih (biA s n z) (biN s n (biA s n z)); rw [(biN_W s n _).2.2.2.1] at this; exact Nat.le_trans (by omega) this
theorem cr_pos (z : Int) (n col sg : Nat) (s : Cs) : s.n + 1 ≤ ((cr z n col sg).run s).2.n := by
  unfold cr codP endP
  have h := run_mono ((if syA s 22 (2 * col + if 8 < z then 1 else 0) (bt (endN n (List.replicate (n * n) 0) (n * n) = 0)) = 1 then Prg.ret 0 else
    .sym (endK z) col (cls ((max (endN n (List.replicate (n * n) 0) (n * n)) 1 : Nat) : Int)) fun c => .bits (c - 1) (L10.clE ((max (endN n (List.replicate (n * n) 0) (n * n)) 1 : Nat) : Int) (cls ((max (endN n (List.replicate (n * n) 0) (n * n)) 1 : Nat) : Int))) fun u => .ret (clLo c + u)).bind fun e' => (ampL n col (List.replicate (n * n) 0) e' e' (List.replicate (n * n) 0)).bind fun K => sgnL n col sg (List.replicate (n * n) 0) e' 0 K) (syN s 22 (2 * col + if 8 < z then 1 else 0) (syA s 22 (2 * col + if 8 < z then 1 else 0) (bt (endN n (List.replicate (n * n) 0) (n * n) = 0))))
  rw [(syN_W s 22 _ _).2.2.2.1] at h
  exact h
theorem newLt {B : Nat} {u u' : World} (h : Below B u u') (i : Nat) (hi : i < u.heap.size) : i < u'.heap.size := Nat.lt_of_lt_of_le hi h.size
theorem newNe {B : Nat} {u u' : World} (h : Below B u u') (i : Nat) (hi : i < u.heap.size) : ¬ i = u'.heap.size := Nat.ne_of_lt (newLt h i hi)
theorem Xd.set {w u : World} {X : Nat} {z : Int} {pl sg g q : Nat} {L : List Int} {v0 v1 v2 v3 : Value} (h0 : u.cell? ⟨X, 0, none⟩ = some v0) (h1 : u.cell? ⟨X, 1, none⟩ = some v1) (h2 : u.cell? ⟨X, 2, none⟩ = some v2) (h3 : u.cell? ⟨X, 3, none⟩ = some v3) (hl : X < u.heap.size) (hX : w.heap.size ≤ X) (hr : L10.Ri 3 u g L) (hne : g ≠ X) (hg : w.heap.size ≤ g) (hb : Below w.heap.size w u) :
    Xd w ((((u.setCell ⟨X, 0, none⟩ (.int .i64 z)).setCell ⟨X, 1, none⟩ (.int .i64 (pl : Int))).setCell ⟨X, 2, none⟩ (.int .i64 (sg : Int))).setCell ⟨X, 3, none⟩ (.slice (some ⟨g, 0, none⟩) q q)) X z pl sg g q L := by
  refine ⟨?_, ?_, ?_, ?_, by simpa using hl, (((hr.far hne _).far hne _).far hne _).far hne _, hg, hX, L10.below_set (L10.below_set (L10.below_set (L10.below_set hb hX _) hX _) hX _) hX _⟩
  · simp [go_sem, h0]
  · simp [go_sem, h1]
  · simp [go_sem, h2]
  · simp [go_sem, h3]

theorem xd_a {w u : World} {z : Int} {pl sg g q : Nat} {L : List Int} (hr : L10.Ri 3 u g L) (hg : w.drew.heap.size ≤ g) (hb : Below w.heap.size w u) : Xd w (u.alloc (.cells #[.int .i64 z, .int .i64 (pl : Int), .int .i64 (sg : Int), .slice (some ⟨g, 0, none⟩) q q] 34)) u.heap.size z pl sg g q L := Xd.new hr hg hb
theorem xd_b {w u : World} {z : Int} {pl sg g q : Nat} {L : List Int} (hr : L10.Ri 3 u g L) (hg : (w.alloc (.cells #[.int .i64 0, .int .i64 0, .int .i64 0, .slice none 0 0] 34)).drew.heap.size ≤ g) (hb : Below w.heap.size w u) (hc : Below (w.alloc (.cells #[.int .i64 0, .int .i64 0, .int .i64 0, .slice none 0 0] 34)).drew.heap.size (w.alloc (.cells #[.int .i64 0, .int .i64 0, .int .i64 0, .slice none 0 0] 34)).drew u) :
    Xd w ((((u.setCell ⟨w.heap.size, 0, none⟩ (.int .i64 z)).setCell ⟨w.heap.size, 1, none⟩ (.int .i64 (pl : Int))).setCell ⟨w.heap.size, 2, none⟩ (.int .i64 (sg : Int))).setCell ⟨w.heap.size, 3, none⟩ (.slice (some ⟨g, 0, none⟩) q q)) w.heap.size z pl sg g q L := by
  have hs : (w.alloc (.cells #[.int .i64 0, .int .i64 0, .int .i64 0, .slice none 0 0] 34)).drew.heap.size = w.heap.size + 1 := by show (w.alloc _).heap.size = _; simp
  have hlt : w.heap.size < (w.alloc (.cells #[.int .i64 0, .int .i64 0, .int .i64 0, .slice none 0 0] 34)).drew.heap.size := by omega
  have cc : ∀ j, (w.alloc (.cells #[.int .i64 0, .int .i64 0, .int .i64 0, .slice none 0 0] 34)).drew.cell? ⟨w.heap.size, j, none⟩ = (w.alloc (.cells #[.int .i64 0, .int .i64 0, .int .i64 0, .slice none 0 0] 34)).cell? ⟨w.heap.size, j, none⟩ := fun _ => rfl
  refine Xd.set (v0 := .int .i64 0) (v1 := .int .i64 0) (v2 := .int .i64 0) (v3 := .slice none 0 0) ?_ ?_ ?_ ?_ (Nat.lt_of_lt_of_le hlt hc.size) (Nat.le_refl _) hr (by omega) (by omega) hb
  · rw [L10.newCell hc _ _ hlt, cc]; simp [go_sem]
  · rw [L10.newCell hc _ _ hlt, cc]; simp [go_sem]
  · rw [L10.newCell hc _ _ hlt, cc]; simp [go_sem]
  · rw [L10.newCell hc _ _ hlt, cc]; simp [go_sem]

/-- what the loop of CoefsAny keeps -/
structure AnI (W : World) (lo x : Nat) (N : Nat) (iv : Value) (wr : World) : Prop where
  ex : ∃ (i : Nat) (O : Nat → Prop) (s : Cs), i ≤ N ∧ i ≤ 8 ∧ iv = .int .i64 i ∧ Cd wr lo x O s ∧ s.W = false ∧ s.n ≤ 50000 * i ∧ Below W.heap.size W wr

set_option maxRecDepth 100000 in
set_option maxHeartbeats 4000000 in
theorem any_walk (hcl : CodeLaw) {W : World} (hsh : Sh W) (hnt : L10.Nt W) {vb : Value} {zs : List Nat} (hsrc : L2.SrcOf W vb zs) (hz : ∀ i, zs.getD i 0 < 256) (hzl : zs.length ≤ 140737488351232) {a1 : Option Addr} {cap1 : Nat} {L : List Dd} (hd : DoAt W a1 L) : Calls Tryd.prog 4 #[vb, .slice a1 L.length cap1] W fun e w' => e = .returned (.bool true) ∧ Below W.heap.size W w' := by
  have HCL : Hid CodeLaw := hcl
  have HSh : Hid (∀ u, Below W.heap.size W u → Sh u ∧ L10.Nt u) := fun u hu => ⟨hsh.to hu, hnt.to hu⟩
  have HW2 : Hid (1 < W.heap.size) := hnt.low
  have HAw : Hid (Calls Tryd.prog 6 #[] W fun e w' => e = .returned (.bool true) ∧ Below W.heap.size W w') := awake_ok hcl hsh hnt
  have HSr : Hid (∀ u, Below W.heap.size W u → L2.SrcOf u vb zs) := fun u hu => src_to hsrc hu
  have HZ : Hid ((∀ i, zs.getD i 0 < 256) ∧ zs.length ≤ 140737488355328) := ⟨hz, by omega⟩
  have HD : Hid (DoAt W a1 L) := hd
  clear hcl hsh hnt hsrc hz hzl hd
  go_enter Tryd.func4, Tryd.ntmps4
  go_wp2_with fail
  refine HAw.out.mono ?_
  rintro e w1 ⟨rfl, hb1⟩
  have HB1 : Hid (Below W.heap.size W w1) := hb1
  clear hb1 HAw
  go_wp2_with fail
  refine (default_hs (HSh.out _ HB1.out).1).mono ?_
  rintro e w2 ⟨bt2, B2, rfl, hs2, hb2⟩
  have HB2 : Hid (Below W.heap.size W w2) := L10.below_to HB1.out hb2
  have HRd : Hid (Calls Tryd.prog 13 #[vb, .agg #[.slice (some ⟨bt2, 0, none⟩) 32 32], .bool true] w2 fun e w' => ∃ x O, e = .returned (.tuple #[.pointer (some ⟨x, 0, none⟩), .int .i64 0]) ∧ Cd w' w2.heap.size x O (rS true zs) ∧ (∀ y, O y → y = 0 ∨ w2.heap.size ≤ y) ∧ Below w2.heap.size w2 w') := reader_cd (HSh.out _ HB2.out).1 hs2 (HSr.out _ HB2.out) HZ.out.1 HZ.out.2
  clear hs2 hb2
  go_wp2_with fail
  refine HRd.out.mono ?_
  rintro e w3 ⟨x, O3, rfl, hc3, ho3, hb3⟩
  have HLo : Hid (W.heap.size ≤ w2.heap.size) := HB2.out.size
  have HS : Hid (AnI W w2.heap.size x L.length (.int .i64 0) w3) := ⟨0, O3, rS true zs, by omega, by omega, rfl, hc3, rfl, by show (0 : Nat) ≤ _; omega, L10.below_to HB2.out hb3⟩
  generalize w2.heap.size = lo at *
  clear hc3 ho3 hb3 HRd HB2 HB1
  go_wp2_with fail
  go_loopw [7] (fun iv wr => AnI W lo x L.length iv wr) (fun iv _ => 8 - (intOf iv).toNat)
  case atStart => exact HS.out
  case round =>
    clear HS
    obtain ⟨i, O, s, hi, hi8, rfl, hc, hW, hn, hb⟩ := hrel
    have i0 : (0 : Int) ≤ (i : Int) := by omega
    by_cases hlt : i < L.length ∧ i < 8
    · have l1 : (i : Int) < (L.length : Int) := by omega
      have l2 : (i : Int) < 8 := by omega
      obtain ⟨b, o, rfl, hbl, hcell⟩ : ∃ b o, a1 = some ⟨b, o, none⟩ ∧ b < W.heap.size ∧ ∀ j, j < L.length → DdAt W ⟨b, o, none⟩ j (L.getD j dd0) := by
        rcases HD.out with e | h
        · rw [e] at hlt; simp at hlt
        · exact h
      obtain ⟨d0, d1, d2, -, -, -⟩ := hcell i hlt.1
      rw [addr_add] at d0 d1 d2
      rw [← Nat.add_assoc] at d1 d2
      generalize L.getD i dd0 = q0 at *
      obtain ⟨qa, qb, qc, qd, qe, qf⟩ := q0
      simp only at d0 d1 d2
      obtain ⟨k, n, z, h1, hk, h2, hz, h3⟩ := size_of qa
      obtain ⟨pl, h4, hpl⟩ := three_of qb
      obtain ⟨sg, h5, hsg⟩ := three_of qc
      obtain ⟨q, hq⟩ : ∃ q, n * n = q := ⟨_, rfl⟩
      have HMy : Hid (∀ u : World, Calls Tryd.prog 9 #[.agg #[.int .i64 qa, .int .i64 qb, .int .i64 qc, .slice none 0 0]] u fun e w' => My u w' e z pl sg q (myL [] q q)) := fun u => may_any (L := []) (la := none) (lc := 0) (Or.inl rfl) h1 hk h2 hz h3 hq h4 h5
      have HZn : Hid (L10.Sz z n ∧ pl ≤ 2 ∧ sg ≤ 2 ∧ n * n = q) := ⟨hz, hpl, hsg, hq⟩
      have HC : Hid (Cd wr lo x O s ∧ s.W = false ∧ s.n ≤ 50000 * i ∧ Below W.heap.size W wr) := ⟨hc, hW, hn, hb⟩
      have HCe : Hid (∀ u, Below wr.heap.size wr u → u.cell? ⟨b, o + i * 4, none⟩ = some (.int .i64 qa) ∧ u.cell? ⟨b, o + i * 4 + 1, none⟩ = some (.int .i64 qb) ∧ u.cell? ⟨b, o + i * 4 + 2, none⟩ = some (.int .i64 qc)) := fun u hu => by
        have hb2 := L10.below_to hb hu
        exact ⟨by rw [L10.newCell hb2 _ _ hbl]; exact d0, by rw [L10.newCell hb2 _ _ hbl]; exact d1, by rw [L10.newCell hb2 _ _ hbl]; exact d2⟩
      have HIl : Hid (i < L.length ∧ i < 8) := hlt
      clear hlt hc hW hn hb hcell d0 d1 d2 h1 hk h2 hz h3 h4 hpl h5 hsg hq hi hi8
      have hbd : Below wr.heap.size wr wr.drew := L10.below_drew (Below.refl _ _)
      have KB : Hid (∀ u, Below wr.heap.size wr u → Calls Tryd.prog 9 #[.agg #[.int .i64 qa, .int .i64 qb, .int .i64 qc, .slice none 0 0]] u fun e w' => ∃ g, e = .returned (.agg #[.int .i64 z, .int .i64 (pl : Int), .int .i64 (sg : Int), .slice (some ⟨g, 0, none⟩) q q]) ∧ L10.Ri 3 w' g (myL [] q q) ∧ u.heap.size ≤ g ∧ Below wr.heap.size wr w' ∧ Below u.heap.size u w') := fun u hu => by
        refine (HMy.out u).mono ?_
        rintro e w' ⟨g, rfl, r1, r2, r3⟩
        exact ⟨g, rfl, r1, r2, L10.below_to hu r3, r3⟩
      clear HMy
      go_wp2_with fail
      go_cut [8] from 24 to 110 (fun s8 T => ∃ X g, s8 = .pointer (some ⟨X, 0, none⟩) ∧ Xd wr T X z pl sg g q (myL [] q q))
      case first =>
        go_region_held3 (fun u => u.cell? ⟨b, o + i * 4, none⟩ = some (.int .i64 qa) ∧ u.cell? ⟨b, o + i * 4 + 1, none⟩ = some (.int .i64 qb) ∧ u.cell? ⟨b, o + i * 4 + 2, none⟩ = some (.int .i64 qc))
          ((exact HCe.out _ (by solve | (repeat (first | with_reducible assumption | with_reducible refine L10.to_alloc ?_ _ | with_reducible refine L10.below_set ?_ ?_ _ | with_reducible refine L10.below_drew ?_ | with_reducible exact Below.refl _ _ | (dsimp only; omega))))))
          ((first | (go_at_call 9; with_reducible refine (KB.out _ ?_).mono ?_; (focus (first | with_reducible assumption | exact L10.below_drew (L10.to_alloc (Below.refl _ _) _) | exact L10.to_alloc (L10.below_drew (Below.refl _ _)) _)); rintro e wA ⟨g, rfl, hrA, hgA, hbA, hcA⟩; have hsA := hbA.size; have hkA := L10.newCell hcA; have hfA := L10.newFrozen hcA; have hqA := newNe hcA; have hzA := newLt hcA)))
        all_goals
          go_wp2_with fail
          go_meet
          go_light
          refine ⟨_, g, rfl, ?_⟩
          first | exact xd_a hrA hgA hbA | exact xd_b hrA hgA hbA hcA
      obtain ⟨X, g, rfl, hX⟩ := hcut
      have HX : Hid (Xd wr wc X z pl sg g q (myL [] q q)) := hX
      have x0 := hX.c0
      have x1 := hX.c1
      have x2 := hX.c2
      have x3 := hX.c3
      clear hX KB
      obtain ⟨hc, hW, hn, hb⟩ := HC.out
      have hB5 : Below W.heap.size W wc := L10.below_to hb HX.out.bel
      obtain ⟨sh5, nt5⟩ := HSh.out _ hB5
      have hl1 : 1 < lo := by have := HLo.out; have := HW2.out; omega
      have hc5 : Cd wc lo x O s := hc.to HX.out.bel
      have hi8 := HIl.out.2
      have HCt : Hid (Cd wc lo x O s) := hc5
      have HK : Hid (Calls Tryd.prog 10 #[.pointer (some ⟨x, 0, none⟩), .int .i64 z, .int .i64 (pl : Int), .int .i64 (sg : Int), .slice none 0 0] wc fun en w' => Kc wc w' lo x O (n * n) ((cr z n (min pl 1) sg).run s) en) :=
        kcode_r HCL.out hc5 sh5 nt5 hl1 (by omega) HZn.out.1 HZn.out.2.1 HZn.out.2.2.1 hW
      rw [HZn.out.2.2.2] at HK
      have hran : Ran (Kn n) (fun K => K = List.replicate (n * n) 0) (12 + 47 * (n * n)) s (cr z n (min pl 1) sg) := cod_ran hc.so (by omega) HZn.out.1 (by omega) HZn.out.2.2.1 (fun e => by rw [hW] at e; cases e)
      have hlo := cr_pos z n (min pl 1) sg s
      have hhi := hran.hi
      have hsq := HZn.out.1.sd.sq
      rw [HZn.out.2.2.2] at hhi hsq
      have HRw : Hid (((cr z n (min pl 1) sg).run s).2.W = false) := hran.w.trans hW
      have HRk : Hid (∀ K, ((cr z n (min pl 1) sg).run s).1 = some K → Kn n K) := hran.res
      have HBe : Hid (Below W.heap.size W wc ∧ s.n ≤ 50000 * i) := ⟨hB5, hn⟩
      clear hc hW hn hb hB5 sh5 nt5 hl1 hc5 hran
      generalize (cr z n (min pl 1) sg).run s = rr at *
      have nn1 : (s.n : Int) + 1 ≤ (rr.2.n : Int) := by omega
      have nn2 : (rr.2.n : Int) ≤ (s.n : Int) + (12 + 47 * (q : Int)) := by omega
      have nn3 : (s.n : Int) ≤ 400000 := by have := HBe.out.2; omega
      have nn4 : (q : Int) ≤ 1024 := by omega
      have nn5 : (0 : Int) ≤ (s.n : Int) := by omega
      have nn6 : (0 : Int) ≤ (q : Int) := by omega
      have nn7 : ¬ 64 * (q : Int) + 12 < (rr.2.n : Int) - (s.n : Int) := by omega
      have nn8 : ¬ (rr.2.n : Int) ≤ (s.n : Int) := by omega
      have HNx : Hid (rr.2.n ≤ 50000 * (i + 1)) := by show _ ≤ _; have := HBe.out.2; omega
      clear hlo hhi hsq hi8
      have HSn : Hid (rr.2.n = rr.2.n) := rfl
      generalize hrn : rr.2.n = m2 at *
      have HRn : Hid (rr.2.n = m2) := hrn
      generalize hsn : s.n = m1 at *
      have HSm : Hid (s.n = m1) := hsn
      clear hrn hsn HSn
      go_wp2_with fail
      refine (count_cd HCt.out).mono ?_
      rintro e w6 ⟨rfl, rfl⟩
      rw [HSm.out]
      go_wp2_with fail
      refine HK.out.mono ?_
      rintro e w7 ⟨O7, hc7, ht7, hb7, hy7, hno7⟩
      have HC7 : Hid (Cd w7 lo x O7 rr.2) := hc7
      have HB7 : Hid (Below W.heap.size W w7) := HBe.out.1.trans (hb7.mono HLo.out)
      clear hc7 ht7 hb7 x0 x1 x2 x3
      rcases hr1 : rr.1 with _ | K
      · obtain rfl := hno7 hr1
        clear hy7 hno7 hr1
        go_wp2_with fail
        refine (count_cd HC7.out).mono ?_
        rintro e w8 ⟨rfl, rfl⟩
        rw [HRn.out]
        go_wp2_with fail
        refine (count_cd HC7.out).mono ?_
        rintro e w8 ⟨rfl, rfl⟩
        rw [HRn.out]
        go_wp2_with fail
        go_ret
        exact ⟨rfl, HB7.out⟩
      · obtain ⟨g7, rfl, hr7, -, -⟩ := hy7 K hr1
        have HKn : Hid (Kn n K) := HRk.out K hr1
        have HR7 : Hid (L10.Ri 3 w7 g7 K) := hr7
        have hqq : ((q : Int) != (q : Int)) = false := by simp
        clear hy7 hno7 hr1 hr7
        go_wp2_with fail
        refine (count_cd HC7.out).mono ?_
        rintro e w8 ⟨rfl, rfl⟩
        rw [HRn.out]
        go_wp2_with fail
        refine (count_cd HC7.out).mono ?_
        rintro e w9 ⟨rfl, rfl⟩
        rw [HRn.out]
        go_wp2_with fail
        go_loopw [13] (fun kv wk => ∃ k : Nat, k ≤ q ∧ kv = .int .i64 k ∧ wk = w9) (fun kv _ => q - (intOf kv).toNat)
        case atStart => exact ⟨0, by omega, rfl, rfl⟩
        case round =>
          obtain ⟨k, hk, rfl, rfl⟩ := hrel
          have k0 : (0 : Int) ≤ (k : Int) := by omega
          by_cases hkq : k < q
          · have k1 : (k : Int) < (q : Int) := by omega
            have cK := HR7.out.cell k (by rw [HKn.out.1, HZn.out.2.2.2]; exact hkq)
            obtain ⟨b1, b2⟩ := HKn.out.2 k
            generalize K.getD k 0 = vk at *
            have e1 : ¬ (2097165 : Int) < vk := by omega
            have e2 : ¬ vk < -2097165 := by omega
            clear hk
            go_wp2_with fail
            go_roundw
            case rel => exact ⟨k + 1, by omega, by go_num, (by first | trivial | rfl)⟩
            case measure => simp [intOf]; omega
          · have k1 : ¬ (k : Int) < (q : Int) := by omega
            go_wp2_with fail
            obtain ⟨il, i8⟩ := HIl.out
            go_roundw
            case rel => exact ⟨⟨i + 1, O7, rr.2, by omega, by omega, by go_num, HC7.out, HRw.out, by rw [HRn.out]; exact HNx.out, HB7.out⟩⟩
            case measure => simp [intOf]; omega
    · have HBf : Hid (Below W.heap.size W wr) := hb
      by_cases h1 : i < L.length
      · have l1 : (i : Int) < (L.length : Int) := by omega
        have l2 : ¬ (i : Int) < 8 := by omega
        clear hlt hc hW hn hb hi hi8 h1
        go_wp2_with fail
        go_ret
        exact ⟨rfl, HBf.out⟩
      · have l1 : ¬ (i : Int) < (L.length : Int) := by omega
        clear hlt hc hW hn hb hi hi8 h1
        go_wp2_with fail
        go_ret
        exact ⟨rfl, HBf.out⟩

end Go.Proofs.YtkmnpechhdendaaDoor
