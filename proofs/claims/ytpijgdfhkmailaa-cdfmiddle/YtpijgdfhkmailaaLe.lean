/- DERIVED. The walk of the statement CdfMiddle where there is an average. -/
import Derived.Test.YtpijgdfhkmailaaLd
namespace Go.Proofs.Ytpijgdfhkmailaa
open Go.RowKit

theorem av_ok {L : List Tb} {m : Nat} (h : AvG L m) : TOk (av m (L.map Tb.C)) 0 := by
  have h0 := h.some
  have ht := h.all _ (List.getElem_mem h0)
  have hlo := ht.1.lo
  have hhi := ht.1.hi
  have hlen : 0 < (L.map Tb.C).length := by simpa using h0
  refine ⟨by rw [av_len]; omega, by rw [av_len]; omega, ?_, by omega, by omega, fun i h1 h2 => ?_⟩
  · rw [av_len, av_get _ _ _ (by omega)]
    have e : ∀ C ∈ L.map Tb.C, C.getD (m - 1) 0 = 32768 := fun C hC => by
      obtain ⟨t, ht, rfl⟩ := List.mem_map.1 hC
      have := (h.all t ht).1.last
      rw [(h.all t ht).2] at this
      exact this
    exact Nat.le_antisymm (avE_le hlen (fun C hC => Nat.le_of_eq (e C hC))) (avE_ge hlen (fun C hC => Nat.le_of_eq (e C hC).symm))
  · rw [av_len] at h2
    rw [av_get _ _ _ h2, av_get _ _ _ (by omega)]
    exact avE_mono (fun C hC => by
      obtain ⟨t, ht, rfl⟩ := List.mem_map.1 hC
      exact (h.all t ht).1.rise i h1 (by rw [(h.all t ht).2]; exact h2))
theorem av_rev (m : Nat) (L : List Tb) : av m (L.reverse.map Tb.C) = av m (L.map Tb.C) := by
  refine list_eq_of_getD (by rw [av_len, av_len]) fun j hj => ?_
  rw [av_len] at hj
  rw [av_get _ _ _ hj, av_get _ _ _ hj, List.map_reverse, avE_reverse]

set_option maxRecDepth 100000 in
set_option maxHeartbeats 2000000 in
theorem middle_walk_yes {w : World} {b o : Nat} {c : Nat} {L : List Tb} {nv : Int} {m : Nat} (h : Ts w b o L) (hl : L.length ≤ 4398046511104) (hg : AvG L m) :
    Calls Try.prog 8 #[.slice (some ⟨b, o, none⟩) L.length c, .int .i64 nv] w fun e w' => e = .returned (.bool true) ∧ Below w.heap.size w w' := by
  have HTS : Hid (Ts w b o L) := h
  have HT : Hid (Tl w (some ⟨b, o, none⟩) L) := Or.inr ⟨b, o, rfl, h⟩
  have HG : Hid (AvG L m) := hg
  have h00 := hg.some
  have HOKA : Hid (TOk (av m (L.map Tb.C)) 0) := av_ok hg
  have hm2 : 2 ≤ m := by have := HOKA.out.lo; rw [av_len] at this; exact this
  have hm16 : m ≤ 16 := by have := HOKA.out.hi; rw [av_len] at this; exact this
  have HLA : Hid ((av m (L.map Tb.C)).length = m) := av_len _ _
  have HAV : Hid (∀ i, i < m → (av m (L.map Tb.C)).getD i 0 = avE (L.map Tb.C) i) := fun i hi => av_get _ _ _ hi
  clear h hg
  go_enter Try.func8, Try.ntmps8
  go_wp2_with fail
  refine (works_true _).mono ?_
  rintro e w1 ⟨rfl, hb⟩
  have HB1 : Hid (Below w.heap.size w w1) := hb
  clear hb
  go_wp2_with fail
  refine (average_yes (HT.out.to HB1.out) hl HG.out).mono ?_
  rintro e w2 ⟨g, gc, rfl, ho, hb⟩
  rw [HLA.out]
  have HB2 : Hid (Below w.heap.size w (w2.alloc (.cells #[.slice (some ⟨g, 0, none⟩) m gc, .int .i64 0] 24))) := to_alloc (below_to HB1.out hb) _
  have HY : Hid (Loc (w2.alloc (.cells #[.slice (some ⟨g, 0, none⟩) m gc, .int .i64 0] 24)) w2.heap.size ⟨some ⟨g, 0, none⟩, gc, av m (L.map Tb.C), 0⟩) := by
    have := Loc.new ⟨some ⟨g, 0, none⟩, gc, av m (L.map Tb.C), 0⟩ ho.sl
    simp only at this
    rw [HLA.out] at this
    exact this
  clear hb ho HB1
  go_wp2_with fail
  generalize w2.alloc (.cells #[.slice (some ⟨g, 0, none⟩) m gc, .int .i64 0] 24) = v1 at *
  generalize w2.heap.size = y at *
  have HT1 : Hid (Tl v1 (some ⟨b, o, none⟩) L) := HT.out.to HB2.out
  go_loopw [7, 8] (fun tv iv wr => ∃ k, TuInv v1 L tv iv wr k) (fun _ iv _ => (intOf iv + 1).toNat)
  case atStart => exact ⟨0, by omega, by simp, by simpa using Ot.nil v1 v1.heap.size, Below.refl _ _⟩
  case round =>
    obtain ⟨k, hinv⟩ := hrel
    obtain ⟨hk, rfl, hot, hb⟩ := hinv
    obtain ⟨ta, tc, rfl⟩ := hot.form
    have hlen : (L.reverse.take k).length = k := by simp; omega
    by_cases hlt : k < L.length
    · have b0 : 0 ≤ (L.length : Int) - 1 - (k : Int) := by omega
      have b1 : (L.length : Int) - 1 - (k : Int) < (L.length : Int) := by omega
      have b2 : ((L.length : Int) - 1 - (k : Int)).toNat = L.length - 1 - k := by omega
      have hnn : 0 < L.length := by omega
      have hts := HTS.out.to HB2.out
      have hget := List.getElem?_eq_getElem (show L.length - 1 - k < L.length by omega)
      have c0 := hts.cell0 _ _ hget
      have c1 := hts.cell1 _ _ hget
      rw [← newCell hb _ _ hts.low] at c0 c1
      have HRT : Hid _ := rev_take L k hlt
      generalize L[L.length - 1 - k] = t at *
      have HO : Hid (Ot wr v1.heap.size (.slice ta k tc) (L.reverse.take k)) := by rw [hlen] at hot; exact hot
      have HB : Hid (Below v1.heap.size v1 wr) := hb
      have HLEN : Hid _ := hlen
      have hsz := hb.size
      rw [hlen]
      clear hot hb hget hts hlen
      go_wp2_with (at_builtin; refine wpList_append_tab wr (by rfl) _ _ (by rfl) v1.heap.size (L.reverse.take k) (.slice ta k tc) t HO.out hsz (by rw [HLEN.out]; omega) (by rfl) (by rfl) ?_; intro g cap w' hot' hb')
      rw [HLEN.out] at hot'
      go_roundw
      case rel => exact ⟨k + 1, by omega, by congr 1; omega, by rw [HRT.out]; exact hot', HB.out.trans hb'⟩
      case measure => simp [intOf]; omega
    · have hk' : k = L.length := by omega
      subst hk'
      rw [hlen]
      have b0 : ¬ (0 : Int) ≤ (L.length : Int) - 1 - (L.length : Int) := by omega
      have HO : Hid (Ot wr v1.heap.size (.slice ta L.length tc) L.reverse) := by rw [hlen] at hot; rw [List.take_of_length_le (by simp)] at hot; exact hot
      have HB : Hid (Below v1.heap.size v1 wr) := hb
      clear hot hb hlen
      generalize wr = wo at *
      go_wp2_with fail
      obtain ⟨a2, c2, he2, htl2⟩ := HO.out.tl (fun t ht => ((HTS.out.ins t (by simpa using ht)).to HB2.out).to HB.out)
      simp only [List.length_reverse, Value.slice.injEq, true_and] at he2
      obtain ⟨rfl, rfl⟩ := he2
      have HRL : Hid (L.length = L.reverse.length) := by unfold Hid; simp
      have HTL : Hid (Tl wo ta L.reverse) := htl2
      clear htl2
      rw [HRL.out]
      refine (average_yes HTL.out (by rw [← HRL.out]; exact hl) HG.out.rev).mono ?_
      rw [← HRL.out]
      rintro e w3 ⟨g2, gc2, rfl, ho, hb⟩
      rw [av_rev] at ho ⊢
      rw [HLA.out]
      have HBu : Hid (Bun w (w3.alloc (.cells #[.slice (some ⟨g2, 0, none⟩) m gc2, .int .i64 0] 24)) y w3.heap.size ⟨some ⟨g, 0, none⟩, gc, av m (L.map Tb.C), 0⟩ ⟨some ⟨g2, 0, none⟩, gc2, av m (L.map Tb.C), 0⟩) := by
        refine ⟨(HY.out.to HB.out).to (to_alloc hb _), ?_, below_to HB2.out (below_to HB.out (to_alloc hb _))⟩
        have := Loc.new ⟨some ⟨g2, 0, none⟩, gc2, av m (L.map Tb.C), 0⟩ ho.sl
        simp only at this
        rw [HLA.out] at this
        exact this
      clear hb ho HB HO HTL HY HB2 HT1
      have hc00 := HTS.out.cell0 0 _ (List.getElem?_eq_getElem h00)
      have hlen0 : L[0].C.length = m := (HG.out.all _ (List.getElem_mem h00)).2
      rw [hlen0, Nat.zero_mul, Nat.add_zero] at hc00
      have HC00 : Hid (w.cell? ⟨b, o, none⟩ = some (.slice L[0].a m L[0].c)) := hc00
      have HS00 : Hid (Sl w .u16 L[0].a L[0].C) := (HTS.out.ins _ (List.getElem_mem h00)).sl
      have HLEN0 : Hid (L[0].C.length = m) := hlen0
      clear hc00 hlen0
      have HT0 : Hid (L[0] = L[0]) := rfl
      generalize ht0 : L[0] = t0 at *
      have HT0' : Hid (L[0] = t0) := ht0
      clear ht0 HT0
      obtain ⟨ta0, tc0, C0, n0⟩ := t0
      simp only at *
      generalize av m (L.map Tb.C) = A at *
      have HQ : Hid (∀ u z, Bun w u y z ⟨some ⟨g, 0, none⟩, gc, A, 0⟩ ⟨some ⟨g2, 0, none⟩, gc2, A, 0⟩ → u.cell? ⟨y, 0, none⟩ = some (.slice (some ⟨g, 0, none⟩) m gc) ∧ u.cell? ⟨y, 1, none⟩ = some (.int .i64 0) ∧ u.cell? ⟨z, 0, none⟩ = some (.slice (some ⟨g2, 0, none⟩) m gc2) ∧ u.cell? ⟨z, 1, none⟩ = some (.int .i64 0) ∧ u.cell? ⟨b, o, none⟩ = some (.slice ta0 m tc0)) := fun u z hu =>
        ⟨by have := hu.l1.c0; simp only at this; rw [HLA.out] at this; exact this, hu.l1.c1, by have := hu.l2.c0; simp only at this; rw [HLA.out] at this; exact this, hu.l2.c1, by rw [newCell hu.b _ _ HTS.out.low]; exact HC00.out⟩
      have HCK : Hid (∀ u z, Bun w u y z ⟨some ⟨g, 0, none⟩, gc, A, 0⟩ ⟨some ⟨g2, 0, none⟩, gc2, A, 0⟩ → Calls Try.prog 15 #[.agg #[.slice (some ⟨g, 0, none⟩) m gc, .int .i64 0]] u fun e u' => e = .returned (.int .i64 0) ∧ Bun w u' y z ⟨some ⟨g, 0, none⟩, gc, A, 0⟩ ⟨some ⟨g2, 0, none⟩, gc2, A, 0⟩) := fun u z hu => by
        rw [← HLA.out]
        refine (check_any hu.l1.sl (by show A.length ≤ _; rw [HLA.out]; omega)).mono ?_
        rintro e u' ⟨rfl, hb⟩
        exact ⟨by rw [show ck A 0 = 0 from ck_ok HOKA.out], hu.to hb⟩
      have HHA : Hid (∀ u z, Bun w u y z ⟨some ⟨g, 0, none⟩, gc, A, 0⟩ ⟨some ⟨g2, 0, none⟩, gc2, A, 0⟩ → Calls Try.prog 30 #[.agg #[.slice (some ⟨g, 0, none⟩) m gc, .int .i64 0], .int .i64 0, .slice (some ⟨g2, 0, none⟩) m gc2] u fun e u' => e = .returned (.bool true) ∧ Bun w u' y z ⟨some ⟨g, 0, none⟩, gc, A, 0⟩ ⟨some ⟨g2, 0, none⟩, gc2, A, 0⟩) := fun u z hu => by
        rw [← HLA.out]
        refine (has_true hu.l1.sl hu.l2.sl (by show A.length ≤ _; rw [HLA.out]; omega)).mono ?_
        rintro e u' ⟨rfl, hb⟩
        exact ⟨rfl, hu.to hb⟩
      have b00 : (0 : Int) < (L.length : Int) := by omega
      have hmm : ((m : Int) != (m : Int)) = false := by simp
      go_wp2_with fail
      generalize w3.alloc (.cells #[.slice (some ⟨g2, 0, none⟩) m gc2, .int .i64 0] 24) = v3 at *
      generalize w3.heap.size = z at *
      have hbd := HBu.out.to (below_drew (Below.refl _ _))
      obtain ⟨d0, d1, d2, d3, d4⟩ := HQ.out _ _ hbd
      clear HBu
      go_region_held3 (fun u => u.cell? ⟨y, 0, none⟩ = some (.slice (some ⟨g, 0, none⟩) m gc) ∧ u.cell? ⟨y, 1, none⟩ = some (.int .i64 0) ∧ u.cell? ⟨z, 0, none⟩ = some (.slice (some ⟨g2, 0, none⟩) m gc2) ∧ u.cell? ⟨z, 1, none⟩ = some (.int .i64 0) ∧ u.cell? ⟨b, o, none⟩ = some (.slice ta0 m tc0)) (((try dsimp only); first | assumption | (refine ⟨?_, ?_, ?_, ?_, ?_⟩ <;> first | assumption | go_keep) | go_keep)) (first
        | (go_at_call 15; with_reducible refine (HCK.out _ _ (by assumption)).mono ?_; rintro e wA ⟨rfl, hbA⟩; obtain ⟨pA0, pA1, pA2, pA3, pA4⟩ := HQ.out _ _ hbA)
        | (go_at_call 30; with_reducible refine (HHA.out _ _ (by assumption)).mono ?_; rintro e wB ⟨rfl, hbB⟩; obtain ⟨pB0, pB1, pB2, pB3, pB4⟩ := HQ.out _ _ hbB))
      clear hbd d0 d1 d2 d3 d4 hbA pA0 pA1 pA2 pA3 pA4
      have HBB : Hid _ := hbB
      clear hbB pB0 pB1 pB2 pB3 pB4 HCK HHA
      go_wp2_with fail
      go_loopw [11] (fun iv wr => ∃ i : Nat, i ≤ m ∧ iv = .int .i64 i ∧ Bun w wr y z ⟨some ⟨g, 0, none⟩, gc, A, 0⟩ ⟨some ⟨g2, 0, none⟩, gc2, A, 0⟩) (fun iv _ => m - (intOf iv).toNat)
      case atStart => exact ⟨0, by omega, rfl, HBB.out⟩
      case round =>
        obtain ⟨i, hi, rfl, hbu⟩ := hrel
        clear HBB
        obtain ⟨q0, q1, q2, q3, q4⟩ := HQ.out _ _ hbu
        have HBU : Hid (Bun w wr y z ⟨some ⟨g, 0, none⟩, gc, A, 0⟩ ⟨some ⟨g2, 0, none⟩, gc2, A, 0⟩) := hbu
        clear hbu
        by_cases hlt : i < m
        · have b0 : 0 ≤ (i : Int) := by omega
          have b1 : (i : Int) < (m : Int) := by omega
          obtain ⟨b', o', rfl, hbl, hcell⟩ := HS00.out.form (by rw [HLEN0.out]; omega)
          have e0 : wr.cell? ⟨b', o' + i, none⟩ = some (.int .u16 (C0.getD i 0 : Nat)) := by rw [newCell HBU.out.b _ _ hbl]; exact hcell i (by rw [HLEN0.out]; exact hlt)
          have hu0 := (HTS.out.ins _ (List.getElem_mem h00)).u16 i
          rw [HT0'.out] at hu0
          simp only at hu0
          have HX0 : Hid (C0.getD i 0 < 65536) := hu0
          generalize C0.getD i 0 = x0 at *
          clear hcell hu0
          go_wp2_with fail
          go_quiet (fail)
          have HBq : Hid _ := HBU.out.to (below_drewN (Below.refl _ _) nq)
          clear HBU q0 q1 q2 q3 q4 e0
          go_wp2_with fail
          generalize wr.drewN nq = wq at *
          obtain ⟨q0, q1, q2, q3, q4⟩ := HQ.out _ _ HBq.out
          go_loop [12, 13, 14] (fun lov hiv kv => ∃ k lo hi' : Nat, k ≤ L.length ∧ kv = .int .i64 k ∧ lov = .int .u16 lo ∧ hiv = .int .u16 hi' ∧ Hid (∀ t, t ∈ L.take k → lo ≤ t.C.getD i 0 ∧ t.C.getD i 0 ≤ hi')) (fun _ _ kv => L.length - (intOf kv).toNat)
          case atStart => exact ⟨0, x0, x0, by omega, rfl, rfl, rfl, fun t ht => by simp at ht⟩
          case round =>
            obtain ⟨k, lo, hi', hk, rfl, rfl, rfl, HALL⟩ := hrel
            by_cases hkt : k < L.length
            · have hget := List.getElem?_eq_getElem hkt
              have hin := HTS.out.ins L[k] (List.getElem_mem _)
              have hc := HTS.out.cell0 k _ hget
              have hlen := (HG.out.all _ (List.getElem_mem hkt)).2
              have htk : L.take (k + 1) = L.take k ++ [L[k]] := by rw [List.take_add_one, hget]; rfl
              have HTK : Hid _ := htk
              rw [hlen] at hc
              generalize L[k] = t at *
              obtain ⟨ta1, tc1, tC1, tn1⟩ := t
              simp only at *
              obtain ⟨b2, o2, rfl, hbl2, hcell2⟩ := hin.sl.form (by show 0 < tC1.length; rw [hlen]; omega)
              have e1 : wq.cell? ⟨b, o + k * 2, none⟩ = some (.slice (some ⟨b2, o2, none⟩) m tc1) := by rw [newCell HBq.out.b _ _ HTS.out.low]; exact hc
              have e2 : wq.cell? ⟨b2, o2 + i, none⟩ = some (.int .u16 (tC1.getD i 0 : Nat)) := by rw [newCell HBq.out.b _ _ hbl2]; exact hcell2 i (by show i < tC1.length; rw [hlen]; exact hlt)
              have HXX : Hid (tC1.getD i 0 = tC1.getD i 0) := rfl
              generalize hxx : tC1.getD i 0 = x1 at *
              have HXX' : Hid (tC1.getD i 0 = x1) := hxx
              clear hxx HXX hin hc hcell2 htk hget hlen
              have b2' : 0 ≤ (k : Int) := by omega
              have b3 : (k : Int) < (L.length : Int) := by omega
              go_wp2_with fail
              go_round
              case rel =>
                refine ⟨k + 1, min lo x1, max hi' x1, by omega, by go_num, by congr 1; omega, by congr 1; omega, fun t ht => ?_⟩
                rw [HTK.out] at ht
                rcases List.mem_append.1 ht with h1 | h1
                · have := HALL.out t h1; omega
                · simp at h1
                  subst h1
                  simp only
                  rw [HXX'.out]
                  omega
              case measure => simp [intOf]; omega
            · have hk' : k = L.length := by omega
              subst hk'
              have hA : A.getD i 0 = avE (L.map Tb.C) i := HAV.out i hlt
              have hmem : 0 < (L.map Tb.C).length := by simpa using h00
              have hge : lo ≤ A.getD i 0 := by rw [hA]; exact avE_ge hmem (fun C hC => by
                obtain ⟨t, ht, rfl⟩ := List.mem_map.1 hC
                exact (HALL.out t (by simpa using ht)).1)
              have hle : A.getD i 0 ≤ hi' := by rw [hA]; exact avE_le hmem (fun C hC => by
                obtain ⟨t, ht, rfl⟩ := List.mem_map.1 hC
                exact (HALL.out t (by simpa using ht)).2)
              have e1 : wq.cell? ⟨g, i, none⟩ = some (.int .u16 (A.getD i 0 : Nat)) := by
                obtain ⟨b3, o3, he3, _, hc3⟩ := HBq.out.l1.sl.form (by show 0 < A.length; rw [HLA.out]; omega)
                simp only [Option.some.injEq, Addr.mk.injEq, and_true] at he3
                obtain ⟨rfl, rfl⟩ := he3
                have := hc3 i (by show i < A.length; rw [HLA.out]; exact hlt)
                rw [Nat.zero_add] at this
                exact this
              clear hA
              generalize A.getD i 0 = av1 at *
              have c1 : ¬ (av1 : Int) < (lo : Int) := by omega
              have c2 : ¬ (hi' : Int) < (av1 : Int) := by omega
              go_wp2_with fail
              go_roundw
              case rel => exact ⟨i + 1, by omega, by go_num, HBq.out⟩
              case measure => simp [intOf]; omega
        · have hi' : ¬ (i : Int) < (m : Int) := by omega
          go_wp2_with fail
          generalize wr = wp at *
          have HC01 : Hid (w.cell? ⟨b, o + 1, none⟩ = some (.int .i64 n0)) := by
            have := HTS.out.cell1 0 _ (List.getElem?_eq_getElem h00)
            rw [HT0'.out, Nat.zero_mul, Nat.add_zero] at this
            exact this
          have HIN0 : Hid (Tb.In w ⟨ta0, tc0, C0, n0⟩) := by rw [← HT0'.out]; exact HTS.out.ins _ (List.getElem_mem h00)
          have HAV0 : Hid (TOk C0 n0) := by have := (HG.out.all _ (List.getElem_mem h00)).1; rw [HT0'.out] at this; exact this
          have hbl := brg_lt nv (m := 20) (by omega)
          have HBRG : Hid (∀ u, Calls Try.prog 28 #[.int .i64 nv, .int .i64 20] u fun e w' => e = .returned (.int .i64 (brg nv 20)) ∧ w' = u) := fun u => bring_any nv 20 u (by omega) (by omega)
          generalize brg nv 20 = q at *
          clear q0 q1 q2 q3 q4 hi'
          go_loopw [15, 16] (fun sv kv wr => ∃ k : Nat, k ≤ 1 + q ∧ kv = .int .i64 k ∧ Ot wr wp.heap.size sv (List.replicate k ⟨ta0, tc0, C0, n0⟩) ∧ Below wp.heap.size wp wr) (fun _ kv _ => 1 + q - (intOf kv).toNat)
          case atStart => exact ⟨0, by omega, rfl, Ot.nil _ _, Below.refl _ _⟩
          case round =>
            obtain ⟨k, hk, rfl, hot, hb⟩ := hrel
            obtain ⟨sa, sc, rfl⟩ := hot.form
            rw [List.length_replicate] at hot ⊢
            have r0 : wr.cell? ⟨b, o, none⟩ = some (.slice ta0 m tc0) := by rw [newCell (below_to HBU.out.b hb) _ _ HTS.out.low]; exact HC00.out
            have r1 : wr.cell? ⟨b, o + 1, none⟩ = some (.int .i64 n0) := by rw [newCell (below_to HBU.out.b hb) _ _ HTS.out.low]; exact HC01.out
            by_cases hkq : k < 1 + q
            · have hkq' : (k : Int) < 1 + (q : Int) := by omega
              have HO : Hid (Ot wr wp.heap.size (.slice sa k sc) (List.replicate k ⟨ta0, tc0, C0, n0⟩)) := hot
              have HB : Hid (Below wp.heap.size wp wr) := hb
              have hsz := hb.size
              have HREP : Hid (List.replicate k (⟨ta0, tc0, C0, n0⟩ : Tb) ++ [⟨ta0, tc0, C0, n0⟩] = List.replicate (k + 1) ⟨ta0, tc0, C0, n0⟩) := (List.replicate_succ' ..).symm
              clear hot hb
              go_wp2_with fail
              refine (HBRG.out _).mono ?_
              rintro e w5 ⟨rfl, rfl⟩
              rw [← HLEN0.out] at r0 HC00
              go_wp2_with (at_builtin; refine wpList_append_tab _ (by rfl) _ _ (by rfl) wp.heap.size (List.replicate k ⟨ta0, tc0, C0, n0⟩) (.slice sa k sc) ⟨ta0, tc0, C0, n0⟩ HO.out hsz (by rw [List.length_replicate]; omega) (by rfl) (by rfl) ?_; intro g' cap w' hot' hb')
              rw [List.length_replicate, HREP.out] at hot'
              go_roundw
              case rel => exact ⟨k + 1, by omega, by go_num, hot', HB.out.trans hb'⟩
              case measure => simp [intOf]; omega
            · have hk' : k = 1 + q := by omega
              have hkq' : ¬ (k : Int) < 1 + (q : Int) := by omega
              have HKq : Hid (k = 1 + q) := hk'
              clear hk'
              have HBw : Hid (Bun w wr y z ⟨some ⟨g, 0, none⟩, gc, A, 0⟩ ⟨some ⟨g2, 0, none⟩, gc2, A, 0⟩) := HBU.out.to hb
              have hins : ∀ t ∈ List.replicate k (⟨ta0, tc0, C0, n0⟩ : Tb), t.In wr := fun t ht => by
                have := (List.mem_replicate.1 ht).2
                subst this
                exact HIN0.out.to HBw.out.b
              obtain ⟨a2, c2, he2, htl2⟩ := hot.tl hins
              simp only [List.length_replicate, Value.slice.injEq, true_and] at he2
              obtain ⟨rfl, rfl⟩ := he2
              have HTL : Hid (Tl wr sa (List.replicate k ⟨ta0, tc0, C0, n0⟩)) := htl2
              have HAG : Hid (AvG (List.replicate k ⟨ta0, tc0, C0, n0⟩) m) := ⟨by rw [List.length_replicate, HKq.out]; omega, fun t ht => by
                have := (List.mem_replicate.1 ht).2
                subst this
                exact ⟨HAV0.out, HLEN0.out⟩⟩
              have HAC : Hid (av m ((List.replicate k (⟨ta0, tc0, C0, n0⟩ : Tb)).map Tb.C) = C0) := by
                refine list_eq_of_getD (by rw [av_len, HLEN0.out]) fun j hj => ?_
                rw [av_len] at hj
                rw [av_get _ _ _ hj, List.map_replicate, avE_replicate _ _ (by rw [HKq.out]; omega)]
              have hkl : k ≤ 100 := by rw [HKq.out]; omega
              clear hot hb htl2 hins
              go_wp2_with fail
              refine (HBRG.out _).mono ?_
              rintro e w5 ⟨rfl, rfl⟩
              go_wp2_with fail
              have hav := average_yes (c := sc) HTL.out (by rw [List.length_replicate]; omega) HAG.out
              rw [List.length_replicate, HAC.out] at hav
              refine hav.mono ?_
              clear hav
              rintro e w6 ⟨g3, gc3, rfl, ho, hb⟩
              rw [HLEN0.out]
              have HL6 : Hid (Loc (w6.alloc (.cells #[.slice (some ⟨g3, 0, none⟩) m gc3, .int .i64 0] 24)) w6.heap.size ⟨some ⟨g3, 0, none⟩, gc3, C0, 0⟩) := by
                have := Loc.new ⟨some ⟨g3, 0, none⟩, gc3, C0, 0⟩ ho.sl
                simp only at this
                rw [HLEN0.out] at this
                exact this
              have HB6 : Hid (Below w.heap.size w (w6.alloc (.cells #[.slice (some ⟨g3, 0, none⟩) m gc3, .int .i64 0] 24))) := below_to HBw.out.b (to_alloc hb _)
              clear hb ho r0 r1
              go_wp2_with fail
              generalize w6.alloc (.cells #[.slice (some ⟨g3, 0, none⟩) m gc3, .int .i64 0] 24) = v6 at *
              generalize w6.heap.size = x6 at *
              have HQ6 : Hid (∀ u, Loc u x6 ⟨some ⟨g3, 0, none⟩, gc3, C0, 0⟩ ∧ Below w.heap.size w u → u.cell? ⟨x6, 0, none⟩ = some (.slice (some ⟨g3, 0, none⟩) m gc3) ∧ u.cell? ⟨x6, 1, none⟩ = some (.int .i64 0) ∧ u.cell? ⟨b, o, none⟩ = some (.slice ta0 m tc0)) := fun u hu =>
                ⟨by have := hu.1.c0; simp only at this; rw [HLEN0.out] at this; exact this, hu.1.c1, by rw [newCell hu.2 _ _ HTS.out.low]; exact HC00.out⟩
              have HHB : Hid (∀ u, Loc u x6 ⟨some ⟨g3, 0, none⟩, gc3, C0, 0⟩ ∧ Below w.heap.size w u → Calls Try.prog 30 #[.agg #[.slice (some ⟨g3, 0, none⟩) m gc3, .int .i64 0], .int .i64 0, .slice ta0 m tc0] u fun e u' => e = .returned (.bool true) ∧ (Loc u' x6 ⟨some ⟨g3, 0, none⟩, gc3, C0, 0⟩ ∧ Below w.heap.size w u')) := fun u hu => by
                rw [← HLEN0.out]
                refine (has_true hu.1.sl (HS00.out.to hu.2) (by show C0.length ≤ _; rw [HLEN0.out]; omega)).mono ?_
                rintro e u' ⟨rfl, hb⟩
                exact ⟨rfl, hu.1.to hb, below_to hu.2 hb⟩
              have hbd : Loc v6.drew x6 ⟨some ⟨g3, 0, none⟩, gc3, C0, 0⟩ ∧ Below w.heap.size w v6.drew := ⟨HL6.out.to (below_drew (Below.refl _ _)), below_drew HB6.out⟩
              obtain ⟨d0, d1, d2⟩ := HQ6.out _ hbd
              go_region_held3 (fun u => u.cell? ⟨x6, 0, none⟩ = some (.slice (some ⟨g3, 0, none⟩) m gc3) ∧ u.cell? ⟨x6, 1, none⟩ = some (.int .i64 0) ∧ u.cell? ⟨b, o, none⟩ = some (.slice ta0 m tc0)) (((try dsimp only); first | assumption | (refine ⟨?_, ?_, ?_⟩ <;> first | assumption | go_keep) | go_keep)) (first
                | (go_at_call 30; with_reducible refine (HHB.out _ (by assumption)).mono ?_; rintro e wA ⟨rfl, hbA⟩; obtain ⟨pA0, pA1, pA2⟩ := HQ6.out _ hbA))
              all_goals
                go_wp2_with fail
                go_ret
                exact ⟨rfl, hbA.2⟩

theorem middle_walk {w : World} {a : Option Addr} {c : Nat} {L : List Tb} {nv : Int} (h : Tl w a L) (hl : L.length ≤ 4398046511104) :
    Calls Try.prog 8 #[.slice a L.length c, .int .i64 nv] w fun e w' => e = .returned (.bool true) ∧ Below w.heap.size w w' := by
  by_cases hg : ∃ m, AvG L m
  · obtain ⟨m, hg⟩ := hg
    rcases h with rfl | ⟨b, o, rfl, hts⟩
    · have := hg.some; simp at this
    · exact middle_walk_yes hts hl hg
  · exact middle_walk_no h hl (fun m hm => hg ⟨m, hm⟩)

end Go.Proofs.Ytpijgdfhkmailaa
