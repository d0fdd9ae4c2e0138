/- DERIVED. The walk of the statement CdfLearnt. -/
import Derived.Test.YtpijgdfhkmailaaLb
namespace Go.Proofs.Ytpijgdfhkmailaa
open Go.RowKit

theorem Ns.form {w : World} {a : Option Addr} {l : List Int} (h : Ns w a l) (h0 : 0 < l.length) : ∃ b o, a = some ⟨b, o, none⟩ ∧ b < w.heap.size ∧ ∀ j, j < l.length → w.cell? ⟨b, o + j, none⟩ = some (.int .i64 (l.getD j 0)) := by
  rcases h with rfl | h
  · simp at h0
  · exact h
/-- two variables that have tables -/
structure Bun (w u : World) (x y : Nat) (t a : Tb) : Prop where
  l1 : Loc u x t
  l2 : Loc u y a
  b : Below w.heap.size w u
theorem Bun.to {w u v : World} {x y : Nat} {t a : Tb} (h : Bun w u x y t a) (hb : Below u.heap.size u v) : Bun w v x y t a := ⟨h.l1.to hb, h.l2.to hb, below_to h.b hb⟩
theorem Bun.drew {w u : World} {x y : Nat} {t a : Tb} (h : Bun w u x y t a) : Bun w u.drew x y t a := h.to (below_drew (Below.refl _ _))
theorem TOk.u16 {C : List Nat} {n : Int} (h : TOk C n) (i : Nat) : C.getD i 0 < 65536 := by have := h.le i; omega

theorem Sl.far {w : World} {k : IntKind} {g o : Nat} {C : List Nat} (h : Sl w k (some ⟨g, o, none⟩) C) {a : Addr} (ha : g ≠ a.block) (u : Value) : Sl (w.setCell a u) k (some ⟨g, o, none⟩) C := by
  rcases h with h | ⟨b, o', h1, h2, h3⟩
  · exact Or.inl h
  · simp only [Option.some.injEq, Addr.mk.injEq, and_true] at h1
    obtain ⟨rfl, rfl⟩ := h1
    exact Or.inr ⟨g, o, rfl, by simpa [World.setCell] using h2, fun j hj => by rw [World.cell?_setCell_other _ _ _ _ (fun e => ha (by rw [e]))]; exact h3 j hj⟩
/-- .. the first of which can be written -/
structure Bun2 (w u : World) (x y : Nat) (t a : Tb) : Prop where
  bun : Bun w u x y t a
  f0 : u.frozen? ⟨x, 0, none⟩ = false
  f1 : u.frozen? ⟨x, 1, none⟩ = false
theorem Bun2.to {w u v : World} {x y : Nat} {t a : Tb} (h : Bun2 w u x y t a) (hb : Below u.heap.size u v) : Bun2 w v x y t a := ⟨h.bun.to hb, by rw [newFrozen hb _ _ h.bun.l1.low]; exact h.f0, by rw [newFrozen hb _ _ h.bun.l1.low]; exact h.f1⟩

/-- where the loop over the values stands -/
structure LnInv (w : World) (x : Nat) (len : Nat) (iv : Value) (wr : World) (k : Nat) (t : Tb) : Prop where
  iv : iv = .int .i64 k
  k1 : k ≤ len
  k2 : k ≤ 40
  loc : Loc wr x t
  ok : TOk t.C t.n
  f0 : wr.frozen? ⟨x, 0, none⟩ = false
  f1 : wr.frozen? ⟨x, 1, none⟩ = false
  b : Below w.heap.size w wr

set_option maxRecDepth 100000 in
set_option maxHeartbeats 1000000 in
theorem learnt_walk {w : World} {a : Option Addr} {c : Nat} {C : List Nat} {n : Int} {la : Option Addr} {lc : Nat} {l : List Int} (h : Sl w .u16 a C) (hl : C.length ≤ 140737488355328) (hn : Ns w la l) (hll : l.length ≤ 140737488355328) :
    Calls Try.prog 7 #[.agg #[.slice a C.length c, .int .i64 n], .slice la l.length lc] w fun e w' => e = .returned (.bool true) ∧ Below w.heap.size w w' := by
  have HNS : Hid (Ns w la l) := hn
  have HL : Hid (Loc (w.alloc (.cells #[.slice a C.length c, .int .i64 n] 24)) w.heap.size ⟨a, c, C, n⟩) := Loc.new ⟨a, c, C, n⟩ h
  have HB : Hid (Below w.heap.size w (w.alloc (.cells #[.slice a C.length c, .int .i64 n] 24))) := from_alloc _ _
  have HF : Hid ((w.alloc (.cells #[.slice a C.length c, .int .i64 n] 24)).frozen? ⟨w.heap.size, 0, none⟩ = false ∧ (w.alloc (.cells #[.slice a C.length c, .int .i64 n] 24)).frozen? ⟨w.heap.size, 1, none⟩ = false) := by unfold Hid; simp
  clear h hn
  go_enter Try.func7, Try.ntmps7
  go_wp2_with fail
  generalize w.alloc (.cells #[.slice a C.length c, .int .i64 n] 24) = v at *
  refine (works_true _).mono ?_
  rintro e w1 ⟨rfl, hb⟩
  have HF1 : Hid (w1.frozen? ⟨w.heap.size, 0, none⟩ = false ∧ w1.frozen? ⟨w.heap.size, 1, none⟩ = false) := ⟨by rw [newFrozen hb _ _ HL.out.low]; exact HF.out.1, by rw [newFrozen hb _ _ HL.out.low]; exact HF.out.2⟩
  have HL1 : Hid _ := HL.out.to hb
  have HB1 : Hid (Below w.heap.size w w1) := below_to HB.out hb
  clear hb HL HB HF
  have q0 : w1.cell? ⟨w.heap.size, 0, none⟩ = some (.slice a C.length c) := HL1.out.c0
  have q1 : w1.cell? ⟨w.heap.size, 1, none⟩ = some (.int .i64 n) := HL1.out.c1
  go_wp2_with fail
  refine (check_any HL1.out.sl hl).mono ?_
  rintro e w2 ⟨rfl, hb⟩
  have HF2 : Hid (w2.frozen? ⟨w.heap.size, 0, none⟩ = false ∧ w2.frozen? ⟨w.heap.size, 1, none⟩ = false) := ⟨by rw [newFrozen hb _ _ HL1.out.low]; exact HF1.out.1, by rw [newFrozen hb _ _ HL1.out.low]; exact HF1.out.2⟩
  have HL2 : Hid _ := HL1.out.to hb
  have HB2 : Hid (Below w.heap.size w w2) := below_to HB1.out hb
  clear hb HL1 HB1 HF1 q0 q1
  by_cases ht : TOk C n
  case neg =>
    rw [show ck C n = 2 from ck_no ht]
    go_wp2_with fail
    go_ret
    exact ⟨rfl, HB2.out⟩
  rw [show ck C n = 0 from ck_ok ht]
  have HT : Hid (TOk C n) := ht
  clear ht
  go_wp2_with fail
  go_loopw [5] (fun iv wr => ∃ k t, LnInv w w.heap.size l.length iv wr k t) (fun iv _ => l.length - (intOf iv).toNat)
  case atStart => exact ⟨0, ⟨a, c, C, n⟩, rfl, by omega, by omega, HL2.out, HT.out, HF2.out.1, HF2.out.2, HB2.out⟩
  case round =>
    obtain ⟨k, ⟨ta, tc, tC, tn⟩, hinv⟩ := hrel
    obtain ⟨rfl, hk1, hk2, hloc, hok, hf0, hf1, hbw⟩ := hinv
    clear HL2 HB2 HF2 HT
    generalize wr = wo at *
    by_cases hlt : k < l.length ∧ k < 40
    · obtain ⟨hlt1, hlt2⟩ := hlt
      obtain ⟨nb, no, rfl, hnb, hnc⟩ := HNS.out.form (by omega)
      have r0 : wo.cell? ⟨nb, no + k, none⟩ = some (.int .i64 (l.getD k 0)) := by rw [newCell hbw _ _ hnb]; exact hnc k hlt1
      generalize l.getD k 0 = z at r0
      have q0 : wo.cell? ⟨w.heap.size, 0, none⟩ = some (.slice ta tC.length tc) := hloc.c0
      have q1 : wo.cell? ⟨w.heap.size, 1, none⟩ = some (.int .i64 tn) := hloc.c1
      have b0 : 0 ≤ (k : Int) := by omega
      have b1 : (k : Int) < (l.length : Int) := by omega
      have b2 : (k : Int) < 40 := by omega
      have hlo : 2 ≤ tC.length := hok.lo
      have hhi : tC.length ≤ 16 := hok.hi
      have HLo : Hid (Loc wo w.heap.size ⟨ta, tc, tC, tn⟩) := hloc
      have HOK : Hid (TOk tC tn) := hok
      have HF : Hid (wo.frozen? ⟨w.heap.size, 0, none⟩ = false ∧ wo.frozen? ⟨w.heap.size, 1, none⟩ = false) := ⟨hf0, hf1⟩
      have HBo : Hid (Below w.heap.size w wo) := hbw
      have HSL : Hid (brg z tC.length < tC.length) := brg_lt z (by omega)
      have HBR : Hid (∀ u, Calls Try.prog 28 #[.int .i64 z, .int .i64 (tC.length : Nat)] u fun e w' => e = .returned (.int .i64 (brg z tC.length)) ∧ w' = u) := fun u => bring_any z tC.length u (by omega) (by omega)
      clear hloc hok hf0 hf1 hbw hnc
      generalize brg z tC.length = s at *
      go_wp2_with fail
      go_quiet ((go_at_call 28; exact Calls.quiet_of_same (HBR.out _)))
      have HLq : Hid (Loc (wo.drewN nq) w.heap.size ⟨ta, tc, tC, tn⟩) := HLo.out.to (below_drewN (Below.refl _ _) nq)
      have HFq : Hid ((wo.drewN nq).frozen? ⟨w.heap.size, 0, none⟩ = false ∧ (wo.drewN nq).frozen? ⟨w.heap.size, 1, none⟩ = false) := HF.out
      have HBq : Hid (Below w.heap.size w (wo.drewN nq)) := below_drewN HBo.out nq
      clear HLo HF HBo q0 q1 r0
      generalize wo.drewN nq = wq at *
      have q0 : wq.cell? ⟨w.heap.size, 0, none⟩ = some (.slice ta tC.length tc) := HLq.out.c0
      have q1 : wq.cell? ⟨w.heap.size, 1, none⟩ = some (.int .i64 tn) := HLq.out.c1
      go_wp2_with fail
      refine (adapt_ok HLq.out.sl HOK.out HSL.out).mono ?_
      rintro e w3 ⟨g, gc, rfl, ho, hb⟩
      have hlen : (ad tC tn s).length = tC.length := ad_len tC tn s
      have HOA : Hid (TOk (ad tC tn s) (min (tn + 1) 32)) := ad_ok HOK.out s
      have HSH : Hid (∀ m, m < tC.length → m ≠ s → sh (ad tC tn s) m ≤ sh tC m) := fun m hm hne => sh_le HOK.out HSL.out hm hne
      have HPW : Hid _ := part_wider HOK.out HSL.out
      have HGX : Hid (w.heap.size < g) := Nat.lt_of_lt_of_le HLq.out.low ho.lies.1
      have HSO : Hid (Sl w3 .u16 (some ⟨g, 0, none⟩) (ad tC tn s)) := ho.sl
      rw [hlen, show adN tn = min (tn + 1) 32 from rfl]
      have HLEN : Hid _ := hlen
      clear hlen ho
      generalize ad tC tn s = aC at *
      have n0 := HOK.out.n0
      have n1 := HOK.out.n1
      have HBu : Hid (Bun w (w3.alloc (.cells #[.slice (some ⟨g, 0, none⟩) tC.length gc, .int .i64 (min (tn + 1) 32)] 24)) w.heap.size w3.heap.size ⟨ta, tc, tC, tn⟩ ⟨some ⟨g, 0, none⟩, gc, aC, min (tn + 1) 32⟩) := by
        refine ⟨HLq.out.to (to_alloc hb _), ?_, below_to HBq.out (to_alloc hb _)⟩
        rw [← HLEN.out]
        exact Loc.new ⟨some ⟨g, 0, none⟩, gc, aC, min (tn + 1) 32⟩ HSO.out
      have HFu : Hid ((w3.alloc (.cells #[.slice (some ⟨g, 0, none⟩) tC.length gc, .int .i64 (min (tn + 1) 32)] 24)).frozen? ⟨w.heap.size, 0, none⟩ = false ∧ (w3.alloc (.cells #[.slice (some ⟨g, 0, none⟩) tC.length gc, .int .i64 (min (tn + 1) 32)] 24)).frozen? ⟨w.heap.size, 1, none⟩ = false) :=
        ⟨by rw [newFrozen (to_alloc hb _) _ _ HLq.out.low]; exact HFq.out.1, by rw [newFrozen (to_alloc hb _) _ _ HLq.out.low]; exact HFq.out.2⟩
      clear hb HLq HFq HBq q0 q1 HSO
      go_wp2_with fail
      generalize w3.alloc (.cells #[.slice (some ⟨g, 0, none⟩) tC.length gc, .int .i64 (min (tn + 1) 32)] 24) = v3 at *
      generalize w3.heap.size = y at *
      rw [← HLEN.out]
      refine (check_any HBu.out.l2.sl (by rw [HLEN.out]; omega)).mono ?_
      rw [HLEN.out]
      rintro e w4 ⟨rfl, hb⟩
      rw [show ck aC (min (tn + 1) 32) = 0 from ck_ok HOA.out]
      have HBu4 : Hid _ := HBu.out.to hb
      have HFu4 : Hid (w4.frozen? ⟨w.heap.size, 0, none⟩ = false ∧ w4.frozen? ⟨w.heap.size, 1, none⟩ = false) := ⟨by rw [newFrozen hb _ _ HBu.out.l1.low]; exact HFu.out.1, by rw [newFrozen hb _ _ HBu.out.l1.low]; exact HFu.out.2⟩
      clear hb HBu HFu
      have q0 : w4.cell? ⟨w.heap.size, 0, none⟩ = some (.slice ta tC.length tc) := HBu4.out.l1.c0
      have q1 : w4.cell? ⟨w.heap.size, 1, none⟩ = some (.int .i64 tn) := HBu4.out.l1.c1
      have q2 : w4.cell? ⟨y, 0, none⟩ = some (.slice (some ⟨g, 0, none⟩) tC.length gc) := by rw [← HLEN.out]; exact HBu4.out.l2.c0
      have q3 : w4.cell? ⟨y, 1, none⟩ = some (.int .i64 (min (tn + 1) 32)) := HBu4.out.l2.c1
      have hcnt : (min (tn + 1) 32 != min (tn + 1) 32) = false := by simp
      go_wp2_with fail
      clear q0 q1 q2 q3
      go_loopw [9] (fun iv u => ∃ m : Nat, m ≤ tC.length ∧ iv = .int .i64 m ∧ Bun w u w.heap.size y ⟨ta, tc, tC, tn⟩ ⟨some ⟨g, 0, none⟩, gc, aC, min (tn + 1) 32⟩ ∧ u.frozen? ⟨w.heap.size, 0, none⟩ = false ∧ u.frozen? ⟨w.heap.size, 1, none⟩ = false) (fun iv _ => tC.length - (intOf iv).toNat)
      case atStart => exact ⟨0, by omega, rfl, HBu4.out, HFu4.out.1, HFu4.out.2⟩
      case round =>
        obtain ⟨m, hm, rfl, hbu, hg0, hg1⟩ := hrel
        clear HBu4 HFu4
        have q0 : wr.cell? ⟨w.heap.size, 0, none⟩ = some (.slice ta tC.length tc) := hbu.l1.c0
        have q1 : wr.cell? ⟨w.heap.size, 1, none⟩ = some (.int .i64 tn) := hbu.l1.c1
        have q2 : wr.cell? ⟨y, 0, none⟩ = some (.slice (some ⟨g, 0, none⟩) tC.length gc) := by rw [← HLEN.out]; exact hbu.l2.c0
        have q3 : wr.cell? ⟨y, 1, none⟩ = some (.int .i64 (min (tn + 1) 32)) := hbu.l2.c1
        by_cases hmt : m < tC.length
        · have hmt' : (m : Int) < (tC.length : Int) := by omega
          by_cases hms : m = s
          · have hms' : ((m : Int) != (s : Int)) = false := by simp [hms]
            have HMS : Hid (m = s) := hms
            have HBu : Hid _ := hbu
            have HG : Hid _ := And.intro hg0 hg1
            clear hms hbu hg0 hg1
            go_wp2_with fail
            go_quiet (fail)
            have HBq : Hid _ := HBu.out.to (below_drewN (Below.refl _ _) nq)
            have HGq : Hid ((wr.drewN nq).frozen? ⟨w.heap.size, 0, none⟩ = false ∧ (wr.drewN nq).frozen? ⟨w.heap.size, 1, none⟩ = false) := HG.out
            go_wp2_with fail
            go_roundw
            case rel => exact ⟨m + 1, by omega, by go_num, HBq.out, HGq.out.1, HGq.out.2⟩
            case measure => simp [intOf]; omega
          · have hms' : ((m : Int) != (s : Int)) = true := by rw [bne_iff_ne]; omega
            have hle := HSH.out m hmt hms
            have hgt : ¬ sh tC m < sh aC m := by omega
            have HSA : Hid (∀ u, Bun2 w u w.heap.size y ⟨ta, tc, tC, tn⟩ ⟨some ⟨g, 0, none⟩, gc, aC, min (tn + 1) 32⟩ → Calls Try.prog 29 #[.agg #[.slice (some ⟨g, 0, none⟩) tC.length gc, .int .i64 (min (tn + 1) 32)], .int .i64 m] u fun e u' => e = .returned (.int .i64 (sh aC m)) ∧ Bun2 w u' w.heap.size y ⟨ta, tc, tC, tn⟩ ⟨some ⟨g, 0, none⟩, gc, aC, min (tn + 1) 32⟩) := fun u hu => by
              rw [← HLEN.out]
              refine (share_any hu.bun.l2.sl (fun i => HOA.out.u16 i) (by show aC.length ≤ _; rw [HLEN.out]; omega) (by show m < aC.length; rw [HLEN.out]; exact hmt)).mono ?_
              rintro e u' ⟨rfl, hb⟩
              exact ⟨rfl, hu.to hb⟩
            have HSB : Hid (∀ u, Bun2 w u w.heap.size y ⟨ta, tc, tC, tn⟩ ⟨some ⟨g, 0, none⟩, gc, aC, min (tn + 1) 32⟩ → Calls Try.prog 29 #[.agg #[.slice ta tC.length tc, .int .i64 tn], .int .i64 m] u fun e u' => e = .returned (.int .i64 (sh tC m)) ∧ Bun2 w u' w.heap.size y ⟨ta, tc, tC, tn⟩ ⟨some ⟨g, 0, none⟩, gc, aC, min (tn + 1) 32⟩) := fun u hu => by
              refine (share_any hu.bun.l1.sl (fun i => HOK.out.u16 i) (by show tC.length ≤ _; omega) hmt).mono ?_
              rintro e u' ⟨rfl, hb⟩
              exact ⟨rfl, hu.to hb⟩
            have hb0 : Bun2 w wr w.heap.size y ⟨ta, tc, tC, tn⟩ ⟨some ⟨g, 0, none⟩, gc, aC, min (tn + 1) 32⟩ := ⟨hbu, hg0, hg1⟩
            clear hms hbu hg0 hg1 hle
            generalize sh tC m = s1 at *
            generalize sh aC m = s2 at *
            have HQ : Hid (∀ u, Bun2 w u w.heap.size y ⟨ta, tc, tC, tn⟩ ⟨some ⟨g, 0, none⟩, gc, aC, min (tn + 1) 32⟩ → u.cell? ⟨w.heap.size, 0, none⟩ = some (.slice ta tC.length tc) ∧ u.cell? ⟨w.heap.size, 1, none⟩ = some (.int .i64 tn) ∧ u.cell? ⟨y, 0, none⟩ = some (.slice (some ⟨g, 0, none⟩) tC.length gc) ∧ u.cell? ⟨y, 1, none⟩ = some (.int .i64 (min (tn + 1) 32))) := fun u hu => ⟨hu.bun.l1.c0, hu.bun.l1.c1, by rw [← HLEN.out]; exact hu.bun.l2.c0, hu.bun.l2.c1⟩
            go_wp2_with fail
            have hbd := hb0.to (below_drew (Below.refl _ _))
            have hqd := HQ.out _ hbd
            obtain ⟨d0, d1, d2, d3⟩ := hqd
            clear hb0 q0 q1 q2 q3
            go_region_held3 (fun u => u.cell? ⟨w.heap.size, 0, none⟩ = some (.slice ta tC.length tc) ∧ u.cell? ⟨w.heap.size, 1, none⟩ = some (.int .i64 tn) ∧ u.cell? ⟨y, 0, none⟩ = some (.slice (some ⟨g, 0, none⟩) tC.length gc) ∧ u.cell? ⟨y, 1, none⟩ = some (.int .i64 (min (tn + 1) 32))) (((try dsimp only); first | assumption | (refine ⟨?_, ?_, ?_, ?_⟩ <;> first | assumption | go_keep) | go_keep)) (first
              | (go_at_call 29; with_reducible refine (HSA.out _ (by assumption)).mono ?_; rintro e wA ⟨rfl, hbA⟩; obtain ⟨pA0, pA1, pA2, pA3⟩ := HQ.out _ hbA)
              | (go_at_call 29; with_reducible refine (HSB.out _ (by assumption)).mono ?_; rintro e wB ⟨rfl, hbB⟩; obtain ⟨pB0, pB1, pB2, pB3⟩ := HQ.out _ hbB))
            all_goals
              go_wp2_with fail
              first
                | exact ⟨⟨m + 1, by omega, by go_num, hbB.bun, hbB.f0, hbB.f1⟩, by simp [intOf]; omega⟩
                | exact ⟨⟨m + 1, by omega, by go_num, hbA.bun, hbA.f0, hbA.f1⟩, by simp [intOf]; omega⟩
        · have HB2 : Hid (Bun2 w wr w.heap.size y ⟨ta, tc, tC, tn⟩ ⟨some ⟨g, 0, none⟩, gc, aC, min (tn + 1) 32⟩) := ⟨hbu, hg0, hg1⟩
          clear hbu hg0 hg1
          go_wp2_with fail
          refine (bounds_ok HB2.out.bun.l1.sl HOK.out HSL.out).mono ?_
          rintro e w5 ⟨rfl, hb⟩
          have HB5 : Hid _ := HB2.out.to hb
          clear hb HB2 q0 q1 q2 q3
          have q2 : w5.cell? ⟨y, 0, none⟩ = some (.slice (some ⟨g, 0, none⟩) tC.length gc) := by rw [← HLEN.out]; exact HB5.out.bun.l2.c0
          have q3 : w5.cell? ⟨y, 1, none⟩ = some (.int .i64 (min (tn + 1) 32)) := HB5.out.bun.l2.c1
          go_wp2_with fail
          rw [← HLEN.out]
          refine (bounds_ok HB5.out.bun.l2.sl HOA.out (by show s < aC.length; rw [HLEN.out]; exact HSL.out)).mono ?_
          rw [HLEN.out]
          rintro e w6 ⟨rfl, hb⟩
          have HB6 : Hid _ := HB5.out.to hb
          clear hb HB5 q2 q3
          have q0 : w6.cell? ⟨w.heap.size, 0, none⟩ = some (.slice ta tC.length tc) := HB6.out.bun.l1.c0
          have q1 : w6.cell? ⟨w.heap.size, 1, none⟩ = some (.int .i64 tn) := HB6.out.bun.l1.c1
          have q2 : w6.cell? ⟨y, 0, none⟩ = some (.slice (some ⟨g, 0, none⟩) tC.length gc) := by rw [← HLEN.out]; exact HB6.out.bun.l2.c0
          have q3 : w6.cell? ⟨y, 1, none⟩ = some (.int .i64 (min (tn + 1) 32)) := HB6.out.bun.l2.c1
          have f0 := HB6.out.f0
          have f1 := HB6.out.f1
          have hw1 := HPW.out.1
          have hw2 := HPW.out.2
          have hw3 := ee_le HOA.out (i := s) (by rw [HLEN.out]; exact HSL.out)
          have hw4 := eb_ee HOK.out HSL.out
          have hcmp : ((ee aC s : Int) - (eb aC s : Int)) % 4294967296 = (ee aC s : Int) - (eb aC s : Int) := by omega
          have hcmp2 : ((ee tC s : Int) - (eb tC s : Int)) % 4294967296 = (ee tC s : Int) - (eb tC s : Int) := by omega
          have hcmp3 : decide ((ee aC s : Int) - (eb aC s : Int) < (ee tC s : Int) - (eb tC s : Int)) = false := by simp; omega
          generalize ee aC s = e1 at *
          generalize eb aC s = e2 at *
          generalize ee tC s = e3 at *
          generalize eb tC s = e4 at *
          clear hw1 hw2
          go_wp2_with fail
          refine ⟨⟨k + 1, ⟨some ⟨g, 0, none⟩, gc, aC, min (tn + 1) 32⟩, by go_num, by omega, by omega, ⟨?_, ?_, ?_, ?_⟩, HOA.out, ?_, ?_, ?_⟩, by simp [intOf]; omega⟩
          · have := HB6.out.bun.l1.low; simpa [World.setCell] using this
          · rw [World.cell?_setCell_other _ _ _ _ (by simp), World.cell?_setCell_same _ _ _ q0]
            show _ = some (Value.slice (some ⟨g, 0, none⟩) aC.length gc)
            rw [HLEN.out]
          · exact World.cell?_setCell_same _ _ _ ((World.cell?_setCell_other _ _ _ _ (by simp)).trans q1)
          · have hgx := HGX.out
            exact (HB6.out.bun.l2.sl.far (by simp; omega) _).far (by simp; omega) _
          · simpa using f0
          · simpa using f1
          · exact below_set (below_set HB6.out.bun.b (by simp) _) (by simp) _
    · have HBo : Hid (Below w.heap.size w wo) := hbw
      clear hloc hok hf0 hf1 hbw
      by_cases hlt1 : k < l.length
      · have b1 : (k : Int) < (l.length : Int) := by omega
        have b2 : ¬ (k : Int) < 40 := by omega
        go_wp2_with fail
        go_ret
        exact ⟨rfl, HBo.out⟩
      · have b1 : ¬ (k : Int) < (l.length : Int) := by omega
        go_wp2_with fail
        go_ret
        exact ⟨rfl, HBo.out⟩

end Go.Proofs.Ytpijgdfhkmailaa
