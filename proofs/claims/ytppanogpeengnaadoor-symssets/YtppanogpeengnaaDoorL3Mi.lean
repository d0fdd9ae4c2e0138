/- DERIVED. The walk of the document's Average. -/
import Derived.Test.YtppanogpeengnaaDoorMA
namespace Go.Proofs.YtppanogpeengnaaDoor.L3
open Go.RowKit

set_option maxHeartbeats 1000000 in
theorem raverage_none {w : World} {a : Option Addr} {c : Nat} :
    Calls Tryd.prog 58 #[.slice a 0 c] w fun e w' => e = .returned (.tuple #[.agg #[.slice none 0 0, .int .i64 0], .int .i64 2]) ∧ Below w.heap.size w w' := by
  go_enter Tryd.func58, Tryd.ntmps58
  go_wp2_with fail
  exact bodyPost_ret (v := .tuple #[.agg #[.slice none 0 0, .int .i64 0], .int .i64 2]) (by simp [results, Tryd.results58, go_sem]) rfl ⟨rfl, by go_grown⟩

theorem av_val {L : List Tb} {i : Nat} (h0 : 0 < L.length) (hu : ∀ t ∈ L, t.C.getD i 0 < 65536) (hl : L.length ≤ 4398046511104) : IntKind.u16.wrap (IntKind.i64.wrap ((((L.length / 2 + smK L i L.length : Nat) : Int)).tdiv (L.length : Int))) = ((avE (L.map Tb.C) i : Nat) : Int) := by
  have ha : avE (L.map Tb.C) i = (L.length / 2 + smK L i L.length) / L.length := by unfold avE; rw [smK_all]; simp
  have hb : avE (L.map Tb.C) i ≤ 65535 := avE_le (by simpa using h0) (fun C hC => by
    obtain ⟨t, ht, rfl⟩ := List.mem_map.1 hC
    have := hu t ht
    omega)
  rw [Int.tdiv_eq_ediv_of_nonneg (by omega), ← Int.natCast_ediv, ← ha, IntKind.wrap_i64, IntKind.wrap_u16]
  generalize avE (L.map Tb.C) i = q at *
  omega

set_option maxRecDepth 100000 in
set_option maxHeartbeats 4000000 in
theorem raverage_some {w : World} {b o c : Nat} {L : List Tb} {t0 : Tb} (h : Ts w b o L) (h0 : L[0]? = some t0) (hl : L.length ≤ 4398046511104) :
    Calls Tryd.prog 58 #[.slice (some ⟨b, o, none⟩) L.length c] w fun e w' => (AvOk L t0.C.length ∧ Tn w w' e (av t0.C.length (L.map Tb.C)) 0) ∨ (¬ AvOk L t0.C.length ∧ e = .returned (.tuple #[.agg #[.slice none 0 0, .int .i64 0], .int .i64 2]) ∧ Below w.heap.size w w') := by
  have hL0 : 0 < L.length := by
    rcases Nat.eq_zero_or_pos L.length with e | e
    · rw [List.getElem?_eq_none (by omega)] at h0; cases h0
    · exact e
  have HT : Hid (Ts w b o L) := h
  have hm0 : t0 ∈ L := List.mem_of_getElem? h0
  have hc00 : w.cell? ⟨b, o, none⟩ = some (.slice t0.a t0.C.length t0.c) := by have := h.cell0 0 t0 h0; simpa using this
  have HC00 : Hid _ := hc00
  have hn0 : ((L.length : Int) == 0) = false := by rw [beq_eq_false_iff_ne]; omega
  have b00 : (0 : Int) < (L.length : Int) := by omega
  have hlen0 := (h.ins t0 hm0).len
  obtain ⟨ta0, tc0, C0, n0⟩ := t0
  simp only at *
  clear h h0 hc00
  have HBW : Hid (Below w.heap.size w (w.alloc (.cells #[.slice none 0 0, .int .i64 0] 63))) := from_alloc _ _
  have HZW : Hid ((w.alloc (.cells #[.slice none 0 0, .int .i64 0] 63)).cell? ⟨w.heap.size, 0, none⟩ = some (.slice none 0 0) ∧ (w.alloc (.cells #[.slice none 0 0, .int .i64 0] 63)).cell? ⟨w.heap.size, 1, none⟩ = some (.int .i64 0) ∧ (w.alloc (.cells #[.slice none 0 0, .int .i64 0] 63)).frozen? ⟨w.heap.size, 0, none⟩ = false ∧ (w.alloc (.cells #[.slice none 0 0, .int .i64 0] 63)).frozen? ⟨w.heap.size, 1, none⟩ = false) := by unfold Hid; simp
  have HWs : Hid ((w.alloc (.cells #[.slice none 0 0, .int .i64 0] 63)).heap.size = w.heap.size + 1) := by unfold Hid; simp
  go_enter Tryd.func58, Tryd.ntmps58
  go_wp2_with fail
  generalize w.alloc (.cells #[.slice none 0 0, .int .i64 0] 63) = W at *
  go_loopw [4] (fun iv wr => AvInv W L C0.length iv wr) (fun iv _ => L.length - (intOf iv).toNat)
  case atStart => exact ⟨0, by omega, rfl, Below.refl _ _, fun j t hj => by omega⟩
  case round =>
    obtain ⟨k, hk, rfl, hb, hall⟩ := hrel
    have HA : Hid _ := hall
    clear hall
    have hsz := hb.size
    rw [HWs.out] at hsz
    have hbl := HT.out.low
    have e0 : wr.cell? ⟨b, o, none⟩ = some (.slice ta0 C0.length tc0) := by rw [newCell hb _ _ (by rw [HWs.out]; omega), newCell HBW.out _ _ hbl]; exact HC00.out
    have d0 : wr.cell? ⟨w.heap.size, 0, none⟩ = some (.slice none 0 0) := by rw [newCell hb _ _ (by rw [HWs.out]; omega)]; exact HZW.out.1
    have d1 : wr.cell? ⟨w.heap.size, 1, none⟩ = some (.int .i64 0) := by rw [newCell hb _ _ (by rw [HWs.out]; omega)]; exact HZW.out.2.1
    have f0 : wr.frozen? ⟨w.heap.size, 0, none⟩ = false := by rw [newFrozen hb _ _ (by rw [HWs.out]; omega)]; exact HZW.out.2.2.1
    have f1 : wr.frozen? ⟨w.heap.size, 1, none⟩ = false := by rw [newFrozen hb _ _ (by rw [HWs.out]; omega)]; exact HZW.out.2.2.2
    by_cases hlt : k < L.length
    · have hget := List.getElem?_eq_getElem hlt
      have hin := (HT.out.ins L[k] (List.getElem_mem _))
      have hc0 := HT.out.cell0 k _ hget
      have hc1 := HT.out.cell1 k _ hget
      have HG : Hid (L[k]? = some L[k]) := hget
      have hmem : Hid (L[k] ∈ L) := List.getElem_mem _
      generalize L[k] = t at *
      obtain ⟨ta, tc, tC, tn⟩ := t
      have hsl : Sl w .u16 ta tC := hin.sl
      have hlen : tC.length ≤ 70368744177664 := hin.len
      simp only at *
      have HC0 : Hid _ := hc0
      have HC1 : Hid _ := hc1
      have HSLw : Hid (Sl w .u16 ta tC) := hsl
      have b0 : 0 ≤ (k : Int) := by omega
      have b1 : (k : Int) < (L.length : Int) := by omega
      have HB : Hid (Below W.heap.size W wr) := hb
      have HBd : Hid (Below W.heap.size W wr.drew) := below_drew hb
      have HCK : Hid (∀ u, Below W.heap.size W u → Calls Tryd.prog 53 #[.agg #[.slice ta tC.length tc, .int .i64 tn]] u fun e u' => e = .returned (.int .i64 (ck tC tn)) ∧ Below W.heap.size W u') := fun u hu => (rcheck_any ((HSLw.out.to HBW.out).to hu) (by omega)).mono fun e u' h => ⟨h.1, below_to hu h.2⟩
      have HQ : Hid (∀ u, Below W.heap.size W u → u.cell? ⟨b, o + k * 2, none⟩ = some (.slice ta tC.length tc) ∧ u.cell? ⟨b, o + k * 2 + 1, none⟩ = some (.int .i64 tn) ∧ u.cell? ⟨b, o, none⟩ = some (.slice ta0 C0.length tc0)) := fun u hu => ⟨by rw [newCell hu _ _ (by rw [HWs.out]; omega), newCell HBW.out _ _ hbl]; exact HC0.out, by rw [newCell hu _ _ (by rw [HWs.out]; omega), newCell HBW.out _ _ hbl]; exact HC1.out, by rw [newCell hu _ _ (by rw [HWs.out]; omega), newCell HBW.out _ _ hbl]; exact HC00.out⟩
      have HD : Hid (∀ u, Below W.heap.size W u → u.cell? ⟨w.heap.size, 0, none⟩ = some (.slice none 0 0) ∧ u.cell? ⟨w.heap.size, 1, none⟩ = some (.int .i64 0) ∧ u.frozen? ⟨w.heap.size, 0, none⟩ = false ∧ u.frozen? ⟨w.heap.size, 1, none⟩ = false) := fun u hu => by
        rw [newCell hu _ _ (by rw [HWs.out]; omega), newCell hu _ _ (by rw [HWs.out]; omega), newFrozen hu _ _ (by rw [HWs.out]; omega), newFrozen hu _ _ (by rw [HWs.out]; omega)]
        exact HZW.out
      obtain ⟨p0, p1, p2⟩ := HQ.out _ HBd.out
      have hbd := HBd.out
      clear hin hc0 hc1 hget hsl hb e0 d0 d1 f0 f1
      by_cases hok : TOk tC tn
      · have HOK : Hid (TOk tC tn) := hok
        rw [show ck tC tn = 0 from ck_ok hok] at HCK
        clear hok
        by_cases hln : tC.length = C0.length
        · have hln' : ((tC.length : Int) != (C0.length : Int)) = false := by simp [hln]
          have HLN : Hid (tC.length = C0.length) := hln
          clear hln
          go_wp2_with fail
          go_region_held3 (fun u => u.cell? ⟨b, o + k * 2, none⟩ = some (.slice ta tC.length tc) ∧ u.cell? ⟨b, o + k * 2 + 1, none⟩ = some (.int .i64 tn) ∧ u.cell? ⟨b, o, none⟩ = some (.slice ta0 C0.length tc0)) (((try dsimp only); first | assumption | (refine ⟨?_, ?_, ?_⟩ <;> first | assumption | go_keep) | go_keep)) (first
            | (go_at_call 53; with_reducible refine (HCK.out _ (by assumption)).mono ?_; rintro e wA ⟨rfl, hbA⟩; obtain ⟨pA0, pA1, pA2⟩ := HQ.out _ hbA))
          all_goals
            go_wp2_with fail
            go_roundw
            case rel => exact ⟨k + 1, by omega, by go_num, hbA, fun j t hj ht => by
              by_cases e : j = k
              · subst e; rw [HG.out] at ht; cases ht; exact ⟨HOK.out, HLN.out⟩
              · exact HA.out j t (by omega) ht⟩
            case measure => simp [intOf]; omega
        · have hln' : ((tC.length : Int) != (C0.length : Int)) = true := by rw [bne_iff_ne]; omega
          go_wp2_with fail
          go_region_held3 (fun u => u.cell? ⟨b, o + k * 2, none⟩ = some (.slice ta tC.length tc) ∧ u.cell? ⟨b, o + k * 2 + 1, none⟩ = some (.int .i64 tn) ∧ u.cell? ⟨b, o, none⟩ = some (.slice ta0 C0.length tc0)) (((try dsimp only); first | assumption | (refine ⟨?_, ?_, ?_⟩ <;> first | assumption | go_keep) | go_keep)) (first
            | (go_at_call 53; with_reducible refine (HCK.out _ (by assumption)).mono ?_; rintro e wA ⟨rfl, hbA⟩; obtain ⟨pA0, pA1, pA2⟩ := HQ.out _ hbA))
          all_goals
            obtain ⟨d0, d1, f0, f1⟩ := HD.out _ hbA
            have HBA : Hid _ := hbA
            go_wp2_with fail
            refine bodyPost_ret (v := .tuple #[.agg #[.slice none 0 0, .int .i64 0], .int .i64 2]) (by simp [results, Tryd.results58, go_sem, d0, d1]) rfl (Or.inr ⟨fun hav => hln (hav _ hmem.out).2, rfl, ?_⟩)
            exact below_set (below_set (HBW.out.trans (HBA.out.mono (by rw [HWs.out]; omega))) (by simp) _) (by simp) _
      · rw [show ck tC tn = 2 from ck_no hok] at HCK
        go_wp2_with fail
        refine wp_region_held_drew (S := (fun u => u.cell? ⟨b, o + k * 2, none⟩ = some (.slice ta tC.length tc) ∧ u.cell? ⟨b, o + k * 2 + 1, none⟩ = some (.int .i64 tn))) (by kernel_rfl) ⟨p0, p1⟩ (fun hHeld => ?_)
        change wpAnyH _ _ _ _ _ 20 #[false, false, false, false, false, false, false, false, false, false, false, false, false, false, false, false, false, false, false, false] _ _
        refine wpAnyH_take (i := 0) (oi := { dst := some 19, op := Op.move (Operand.tmp 0), type := 60, pos := "ref.go:114", after := #[], guard := none }) (v := ?_) rfl (by kernel_rfl) (by kernel_rfl) (by kernel_rfl) (fun _ _ _ h => h) (Or.inl ⟨by rfl, ?hy⟩) (by assumption) ?_
        case hy =>
          intro wz hSw
          (try dsimp only at hSw)
          first | (go_simp; done) | (go_simp; with_reducible rfl)
        simp only [Act.put, List.setIfInBounds_toArray, List.set_cons_zero, List.set_cons_succ]
        refine wpAnyH_take (i := 1) (oi := { dst := some 20, op := Op.move (Operand.tmp 4), type := 3, pos := "ref.go:114", after := #[], guard := none }) (v := ?_) rfl (by kernel_rfl) (by kernel_rfl) (by kernel_rfl) (fun _ _ _ h => h) (Or.inl ⟨by rfl, ?hy⟩) (by assumption) ?_
        case hy =>
          intro wz hSw
          (try dsimp only at hSw)
          first | (go_simp; done) | (go_simp; with_reducible rfl)
        simp only [Act.put, List.setIfInBounds_toArray, List.set_cons_zero, List.set_cons_succ]
        refine wpAnyH_take (i := 2) (oi := { dst := some 21, op := Op.indexAddr 60 (Operand.tmp 19) (Operand.tmp 20), type := 0, pos := "ref.go:114", after := #[{ on := 0, ground := Ground.data }, { on := 1, ground := Ground.data }], guard := none }) (v := ?_) rfl (by kernel_rfl) (by kernel_rfl) (by kernel_rfl) (fun _ _ _ h => h) (Or.inl ⟨by rfl, ?hy⟩) (by assumption) ?_
        case hy =>
          intro wz hSw
          (try dsimp only at hSw)
          first | (go_simp; done) | (go_simp; with_reducible rfl)
        simp only [Act.put, List.setIfInBounds_toArray, List.set_cons_zero, List.set_cons_succ]
        refine wpAnyH_take (i := 3) (oi := { dst := some 22, op := Op.load 63 (Operand.tmp 21), type := 63, pos := "ref.go:114", after := #[{ on := 2, ground := Ground.data }], guard := none }) (v := ?_) rfl (by kernel_rfl) (by kernel_rfl) (by kernel_rfl) (fun _ _ _ h => h) (Or.inl ⟨by rfl, ?hy⟩) (by assumption) ?_
        case hy =>
          intro wz hSw
          (try dsimp only at hSw)
          first | (go_simp; done) | (go_simp; with_reducible rfl)
        simp only [Act.put, List.setIfInBounds_toArray, List.set_cons_zero, List.set_cons_succ]
        refine wpAnyH_ready (rs := [4]) (by kernel_rfl) (by simp) ?_
        refine AllReadyH.cons rfl (fun K hK => ?_) AllReadyH.nil
        go_simp
        refine (HCK.out _ hbd).mono ?_
        rintro e wA ⟨rfl, hbA⟩
        obtain ⟨pA0, pA1, pA2⟩ := HQ.out _ hbA
        go_wp2_with fail
        refine hK.out _ _ ⟨pA0, pA1⟩ (fun hHeld2 => ?_)
        clear hK K
        (try simp only [List.setIfInBounds_toArray, List.set_cons_zero, List.set_cons_succ])
        refine wpAnyH_take (i := 5) (oi := { dst := some 24, op := Op.binOp BinOp.neq 29 (Operand.tmp 23) (Operand.const (Value.int IntKind.i64 0)) 29, type := 4, pos := "ref.go:114", after := #[{ on := 4, ground := Ground.data }], guard := none }) (v := ?_) rfl (by kernel_rfl) (by kernel_rfl) (by kernel_rfl) (fun _ _ _ h => h) (Or.inl ⟨by rfl, ?hy⟩) (by assumption) ?_
        case hy =>
          intro wz hSw
          (try dsimp only at hSw)
          first | (go_simp; done) | (go_simp; with_reducible rfl)
        simp only [Act.put, List.setIfInBounds_toArray, List.set_cons_zero, List.set_cons_succ]
        refine wpAnyH_take (i := 6) (oi := { dst := some 25, op := Op.move (Operand.tmp 24), type := 4, pos := "ref.go:114", after := #[{ on := 5, ground := Ground.data }, { on := 4, ground := Ground.chain }], guard := none }) (v := ?_) rfl (by kernel_rfl) (by kernel_rfl) (by kernel_rfl) (fun _ _ _ h => h) (Or.inl ⟨by rfl, ?hy⟩) (by assumption) ?_
        case hy =>
          intro wz hSw
          (try dsimp only at hSw)
          first | (go_simp; done) | (go_simp; with_reducible rfl)
        simp only [Act.put, List.setIfInBounds_toArray, List.set_cons_zero, List.set_cons_succ]
        refine wpAnyH_take (i := 7) (oi := { dst := some 26, op := Op.move (Operand.tmp 0), type := 60, pos := "ref.go:114", after := #[{ on := 6, ground := Ground.guard }], guard := some (6, false) }) (v := undef) rfl (by kernel_rfl) (by kernel_rfl) (by kernel_rfl) (fun _ _ _ h => h) (Or.inr ⟨by rfl, rfl⟩) (by assumption) ?_
        simp only [Act.put, List.setIfInBounds_toArray, List.set_cons_zero, List.set_cons_succ]
        refine wpAnyH_take (i := 8) (oi := { dst := some 27, op := Op.move (Operand.tmp 4), type := 3, pos := "ref.go:114", after := #[{ on := 6, ground := Ground.guard }], guard := some (6, false) }) (v := undef) rfl (by kernel_rfl) (by kernel_rfl) (by kernel_rfl) (fun _ _ _ h => h) (Or.inr ⟨by rfl, rfl⟩) (by assumption) ?_
        simp only [Act.put, List.setIfInBounds_toArray, List.set_cons_zero, List.set_cons_succ]
        refine wpAnyH_take (i := 9) (oi := { dst := some 28, op := Op.indexAddr 60 (Operand.tmp 26) (Operand.tmp 27), type := 0, pos := "ref.go:114", after := #[{ on := 7, ground := Ground.data }, { on := 8, ground := Ground.data }, { on := 6, ground := Ground.guard }], guard := some (6, false) }) (v := undef) rfl (by kernel_rfl) (by kernel_rfl) (by kernel_rfl) (fun _ _ _ h => h) (Or.inr ⟨by rfl, rfl⟩) (by assumption) ?_
        simp only [Act.put, List.setIfInBounds_toArray, List.set_cons_zero, List.set_cons_succ]
        refine wpAnyH_take (i := 10) (oi := { dst := some 29, op := Op.fieldAddr 63 (Operand.tmp 28) 0, type := 0, pos := "ref.go:114", after := #[{ on := 9, ground := Ground.data }, { on := 6, ground := Ground.guard }], guard := some (6, false) }) (v := undef) rfl (by kernel_rfl) (by kernel_rfl) (by kernel_rfl) (fun _ _ _ h => h) (Or.inr ⟨by rfl, rfl⟩) (by assumption) ?_
        simp only [Act.put, List.setIfInBounds_toArray, List.set_cons_zero, List.set_cons_succ]
        refine wpAnyH_take (i := 11) (oi := { dst := some 30, op := Op.load 61 (Operand.tmp 29), type := 61, pos := "ref.go:114", after := #[{ on := 10, ground := Ground.data }, { on := 6, ground := Ground.guard }], guard := some (6, false) }) (v := undef) rfl (by kernel_rfl) (by kernel_rfl) (by kernel_rfl) (fun _ _ _ h => h) (Or.inr ⟨by rfl, rfl⟩) (by assumption) ?_
        simp only [Act.put, List.setIfInBounds_toArray, List.set_cons_zero, List.set_cons_succ]
        refine wpAnyH_take (i := 12) (oi := { dst := some 31, op := Op.call { callee := Callee.builtin Builtin.len, args := #[Operand.tmp 30], argTypes := #[61] }, type := 3, pos := "ref.go:114", after := #[{ on := 11, ground := Ground.data }, { on := 6, ground := Ground.guard }], guard := some (6, false) }) (v := undef) rfl (by kernel_rfl) (by kernel_rfl) (by kernel_rfl) (fun _ _ _ h => h) (Or.inr ⟨by rfl, rfl⟩) (by assumption) ?_
        simp only [Act.put, List.setIfInBounds_toArray, List.set_cons_zero, List.set_cons_succ]
        refine wpAnyH_take (i := 13) (oi := { dst := some 32, op := Op.move (Operand.tmp 0), type := 60, pos := "ref.go:114", after := #[{ on := 6, ground := Ground.guard }], guard := some (6, false) }) (v := undef) rfl (by kernel_rfl) (by kernel_rfl) (by kernel_rfl) (fun _ _ _ h => h) (Or.inr ⟨by rfl, rfl⟩) (by assumption) ?_
        simp only [Act.put, List.setIfInBounds_toArray, List.set_cons_zero, List.set_cons_succ]
        refine wpAnyH_take (i := 14) (oi := { dst := some 33, op := Op.indexAddr 60 (Operand.tmp 32) (Operand.const (Value.int IntKind.i64 0)), type := 0, pos := "ref.go:114", after := #[{ on := 13, ground := Ground.data }, { on := 6, ground := Ground.guard }], guard := some (6, false) }) (v := undef) rfl (by kernel_rfl) (by kernel_rfl) (by kernel_rfl) (fun _ _ _ h => h) (Or.inr ⟨by rfl, rfl⟩) (by assumption) ?_
        simp only [Act.put, List.setIfInBounds_toArray, List.set_cons_zero, List.set_cons_succ]
        refine wpAnyH_take (i := 15) (oi := { dst := some 34, op := Op.fieldAddr 63 (Operand.tmp 33) 0, type := 0, pos := "ref.go:114", after := #[{ on := 14, ground := Ground.data }, { on := 6, ground := Ground.guard }], guard := some (6, false) }) (v := undef) rfl (by kernel_rfl) (by kernel_rfl) (by kernel_rfl) (fun _ _ _ h => h) (Or.inr ⟨by rfl, rfl⟩) (by assumption) ?_
        simp only [Act.put, List.setIfInBounds_toArray, List.set_cons_zero, List.set_cons_succ]
        refine wpAnyH_take (i := 16) (oi := { dst := some 35, op := Op.load 61 (Operand.tmp 34), type := 61, pos := "ref.go:114", after := #[{ on := 15, ground := Ground.data }, { on := 6, ground := Ground.guard }], guard := some (6, false) }) (v := undef) rfl (by kernel_rfl) (by kernel_rfl) (by kernel_rfl) (fun _ _ _ h => h) (Or.inr ⟨by rfl, rfl⟩) (by assumption) ?_
        simp only [Act.put, List.setIfInBounds_toArray, List.set_cons_zero, List.set_cons_succ]
        refine wpAnyH_take (i := 17) (oi := { dst := some 36, op := Op.call { callee := Callee.builtin Builtin.len, args := #[Operand.tmp 35], argTypes := #[61] }, type := 3, pos := "ref.go:114", after := #[{ on := 16, ground := Ground.data }, { on := 6, ground := Ground.guard }], guard := some (6, false) }) (v := undef) rfl (by kernel_rfl) (by kernel_rfl) (by kernel_rfl) (fun _ _ _ h => h) (Or.inr ⟨by rfl, rfl⟩) (by assumption) ?_
        simp only [Act.put, List.setIfInBounds_toArray, List.set_cons_zero, List.set_cons_succ]
        refine wpAnyH_take (i := 18) (oi := { dst := some 37, op := Op.binOp BinOp.neq 3 (Operand.tmp 31) (Operand.tmp 36) 3, type := 4, pos := "ref.go:114", after := #[{ on := 12, ground := Ground.data }, { on := 17, ground := Ground.data }, { on := 6, ground := Ground.guard }], guard := some (6, false) }) (v := undef) rfl (by kernel_rfl) (by kernel_rfl) (by kernel_rfl) (fun _ _ _ h => h) (Or.inr ⟨by rfl, rfl⟩) (by assumption) ?_
        simp only [Act.put, List.setIfInBounds_toArray, List.set_cons_zero, List.set_cons_succ]
        refine wpAnyH_take (i := 19) (oi := { dst := some 38, op := Op.pick (Operand.tmp 25) (Operand.const (Value.bool true)) (Operand.tmp 37), type := 4, pos := "ref.go:114", after := #[{ on := 6, ground := Ground.data }, { on := 18, ground := Ground.data }], guard := none }) (v := ?_) rfl (by kernel_rfl) (by kernel_rfl) (by kernel_rfl) (fun _ _ _ h => h) (Or.inl ⟨by rfl, ?hy⟩) (by assumption) ?_
        case hy =>
          intro wz hSw
          (try dsimp only at hSw)
          first | (go_simp; done) | (go_simp; with_reducible rfl)
        simp only [Act.put, List.setIfInBounds_toArray, List.set_cons_zero, List.set_cons_succ]
        refine wpAnyH_done (by kernel_rfl) ?_ _
        all_goals
          obtain ⟨d0, d1, f0, f1⟩ := HD.out _ hbA
          have HBA : Hid _ := hbA
          go_wp2_with fail
          refine bodyPost_ret (v := .tuple #[.agg #[.slice none 0 0, .int .i64 0], .int .i64 2]) (by simp [results, Tryd.results58, go_sem, d0, d1]) rfl (Or.inr ⟨fun hav => hok (hav _ hmem.out).1, rfl, ?_⟩)
          exact below_set (below_set (HBW.out.trans (HBA.out.mono (by rw [HWs.out]; omega))) (by simp) _) (by simp) _
    · generalize wr = wo at *
      have HAV : Hid (AvOk L C0.length) := fun t ht => by
        obtain ⟨j, hj, e⟩ := List.getElem_of_mem ht
        exact HA.out j t (by omega) (by rw [List.getElem?_eq_getElem hj, e])
      have hT0 : TOk C0 n0 := (HAV.out _ hm0).1
      have hhi := hT0.hi
      have hlo := hT0.lo
      have HB : Hid (Below W.heap.size W wo) := hb
      have hgw0 : Gw (wo.alloc (.cells #[.slice none 0 0, .int .i64 0] 63)) (wo.heap.size + 1) wo.heap.size [] 0 none 0 (wo.alloc (.cells #[.slice none 0 0, .int .i64 0] 63)) := by
        have := Gw.start (W := wo.alloc (.cells #[.slice none 0 0, .int .i64 0] 63)) (X := wo.heap.size) (n := 0) (by simp) (by simp) (by simp) (by simp)
        rw [show (wo.alloc (.cells #[.slice none 0 0, .int .i64 0] 63)).heap.size = wo.heap.size + 1 from by simp] at this
        exact this
      have HGW0 : Hid _ := hgw0
      have HBV : Hid (Below w.heap.size w (wo.alloc (.cells #[.slice none 0 0, .int .i64 0] 63))) := to_alloc (HBW.out.trans (HB.out.mono (by rw [HWs.out]; omega))) _
      have HZV : Hid ((wo.alloc (.cells #[.slice none 0 0, .int .i64 0] 63)).cell? ⟨w.heap.size, 0, none⟩ = some (.slice none 0 0) ∧ (wo.alloc (.cells #[.slice none 0 0, .int .i64 0] 63)).cell? ⟨w.heap.size, 1, none⟩ = some (.int .i64 0) ∧ (wo.alloc (.cells #[.slice none 0 0, .int .i64 0] 63)).frozen? ⟨w.heap.size, 0, none⟩ = false ∧ (wo.alloc (.cells #[.slice none 0 0, .int .i64 0] 63)).frozen? ⟨w.heap.size, 1, none⟩ = false) := by
        unfold Hid
        rw [newCell (from_alloc wo _) _ _ (by omega), newCell (from_alloc wo _) _ _ (by omega), newFrozen (from_alloc wo _) _ _ (by omega), newFrozen (from_alloc wo _) _ _ (by omega)]
        exact ⟨d0, d1, f0, f1⟩
      have b1 : ¬ (k : Int) < (L.length : Int) := by omega
      clear hb hgw0 e0 d0 d1 f0 f1 HA
      go_wp2_with fail
      generalize wo.alloc (.cells #[.slice none 0 0, .int .i64 0] 63) = V at *
      generalize wo.heap.size = X at *
      go_loopw [6] (fun iv wr => ∃ (i : Nat) (ga : Option Addr) (gc : Nat), i ≤ C0.length ∧ iv = .int .i64 i ∧ Gw V (X + 1) X ((av C0.length (L.map Tb.C)).take i) 0 ga gc wr) (fun iv _ => C0.length - (intOf iv).toNat)
      case atStart => exact ⟨0, none, 0, by omega, rfl, by simpa using HGW0.out⟩
      case round =>
        obtain ⟨i, ga, gc, hi, rfl, hgw⟩ := hrel
        clear HGW0
        have hlen : ((av C0.length (L.map Tb.C)).take i).length = i := by rw [List.length_take, av_len]; omega
        have c0 := hgw.c0
        have c1 := hgw.c1
        have f0 := hgw.f0
        rw [hlen] at c0
        have hsB := hgw.sB
        have HLEN : Hid (((av C0.length (L.map Tb.C)).take i).length = i) := hlen
        have HGW : Hid (Gw V (X + 1) X ((av C0.length (L.map Tb.C)).take i) 0 ga gc wr) := hgw
        have HCW : Hid (∀ q j, q < w.heap.size → wr.cell? ⟨q, j, none⟩ = w.cell? ⟨q, j, none⟩) := fun q j hq => by rw [HGW.out.cell _ _ (by omega) (by omega), newCell HBV.out _ _ hq]
        have e0 : wr.cell? ⟨b, o, none⟩ = some (.slice ta0 C0.length tc0) := by rw [HCW.out _ _ hbl]; exact HC00.out
        by_cases hit : i < C0.length
        · have hit' : (i : Int) < (C0.length : Int) := by omega
          have HTK : Hid ((av C0.length (L.map Tb.C)).take i ++ [avE (L.map Tb.C) i] = (av C0.length (L.map Tb.C)).take (i + 1)) := by
            have hh := av_get C0.length (L.map Tb.C) i hit
            unfold Hid
            rw [List.take_add_one, List.getElem?_eq_getElem (by rw [av_len]; exact hit)]
            rw [getD_lt _ (by rw [av_len]; exact hit)] at hh
            rw [hh]; rfl
          have HLE : Hid (∀ k, k ≤ L.length → smK L i k ≤ k * 65535) := smK_le L i (fun t ht => (HT.out.ins t ht).u16 i)
          have HV : Hid _ := av_val (i := i) hL0 (fun t ht => (HT.out.ins t ht).u16 i) hl
          clear hgw hlen
          go_wp2_with fail
          go_loop [7, 8] (fun sv kv => ∃ k : Nat, k ≤ L.length ∧ kv = .int .i64 k ∧ sv = .int .i64 ((L.length / 2 + smK L i k : Nat) : Int)) (fun _ kv => L.length - (intOf kv).toNat)
          case atStart => exact ⟨0, by omega, rfl, by rw [smK_zero]; simp⟩
          case round =>
            obtain ⟨k, hk, rfl, rfl⟩ := hrel
            have hle := HLE.out k hk
            by_cases hkt : k < L.length
            · have hget := List.getElem?_eq_getElem hkt
              have HSU := smK_succ L i k L[k] hget
              have hin := (HT.out.ins L[k] (List.getElem_mem _))
              have hc0 := HT.out.cell0 k _ hget
              have hlk := (HAV.out _ (List.getElem_mem hkt)).2
              generalize L[k] = t at *
              obtain ⟨ta, tc, tC, tn⟩ := t
              simp only at *
              rw [hlk] at hc0
              obtain ⟨b', o', rfl, hbl', hcell⟩ := hin.sl.form (by show 0 < tC.length; omega)
              have r0 : wr.cell? ⟨b, o + k * 2, none⟩ = some (.slice (some ⟨b', o', none⟩) C0.length tc) := by rw [HCW.out _ _ hbl]; exact hc0
              have r2 : wr.cell? ⟨b', o' + i, none⟩ = some (.int .u16 (tC.getD i 0 : Nat)) := by rw [HCW.out _ _ hbl']; exact hcell i (by show i < tC.length; omega)
              have hu := hin.u16 i
              simp only at hu
              generalize tC.getD i 0 = x at *
              have HSU' : Hid _ := HSU
              have b0 : 0 ≤ (k : Int) := by omega
              have b2 : (k : Int) < (L.length : Int) := by omega
              have b3 : 0 ≤ (i : Int) := by omega
              clear HSU hin hc0 hcell hget hlk
              go_wp2_with fail
              go_round
              case rel => exact ⟨k + 1, by omega, by go_num, by rw [HSU'.out]; congr 1; omega⟩
              case measure => simp [intOf]; omega
            · have hk' : k = L.length := by omega
              subst hk'
              have b2 : ¬ (L.length : Int) < (L.length : Int) := by omega
              have hXl : X < wr.heap.size := by omega
              have hne1 : (L.length : Int) ≠ 0 := by omega
              have hne3 : L.length ≠ 0 := by omega
              generalize hss : L.length / 2 + smK L i L.length = ss at *
              have hss' : (ss : Int) ≤ 288230376151711744 := by omega
              clear hss
              go_wp2_with fail
              go_region_law ((refine step_append_num _ (by rfl) _ _ (by rfl) (X + 1) i ((av C0.length (L.map Tb.C)).take i) (.slice ga i gc) _ (avE (L.map Tb.C) i) (by exact HV.out) HLEN.out (by have := HGW.out.own; rw [HLEN.out] at this; exact this) hsB (by omega) (by rfl) (by rfl) ?_; intro g cap w' how' hgr' hat' hlt'; have haf := HGW.out.after (by rw [HLEN.out]; exact hgr'); rw [HLEN.out] at haf; have z0 := haf.1; have z1 := haf.2.1; have z2 := haf.2.2))
              all_goals
                go_wp2_with fail
                have hst := HGW.out.step (y := avE (L.map Tb.C) i) (by rw [HLEN.out]; exact how') (by rw [HLEN.out]; exact hgr')
                rw [HTK.out, HLEN.out] at hst
                go_roundw
                case rel => exact ⟨i + 1, _, cap, by omega, by go_num, hst⟩
                case measure => simp [intOf]; omega
        · have hi' : i = C0.length := by omega
          subst hi'
          have hit' : ¬ (C0.length : Int) < (C0.length : Int) := by omega
          rw [List.take_of_length_le (by rw [av_len]; exact Nat.le_refl _)] at hgw
          have z0 : wr.cell? ⟨w.heap.size, 0, none⟩ = some (.slice none 0 0) := by rw [hgw.cell _ _ (by omega) (by omega)]; exact HZV.out.1
          have z1 : wr.cell? ⟨w.heap.size, 1, none⟩ = some (.int .i64 0) := by rw [hgw.cell _ _ (by omega) (by omega)]; exact HZV.out.2.1
          have z2 : wr.frozen? ⟨w.heap.size, 0, none⟩ = false := by rw [hgw.frozen _ _ (by omega) (by omega)]; exact HZV.out.2.2.1
          have z3 : wr.frozen? ⟨w.heap.size, 1, none⟩ = false := by rw [hgw.frozen _ _ (by omega) (by omega)]; exact HZV.out.2.2.2
          obtain ⟨g, rfl, hgB⟩ : ∃ g, ga = some ⟨g, 0, none⟩ ∧ X + 1 ≤ g := by
            obtain ⟨g, cap, hv, hb, _⟩ := hgw.own.form (by rw [av_len]; omega)
            simp only [Value.slice.injEq] at hv
            exact ⟨g, hv.1, hb⟩
          have HSL : Hid (Ow wr (X + 1) g C0.length gc (av C0.length (L.map Tb.C))) := ⟨by have := hgw.own; rw [av_len] at this; exact this⟩
          have HBE : Hid (Below w.heap.size w wr) := hgw.below HBV.out (by omega)
          have HGB : Hid (X + 1 ≤ g) := hgB
          clear hgw hlen hgB
          go_wp2_with fail
          refine bodyPost_ret (v := .tuple #[.agg #[.slice (some ⟨g, 0, none⟩) C0.length gc, .int .i64 0], .int .i64 0]) (by simp [results, Tryd.results58, go_sem, z0, z1]) rfl (Or.inl ⟨HAV.out, _, gc, by rw [av_len], ?_, ?_⟩)
          · have := HGB.out
            rw [av_len]
            exact ((HSL.out.far (by simp; omega) _).far (by simp; omega) _).mono (by omega)
          · exact below_set (below_set HBE.out (by simp) _) (by simp) _

end Go.Proofs.YtppanogpeengnaaDoor.L3
