/- DERIVED. The walk of GridPlays. -/
import Derived.Test.YtppofodijlofdaaEb
import Derived.Deep.RegionHeld3
namespace Go.Proofs.Ytppofodijlofdaa
open Go.RowKit

/-- a row that the call made, being written -/
structure Wr (L : List Bl) (x : Value) (u wr : World) : Prop where
  sv : Sv x u wr
  row : ∀ g, x.ownBlock = some g → ∃ xs : List Value, wr.heap[g]? = some (.cells xs.toArray 40 (0, 0)) ∧ L.length * 23 ≤ xs.length
theorem Wr.start {L : List Bl} {x : Value} {u : World} {s : Nat} (h : Or u s x L) : Wr L x u u := by
  refine ⟨Sv.refl _ _, fun g hg => ?_⟩
  obtain ⟨hl, hv⟩ := h.own
  rcases hv with ⟨rfl, hn⟩ | ⟨g', cap, cur, rfl, h2, h3, h4, h5, h6, h7⟩
  · cases hg
  · obtain rfl : g' = g := by simpa [Value.ownBlock] using hg
    exact ⟨cur.toList, by simpa using h3, by have := Nat.mul_le_mul_right 23 h4; simp; omega⟩
theorem Wr.set {L : List Bl} {x : Value} {u wr : World} (h : Wr L x u wr) {g : Nat} (hg : x.ownBlock = some g) (o : Nat) (y : Value) : Wr L x u (wr.setCell ⟨g, o, none⟩ y) := by
  refine ⟨h.sv.set hg o y, fun g' hg' => ?_⟩
  obtain rfl : g = g' := by rw [hg] at hg'; simpa using hg'
  obtain ⟨xs, h1, h2⟩ := h.row g hg
  exact ⟨xs.set o y, heap_set h1 o y, by simpa using h2⟩
theorem Wr.at {L : List Bl} {x : Value} {u wr : World} (h : Wr L x u wr) {g : Nat} (hg : x.ownBlock = some g) {k : Nat} (hk : k < L.length) : ∃ y, wr.cell? ⟨g, k * 23, none⟩ = some y ∧ wr.frozen? ⟨g, k * 23, none⟩ = false := by
  obtain ⟨xs, h1, h2⟩ := h.row g hg
  have hlt : k * 23 < xs.length := by omega
  refine ⟨xs[k * 23]'hlt, ?_, by simp [World.frozen?, h1]⟩
  simp only [World.cell?, h1]
  simp [hlt]
theorem wrapk_i64 (n : Int) : I64 (IntKind.i64.wrap n) := by
  unfold I64
  simp [IntKind.wrap, IntKind.signed, IntKind.bits] <;> (try split) <;> omega
theorem Or.slice {u : World} {s : Nat} {x : Value} {L : List Bl} (h : Or u s x L) : ∃ aa ca, x = .slice aa L.length ca ∧ (0 < L.length → ∃ g, aa = some ⟨g, 0, none⟩) := by
  obtain ⟨hl, hv⟩ := h.own
  rcases hv with ⟨rfl, hn⟩ | ⟨g, cap, cur, rfl, -⟩
  · exact ⟨none, 0, by rw [hn], fun e => by omega⟩
  · exact ⟨_, cap, rfl, fun _ => ⟨g, rfl⟩⟩
set_option maxRecDepth 100000 in
set_option maxHeartbeats 8000000 in
theorem plays_walk {w : World} {X Y W H : Int} {a1 a2 : Option Addr} {cl cA : Nat} {M : List Bl} {A : List (List Int)} (hM : Sb w a1 M) (hMo : BOk M) (hA : Sa w a2 A) (hAo : AOk A) :
    Calls Try.prog 3 #[.agg #[.int .i64 X, .int .i64 Y, .int .i64 W, .int .i64 H], .slice a1 M.length cl, .slice a2 A.length cA] w fun e w' => e = .returned (.bool true) ∧ Below w.heap.size w w' := by
  have HTi : Hid (Below w.heap.size w (w.alloc (.cells #[.int .i64 X, .int .i64 Y, .int .i64 W, .int .i64 H] 23)) ∧ Ri 23 (w.alloc (.cells #[.int .i64 X, .int .i64 Y, .int .i64 W, .int .i64 H] 23)) w.heap.size [X, Y, W, H]) := ⟨from_alloc _ _, Ri.built 23 w [X, Y, W, H] rfl⟩
  have HAwk : Hid (∀ u, Calls Try.prog 9 #[] u fun e w' => e = .returned (.bool true) ∧ Below u.heap.size u w') := fun u => awake_any
  have HM : Hid (Sb w a1 M) := hM
  have HMo : Hid (BOk M) := hMo
  have HA : Hid (Sa w a2 A) := hA
  have HAo : Hid (AOk A) := hAo
  clear hM hMo hA hAo
  go_enter Try.func3, Try.ntmps3
  go_upto_region 1 with fail
  generalize hz : w.heap.size = z at *
  have HZ : Hid (w.heap.size = z) := hz
  clear hz
  generalize (w.alloc (.cells #[.int .i64 X, .int .i64 Y, .int .i64 W, .int .i64 H] 23)) = V at *
  have c0 : V.cell? ⟨z, 0, none⟩ = some (.int .i64 X) := HTi.out.2.cell 0 (by simp)
  have c1 : V.cell? ⟨z, 1, none⟩ = some (.int .i64 Y) := HTi.out.2.cell 1 (by simp)
  have c2 : V.cell? ⟨z, 2, none⟩ = some (.int .i64 W) := HTi.out.2.cell 2 (by simp)
  have c3 : V.cell? ⟨z, 3, none⟩ = some (.int .i64 H) := HTi.out.2.cell 3 (by simp)
  by_cases hT : TOk (X, Y, W, H)
  · have HT : Hid (TOk (X, Y, W, H)) := hT
    clear hT
    go_wp2_with fail
    refine (new_ok (T := (X, Y, W, H)) HT.out).mono ?_
    rintro e w1 ⟨p, m, rfl, hgd, hp, hm, hb⟩
    have HTj : Hid (Below z w w1 ∧ Ri 23 w1 z [X, Y, W, H]) := ⟨HTi.out.1.trans (hb.mono (by have := HTi.out.2.lt; omega)), HTi.out.2.to hb⟩
    have HGd : Hid _ := hgd
    have HPm : Hid (z ≤ p ∧ z ≤ m) := by have h1 := HTi.out.2.lt; exact ⟨by omega, by omega⟩
    clear hgd hp hm hb c0 c1 c2 c3 HTi
    have c0 : w1.cell? ⟨z, 0, none⟩ = some (.int .i64 X) := HTj.out.2.cell 0 (by simp)
    have c1 : w1.cell? ⟨z, 1, none⟩ = some (.int .i64 Y) := HTj.out.2.cell 1 (by simp)
    have c2 : w1.cell? ⟨z, 2, none⟩ = some (.int .i64 W) := HTj.out.2.cell 2 (by simp)
    have c3 : w1.cell? ⟨z, 3, none⟩ = some (.int .i64 H) := HTj.out.2.cell 3 (by simp)
    go_wp2_with fail
    refine (rnew_ok (T := (X, Y, W, H)) HT.out).mono ?_
    rintro e w2 ⟨q, rfl, hrd, hq, hb⟩
    have HG0 : Hid (Gr w w2 p m q (X, Y, W, H) (.slice none 0 0) (.slice none 0 0) [] []) := by
      have h1 := HGd.out.blt (i := p) (Or.inl rfl)
      have h2 := HGd.out.blt (i := m) (Or.inr (Or.inl rfl))
      have h3 := HPm.out
      refine ⟨HGd.out.to hb, hrd, by rw [HZ.out]; exact HTj.out.1.trans (hb.mono (Nat.le_of_lt HTj.out.2.lt)), fun i hi => ?_, fun i hi => ?_, fun i hi hj => ?_⟩
      · rw [HZ.out]
        rcases hi with rfl | rfl | hi
        · exact h3.1
        · exact h3.2
        · cases hi
      · rw [HZ.out]
        rcases hi with rfl | hi
        · exact Nat.le_trans (Nat.le_of_lt HTj.out.2.lt) hq
        · cases hi
      · rcases hj with rfl | hj
        · rcases hi with rfl | rfl | hi
          · omega
          · omega
          · cases hi
        · cases hj
    clear hrd hq hb c0 c1 c2 c3 HTj HGd HPm
    generalize (X, Y, W, H) = T at *
    go_wp2_with fail
    clear HT
    go_loopw [11] (fun i wr => ∃ (k : Nat) (v v2 : Value) (L : List Bl), k ≤ M.length ∧ k ≤ 100 ∧ i = .int .i64 (k : Int) ∧ Gr w wr p m q T v v2 L L ∧ L.length ≤ k) (fun i _ => M.length - (intOf i).toNat)
    case atStart => exact ⟨0, _, _, _, by omega, by omega, by simp, HG0.out, by simp⟩
    case round =>
      clear HG0
      obtain ⟨k, v, v2, L, hk, hk1, rfl, hg, hl⟩ := hrel
      have HG : Hid _ := hg
      have HLk : Hid _ := hl
      clear hg hl
      obtain ⟨cv, hcv⟩ : ∃ cv, decide (k < M.length ∧ k < 100) = cv := ⟨_, rfl⟩
      have HCv : Hid (decide (k < M.length ∧ k < 100) = cv) := hcv
      have k0 : (0 : Int) ≤ (k : Int) := by omega
      clear hcv
      go_upto_region 8 with fail
      go_cut [47] from 40 to 92 (fun s U => s = .bool cv ∧ wr = U)
      case first =>
        by_cases h1 : k < M.length
        · have j1 : (k : Int) < (M.length : Int) := by omega
          by_cases h2 : k < 100
          · have j2 : (k : Int) < 100 := by omega
            obtain rfl : true = cv := by rw [← HCv.out]; exact (decide_eq_true ⟨h1, h2⟩).symm
            go_wp2_with fail
            go_meet
            exact ⟨rfl, rfl⟩
          · have j2 : ¬ (k : Int) < 100 := by omega
            obtain rfl : false = cv := by rw [← HCv.out]; exact (decide_eq_false (fun h => h2 h.2)).symm
            go_wp2_with fail
            go_meet
            exact ⟨rfl, rfl⟩
        · have j1 : ¬ (k : Int) < (M.length : Int) := by omega
          obtain rfl : false = cv := by rw [← HCv.out]; exact (decide_eq_false (fun h => h1 h.1)).symm
          go_wp2_with fail
          go_meet
          exact ⟨rfl, rfl⟩
      obtain ⟨rfl, rfl⟩ := hcut
      clear k0
      by_cases hlt : k < M.length ∧ k < 100
      · obtain rfl : true = cv := by rw [← HCv.out]; exact (decide_eq_true hlt).symm
        clear HCv
        obtain ⟨g, o, rfl, hgl, hgc⟩ := HM.out.form (by omega)
        obtain ⟨b, hb⟩ : ∃ b, M.getD k bz = b := ⟨_, rfl⟩
        have HBi : Hid (∀ u, Below w.heap.size w u → Bc u g (o + k * 23) b) := fun u hu => by
          have h := (hgc k hlt.1).below hu hgl
          rw [hb] at h
          exact h
        have HBy : Hid (I64 b.y) := by rw [← hb]; exact HMo.out k hlt.1
        have k0 : (0 : Int) ≤ (k : Int) := by omega
        have k1 : (k : Int) < (M.length : Int) := by omega
        have k2 : (k : Int) < 100 := by omega
        have HK : Hid (k < M.length ∧ k < 100) := hlt
        clear hgl hgc hb hlt hk hk1
        go_upto_region 10 with fail
        go_cut [62] from 40 to 92 (fun s62 U => s62 = .bool false ∧ ∃ v' v2' L', Gr w U p m q T v' v2' L' L' ∧ L'.length ≤ k + 1)
        case first =>
          as_aux_lemma =>
           cases hm : mp T L b
           · refine wp_region_held_drew (S := fun t => t.rangeAt g (o + k * 23) b.cs) (by kernel_rfl) (HBi.out _ HG.out.drew.bel).rng (fun hHeld => ?_)
             change wpAnyH _ _ _ _ _ 13 #[false, false, false, false, false, false, false, false, false, false, false, false, false] _ _
             refine wpAnyH_take (i := 0) (oi := { dst := some 50, op := Op.move (Operand.tmp 7), type := 26, pos := "law.go:53", after := #[], guard := none }) (v := ?_) rfl (by kernel_rfl) (by kernel_rfl) (by kernel_rfl) (fun _ _ _ h => h) (Or.inl ⟨by rfl, ?hy⟩) (by assumption) ?_
             case hy =>
               intro wz hSw
               (try dsimp only at hSw)
               first | (go_simp; done) | (go_simp; with_reducible rfl)
             simp only [Act.put, List.setIfInBounds_toArray, List.set_cons_zero, List.set_cons_succ]
             refine wpAnyH_take (i := 1) (oi := { dst := some 51, op := Op.move (Operand.tmp 1), type := 24, pos := "law.go:53", after := #[], guard := none }) (v := ?_) rfl (by kernel_rfl) (by kernel_rfl) (by kernel_rfl) (fun _ _ _ h => h) (Or.inl ⟨by rfl, ?hy⟩) (by assumption) ?_
             case hy =>
               intro wz hSw
               (try dsimp only at hSw)
               first | (go_simp; done) | (go_simp; with_reducible rfl)
             simp only [Act.put, List.setIfInBounds_toArray, List.set_cons_zero, List.set_cons_succ]
             refine wpAnyH_take (i := 2) (oi := { dst := some 52, op := Op.move (Operand.tmp 11), type := 3, pos := "law.go:53", after := #[], guard := none }) (v := ?_) rfl (by kernel_rfl) (by kernel_rfl) (by kernel_rfl) (fun _ _ _ h => h) (Or.inl ⟨by rfl, ?hy⟩) (by assumption) ?_
             case hy =>
               intro wz hSw
               (try dsimp only at hSw)
               first | (go_simp; done) | (go_simp; with_reducible rfl)
             simp only [Act.put, List.setIfInBounds_toArray, List.set_cons_zero, List.set_cons_succ]
             refine wpAnyH_take (i := 3) (oi := { dst := some 53, op := Op.indexAddr 24 (Operand.tmp 51) (Operand.tmp 52), type := 0, pos := "law.go:53", after := #[{ on := 1, ground := Ground.data }, { on := 2, ground := Ground.data }], guard := none }) (v := ?_) rfl (by kernel_rfl) (by kernel_rfl) (by kernel_rfl) (fun _ _ _ h => h) (Or.inl ⟨by rfl, ?hy⟩) (by assumption) ?_
             case hy =>
               intro wz hSw
               (try dsimp only at hSw)
               first | (go_simp; done) | (go_simp; with_reducible rfl)
             simp only [Act.put, List.setIfInBounds_toArray, List.set_cons_zero, List.set_cons_succ]
             refine wpAnyH_take (i := 4) (oi := { dst := some 54, op := Op.load 40 (Operand.tmp 53), type := 40, pos := "law.go:53", after := #[{ on := 3, ground := Ground.data }], guard := none }) (v := .agg b.cs.toArray) rfl (by kernel_rfl) (by kernel_rfl) (by kernel_rfl) (fun _ _ _ h => h) (yieldsIf_load_mid (by rfl) 40 (Operand.tmp 53) rfl g (o + k * 23) (by rfl) b.cs _ (fun _ hS => hS) Try.underlying40 rfl (by rw [Try.info40, Bl.cs_length])) (by assumption) ?_
             simp only [Act.put, List.setIfInBounds_toArray, List.set_cons_zero, List.set_cons_succ]
             refine wpAnyH_take (i := 6) (oi := { dst := some 56, op := Op.move (Operand.tmp 9), type := 30, pos := "law.go:53", after := #[], guard := none }) (v := ?_) rfl (by kernel_rfl) (by kernel_rfl) (by kernel_rfl) (fun _ _ _ h => h) (Or.inl ⟨by rfl, ?hy⟩) (by assumption) ?_
             case hy =>
               intro wz hSw
               (try dsimp only at hSw)
               first | (go_simp; done) | (go_simp; with_reducible rfl)
             simp only [Act.put, List.setIfInBounds_toArray, List.set_cons_zero, List.set_cons_succ]
             refine wpAnyH_take (i := 7) (oi := { dst := some 57, op := Op.move (Operand.tmp 1), type := 24, pos := "law.go:53", after := #[], guard := none }) (v := ?_) rfl (by kernel_rfl) (by kernel_rfl) (by kernel_rfl) (fun _ _ _ h => h) (Or.inl ⟨by rfl, ?hy⟩) (by assumption) ?_
             case hy =>
               intro wz hSw
               (try dsimp only at hSw)
               first | (go_simp; done) | (go_simp; with_reducible rfl)
             simp only [Act.put, List.setIfInBounds_toArray, List.set_cons_zero, List.set_cons_succ]
             refine wpAnyH_take (i := 8) (oi := { dst := some 58, op := Op.move (Operand.tmp 11), type := 3, pos := "law.go:53", after := #[], guard := none }) (v := ?_) rfl (by kernel_rfl) (by kernel_rfl) (by kernel_rfl) (fun _ _ _ h => h) (Or.inl ⟨by rfl, ?hy⟩) (by assumption) ?_
             case hy =>
               intro wz hSw
               (try dsimp only at hSw)
               first | (go_simp; done) | (go_simp; with_reducible rfl)
             simp only [Act.put, List.setIfInBounds_toArray, List.set_cons_zero, List.set_cons_succ]
             refine wpAnyH_take (i := 9) (oi := { dst := some 59, op := Op.indexAddr 24 (Operand.tmp 57) (Operand.tmp 58), type := 0, pos := "law.go:53", after := #[{ on := 7, ground := Ground.data }, { on := 8, ground := Ground.data }], guard := none }) (v := ?_) rfl (by kernel_rfl) (by kernel_rfl) (by kernel_rfl) (fun _ _ _ h => h) (Or.inl ⟨by rfl, ?hy⟩) (by assumption) ?_
             case hy =>
               intro wz hSw
               (try dsimp only at hSw)
               first | (go_simp; done) | (go_simp; with_reducible rfl)
             simp only [Act.put, List.setIfInBounds_toArray, List.set_cons_zero, List.set_cons_succ]
             refine wpAnyH_take (i := 10) (oi := { dst := some 60, op := Op.load 40 (Operand.tmp 59), type := 40, pos := "law.go:53", after := #[{ on := 9, ground := Ground.data }], guard := none }) (v := .agg b.cs.toArray) rfl (by kernel_rfl) (by kernel_rfl) (by kernel_rfl) (fun _ _ _ h => h) (yieldsIf_load_mid (by rfl) 40 (Operand.tmp 59) rfl g (o + k * 23) (by rfl) b.cs _ (fun _ hS => hS) Try.underlying40 rfl (by rw [Try.info40, Bl.cs_length])) (by assumption) ?_
             simp only [Act.put, List.setIfInBounds_toArray, List.set_cons_zero, List.set_cons_succ]
             refine wpAnyH_ready (rs := [5]) (by kernel_rfl) (by simp) ?_
             refine AllReadyH.cons (o := { dst := some 55, op := Op.call { callee := Callee.value (Operand.func 10), args := #[Operand.tmp 50, Operand.tmp 54], argTypes := #[26, 40] }, type := 27, pos := "law.go:53", after := #[{ on := 0, ground := Ground.data }, { on := 4, ground := Ground.data }], guard := none }) rfl (fun K hK => ?_) AllReadyH.nil
             go_simp
             refine (put_no HG.out.drew.gd hm).mono ?_
             rintro e wa ⟨rfl, hb⟩
             have HGa : Hid (Gr w wa p m q T v v2 L L) := HG.out.drew.to hb
             clear hb
             (try go_wp2_with fail)
             refine hK.out _ _ (HBi.out _ HGa.out.bel).rng (fun hHeld2 => ?_)
             clear hK K
             (try simp only [List.setIfInBounds_toArray, List.set_cons_zero, List.set_cons_succ])
             refine wpAnyH_ready (rs := [11]) (by kernel_rfl) (by simp) ?_
             refine AllReadyH.cons (o := { dst := some 61, op := Op.call { callee := Callee.value (Operand.func 11), args := #[Operand.tmp 56, Operand.tmp 60], argTypes := #[30, 40] }, type := 27, pos := "law.go:53", after := #[{ on := 6, ground := Ground.data }, { on := 10, ground := Ground.data }, { on := 5, ground := Ground.chain }], guard := none }) rfl (fun K hK => ?_) AllReadyH.nil
             go_simp
             refine (rput_no HGa.out.rd hm (by have := HLk.out; have := HK.out; omega)).mono ?_
             rintro e wb ⟨rfl, hb⟩
             have HGb : Hid (Gr w wb p m q T v v2 L L) := HGa.out.to hb
             clear hb
             (try go_wp2_with fail)
             refine hK.out _ _ (HBi.out _ HGb.out.bel).rng (fun hHeld3 => ?_)
             clear hK K
             (try simp only [List.setIfInBounds_toArray, List.set_cons_zero, List.set_cons_succ])
             refine wpAnyH_take (i := 12) (oi := { dst := some 62, op := Op.binOp BinOp.neq 27 (Operand.tmp 55) (Operand.tmp 61) 27, type := 4, pos := "law.go:53", after := #[{ on := 5, ground := Ground.data }, { on := 11, ground := Ground.data }], guard := none }) (v := ?_) rfl (by kernel_rfl) (by kernel_rfl) (by kernel_rfl) (fun _ _ _ h => h) (Or.inl ⟨by rfl, ?hy⟩) (by assumption) ?_
             case hy =>
               intro wz hSw
               (try dsimp only at hSw)
               first | (go_simp; done) | (go_simp; with_reducible rfl)
             simp only [Act.put, List.setIfInBounds_toArray, List.set_cons_zero, List.set_cons_succ]
             refine wpAnyH_done (by kernel_rfl) ?_ _
             go_wp2_with fail
             go_meet
             exact ⟨rfl, _, _, _, HGb.out, by have := HLk.out; omega⟩
           · refine wp_region_held_drew (S := fun t => t.rangeAt g (o + k * 23) b.cs) (by kernel_rfl) (HBi.out _ HG.out.drew.bel).rng (fun hHeld => ?_)
             change wpAnyH _ _ _ _ _ 13 #[false, false, false, false, false, false, false, false, false, false, false, false, false] _ _
             refine wpAnyH_take (i := 0) (oi := { dst := some 50, op := Op.move (Operand.tmp 7), type := 26, pos := "law.go:53", after := #[], guard := none }) (v := ?_) rfl (by kernel_rfl) (by kernel_rfl) (by kernel_rfl) (fun _ _ _ h => h) (Or.inl ⟨by rfl, ?hy⟩) (by assumption) ?_
             case hy =>
               intro wz hSw
               (try dsimp only at hSw)
               first | (go_simp; done) | (go_simp; with_reducible rfl)
             simp only [Act.put, List.setIfInBounds_toArray, List.set_cons_zero, List.set_cons_succ]
             refine wpAnyH_take (i := 1) (oi := { dst := some 51, op := Op.move (Operand.tmp 1), type := 24, pos := "law.go:53", after := #[], guard := none }) (v := ?_) rfl (by kernel_rfl) (by kernel_rfl) (by kernel_rfl) (fun _ _ _ h => h) (Or.inl ⟨by rfl, ?hy⟩) (by assumption) ?_
             case hy =>
               intro wz hSw
               (try dsimp only at hSw)
               first | (go_simp; done) | (go_simp; with_reducible rfl)
             simp only [Act.put, List.setIfInBounds_toArray, List.set_cons_zero, List.set_cons_succ]
             refine wpAnyH_take (i := 2) (oi := { dst := some 52, op := Op.move (Operand.tmp 11), type := 3, pos := "law.go:53", after := #[], guard := none }) (v := ?_) rfl (by kernel_rfl) (by kernel_rfl) (by kernel_rfl) (fun _ _ _ h => h) (Or.inl ⟨by rfl, ?hy⟩) (by assumption) ?_
             case hy =>
               intro wz hSw
               (try dsimp only at hSw)
               first | (go_simp; done) | (go_simp; with_reducible rfl)
             simp only [Act.put, List.setIfInBounds_toArray, List.set_cons_zero, List.set_cons_succ]
             refine wpAnyH_take (i := 3) (oi := { dst := some 53, op := Op.indexAddr 24 (Operand.tmp 51) (Operand.tmp 52), type := 0, pos := "law.go:53", after := #[{ on := 1, ground := Ground.data }, { on := 2, ground := Ground.data }], guard := none }) (v := ?_) rfl (by kernel_rfl) (by kernel_rfl) (by kernel_rfl) (fun _ _ _ h => h) (Or.inl ⟨by rfl, ?hy⟩) (by assumption) ?_
             case hy =>
               intro wz hSw
               (try dsimp only at hSw)
               first | (go_simp; done) | (go_simp; with_reducible rfl)
             simp only [Act.put, List.setIfInBounds_toArray, List.set_cons_zero, List.set_cons_succ]
             refine wpAnyH_take (i := 4) (oi := { dst := some 54, op := Op.load 40 (Operand.tmp 53), type := 40, pos := "law.go:53", after := #[{ on := 3, ground := Ground.data }], guard := none }) (v := .agg b.cs.toArray) rfl (by kernel_rfl) (by kernel_rfl) (by kernel_rfl) (fun _ _ _ h => h) (yieldsIf_load_mid (by rfl) 40 (Operand.tmp 53) rfl g (o + k * 23) (by rfl) b.cs _ (fun _ hS => hS) Try.underlying40 rfl (by rw [Try.info40, Bl.cs_length])) (by assumption) ?_
             simp only [Act.put, List.setIfInBounds_toArray, List.set_cons_zero, List.set_cons_succ]
             refine wpAnyH_take (i := 6) (oi := { dst := some 56, op := Op.move (Operand.tmp 9), type := 30, pos := "law.go:53", after := #[], guard := none }) (v := ?_) rfl (by kernel_rfl) (by kernel_rfl) (by kernel_rfl) (fun _ _ _ h => h) (Or.inl ⟨by rfl, ?hy⟩) (by assumption) ?_
             case hy =>
               intro wz hSw
               (try dsimp only at hSw)
               first | (go_simp; done) | (go_simp; with_reducible rfl)
             simp only [Act.put, List.setIfInBounds_toArray, List.set_cons_zero, List.set_cons_succ]
             refine wpAnyH_take (i := 7) (oi := { dst := some 57, op := Op.move (Operand.tmp 1), type := 24, pos := "law.go:53", after := #[], guard := none }) (v := ?_) rfl (by kernel_rfl) (by kernel_rfl) (by kernel_rfl) (fun _ _ _ h => h) (Or.inl ⟨by rfl, ?hy⟩) (by assumption) ?_
             case hy =>
               intro wz hSw
               (try dsimp only at hSw)
               first | (go_simp; done) | (go_simp; with_reducible rfl)
             simp only [Act.put, List.setIfInBounds_toArray, List.set_cons_zero, List.set_cons_succ]
             refine wpAnyH_take (i := 8) (oi := { dst := some 58, op := Op.move (Operand.tmp 11), type := 3, pos := "law.go:53", after := #[], guard := none }) (v := ?_) rfl (by kernel_rfl) (by kernel_rfl) (by kernel_rfl) (fun _ _ _ h => h) (Or.inl ⟨by rfl, ?hy⟩) (by assumption) ?_
             case hy =>
               intro wz hSw
               (try dsimp only at hSw)
               first | (go_simp; done) | (go_simp; with_reducible rfl)
             simp only [Act.put, List.setIfInBounds_toArray, List.set_cons_zero, List.set_cons_succ]
             refine wpAnyH_take (i := 9) (oi := { dst := some 59, op := Op.indexAddr 24 (Operand.tmp 57) (Operand.tmp 58), type := 0, pos := "law.go:53", after := #[{ on := 7, ground := Ground.data }, { on := 8, ground := Ground.data }], guard := none }) (v := ?_) rfl (by kernel_rfl) (by kernel_rfl) (by kernel_rfl) (fun _ _ _ h => h) (Or.inl ⟨by rfl, ?hy⟩) (by assumption) ?_
             case hy =>
               intro wz hSw
               (try dsimp only at hSw)
               first | (go_simp; done) | (go_simp; with_reducible rfl)
             simp only [Act.put, List.setIfInBounds_toArray, List.set_cons_zero, List.set_cons_succ]
             refine wpAnyH_take (i := 10) (oi := { dst := some 60, op := Op.load 40 (Operand.tmp 59), type := 40, pos := "law.go:53", after := #[{ on := 9, ground := Ground.data }], guard := none }) (v := .agg b.cs.toArray) rfl (by kernel_rfl) (by kernel_rfl) (by kernel_rfl) (fun _ _ _ h => h) (yieldsIf_load_mid (by rfl) 40 (Operand.tmp 59) rfl g (o + k * 23) (by rfl) b.cs _ (fun _ hS => hS) Try.underlying40 rfl (by rw [Try.info40, Bl.cs_length])) (by assumption) ?_
             simp only [Act.put, List.setIfInBounds_toArray, List.set_cons_zero, List.set_cons_succ]
             refine wpAnyH_ready (rs := [5]) (by kernel_rfl) (by simp) ?_
             refine AllReadyH.cons (o := { dst := some 55, op := Op.call { callee := Callee.value (Operand.func 10), args := #[Operand.tmp 50, Operand.tmp 54], argTypes := #[26, 40] }, type := 27, pos := "law.go:53", after := #[{ on := 0, ground := Ground.data }, { on := 4, ground := Ground.data }], guard := none }) rfl (fun K hK => ?_) AllReadyH.nil
             go_simp
             refine (put_ok HG.out.drew.gd hm (by have := HLk.out; have := HK.out; omega)).mono ?_
             rintro e wa ⟨rfl, v', hgd, hgt⟩
             have HGa : Hid (Gr w wa p m q T v' v2 (L ++ [b]) L) := HG.out.drew.putg hgd hgt
             clear hgd hgt
             (try go_wp2_with fail)
             refine hK.out _ _ (HBi.out _ HGa.out.bel).rng (fun hHeld2 => ?_)
             clear hK K
             (try simp only [List.setIfInBounds_toArray, List.set_cons_zero, List.set_cons_succ])
             refine wpAnyH_ready (rs := [11]) (by kernel_rfl) (by simp) ?_
             refine AllReadyH.cons (o := { dst := some 61, op := Op.call { callee := Callee.value (Operand.func 11), args := #[Operand.tmp 56, Operand.tmp 60], argTypes := #[30, 40] }, type := 27, pos := "law.go:53", after := #[{ on := 6, ground := Ground.data }, { on := 10, ground := Ground.data }, { on := 5, ground := Ground.chain }], guard := none }) rfl (fun K hK => ?_) AllReadyH.nil
             go_simp
             refine (rput_ok HGa.out.rd hm (by have := HLk.out; have := HK.out; omega)).mono ?_
             rintro e wb ⟨rfl, v2', hgd, hgt⟩
             have HGb : Hid (Gr w wb p m q T v' v2' (L ++ [b]) (L ++ [b])) := HGa.out.putr hgd hgt
             clear hgd hgt
             (try go_wp2_with fail)
             refine hK.out _ _ (HBi.out _ HGb.out.bel).rng (fun hHeld3 => ?_)
             clear hK K
             (try simp only [List.setIfInBounds_toArray, List.set_cons_zero, List.set_cons_succ])
             refine wpAnyH_take (i := 12) (oi := { dst := some 62, op := Op.binOp BinOp.neq 27 (Operand.tmp 55) (Operand.tmp 61) 27, type := 4, pos := "law.go:53", after := #[{ on := 5, ground := Ground.data }, { on := 11, ground := Ground.data }], guard := none }) (v := ?_) rfl (by kernel_rfl) (by kernel_rfl) (by kernel_rfl) (fun _ _ _ h => h) (Or.inl ⟨by rfl, ?hy⟩) (by assumption) ?_
             case hy =>
               intro wz hSw
               (try dsimp only at hSw)
               first | (go_simp; done) | (go_simp; with_reducible rfl)
             simp only [Act.put, List.setIfInBounds_toArray, List.set_cons_zero, List.set_cons_succ]
             refine wpAnyH_done (by kernel_rfl) ?_ _
             go_wp2_with fail
             go_meet
             exact ⟨rfl, _, _, _, HGb.out, by have := HLk.out; rw [List.length_append]; simp; omega⟩
        obtain ⟨rfl, v', v2', L', hg, hl⟩ := hcut
        have HG' : Hid _ := hg
        have HLk' : Hid _ := hl
        clear hg hl HG HLk
        have HG := HG'
        have HLk := HLk'
        clear HG' HLk'
        go_upto_region 12 with fail
        have HSc : Hid (∀ u, Below w.heap.size w u → u.cell? ⟨g, o + k * 23, none⟩ = some (.int .i64 b.x) ∧ u.cell? ⟨g, o + k * 23 + 1, none⟩ = some (.int .i64 b.y) ∧ u.cell? ⟨g, o + k * 23 + 2, none⟩ = some (.int .i64 b.w)) := fun u hu => ⟨(HBi.out u hu).at 0 _ rfl, (HBi.out u hu).at 1 _ rfl, (HBi.out u hu).at 2 _ rfl⟩
        refine wp_region_held_drew (S := fun t => t.cell? ⟨g, o + k * 23, none⟩ = some (.int .i64 b.x) ∧ t.cell? ⟨g, o + k * 23 + 1, none⟩ = some (.int .i64 b.y) ∧ t.cell? ⟨g, o + k * 23 + 2, none⟩ = some (.int .i64 b.w)) (by kernel_rfl) (HSc.out _ HG.out.drew.bel) (fun hHeld => ?_)
        change wpAnyH _ _ _ _ _ 19 #[false, false, false, false, false, false, false, false, false, false, false, false, false, false, false, false, false, false, false] _ _
        refine wpAnyH_take (i := 0) (oi := { dst := some 63, op := Op.move (Operand.tmp 1), type := 24, pos := "law.go:56", after := #[], guard := none }) (v := ?_) rfl (by kernel_rfl) (by kernel_rfl) (by kernel_rfl) (fun _ _ _ h => h) (Or.inl ⟨by rfl, ?hy⟩) (by assumption) ?_
        case hy =>
          intro wz hSw
          (try dsimp only at hSw)
          (try obtain ⟨hs0, hs1, hs2⟩ := hSw)
          first | (go_simp; done) | (go_simp; with_reducible rfl)
        simp only [Act.put, List.setIfInBounds_toArray, List.set_cons_zero, List.set_cons_succ]
        refine wpAnyH_take (i := 1) (oi := { dst := some 64, op := Op.move (Operand.tmp 11), type := 3, pos := "law.go:56", after := #[], guard := none }) (v := ?_) rfl (by kernel_rfl) (by kernel_rfl) (by kernel_rfl) (fun _ _ _ h => h) (Or.inl ⟨by rfl, ?hy⟩) (by assumption) ?_
        case hy =>
          intro wz hSw
          (try dsimp only at hSw)
          (try obtain ⟨hs0, hs1, hs2⟩ := hSw)
          first | (go_simp; done) | (go_simp; with_reducible rfl)
        simp only [Act.put, List.setIfInBounds_toArray, List.set_cons_zero, List.set_cons_succ]
        refine wpAnyH_take (i := 2) (oi := { dst := some 65, op := Op.indexAddr 24 (Operand.tmp 63) (Operand.tmp 64), type := 0, pos := "law.go:56", after := #[{ on := 0, ground := Ground.data }, { on := 1, ground := Ground.data }], guard := none }) (v := ?_) rfl (by kernel_rfl) (by kernel_rfl) (by kernel_rfl) (fun _ _ _ h => h) (Or.inl ⟨by rfl, ?hy⟩) (by assumption) ?_
        case hy =>
          intro wz hSw
          (try dsimp only at hSw)
          (try obtain ⟨hs0, hs1, hs2⟩ := hSw)
          first | (go_simp; done) | (go_simp; with_reducible rfl)
        simp only [Act.put, List.setIfInBounds_toArray, List.set_cons_zero, List.set_cons_succ]
        refine wpAnyH_take (i := 3) (oi := { dst := some 66, op := Op.fieldAddr 40 (Operand.tmp 65) 0, type := 0, pos := "law.go:56", after := #[{ on := 2, ground := Ground.data }], guard := none }) (v := ?_) rfl (by kernel_rfl) (by kernel_rfl) (by kernel_rfl) (fun _ _ _ h => h) (Or.inl ⟨by rfl, ?hy⟩) (by assumption) ?_
        case hy =>
          intro wz hSw
          (try dsimp only at hSw)
          (try obtain ⟨hs0, hs1, hs2⟩ := hSw)
          first | (go_simp; done) | (go_simp; with_reducible rfl)
        simp only [Act.put, List.setIfInBounds_toArray, List.set_cons_zero, List.set_cons_succ]
        refine wpAnyH_take (i := 4) (oi := { dst := some 67, op := Op.load 3 (Operand.tmp 66), type := 3, pos := "law.go:56", after := #[{ on := 3, ground := Ground.data }], guard := none }) (v := ?_) rfl (by kernel_rfl) (by kernel_rfl) (by kernel_rfl) (fun _ _ _ h => h) (Or.inl ⟨by rfl, ?hy⟩) (by assumption) ?_
        case hy =>
          intro wz hSw
          (try dsimp only at hSw)
          (try obtain ⟨hs0, hs1, hs2⟩ := hSw)
          first | (go_simp; done) | (go_simp; with_reducible rfl)
        simp only [Act.put, List.setIfInBounds_toArray, List.set_cons_zero, List.set_cons_succ]
        refine wpAnyH_take (i := 5) (oi := { dst := some 68, op := Op.move (Operand.tmp 1), type := 24, pos := "law.go:56", after := #[], guard := none }) (v := ?_) rfl (by kernel_rfl) (by kernel_rfl) (by kernel_rfl) (fun _ _ _ h => h) (Or.inl ⟨by rfl, ?hy⟩) (by assumption) ?_
        case hy =>
          intro wz hSw
          (try dsimp only at hSw)
          (try obtain ⟨hs0, hs1, hs2⟩ := hSw)
          first | (go_simp; done) | (go_simp; with_reducible rfl)
        simp only [Act.put, List.setIfInBounds_toArray, List.set_cons_zero, List.set_cons_succ]
        refine wpAnyH_take (i := 6) (oi := { dst := some 69, op := Op.move (Operand.tmp 11), type := 3, pos := "law.go:56", after := #[], guard := none }) (v := ?_) rfl (by kernel_rfl) (by kernel_rfl) (by kernel_rfl) (fun _ _ _ h => h) (Or.inl ⟨by rfl, ?hy⟩) (by assumption) ?_
        case hy =>
          intro wz hSw
          (try dsimp only at hSw)
          (try obtain ⟨hs0, hs1, hs2⟩ := hSw)
          first | (go_simp; done) | (go_simp; with_reducible rfl)
        simp only [Act.put, List.setIfInBounds_toArray, List.set_cons_zero, List.set_cons_succ]
        refine wpAnyH_take (i := 7) (oi := { dst := some 70, op := Op.indexAddr 24 (Operand.tmp 68) (Operand.tmp 69), type := 0, pos := "law.go:56", after := #[{ on := 5, ground := Ground.data }, { on := 6, ground := Ground.data }], guard := none }) (v := ?_) rfl (by kernel_rfl) (by kernel_rfl) (by kernel_rfl) (fun _ _ _ h => h) (Or.inl ⟨by rfl, ?hy⟩) (by assumption) ?_
        case hy =>
          intro wz hSw
          (try dsimp only at hSw)
          (try obtain ⟨hs0, hs1, hs2⟩ := hSw)
          first | (go_simp; done) | (go_simp; with_reducible rfl)
        simp only [Act.put, List.setIfInBounds_toArray, List.set_cons_zero, List.set_cons_succ]
        refine wpAnyH_take (i := 8) (oi := { dst := some 71, op := Op.fieldAddr 40 (Operand.tmp 70) 2, type := 0, pos := "law.go:56", after := #[{ on := 7, ground := Ground.data }], guard := none }) (v := ?_) rfl (by kernel_rfl) (by kernel_rfl) (by kernel_rfl) (fun _ _ _ h => h) (Or.inl ⟨by rfl, ?hy⟩) (by assumption) ?_
        case hy =>
          intro wz hSw
          (try dsimp only at hSw)
          (try obtain ⟨hs0, hs1, hs2⟩ := hSw)
          first | (go_simp; done) | (go_simp; with_reducible rfl)
        simp only [Act.put, List.setIfInBounds_toArray, List.set_cons_zero, List.set_cons_succ]
        refine wpAnyH_take (i := 9) (oi := { dst := some 72, op := Op.load 3 (Operand.tmp 71), type := 3, pos := "law.go:56", after := #[{ on := 8, ground := Ground.data }], guard := none }) (v := ?_) rfl (by kernel_rfl) (by kernel_rfl) (by kernel_rfl) (fun _ _ _ h => h) (Or.inl ⟨by rfl, ?hy⟩) (by assumption) ?_
        case hy =>
          intro wz hSw
          (try dsimp only at hSw)
          (try obtain ⟨hs0, hs1, hs2⟩ := hSw)
          first | (go_simp; done) | (go_simp; with_reducible rfl)
        simp only [Act.put, List.setIfInBounds_toArray, List.set_cons_zero, List.set_cons_succ]
        refine wpAnyH_take (i := 10) (oi := { dst := some 73, op := Op.binOp BinOp.add 3 (Operand.tmp 67) (Operand.tmp 72) 3, type := 3, pos := "law.go:56", after := #[{ on := 4, ground := Ground.data }, { on := 9, ground := Ground.data }], guard := none }) (v := ?_) rfl (by kernel_rfl) (by kernel_rfl) (by kernel_rfl) (fun _ _ _ h => h) (Or.inl ⟨by rfl, ?hy⟩) (by assumption) ?_
        case hy =>
          intro wz hSw
          (try dsimp only at hSw)
          (try obtain ⟨hs0, hs1, hs2⟩ := hSw)
          first | (go_simp; done) | (go_simp; with_reducible rfl)
        simp only [Act.put, List.setIfInBounds_toArray, List.set_cons_zero, List.set_cons_succ]
        refine wpAnyH_take (i := 11) (oi := { dst := some 74, op := Op.move (Operand.tmp 1), type := 24, pos := "law.go:56", after := #[], guard := none }) (v := ?_) rfl (by kernel_rfl) (by kernel_rfl) (by kernel_rfl) (fun _ _ _ h => h) (Or.inl ⟨by rfl, ?hy⟩) (by assumption) ?_
        case hy =>
          intro wz hSw
          (try dsimp only at hSw)
          (try obtain ⟨hs0, hs1, hs2⟩ := hSw)
          first | (go_simp; done) | (go_simp; with_reducible rfl)
        simp only [Act.put, List.setIfInBounds_toArray, List.set_cons_zero, List.set_cons_succ]
        refine wpAnyH_take (i := 12) (oi := { dst := some 75, op := Op.move (Operand.tmp 11), type := 3, pos := "law.go:56", after := #[], guard := none }) (v := ?_) rfl (by kernel_rfl) (by kernel_rfl) (by kernel_rfl) (fun _ _ _ h => h) (Or.inl ⟨by rfl, ?hy⟩) (by assumption) ?_
        case hy =>
          intro wz hSw
          (try dsimp only at hSw)
          (try obtain ⟨hs0, hs1, hs2⟩ := hSw)
          first | (go_simp; done) | (go_simp; with_reducible rfl)
        simp only [Act.put, List.setIfInBounds_toArray, List.set_cons_zero, List.set_cons_succ]
        refine wpAnyH_take (i := 13) (oi := { dst := some 76, op := Op.indexAddr 24 (Operand.tmp 74) (Operand.tmp 75), type := 0, pos := "law.go:56", after := #[{ on := 11, ground := Ground.data }, { on := 12, ground := Ground.data }], guard := none }) (v := ?_) rfl (by kernel_rfl) (by kernel_rfl) (by kernel_rfl) (fun _ _ _ h => h) (Or.inl ⟨by rfl, ?hy⟩) (by assumption) ?_
        case hy =>
          intro wz hSw
          (try dsimp only at hSw)
          (try obtain ⟨hs0, hs1, hs2⟩ := hSw)
          first | (go_simp; done) | (go_simp; with_reducible rfl)
        simp only [Act.put, List.setIfInBounds_toArray, List.set_cons_zero, List.set_cons_succ]
        refine wpAnyH_take (i := 14) (oi := { dst := some 77, op := Op.fieldAddr 40 (Operand.tmp 76) 1, type := 0, pos := "law.go:56", after := #[{ on := 13, ground := Ground.data }], guard := none }) (v := ?_) rfl (by kernel_rfl) (by kernel_rfl) (by kernel_rfl) (fun _ _ _ h => h) (Or.inl ⟨by rfl, ?hy⟩) (by assumption) ?_
        case hy =>
          intro wz hSw
          (try dsimp only at hSw)
          (try obtain ⟨hs0, hs1, hs2⟩ := hSw)
          first | (go_simp; done) | (go_simp; with_reducible rfl)
        simp only [Act.put, List.setIfInBounds_toArray, List.set_cons_zero, List.set_cons_succ]
        refine wpAnyH_take (i := 15) (oi := { dst := some 78, op := Op.load 3 (Operand.tmp 77), type := 3, pos := "law.go:56", after := #[{ on := 14, ground := Ground.data }], guard := none }) (v := ?_) rfl (by kernel_rfl) (by kernel_rfl) (by kernel_rfl) (fun _ _ _ h => h) (Or.inl ⟨by rfl, ?hy⟩) (by assumption) ?_
        case hy =>
          intro wz hSw
          (try dsimp only at hSw)
          (try obtain ⟨hs0, hs1, hs2⟩ := hSw)
          first | (go_simp; done) | (go_simp; with_reducible rfl)
        simp only [Act.put, List.setIfInBounds_toArray, List.set_cons_zero, List.set_cons_succ]
        refine wpAnyH_take (i := 16) (oi := { dst := some 79, op := Op.build 42 #[(0, Operand.tmp 73), (1, Operand.tmp 78), (2, Operand.const (Value.int IntKind.i64 16)), (3, Operand.const (Value.int IntKind.i64 8))], type := 42, pos := "law.go:56", after := #[{ on := 10, ground := Ground.data }, { on := 15, ground := Ground.data }], guard := none }) (v := ?_) rfl (by kernel_rfl) (by kernel_rfl) (by kernel_rfl) (fun _ _ _ h => h) (Or.inl ⟨by rfl, ?hy⟩) (by assumption) ?_
        case hy =>
          intro wz hSw
          (try dsimp only at hSw)
          (try obtain ⟨hs0, hs1, hs2⟩ := hSw)
          first | (go_simp; done) | (go_simp; with_reducible rfl)
        simp only [Act.put, List.setIfInBounds_toArray, List.set_cons_zero, List.set_cons_succ]
        refine wpAnyH_ready (rs := [17]) (by kernel_rfl) (by simp) ?_
        refine AllReadyH.cons (o := { dst := some 12, op := Op.alloc 42, type := 0, pos := "law.go:56", after := #[], guard := none }) rfl (fun K hK => ?_) AllReadyH.nil
        go_simp
        refine hK.out _ _ (HSc.out _ (HG.out.drew.to (from_alloc _ _)).bel) (fun hHeld2 => ?_)
        clear hK K
        (try simp only [List.setIfInBounds_toArray, List.set_cons_zero, List.set_cons_succ])
        refine wpAnyH_ready (rs := [18]) (by kernel_rfl) (by simp) ?_
        refine AllReadyH.cons (o := { dst := none, op := Op.store 42 (Operand.tmp 12) (Operand.tmp 79), type := 0, pos := "law.go:56", after := #[{ on := 17, ground := Ground.data }, { on := 16, ground := Ground.data }, { on := 0, ground := Ground.phase }, { on := 1, ground := Ground.phase }, { on := 2, ground := Ground.phase }, { on := 3, ground := Ground.phase }, { on := 4, ground := Ground.phase }, { on := 5, ground := Ground.phase }, { on := 6, ground := Ground.phase }, { on := 7, ground := Ground.phase }, { on := 8, ground := Ground.phase }, { on := 9, ground := Ground.phase }, { on := 10, ground := Ground.phase }, { on := 11, ground := Ground.phase }, { on := 12, ground := Ground.phase }, { on := 13, ground := Ground.phase }, { on := 14, ground := Ground.phase }, { on := 15, ground := Ground.phase }, { on := 16, ground := Ground.phase }, { on := 17, ground := Ground.phase }], guard := none }) rfl (fun K hK => ?_) AllReadyH.nil
        go_simp
        refine hK.out _ _ (HSc.out _ (HG.out.drew.to (from_alloc _ _)).bel) (fun hHeld3 => ?_)
        clear hK K
        (try simp only [List.setIfInBounds_toArray, List.set_cons_zero, List.set_cons_succ])
        refine wpAnyH_done (by kernel_rfl) ?_ _
        have HX1 : Hid (Ri 42 (wc.alloc (.cells #[.int .i64 (IntKind.i64.wrap (b.x + b.w)), .int .i64 b.y, .int .i64 16, .int .i64 8, .int .i64 0] 42)).drew wc.heap.size [IntKind.i64.wrap (b.x + b.w), b.y, 16, 8, 0]) := (Ri.built 42 wc [IntKind.i64.wrap (b.x + b.w), b.y, 16, 8, 0] rfl).drew
        have HB1 : Hid (Below wc.heap.size wc (wc.alloc (.cells #[.int .i64 (IntKind.i64.wrap (b.x + b.w)), .int .i64 b.y, .int .i64 16, .int .i64 8, .int .i64 0] 42)).drew) := below_drew (from_alloc _ _)
        have HXY : Hid (I64 (IntKind.i64.wrap (b.x + b.w)) ∧ I64 b.y) := ⟨wrapk_i64 _, HBy.out⟩
        generalize hzx : wc.heap.size = zx at *
        have HZx : Hid (wc.heap.size = zx) := hzx
        clear hzx
        generalize (wc.alloc (.cells #[.int .i64 (IntKind.i64.wrap (b.x + b.w)), .int .i64 b.y, .int .i64 16, .int .i64 8, .int .i64 0] 42)).drew = U1 at *
        generalize IntKind.i64.wrap (b.x + b.w) = X1 at *
        generalize b.y = Y1 at *
        have HG1 : Hid (Gr w U1 p m q T v' v2' L' L') := HG.out.to (by rw [HZx.out]; exact HB1.out)
        clear HSc HBi
        by_cases hka : k < A.length
        · obtain ⟨g2, o2, rfl, hgl2, hgc2⟩ := HA.out.form (by omega)
          have hx5 := (hgc2 k hka).below HG1.out.bel hgl2
          have hxo := HAo.out k hka
          have hne : g2 ≠ zx := by have h1 := HG.out.bel.size; have h2 := HZx.out; omega
          obtain ⟨x, hx⟩ : ∃ x, A.getD k [] = x := ⟨_, rfl⟩
          rw [hx] at hx5 hxo
          have HXY2 : Hid (I64 (x.getD 0 0) ∧ I64 (x.getD 1 0)) := hxo
          unfold A5 at hx5
          generalize x.getD 0 0 = x0 at *
          generalize x.getD 1 0 = x1 at *
          generalize x.getD 2 0 = x2 at *
          generalize x.getD 3 0 = x3 at *
          generalize x.getD 4 0 = x4 at *
          obtain ⟨h0, h1, h2, h3, h4⟩ := hx5
          have k3 : (k : Int) < (A.length : Int) := by omega
          have HX2 : Hid (Ri 42 (((((U1.setCell ⟨zx, 0, none⟩ (.int .i64 x0)).setCell ⟨zx, 1, none⟩ (.int .i64 x1)).setCell ⟨zx, 2, none⟩ (.int .i64 x2)).setCell ⟨zx, 3, none⟩ (.int .i64 x3)).setCell ⟨zx, 4, none⟩ (.int .i64 x4)) zx [x0, x1, x2, x3, x4]) := (((((HX1.out.set 0 x0).set 1 x1).set 2 x2).set 3 x3).set 4 x4)
          have HB2 : Hid (Below zx wc (((((U1.setCell ⟨zx, 0, none⟩ (.int .i64 x0)).setCell ⟨zx, 1, none⟩ (.int .i64 x1)).setCell ⟨zx, 2, none⟩ (.int .i64 x2)).setCell ⟨zx, 3, none⟩ (.int .i64 x3)).setCell ⟨zx, 4, none⟩ (.int .i64 x4))) := below_set (below_set (below_set (below_set (below_set HB1.out (Nat.le_refl _) _) (Nat.le_refl _) _) (Nat.le_refl _) _) (Nat.le_refl _) _) (Nat.le_refl _) _
          have e0 := HX1.out.cell 0 (by simp)
          have e1 := HX1.out.cell 1 (by simp)
          have e2 := HX1.out.cell 2 (by simp)
          have e3 := HX1.out.cell 3 (by simp)
          have e4 := HX1.out.cell 4 (by simp)
          have f0 := HX1.out.thaw 0
          have f1 := HX1.out.thaw 1
          have f2 := HX1.out.thaw 2
          have f3 := HX1.out.thaw 3
          have f4 := HX1.out.thaw 4
          clear hx hxo hgl2 hgc2 hka HX1 HXY
          go_upto_region 15 with fail
          clear e0 e1 e2 e3 e4 f0 f1 f2 f3 f4 h0 h1 h2 h3 h4
          generalize (((((U1.setCell ⟨zx, 0, none⟩ (.int .i64 x0)).setCell ⟨zx, 1, none⟩ (.int .i64 x1)).setCell ⟨zx, 2, none⟩ (.int .i64 x2)).setCell ⟨zx, 3, none⟩ (.int .i64 x3)).setCell ⟨zx, 4, none⟩ (.int .i64 x4)) = U2 at *
          have HG2 : Hid (Gr w U2 p m q T v' v2' L' L') := HG.out.to (by rw [HZx.out]; exact HB2.out)
          clear HG HG1
          have HG := HG2
          clear HG2
          have HXY := HXY2
          clear HXY2
          have e0 : U2.cell? ⟨zx, 0, none⟩ = some (.int .i64 x0) := HX2.out.cell 0 (by simp)
          have e1 : U2.cell? ⟨zx, 1, none⟩ = some (.int .i64 x1) := HX2.out.cell 1 (by simp)
          have e2 : U2.cell? ⟨zx, 2, none⟩ = some (.int .i64 x2) := HX2.out.cell 2 (by simp)
          have e3 : U2.cell? ⟨zx, 3, none⟩ = some (.int .i64 x3) := HX2.out.cell 3 (by simp)
          have e4 : U2.cell? ⟨zx, 4, none⟩ = some (.int .i64 x4) := HX2.out.cell 4 (by simp)
          go_wp2_with fail
          refine (told_any HG.out.gd HG.out.rd HXY.out.1 HXY.out.2 (by have := HLk.out; have := HK.out; omega)).mono ?_
          rintro e u3 ⟨rfl, hb⟩
          have HG3 : Hid (Gr w u3 p m q T v' v2' L' L') := HG.out.to hb
          clear hb
          go_wp2_with fail
          go_roundw
          case rel => exact ⟨k + 1, _, _, _, by have := HK.out; omega, by have := HK.out; omega, by go_num, HG3.out, HLk.out⟩
          case measure => have := HK.out; simp [intOf]; omega
        · have k3 : ¬ (k : Int) < (A.length : Int) := by omega
          clear HG hka
          have HG := HG1
          clear HG1
          have e0 : U1.cell? ⟨zx, 0, none⟩ = some (.int .i64 X1) := HX1.out.cell 0 (by simp)
          have e1 : U1.cell? ⟨zx, 1, none⟩ = some (.int .i64 Y1) := HX1.out.cell 1 (by simp)
          have e2 : U1.cell? ⟨zx, 2, none⟩ = some (.int .i64 16) := HX1.out.cell 2 (by simp)
          have e3 : U1.cell? ⟨zx, 3, none⟩ = some (.int .i64 8) := HX1.out.cell 3 (by simp)
          have e4 : U1.cell? ⟨zx, 4, none⟩ = some (.int .i64 0) := HX1.out.cell 4 (by simp)
          go_wp2_with fail
          refine (told_any HG.out.gd HG.out.rd HXY.out.1 HXY.out.2 (by have := HLk.out; have := HK.out; omega)).mono ?_
          rintro e u3 ⟨rfl, hb⟩
          have HG3 : Hid (Gr w u3 p m q T v' v2' L' L') := HG.out.to hb
          clear hb
          go_wp2_with fail
          go_roundw
          case rel => exact ⟨k + 1, _, _, _, by have := HK.out; omega, by have := HK.out; omega, by go_num, HG3.out, HLk.out⟩
          case measure => have := HK.out; simp [intOf]; omega
      · obtain rfl : false = cv := by rw [← HCv.out]; exact (decide_eq_false hlt).symm
        have HL1 : Hid (L.length ≤ 100) := by have h := HLk.out; show _ ≤ _; omega
        clear HCv hlt hk hk1 HLk
        go_wp2_with fail
        clear HM HMo
        go_loopw [13] (fun i wr => ∃ k : Nat, k ≤ A.length ∧ k ≤ 100 ∧ i = .int .i64 (k : Int) ∧ Gr w wr p m q T v v2 L L) (fun i _ => A.length - (intOf i).toNat)
        case atStart => exact ⟨0, by omega, by omega, by simp, HG.out⟩
        case round =>
          clear HG
          obtain ⟨k, hk, hk1, rfl, hg⟩ := hrel
          have HG : Hid _ := hg
          clear hg
          obtain ⟨cv, hcv⟩ : ∃ cv, decide (k < A.length ∧ k < 100) = cv := ⟨_, rfl⟩
          have HCv : Hid (decide (k < A.length ∧ k < 100) = cv) := hcv
          have k0 : (0 : Int) ≤ (k : Int) := by omega
          clear hcv
          go_upto_region 18 with fail
          go_cut [100] from 93 to 110 (fun s U => s = .bool cv ∧ wr = U)
          case first =>
            by_cases h1 : k < A.length
            · have j1 : (k : Int) < (A.length : Int) := by omega
              by_cases h2 : k < 100
              · have j2 : (k : Int) < 100 := by omega
                obtain rfl : true = cv := by rw [← HCv.out]; exact (decide_eq_true ⟨h1, h2⟩).symm
                go_wp2_with fail
                go_meet
                exact ⟨rfl, rfl⟩
              · have j2 : ¬ (k : Int) < 100 := by omega
                obtain rfl : false = cv := by rw [← HCv.out]; exact (decide_eq_false (fun h => h2 h.2)).symm
                go_wp2_with fail
                go_meet
                exact ⟨rfl, rfl⟩
            · have j1 : ¬ (k : Int) < (A.length : Int) := by omega
              obtain rfl : false = cv := by rw [← HCv.out]; exact (decide_eq_false (fun h => h1 h.1)).symm
              go_wp2_with fail
              go_meet
              exact ⟨rfl, rfl⟩
          obtain ⟨rfl, rfl⟩ := hcut
          clear k0
          by_cases hlt : k < A.length ∧ k < 100
          · as_aux_lemma =>
             obtain rfl : true = cv := by rw [← HCv.out]; exact (decide_eq_true hlt).symm
             clear HCv
             obtain ⟨g2, o2, rfl, hgl2, hgc2⟩ := HA.out.form (by omega)
             have hx5 := (hgc2 k hlt.1).below HG.out.bel hgl2
             have hxo := HAo.out k hlt.1
             obtain ⟨x, hx⟩ : ∃ x, A.getD k [] = x := ⟨_, rfl⟩
             rw [hx] at hx5 hxo
             have HXY : Hid (I64 (x.getD 0 0) ∧ I64 (x.getD 1 0)) := hxo
             unfold A5 at hx5
             generalize x.getD 0 0 = x0 at *
             generalize x.getD 1 0 = x1 at *
             generalize x.getD 2 0 = x2 at *
             generalize x.getD 3 0 = x3 at *
             generalize x.getD 4 0 = x4 at *
             obtain ⟨h0, h1, h2, h3, h4⟩ := hx5
             have k0 : (0 : Int) ≤ (k : Int) := by omega
             have k3 : (k : Int) < (A.length : Int) := by omega
             have k4 : (k : Int) < 100 := by omega
             have HK : Hid (k < A.length ∧ k < 100) := hlt
             clear hx hxo hgl2 hgc2 hlt hk hk1
             go_wp2_with fail
             refine (told_any HG.out.gd HG.out.rd HXY.out.1 HXY.out.2 (by have := HL1.out; omega)).mono ?_
             rintro e u3 ⟨rfl, hb⟩
             have HG3 : Hid (Gr w u3 p m q T v v2 L L) := HG.out.to hb
             clear hb
             go_wp2_with fail
             go_roundw
             case rel => exact ⟨k + 1, by have := HK.out; omega, by have := HK.out; omega, by go_num, HG3.out⟩
             case measure => have := HK.out; simp [intOf]; omega
          · obtain rfl : false = cv := by rw [← HCv.out]; exact (decide_eq_false hlt).symm
            clear HCv hlt hk hk1 HA HAo
            go_wp2_with fail
            as_aux_lemma =>
             refine (blocks_any HG.out.gd (by have := HL1.out; omega)).mono ?_
             rintro e u1 ⟨xa, rfl, ho, hb⟩
             have HG1 : Hid (Gr w u1 p m q T v v2 L L) := HG.out.to hb
             have HOa : Hid (Or u1 wr.heap.size xa L) := ho
             have HLt : Hid (∀ i, (Gb p m v i ∨ Rb q v2 i) → i < wr.heap.size) := fun i hi => by
               rcases hi with hi | hi
               · exact HG.out.gd.blt hi
               · exact HG.out.rd.blt hi
             have HSz : Hid (w.heap.size ≤ wr.heap.size) := HG.out.bel.size
             clear ho hb
             go_wp2_with fail
             refine (blocks_any HG1.out.gd (by have := HL1.out; omega)).mono ?_
             rintro e u2 ⟨xb, rfl, ho, hb⟩
             have HG2 : Hid (Gr w u2 p m q T v v2 L L) := HG1.out.to hb
             have HOa2 : Hid (Or u2 wr.heap.size xa L) := HOa.out.to hb
             have HOb : Hid (Or u2 u1.heap.size xb L) := ho
             have HAl : Hid (∀ g, xa.ownBlock = some g → wr.heap.size ≤ g ∧ g < u1.heap.size) := fun g hg => HOa.out.lt hg
             have HBl : Hid (∀ g, xb.ownBlock = some g → u1.heap.size ≤ g) := fun g hg => (HOb.out.lt hg).1
             have HWa : Hid (Wr L xa u2 u2) := Wr.start HOa2.out
             obtain ⟨aa, ca, rfl, haf⟩ := HOa2.out.slice
             obtain ⟨ab', cb, rfl, -⟩ := HOb.out.slice
             have lb : (L.length : Int) ≤ 100 := by have := HL1.out; omega
             have HAf : Hid (0 < L.length → ∃ g, aa = some ⟨g, 0, none⟩) := haf
             clear ho hb HG HG1 HOa HOa2 haf
             go_wp2_with fail
             go_loopw [16] (fun i wr => ∃ k : Nat, k ≤ L.length ∧ i = .int .i64 (k : Int) ∧ Wr L (.slice aa L.length ca) u2 wr) (fun i _ => L.length - (intOf i).toNat)
             case atStart => exact ⟨0, by omega, by simp, HWa.out⟩
             case round =>
               clear HWa
               obtain ⟨k, hk, rfl, hwr⟩ := hrel
               have HWa : Hid _ := hwr
               clear hwr
               by_cases hlt : k < L.length
               · obtain ⟨g, rfl⟩ := HAf.out (by omega)
                 obtain ⟨y, hy, hfz⟩ := HWa.out.at (g := g) rfl hlt
                 have HWs : Hid (∀ o y, Wr L (.slice (some ⟨g, 0, none⟩) L.length ca) u2 (wr.setCell ⟨g, o, none⟩ y)) := fun o y => HWa.out.set rfl o y
                 have k0 : (0 : Int) ≤ (k : Int) := by omega
                 have k1 : (k : Int) < (L.length : Int) := by omega
                 have HK : Hid (k < L.length) := hlt
                 clear hlt hk
                 go_wp2_with fail
                 go_roundw
                 case rel => exact ⟨k + 1, by have := HK.out; omega, by go_num, HWs.out _ _⟩
                 case measure => have := HK.out; simp [intOf]; omega
               · obtain rfl : k = L.length := by omega
                 clear hlt hk
                 have HG3 : Hid (Gr w wr p m q T v v2 L L) := HG2.out.sv HWa.out.sv fun g hg => by
                   have h1 := HAl.out g hg
                   have h2 := HSz.out
                   exact ⟨by omega, fun e => by have := HLt.out g (Or.inl e); omega, fun e => by have := HLt.out g (Or.inr e); omega⟩
                 have HOb3 : Hid (Or wr u1.heap.size (.slice ab' L.length cb) L) := HOb.out.carry fun g hg => HWa.out.sv.block g fun e => by
                   have h1 := HAl.out g e
                   have h2 := HBl.out g hg
                   omega
                 clear HG2 HOb HWa
                 go_wp2_with fail
                 refine (rblocks_any HG3.out.rd (by have := HL1.out; omega)).mono ?_
                 rintro e t1 ⟨xc, rfl, ho, hb⟩
                 obtain ⟨ac, cc, rfl, -⟩ := ho.slice
                 obtain ⟨ab1, cb1, hs1, -, hsb, -⟩ := (HOb3.out.to hb).form
                 obtain ⟨ac1, cc1, hs2, -, hsc, -⟩ := ho.form
                 obtain ⟨rfl, -, rfl⟩ : ab' = ab1 ∧ L.length = L.length ∧ cb = cb1 := by simpa using hs1
                 obtain ⟨rfl, -, rfl⟩ : ac = ac1 ∧ L.length = L.length ∧ cc = cc1 := by simpa using hs2
                 have HS1 : Hid (Sb t1 ab' L ∧ Sb t1 ac L) := ⟨hsb, hsc⟩
                 have HG4 : Hid (Gr w t1 p m q T v v2 L L) := HG3.out.to hb
                 clear ho hb hs1 hs2 hsb hsc HG3 HOb3
                 go_wp2_with fail
                 refine (same_eq HS1.out.1 HS1.out.2 (by have := HL1.out; omega)).mono ?_
                 rintro e t2 ⟨rfl, hb⟩
                 have HG5 : Hid (Gr w t2 p m q T v v2 L L) := HG4.out.to hb
                 clear hb HG4 HS1
                 go_wp2_with fail
                 refine (blocks_any HG5.out.gd (by have := HL1.out; omega)).mono ?_
                 rintro e t3 ⟨xd, rfl, ho, hb⟩
                 obtain ⟨ad, cd, rfl, -⟩ := ho.slice
                 have HOd : Hid (Or t3 t2.heap.size (.slice ad L.length cd) L) := ho
                 have HG6 : Hid (Gr w t3 p m q T v v2 L L) := HG5.out.to hb
                 clear ho hb HG5
                 go_wp2_with fail
                 refine (rblocks_any HG6.out.rd (by have := HL1.out; omega)).mono ?_
                 rintro e t4 ⟨xe, rfl, ho, hb⟩
                 obtain ⟨ae, ce, rfl, -⟩ := ho.slice
                 obtain ⟨ad1, cd1, hs1, -, hsb, -⟩ := (HOd.out.to hb).form
                 obtain ⟨ae1, ce1, hs2, -, hsc, -⟩ := ho.form
                 obtain ⟨rfl, -, rfl⟩ : ad = ad1 ∧ L.length = L.length ∧ cd = cd1 := by simpa using hs1
                 obtain ⟨rfl, -, rfl⟩ : ae = ae1 ∧ L.length = L.length ∧ ce = ce1 := by simpa using hs2
                 have HS2 : Hid (Sb t4 ad L ∧ Sb t4 ae L) := ⟨hsb, hsc⟩
                 have HG7 : Hid (Gr w t4 p m q T v v2 L L) := HG6.out.to hb
                 clear ho hb hs1 hs2 hsb hsc HG6 HOd
                 go_wp2_with fail
                 refine (same_eq HS2.out.1 HS2.out.2 (by have := HL1.out; omega)).mono ?_
                 rintro e t5 ⟨rfl, hb⟩
                 have HG8 : Hid (Gr w t5 p m q T v v2 L L) := HG7.out.to hb
                 clear hb HG7 HS2
                 go_wp2_with fail
                 refine (HAwk.out _).mono ?_
                 rintro e t6 ⟨rfl, hb⟩
                 have HG9 : Hid (Gr w t6 p m q T v v2 L L) := HG8.out.to hb
                 clear hb
                 go_wp2_with fail
                 go_ret
                 exact ⟨rfl, HG9.out.bel⟩
  · as_aux_lemma =>
     have HN1 : Hid (∀ u, Calls Try.prog 7 #[.agg #[.int .i64 X, .int .i64 Y, .int .i64 W, .int .i64 H]] u fun e w' => Nn u w' e) := fun u => new_no (T := (X, Y, W, H)) hT
     have HN2 : Hid (∀ u, Calls Try.prog 8 #[.agg #[.int .i64 X, .int .i64 Y, .int .i64 W, .int .i64 H]] u fun e w' => Nn u w' e) := fun u => rnew_no (T := (X, Y, W, H)) hT
     clear hT
     go_wp2_with fail
     refine (HN1.out _).mono ?_
     rintro e w1 ⟨rfl, hb⟩
     have HTj : Hid (Below z w w1 ∧ Ri 23 w1 z [X, Y, W, H]) := ⟨HTi.out.1.trans (hb.mono (by have := HTi.out.2.lt; omega)), HTi.out.2.to hb⟩
     clear hb c0 c1 c2 c3 HTi
     have c0 : w1.cell? ⟨z, 0, none⟩ = some (.int .i64 X) := HTj.out.2.cell 0 (by simp)
     have c1 : w1.cell? ⟨z, 1, none⟩ = some (.int .i64 Y) := HTj.out.2.cell 1 (by simp)
     have c2 : w1.cell? ⟨z, 2, none⟩ = some (.int .i64 W) := HTj.out.2.cell 2 (by simp)
     have c3 : w1.cell? ⟨z, 3, none⟩ = some (.int .i64 H) := HTj.out.2.cell 3 (by simp)
     go_wp2_with fail
     refine (HN2.out _).mono ?_
     rintro e w2 ⟨rfl, hb⟩
     have HB2 : Hid (Below z w w2) := HTj.out.1.trans (hb.mono (by have := HTj.out.2.lt; omega))
     clear hb c0 c1 c2 c3 HTj
     go_wp2_with fail
     refine (HAwk.out _).mono ?_
     rintro e w3 ⟨rfl, hb⟩
     have HB3 : Hid (Below z w w3) := HB2.out.trans (hb.mono (by have := HB2.out.size; rw [HZ.out] at this; exact this))
     clear hb
     go_wp2_with fail
     go_ret
     exact ⟨rfl, by rw [HZ.out]; exact HB3.out⟩
end Go.Proofs.Ytppofodijlofdaa
