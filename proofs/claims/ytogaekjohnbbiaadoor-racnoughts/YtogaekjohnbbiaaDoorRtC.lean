/- DERIVED. The walks of CopyBytes and of the document's Read. -/
import Derived.Test.YtogaekjohnbbiaaDoorRtB
namespace Go.Proofs.YtogaekjohnbbiaaDoor
open Go.RowKit

set_option maxHeartbeats 400000 in
theorem copy_some (ad : Addr) (c : Nat) (zs : List Nat) (w : World) (hc : ∀ j, j < zs.length → w.cell? (ad.add j) = some (.int .u8 (zs.getD j 0 : Nat))) (hl : zs.length ≤ 140737488355328) (h0 : 0 < zs.length) :
    Calls Tryd.prog 17 #[.slice (some ad) zs.length c] w fun e w' => ∃ v, e = .returned v ∧ w'.ownsRow w.heap.size 5 1 v zs.length (bs zs) ∧ Below w.heap.size w w' := by
  obtain ⟨i, hi, hz0, hz1, hz2⟩ := info_parts Tryd.info5
  have hown : w.ownsRow w.heap.size 5 1 (.slice none 0 0) 0 [] := World.ownsRow_nil _ _ _ _
  have hnews : ∀ j u, (bs zs)[j]? = some u → w.cell? (ad.add j) = some u := by
    intro j u hu
    have hj : j < zs.length := by have := List.getElem?_eq_some_iff.1 hu; obtain ⟨h1, _⟩ := this; rw [bs_length] at h1; exact h1
    rw [bs_get zs j hj] at hu
    rw [← hu]
    exact hc j hj
  go_enter Tryd.func17, Tryd.ntmps17
  go_wp2_with (at_builtin; refine wpList_append_lies _ (by rfl) _ _ _ (by rfl) w.heap.size 5 i (.int .u8 0) 1 1 Tryd.underlying32 hi hz0 hz1 hz2 rfl (by omega) _ 0 [] (by rfl) hown ad zs.length c (bs zs) (by rfl) (by rw [bs_length, Nat.mul_one]) hnews (bs_one zs) h0 (by unfold maxLen; omega) (by omega) (by simp) w.heap.size (by simp) ?_; intro g cap w1 hown1 hgrow hat hlt)
  go_ret
  rw [List.nil_append, Nat.zero_add] at hown1
  refine ⟨_, rfl, hown1, ?_⟩
  exact (Below.refl _ _).grown hgrow (by simp) (fun k hk => by simp [Value.ownBlock] at hk)

set_option maxHeartbeats 400000 in
theorem copy_none (a : Option Addr) (c : Nat) (w : World) : Calls Tryd.prog 17 #[.slice a 0 c] w fun e w' => e = .returned (.slice none 0 0) ∧ w' = w := by
  cases a with
  | none =>
    go_enter Tryd.func17, Tryd.ntmps17
    go_wp2
    go_ret
    exact ⟨rfl, rfl⟩
  | some ad =>
    go_enter Tryd.func17, Tryd.ntmps17
    go_wp2
    go_ret
    exact ⟨rfl, rfl⟩

theorem copy_any {w : World} {v : Value} {zs : List Nat} (h : SrcOf w v zs) (hl : zs.length ≤ 140737488355328) :
    Calls Tryd.prog 17 #[v] w fun e w' => ∃ a c, e = .returned (.slice a zs.length c) ∧ w'.ownsRow w.heap.size 5 1 (.slice a zs.length c) zs.length (bs zs) ∧ Below w.heap.size w w' := by
  rcases h with ⟨rfl, rfl⟩ | ⟨ad, c, rfl, hc⟩
  · refine (copy_none _ _ w).mono ?_
    rintro e w' ⟨rfl, rfl⟩
    exact ⟨_, _, rfl, World.ownsRow_nil _ _ _ _, Below.refl _ _⟩
  · by_cases h0 : zs.length = 0
    · obtain rfl : zs = [] := List.eq_nil_of_length_eq_zero h0
      refine (copy_none _ _ w).mono ?_
      rintro e w' ⟨rfl, rfl⟩
      exact ⟨_, _, rfl, World.ownsRow_nil _ _ _ _, Below.refl _ _⟩
    · refine (copy_some ad c zs w hc hl (by omega)).mono ?_
      rintro e w' ⟨v, rfl, h1, h2⟩
      obtain ⟨a, c, rfl⟩ := own_slice h1
      exact ⟨a, c, rfl, h1, h2⟩

/-- the document's decoder in block x that was made between two worlds -/
def DfMade (w w' : World) (zs : List Nat) (x : Nat) : Prop := ∃ b, Df w' x b zs 4 (dFirst zs) 4294967295 ∧ w.heap.size ≤ x ∧ w.heap.size ≤ b ∧ (zs ≠ [] → b < w'.heap.size) ∧ Below w.heap.size w w'

theorem grownNew {w w1 : World} {o : Obj} {row : Option Nat} (hg : (w.alloc o).grownBy w1 row) (hne : row ≠ some w.heap.size) (j : Nat) : w1.cell? ⟨w.heap.size, j, none⟩ = (w.alloc o).cell? ⟨w.heap.size, j, none⟩ ∧ w1.frozen? ⟨w.heap.size, j, none⟩ = (w.alloc o).frozen? ⟨w.heap.size, j, none⟩ := by
  have e : w1.heap[w.heap.size]? = (w.alloc o).heap[w.heap.size]? := hg.block w.heap.size (by simp) (Ne.symm hne)
  exact ⟨World.cell?_of_block (w := w.alloc o) (a := ⟨w.heap.size, j, none⟩) e, World.frozen?_of_block (w := w.alloc o) (a := ⟨w.heap.size, j, none⟩) e⟩

/-- what is left of Read: four bytes come in -/
def HalfR (w W : World) (x : Nat) (zs : List Nat) : Prop := ∃ b, Df W x b zs 0 0 4294967295 ∧ w.heap.size ≤ x ∧ w.heap.size ≤ b ∧ (zs ≠ [] → b < W.heap.size) ∧ Below w.heap.size w W

set_option maxRecDepth 100000 in
set_option maxHeartbeats 1000000 in
theorem rread_some (ad : Addr) (c : Nat) (zs : List Nat) (w : World) (hc : ∀ j, j < zs.length → w.cell? (ad.add j) = some (.int .u8 (zs.getD j 0 : Nat))) (hz : ∀ i, zs.getD i 0 < 256) (hl : zs.length ≤ 140737488355328) (h0 : 0 < zs.length) :
    Calls Tryd.prog 19 #[.slice (some ad) zs.length c] w fun e w' => ∃ x, e = .returned (.pointer (some ⟨x, 0, none⟩)) ∧ DfMade w w' zs x := by
  obtain ⟨i, hi, hz0, hz1, hz2⟩ := info_parts Tryd.info5
  have hown : (w.alloc (.cells #[.slice none 0 0, .int .i64 0, .int .u64 0, .int .u64 4294967295] 64)).ownsRow (w.heap.size + 1) 5 1 (.slice none 0 0) 0 [] := World.ownsRow_nil _ _ _ _
  have hnews : ∀ j u, (bs zs)[j]? = some u → (w.alloc (.cells #[.slice none 0 0, .int .i64 0, .int .u64 0, .int .u64 4294967295] 64)).cell? (ad.add j) = some u := by
    intro j u hu
    have hj : j < zs.length := by have := List.getElem?_eq_some_iff.1 hu; obtain ⟨h1, _⟩ := this; rw [bs_length] at h1; exact h1
    rw [bs_get zs j hj] at hu
    rw [← hu]
    have := hc j hj
    rw [World.cell?_alloc_lt _ _ _ (World.block_lt_of_cell? w _ this)]
    exact this
  have HC : Hid _ := hc
  have HZ : Hid (∀ i, zs.getD i 0 < 256) := hz
  clear hc hz
  go_enter Tryd.func19, Tryd.ntmps19
  go_wp2_with (at_builtin; refine wpList_append_lies _ (by rfl) _ _ _ (by rfl) (w.heap.size + 1) 5 i (.int .u8 0) 1 1 Tryd.underlying32 hi hz0 hz1 hz2 rfl (by omega) _ 0 [] (by rfl) hown ad zs.length c (bs zs) (by rfl) (by rw [bs_length, Nat.mul_one]) hnews (bs_one zs) h0 (by unfold maxLen; omega) (by omega) (by simp) (w.heap.size + 1) (by simp) ?_; intro g cap w1 hown1 hgrow hat hlt; have e0 := (grownNew hgrow (by simp [Value.ownBlock]) 0).1; have e1 := (grownNew hgrow (by simp [Value.ownBlock]) 1).1; have e2 := (grownNew hgrow (by simp [Value.ownBlock]) 2).1; have e3 := (grownNew hgrow (by simp [Value.ownBlock]) 3).1; have f0 := (grownNew hgrow (by simp [Value.ownBlock]) 0).2; have f1 := (grownNew hgrow (by simp [Value.ownBlock]) 1).2; have f2 := (grownNew hgrow (by simp [Value.ownBlock]) 2).2; have f3 := (grownNew hgrow (by simp [Value.ownBlock]) 3).2; simp at e0 e1 e2 e3 f0 f1 f2 f3)
  · have hh : HalfR w (w1.setCell ⟨w.heap.size, 0, none⟩ (.slice (some ⟨g, 0, none⟩) zs.length cap)) w.heap.size zs := by
      rw [List.nil_append, Nat.zero_add] at hown1
      have hg1 := (hown1.lt g rfl)
      have hsz : w.heap.size + 1 ≤ w1.heap.size := by have := hgrow.size; simpa using this
      have hcap : zs.length ≤ cap := by
        rcases hown1.2 with ⟨h1, _⟩ | ⟨b', cap', cur, h1, _, _, h2, _⟩
        · cases h1
        · simp only [Value.slice.injEq] at h1; omega
      have ef : ∀ a, (w1.setCell ⟨w.heap.size, 0, none⟩ (.slice (some ⟨g, 0, none⟩) zs.length cap)).frozen? a = w1.frozen? a := fun a => by simp
      have hdt : Dt w1 (.slice (some ⟨g, 0, none⟩) zs.length cap) g zs := Or.inr ⟨0, cap, hg1.2, hcap, rfl, fun j hj => by rw [Nat.zero_add, hown1.cellAt j (by omega)]; exact bs_get zs j hj⟩
      refine ⟨g, ⟨⟨_, World.cell?_setCell_same _ _ _ e0, hdt.far (by omega)⟩, ?_, ?_, ?_, ?_, ?_, ?_, ?_, by omega, HZ.out, hl, by omega⟩, Nat.le_refl _, by omega, fun _ => by simpa [World.setCell] using hg1.2, ?_⟩
      · rw [World.cell?_setCell_other _ _ _ _ (by simp)]; exact e1
      · rw [World.cell?_setCell_other _ _ _ _ (by simp)]; exact e2
      · rw [World.cell?_setCell_other _ _ _ _ (by simp)]; exact e3
      · rw [ef]; exact f1
      · rw [ef]; exact f2
      · rw [ef]; exact f3
      · simp [World.setCell]; omega
      · exact below_set (((Below.refl _ _).alloc (Nat.le_refl _) _).grown hgrow (by simp) (fun k hk => by simp [Value.ownBlock] at hk)) (Nat.le_refl _) _
    clear hown1 hgrow e0 e1 e2 e3 f0 f1 f2 f3 hown hnews HC
    generalize w1.setCell ⟨w.heap.size, 0, none⟩ (.slice (some ⟨g, 0, none⟩) zs.length cap) = W at *
    obtain ⟨b, hd0, hx, hb, hbl, hbel⟩ := hh
    have HBE : Hid _ := hbel
    have HBL : Hid _ := hbl
    clear hbel hbl
    go_loopw [4] (fun i wr => ∃ k : Nat, i = .int .i64 k ∧ k ≤ 4 ∧ Df wr w.heap.size b zs k (pre zs k) 4294967295 ∧ Kp w.heap.size W wr) (fun i _ => 4 - (intOf i).toNat)
    case atStart => exact ⟨0, rfl, by omega, hd0, Kp.refl _ _⟩
    case round =>
      clear hd0
      obtain ⟨k, rfl, hk, hd, hkp⟩ := hrel
      by_cases hlt4 : k < 4
      · have hpl : pre zs k < 16777216 := by
          have h1 := pre_lt HZ.out k
          have h2 : 256 ^ k ≤ 256 ^ 3 := Nat.pow_le_pow_right (by omega) (by omega)
          omega
        have HFE : Hid _ := fetch64 (c := pre zs k) (z := zs.getD k 0) hpl (HZ.out k)
        have HPE : Hid (pre zs (k + 1) = pre zs k * 256 + zs.getD k 0) := rfl
        have HNX : Hid (Calls Tryd.prog 35 #[.pointer (some ⟨w.heap.size, 0, none⟩)] wr.drew fun e w' => e = .returned (.int .u64 (zs.getD k 0 : Nat)) ∧ Df w' w.heap.size b zs (k + 1) (pre zs k) 4294967295 ∧ Kp w.heap.size wr w' ∧ w'.cell? ⟨w.heap.size, 2, none⟩ = some (.int .u64 (pre zs k : Nat)) ∧ w'.frozen? ⟨w.heap.size, 2, none⟩ = false) := (next_df (hd.same (w' := wr.drew) rfl) (by omega)).mono fun e w' ⟨h1, h2, h3⟩ => ⟨h1, h2, ((Kp.refl _ wr).drew).trans h3, h2.code, h2.thaw2⟩
        have hc := hd.code
        have hf := hd.thaw2
        clear hpl
        generalize zs.getD k 0 = z at *
        generalize pre zs k = pk at *
        go_wp2_with fail
        go_region_with ((go_at_call 35; refine Calls.mono HNX.out ?_; rintro e w2 ⟨rfl, hd2, hk2, hc2, hf2⟩))
        all_goals
          have HD2 : Hid _ := hd2
          clear hd2 hc2 hf2
          go_wp2_with fail
          refine ⟨⟨k + 1, by go_num, by omega, ?_, (hkp.trans hk2).trans (Kp.set _ _ _ _)⟩, by simp [intOf]; omega⟩
          rw [HFE.out, HPE.out]
          exact HD2.out.setCode (pk * 256 + z)
      · obtain rfl : k = 4 := by omega
        have hc := hd.code
        have ht := hd.thaw2
        have h1 := hd.setCode (dFirst zs)
        have hbel : ∀ u : Value, Below w.heap.size w (wr.setCell ⟨w.heap.size, 2, none⟩ u) := fun u => HBE.out.trans ((hkp.trans (Kp.set w.heap.size 2 wr u)).toBelow (Nat.le_refl _))
        have HS : Hid (DfMade w (wr.setCell ⟨w.heap.size, 2, none⟩ (.int .u64 (dFirst zs : Nat))) zs w.heap.size) := ⟨b, h1, Nat.le_refl _, hb, fun h => by have h5 := HBL.out h; have h6 := hkp.size; simp [World.setCell]; omega, hbel _⟩
        have HF : Hid (dFirst zs = min (pre zs 4) 4294967294) := rfl
        clear h1 hbel hd
        generalize dFirst zs = F at *
        generalize pre zs 4 = p4 at *
        go_wp2_with fail
        all_goals
          go_ret
          refine ⟨w.heap.size, rfl, ?_⟩
          have e := HF.out
          have hs := HS.out
          first
            | (rw [show ((F : Nat) : Int) = 4294967294 from by omega] at hs; exact hs)
            | (rw [show ((F : Nat) : Int) = (p4 : Int) from by omega] at hs; exact hs)

set_option maxRecDepth 100000 in
set_option maxHeartbeats 1000000 in
theorem rread_nil (w : World) : Calls Tryd.prog 19 #[.slice none 0 0] w fun e w' => ∃ x, e = .returned (.pointer (some ⟨x, 0, none⟩)) ∧ DfMade w w' [] x := by
  obtain ⟨zs, hzs⟩ : ∃ zs : List Nat, zs = [] := ⟨_, rfl⟩
  have HZ : Hid (∀ i, zs.getD i 0 < 256) := fun i => by rw [hzs]; simp
  rw [← hzs]
  go_enter Tryd.func19, Tryd.ntmps19
  go_wp2_with fail
  · have hh : HalfR w (w.alloc (.cells #[.slice none 0 0, .int .i64 0, .int .u64 0, .int .u64 4294967295] 64)) w.heap.size zs := by
      refine ⟨w.heap.size + 1, ⟨⟨.slice none 0 0, by simp, Or.inl ⟨hzs, _, _, rfl⟩⟩, by simp, by simp, by simp, by simp, by simp, by simp, by simp, by omega, HZ.out, by rw [hzs]; simp, by omega⟩, Nat.le_refl _, by omega, fun h => absurd hzs h, below_alloc (Below.refl _ _) (Nat.le_refl _) _⟩
    generalize w.alloc (.cells #[.slice none 0 0, .int .i64 0, .int .u64 0, .int .u64 4294967295] 64) = W at *
    clear hzs
    obtain ⟨b, hd0, hx, hb, hbl, hbel⟩ := hh
    have HBE : Hid _ := hbel
    have HBL : Hid _ := hbl
    clear hbel hbl
    go_loopw [4] (fun i wr => ∃ k : Nat, i = .int .i64 k ∧ k ≤ 4 ∧ Df wr w.heap.size b zs k (pre zs k) 4294967295 ∧ Kp w.heap.size W wr) (fun i _ => 4 - (intOf i).toNat)
    case atStart => exact ⟨0, rfl, by omega, hd0, Kp.refl _ _⟩
    case round =>
      clear hd0
      obtain ⟨k, rfl, hk, hd, hkp⟩ := hrel
      by_cases hlt4 : k < 4
      · have hpl : pre zs k < 16777216 := by
          have h1 := pre_lt HZ.out k
          have h2 : 256 ^ k ≤ 256 ^ 3 := Nat.pow_le_pow_right (by omega) (by omega)
          omega
        have HFE : Hid _ := fetch64 (c := pre zs k) (z := zs.getD k 0) hpl (HZ.out k)
        have HPE : Hid (pre zs (k + 1) = pre zs k * 256 + zs.getD k 0) := rfl
        have HNX : Hid (Calls Tryd.prog 35 #[.pointer (some ⟨w.heap.size, 0, none⟩)] wr.drew fun e w' => e = .returned (.int .u64 (zs.getD k 0 : Nat)) ∧ Df w' w.heap.size b zs (k + 1) (pre zs k) 4294967295 ∧ Kp w.heap.size wr w' ∧ w'.cell? ⟨w.heap.size, 2, none⟩ = some (.int .u64 (pre zs k : Nat)) ∧ w'.frozen? ⟨w.heap.size, 2, none⟩ = false) := (next_df (hd.same (w' := wr.drew) rfl) (by omega)).mono fun e w' ⟨h1, h2, h3⟩ => ⟨h1, h2, ((Kp.refl _ wr).drew).trans h3, h2.code, h2.thaw2⟩
        have hc := hd.code
        have hf := hd.thaw2
        clear hpl
        generalize zs.getD k 0 = z at *
        generalize pre zs k = pk at *
        go_wp2_with fail
        go_region_with ((go_at_call 35; refine Calls.mono HNX.out ?_; rintro e w2 ⟨rfl, hd2, hk2, hc2, hf2⟩))
        all_goals
          have HD2 : Hid _ := hd2
          clear hd2 hc2 hf2
          go_wp2_with fail
          refine ⟨⟨k + 1, by go_num, by omega, ?_, (hkp.trans hk2).trans (Kp.set _ _ _ _)⟩, by simp [intOf]; omega⟩
          rw [HFE.out, HPE.out]
          exact HD2.out.setCode (pk * 256 + z)
      · obtain rfl : k = 4 := by omega
        have hc := hd.code
        have ht := hd.thaw2
        have h1 := hd.setCode (dFirst zs)
        have hbel : ∀ u : Value, Below w.heap.size w (wr.setCell ⟨w.heap.size, 2, none⟩ u) := fun u => HBE.out.trans ((hkp.trans (Kp.set w.heap.size 2 wr u)).toBelow (Nat.le_refl _))
        have HS : Hid (DfMade w (wr.setCell ⟨w.heap.size, 2, none⟩ (.int .u64 (dFirst zs : Nat))) zs w.heap.size) := ⟨b, h1, Nat.le_refl _, hb, fun h => by have h5 := HBL.out h; have h6 := hkp.size; simp [World.setCell]; omega, hbel _⟩
        have HF : Hid (dFirst zs = min (pre zs 4) 4294967294) := rfl
        clear h1 hbel hd
        generalize dFirst zs = F at *
        generalize pre zs 4 = p4 at *
        go_wp2_with fail
        all_goals
          go_ret
          refine ⟨w.heap.size, rfl, ?_⟩
          have e := HF.out
          have hs := HS.out
          first
            | (rw [show ((F : Nat) : Int) = 4294967294 from by omega] at hs; exact hs)
            | (rw [show ((F : Nat) : Int) = (p4 : Int) from by omega] at hs; exact hs)

set_option maxRecDepth 100000 in
set_option maxHeartbeats 1000000 in
theorem rread_empty (ad : Addr) (c : Nat) (w : World) : Calls Tryd.prog 19 #[.slice (some ad) 0 c] w fun e w' => ∃ x, e = .returned (.pointer (some ⟨x, 0, none⟩)) ∧ DfMade w w' [] x := by
  obtain ⟨zs, hzs⟩ : ∃ zs : List Nat, zs = [] := ⟨_, rfl⟩
  have HZ : Hid (∀ i, zs.getD i 0 < 256) := fun i => by rw [hzs]; simp
  rw [← hzs]
  go_enter Tryd.func19, Tryd.ntmps19
  go_wp2_with fail
  · have hh : HalfR w (w.alloc (.cells #[.slice none 0 0, .int .i64 0, .int .u64 0, .int .u64 4294967295] 64)) w.heap.size zs := by
      refine ⟨w.heap.size + 1, ⟨⟨.slice none 0 0, by simp, Or.inl ⟨hzs, _, _, rfl⟩⟩, by simp, by simp, by simp, by simp, by simp, by simp, by simp, by omega, HZ.out, by rw [hzs]; simp, by omega⟩, Nat.le_refl _, by omega, fun h => absurd hzs h, below_alloc (Below.refl _ _) (Nat.le_refl _) _⟩
    generalize w.alloc (.cells #[.slice none 0 0, .int .i64 0, .int .u64 0, .int .u64 4294967295] 64) = W at *
    clear hzs
    obtain ⟨b, hd0, hx, hb, hbl, hbel⟩ := hh
    have HBE : Hid _ := hbel
    have HBL : Hid _ := hbl
    clear hbel hbl
    go_loopw [4] (fun i wr => ∃ k : Nat, i = .int .i64 k ∧ k ≤ 4 ∧ Df wr w.heap.size b zs k (pre zs k) 4294967295 ∧ Kp w.heap.size W wr) (fun i _ => 4 - (intOf i).toNat)
    case atStart => exact ⟨0, rfl, by omega, hd0, Kp.refl _ _⟩
    case round =>
      clear hd0
      obtain ⟨k, rfl, hk, hd, hkp⟩ := hrel
      by_cases hlt4 : k < 4
      · have hpl : pre zs k < 16777216 := by
          have h1 := pre_lt HZ.out k
          have h2 : 256 ^ k ≤ 256 ^ 3 := Nat.pow_le_pow_right (by omega) (by omega)
          omega
        have HFE : Hid _ := fetch64 (c := pre zs k) (z := zs.getD k 0) hpl (HZ.out k)
        have HPE : Hid (pre zs (k + 1) = pre zs k * 256 + zs.getD k 0) := rfl
        have HNX : Hid (Calls Tryd.prog 35 #[.pointer (some ⟨w.heap.size, 0, none⟩)] wr.drew fun e w' => e = .returned (.int .u64 (zs.getD k 0 : Nat)) ∧ Df w' w.heap.size b zs (k + 1) (pre zs k) 4294967295 ∧ Kp w.heap.size wr w' ∧ w'.cell? ⟨w.heap.size, 2, none⟩ = some (.int .u64 (pre zs k : Nat)) ∧ w'.frozen? ⟨w.heap.size, 2, none⟩ = false) := (next_df (hd.same (w' := wr.drew) rfl) (by omega)).mono fun e w' ⟨h1, h2, h3⟩ => ⟨h1, h2, ((Kp.refl _ wr).drew).trans h3, h2.code, h2.thaw2⟩
        have hc := hd.code
        have hf := hd.thaw2
        clear hpl
        generalize zs.getD k 0 = z at *
        generalize pre zs k = pk at *
        go_wp2_with fail
        go_region_with ((go_at_call 35; refine Calls.mono HNX.out ?_; rintro e w2 ⟨rfl, hd2, hk2, hc2, hf2⟩))
        all_goals
          have HD2 : Hid _ := hd2
          clear hd2 hc2 hf2
          go_wp2_with fail
          refine ⟨⟨k + 1, by go_num, by omega, ?_, (hkp.trans hk2).trans (Kp.set _ _ _ _)⟩, by simp [intOf]; omega⟩
          rw [HFE.out, HPE.out]
          exact HD2.out.setCode (pk * 256 + z)
      · obtain rfl : k = 4 := by omega
        have hc := hd.code
        have ht := hd.thaw2
        have h1 := hd.setCode (dFirst zs)
        have hbel : ∀ u : Value, Below w.heap.size w (wr.setCell ⟨w.heap.size, 2, none⟩ u) := fun u => HBE.out.trans ((hkp.trans (Kp.set w.heap.size 2 wr u)).toBelow (Nat.le_refl _))
        have HS : Hid (DfMade w (wr.setCell ⟨w.heap.size, 2, none⟩ (.int .u64 (dFirst zs : Nat))) zs w.heap.size) := ⟨b, h1, Nat.le_refl _, hb, fun h => by have h5 := HBL.out h; have h6 := hkp.size; simp [World.setCell]; omega, hbel _⟩
        have HF : Hid (dFirst zs = min (pre zs 4) 4294967294) := rfl
        clear h1 hbel hd
        generalize dFirst zs = F at *
        generalize pre zs 4 = p4 at *
        go_wp2_with fail
        all_goals
          go_ret
          refine ⟨w.heap.size, rfl, ?_⟩
          have e := HF.out
          have hs := HS.out
          first
            | (rw [show ((F : Nat) : Int) = 4294967294 from by omega] at hs; exact hs)
            | (rw [show ((F : Nat) : Int) = (p4 : Int) from by omega] at hs; exact hs)

theorem rread_any {w : World} {v : Value} {zs : List Nat} (h : SrcOf w v zs) (hz : ∀ i, zs.getD i 0 < 256) (hl : zs.length ≤ 140737488355328) :
    Calls Tryd.prog 19 #[v] w fun e w' => ∃ x, e = .returned (.pointer (some ⟨x, 0, none⟩)) ∧ DfMade w w' zs x := by
  rcases h with ⟨rfl, rfl⟩ | ⟨ad, c, rfl, hc⟩
  · exact rread_nil w
  · by_cases h0 : zs.length = 0
    · obtain rfl : zs = [] := List.eq_nil_of_length_eq_zero h0
      exact rread_empty ad c w
    · exact rread_some ad c zs w hc hz hl (by omega)

end Go.Proofs.YtogaekjohnbbiaaDoor
