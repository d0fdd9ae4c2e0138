/- DERIVED. The small functions: the types of pieces, the copies, EqBytes, the number of a body's bytes. -/
import Derived.Test.YtkippnfijjhobabPa
namespace Go.Proofs.Ytkippnfijjhobab
open Go.RowKit

set_option maxHeartbeats 400000 in
theorem isType_any (t : Int) (w : World) : Calls Try.prog 12 #[.int .i64 t] w fun e w' => e = .returned (.bool (tyB t)) ∧ w' = w := by
  unfold tyB
  by_cases h1 : t = 1
  · subst h1
    go_enter Try.func12, Try.ntmps12
    go_wp2
    go_ret
    exact ⟨rfl, rfl⟩
  · by_cases h2 : t = 2
    · subst h2
      go_enter Try.func12, Try.ntmps12
      go_wp2
      go_ret
      exact ⟨rfl, rfl⟩
    · have e1 : (t == 1) = false := by simpa using h1
      have e2 : (t == 2) = false := by simpa using h2
      rw [show decide (t = 1 ∨ t = 2 ∨ t = 3) = (t == 3) from by simp [h1, h2]; rfl]
      clear h1 h2
      go_enter Try.func12, Try.ntmps12
      go_wp2
      go_ret
      exact ⟨rfl, rfl⟩

set_option maxHeartbeats 400000 in
theorem bclone_nil (w : World) : Calls Try.prog 14 #[.slice none 0 0] w fun e w' => e = .returned (.slice none 0 0) ∧ w' = w := by
  have q22 := clone_q22
  go_enter Try.func14, Try.ntmps14
  go_wp2
  go_ret
  exact ⟨rfl, rfl⟩

set_option maxHeartbeats 400000 in
theorem bclone_empty (ad : Addr) (c : Nat) (w : World) : Calls Try.prog 14 #[.slice (some ad) 0 c] w fun e w' => e = .returned (.slice (some ⟨w.heap.size, 0, none⟩) 0 0) ∧ w' = w.alloc (.cells #[] 5) := by
  have q22 := clone_q22
  go_enter Try.func14, Try.ntmps14
  go_wp2
  go_ret
  exact ⟨rfl, rfl⟩

set_option maxHeartbeats 400000 in
theorem bclone_some (ad : Addr) (c : Nat) (zs : List Nat) (w : World) (hc : ∀ j, j < zs.length → w.cell? (ad.add j) = some (.int .u8 (zs.getD j 0 : Nat))) (hl : zs.length ≤ 140737488355328) (h0 : 0 < zs.length) :
    Calls Try.prog 14 #[.slice (some ad) zs.length c] w fun e w' => ∃ v, e = .returned v ∧ w'.ownsRow w.heap.size 5 1 v zs.length (bs zs) ∧ Below w.heap.size w w' := by
  have q22 := clone_q22
  obtain ⟨i, hi, hz0, hz1, hz2⟩ := info_parts Try.info5
  have hown : (w.alloc (.cells #[] 5)).ownsRow w.heap.size 5 1 (.slice (some ⟨w.heap.size, 0, none⟩) 0 0) 0 [] := World.ownsRow_made w #[] 0 (Nat.le_refl _) (by simp) (by simp)
  have hnews : ∀ j u, (bs zs)[j]? = some u → (w.alloc (.cells #[] 5)).cell? (ad.add j) = some u := by
    intro j u hu
    have hj : j < zs.length := by have := List.getElem?_eq_some_iff.1 hu; obtain ⟨h1, _⟩ := this; rw [bs_length] at h1; exact h1
    rw [bs_get zs j hj] at hu
    rw [← hu]
    have := hc j hj
    rw [World.cell?_alloc_lt _ _ _ (World.block_lt_of_cell? w _ this)]
    exact this
  go_enter Try.func14, Try.ntmps14
  go_wp2_with (at_builtin; refine wpList_append_lies _ (by rfl) _ _ _ (by rfl) w.heap.size 5 i (.int .u8 0) 1 1 Try.underlying24 hi hz0 hz1 hz2 rfl (by omega) _ 0 [] (by rfl) hown ad zs.length c (bs zs) (by rfl) (by rw [bs_length, Nat.mul_one]) hnews (bs_one zs) h0 (by unfold maxLen; omega) (by omega) (by simp) (w.heap.size + 1) (by simp) ?_; intro g cap w1 hown1 hgrow hat hlt)
  go_ret
  rw [List.nil_append, Nat.zero_add] at hown1
  refine ⟨_, rfl, hown1, ?_⟩
  exact ((Below.refl _ _).alloc (Nat.le_refl _) _).grown hgrow (by simp) (fun k hk => by simp [Value.ownBlock] at hk; omega)

/-- what a copy of bytes answers -/
def CpQ (B : Nat) (w : World) (C : List Nat) (e : Ending) (w' : World) : Prop := ∃ a c, e = .returned (.slice a C.length c) ∧ w'.ownsRow B 5 1 (.slice a C.length c) C.length (bs C) ∧ Below w.heap.size w w'
theorem bclone_any {w : World} {N : Nat} {v : Value} {C : List Nat} (h : By w N v C) : Calls Try.prog 14 #[v] w fun e w' => CpQ w.heap.size w C e w' := by
  rcases h.src with ⟨rfl, rfl⟩ | ⟨ad, c, rfl, hc⟩
  · refine (bclone_nil w).mono ?_
    rintro e w' ⟨rfl, rfl⟩
    exact ⟨_, _, rfl, World.ownsRow_nil _ _ _ _, Below.refl _ _⟩
  · by_cases h0 : C.length = 0
    · obtain rfl : C = [] := List.eq_nil_of_length_eq_zero h0
      refine (bclone_empty ad c w).mono ?_
      rintro e w' ⟨rfl, rfl⟩
      exact ⟨_, _, rfl, World.ownsRow_made w #[] 0 (Nat.le_refl _) (by simp) (by simp), (Below.refl _ _).alloc (Nat.le_refl _) _⟩
    · refine (bclone_some ad c C w hc h.len (by omega)).mono ?_
      rintro e w' ⟨v, rfl, h1, h2⟩
      obtain ⟨a, c, rfl⟩ := own_slice h1
      exact ⟨a, c, rfl, h1, h2⟩
set_option maxHeartbeats 1000000 in
theorem eqBytes_sb {w : World} {N M c1 c2 : Nat} {a1 a2 : Option Addr} {xs ys : List Nat} (ha : Sb w N a1 xs) (hb : Sb w M a2 ys) (hx : xs.length ≤ 140737488355328) (hxb : ∀ i, xs.getD i 0 < 256) (hyb : ∀ i, ys.getD i 0 < 256) :
    Calls Try.prog 6 #[.slice a1 xs.length c1, .slice a2 ys.length c2] w fun e w' => e = .returned (.bool (decide (xs = ys))) ∧ ∃ k, w' = w.drewN k := by
  by_cases hl : xs.length = ys.length
  · by_cases h0 : xs.length = 0
    · obtain rfl : xs = [] := List.eq_nil_of_length_eq_zero h0
      obtain rfl : ys = [] := List.eq_nil_of_length_eq_zero (by rw [← hl]; rfl)
      go_enter Try.func6, Try.ntmps6
      go_wp2
      go_loop [5] (fun i => i = .int .i64 0) (fun _ => 0)
      case atStart => rfl
      case round =>
        subst hrel
        go_wp2
        go_ret
        exact ⟨rfl, 0, rfl⟩
    · obtain ⟨g1, o1, rfl, _, hca0⟩ := ha.resolve_left (fun e => h0 (by rw [e]; rfl))
      obtain ⟨g2, o2, rfl, _, hcb0⟩ := hb.resolve_left (fun e => h0 (by rw [hl, e]; rfl))
      have hca : Hid (∀ j, j < xs.length → w.cell? ⟨g1, o1 + j, none⟩ = some (.int .u8 (xs.getD j 0 : Nat))) := hca0
      have hcb : Hid (∀ j, j < xs.length → w.cell? ⟨g2, o2 + j, none⟩ = some (.int .u8 (ys.getD j 0 : Nat))) := fun j hj => hcb0 j (by omega)
      have HXB : Hid (∀ i, xs.getD i 0 < 256) := hxb
      have HYB : Hid (∀ i, ys.getD i 0 < 256) := hyb
      have HL : Hid (xs.length = ys.length) := hl
      clear ha hb hl hxb hyb hca0 hcb0
      rw [← HL.out]
      go_enter Try.func6, Try.ntmps6
      go_wp2
      go_loopw [5] (fun i wr => ∃ k n : Nat, k ≤ xs.length ∧ i = .int .i64 k ∧ wr = w.drewN n ∧ Hid (∀ j, j < k → xs.getD j 0 = ys.getD j 0)) (fun i _ => xs.length - (intOf i).toNat)
      case atStart => exact ⟨0, 0, by omega, rfl, rfl, fun j hj => by omega⟩
      case round =>
        obtain ⟨k, n, hk, rfl, rfl, HK⟩ := hrel
        by_cases hlt : k < xs.length
        · have q1 : (w.drewN n).cell? ⟨g1, o1 + k, none⟩ = some (.int .u8 (xs.getD k 0 : Nat)) := hca.out k hlt
          have q2 : (w.drewN n).cell? ⟨g2, o2 + k, none⟩ = some (.int .u8 (ys.getD k 0 : Nat)) := hcb.out k hlt
          have b1 := HXB.out k
          have b2 := HYB.out k
          have hi1 : (0 : Int) ≤ (k : Int) := by omega
          have hi2 : (k : Int) < (xs.length : Int) := by omega
          generalize he1 : xs.getD k 0 = p1 at *
          generalize he2 : ys.getD k 0 = p2 at *
          have HE1 : Hid (xs.getD k 0 = p1) := he1
          have HE2 : Hid (ys.getD k 0 = p2) := he2
          clear he1 he2
          generalize hW : w.drewN n = W at *
          have HW : Hid (w.drewN n = W) := hW
          clear hW
          by_cases hne : p1 = p2
          · have hne' : ((p1 : Int) != (p2 : Int)) = false := by simp [hne]
            have HN : Hid (p1 = p2) := hne
            clear hne
            go_wp2
            go_quiet (fail)
            go_wp2
            go_roundw
            case rel => exact ⟨k + 1, n + nq, by omega, by go_num, by rw [← HW.out]; exact drewN_drewN _ _ _, fun j hj => by
              by_cases e : j = k
              · rw [e, HE1.out, HE2.out]; exact HN.out
              · exact HK.out j (by omega)⟩
            case measure => simp [intOf]; omega
          · have hne' : ((p1 : Int) != (p2 : Int)) = true := by rw [bne_iff_ne]; omega
            have hdec : decide (xs = ys) = false := by simp; exact fun e => hne (by rw [← HE1.out, ← HE2.out, e])
            have HD : Hid (decide (xs = ys) = false) := hdec
            clear hdec
            go_wp2
            go_quiet (fail)
            go_wp2
            go_ret
            exact ⟨by rw [HD.out]; rfl, n + nq, by rw [← HW.out]; exact drewN_drewN _ _ _⟩
        · go_wp2
          go_ret
          have e : xs = ys := list_eq_of_getD HL.out (fun j hj => HK.out j (by omega))
          exact ⟨by rw [e]; simp, n, rfl⟩
  · have hne : (((xs.length : Nat) : Int) != ((ys.length : Nat) : Int)) = true := by rw [bne_iff_ne]; omega
    have hne2 : decide (xs = ys) = false := by simp; exact fun e => hl (by rw [e])
    rw [hne2]
    go_enter Try.func6, Try.ntmps6
    go_wp2
    go_ret
    exact ⟨rfl, 0, rfl⟩
theorem eqBytes_by {w : World} {N M : Nat} {v u : Value} {xs ys : List Nat} (ha : By w N v xs) (hb : By w M u ys) :
    Calls Try.prog 6 #[v, u] w fun e w' => e = .returned (.bool (decide (xs = ys))) ∧ ∃ k, w' = w.drewN k := by
  obtain ⟨a, c, rfl, _, _, h1⟩ := ha.ex
  obtain ⟨a', c', rfl, _, _, h2⟩ := hb.ex
  exact eqBytes_sb h1 h2 ha.len ha.byt hb.byt
end Go.Proofs.Ytkippnfijjhobab
