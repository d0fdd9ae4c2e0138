/- DERIVED. The walks of the statements' own 'write' and of EqBytes. -/
import Derived.Test.YtkippnfijjhobabWrE
namespace Go.Proofs.Ytkippnfijjhobab
open Go.RowKit

theorem Kw.below {x : Nat} {d : Value} {w w' : World} (h : Below w.heap.size w w') : Kw x d d w w' := ⟨h.os, h.tape, h.output, h.size, fun k hk _ _ => h.block k hk, fun _ h => Or.inl h⟩

/-- a uint32 as an int32 -/
def sgn (v : Nat) : Int := ((v : Int) + 2147483648) % 4294967296 - 2147483648
def wrOne (t V : Nat) (kind n : Int) (v : Nat) : Nat × Nat × Nat :=
  match bring5 kind with
  | 0 => wFixed t V v n
  | 1 => wSigned t V (sgn v) n
  | 2 => wUvlc t V v
  | 3 => wLeb t V v
  | _ => (0, (wAlign t V).1, (wAlign t V).2)

theorem list_eq_of_getD {xs ys : List Nat} (hl : xs.length = ys.length) (h : ∀ j, j < xs.length → xs.getD j 0 = ys.getD j 0) : xs = ys := by
  refine List.ext_getElem hl fun j h1 h2 => ?_
  have := h j h1
  rw [List.getD_eq_getElem?_getD, List.getD_eq_getElem?_getD, List.getElem?_eq_getElem h1, List.getElem?_eq_getElem h2] at this
  simpa using this

theorem drewN_drewN (w : World) (a b : Nat) : (w.drewN a).drewN b = w.drewN (a + b) := by
  simp [World.drewN, Nat.add_assoc]

set_option maxHeartbeats 1000000 in
theorem eqBytes_own {w : World} {B B' : Nat} {va vb : Value} {xs ys : List Nat} (ha : w.ownsRow B 5 1 va xs.length (bs xs)) (hb : w.ownsRow B' 5 1 vb ys.length (bs ys)) (hx : xs.length ≤ 140737488355328) (hxb : ∀ i, xs.getD i 0 < 256) (hyb : ∀ i, ys.getD i 0 < 256) :
    Calls Try.prog 6 #[va, vb] w fun e w' => e = .returned (.bool (decide (xs = ys))) ∧ Below w.heap.size w w' := by
  obtain ⟨a1, c1, rfl⟩ := own_slice ha
  obtain ⟨a2, c2, rfl⟩ := own_slice hb
  by_cases hl : xs.length = ys.length
  · by_cases h0 : xs.length = 0
    · obtain rfl : xs = [] := List.eq_nil_of_length_eq_zero h0
      obtain rfl : ys = [] := List.eq_nil_of_length_eq_zero (by rw [← hl]; rfl)
      go_enter Try.func6, Try.ntmps6
      go_wp2
      go_loop [5] (fun i => i = .int .i64 0) (fun _ => 0)
      case atStart => rfl
      case round =>
        subst hrel
        go_wp2
        go_ret
        exact ⟨rfl, Below.refl _ _⟩
    · obtain ⟨g1, cap1, e1, _, hg1⟩ := ha.form (by omega)
      obtain ⟨g2, cap2, e2, _, hg2⟩ := hb.form (by omega)
      simp only [Value.slice.injEq, true_and] at e1 e2
      obtain ⟨rfl, rfl⟩ := e1
      obtain ⟨rfl, rfl⟩ := e2
      have hca : Hid (∀ j, j < xs.length → w.cell? ⟨g1, j, none⟩ = some (.int .u8 (xs.getD j 0 : Nat))) := fun j hj => by
        rw [ha.cellAt j (by omega)]; exact bs_get xs j hj
      have hcb : Hid (∀ j, j < xs.length → w.cell? ⟨g2, j, none⟩ = some (.int .u8 (ys.getD j 0 : Nat))) := fun j hj => by
        rw [hb.cellAt j (by omega)]; exact bs_get ys j (by omega)
      have HXB : Hid (∀ i, xs.getD i 0 < 256) := hxb
      have HYB : Hid (∀ i, ys.getD i 0 < 256) := hyb
      have HL : Hid (xs.length = ys.length) := hl
      clear ha hb hl hxb hyb
      rw [← HL.out]
      go_enter Try.func6, Try.ntmps6
      go_wp2
      go_loopw [5] (fun i wr => ∃ k n : Nat, k ≤ xs.length ∧ i = .int .i64 k ∧ wr = w.drewN n ∧ Hid (∀ j, j < k → xs.getD j 0 = ys.getD j 0)) (fun i _ => xs.length - (intOf i).toNat)
      case atStart => exact ⟨0, 0, by omega, rfl, rfl, fun j hj => by omega⟩
      case round =>
        obtain ⟨k, n, hk, rfl, rfl, HK⟩ := hrel
        by_cases hlt : k < xs.length
        · have q1 : (w.drewN n).cell? ⟨g1, k, none⟩ = some (.int .u8 (xs.getD k 0 : Nat)) := hca.out k hlt
          have q2 : (w.drewN n).cell? ⟨g2, k, none⟩ = some (.int .u8 (ys.getD k 0 : Nat)) := hcb.out k hlt
          have b1 := HXB.out k
          have b2 := HYB.out k
          have hi1 : (0 : Int) ≤ (k : Int) := by omega
          have hi2 : (k : Int) < (xs.length : Int) := by omega
          generalize he1 : xs.getD k 0 = p1 at *
          generalize he2 : ys.getD k 0 = p2 at *
          have HE1 : Hid (xs.getD k 0 = p1) := he1
          have HE2 : Hid (ys.getD k 0 = p2) := he2
          clear he1 he2
          generalize hW : w.drewN n = W at *
          have HW : Hid (w.drewN n = W) := hW
          clear hW
          by_cases hne : p1 = p2
          · have hne' : ((p1 : Int) != (p2 : Int)) = false := by simp [hne]
            have HN : Hid (p1 = p2) := hne
            clear hne
            go_wp2
            go_quiet (fail)
            go_wp2
            go_roundw
            case rel => exact ⟨k + 1, n + nq, by omega, by go_num, by rw [← HW.out]; exact drewN_drewN _ _ _, fun j hj => by
              by_cases e : j = k
              · rw [e, HE1.out, HE2.out]; exact HN.out
              · exact HK.out j (by omega)⟩
            case measure => simp [intOf]; omega
          · have hne' : ((p1 : Int) != (p2 : Int)) = true := by rw [bne_iff_ne]; omega
            have hdec : decide (xs = ys) = false := by simp; exact fun e => hne (by rw [← HE1.out, ← HE2.out, e])
            have HD : Hid (decide (xs = ys) = false) := hdec
            clear hdec
            go_wp2
            go_quiet (fail)
            go_wp2
            go_ret
            exact ⟨by rw [HD.out]; rfl, by rw [← HW.out]; exact below_drewN (below_drewN (Below.refl _ _) n) nq⟩
        · go_wp2
          go_ret
          have e : xs = ys := list_eq_of_getD HL.out (fun j hj => HK.out j (by omega))
          exact ⟨by rw [e]; simp, below_drewN (Below.refl _ _) n⟩
  · have hne : (((xs.length : Nat) : Int) != ((ys.length : Nat) : Int)) = true := by rw [bne_iff_ne]; omega
    have hne2 : decide (xs = ys) = false := by simp; exact fun e => hl (by rw [e])
    rw [hne2]
    go_enter Try.func6, Try.ntmps6
    go_wp2
    go_ret
    exact ⟨rfl, Below.refl _ _⟩

end Go.Proofs.Ytkippnfijjhobab
