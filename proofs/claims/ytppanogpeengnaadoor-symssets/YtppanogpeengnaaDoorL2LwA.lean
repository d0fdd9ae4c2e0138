/- DERIVED. The walks of EqBytes, of 'may' and of 'about', and of the statements' own 'works'. -/
import Derived.Test.YtppanogpeengnaaDoorE1
namespace Go.Proofs.YtppanogpeengnaaDoor.L2
open Go.RowKit

/-- bytes that can be read: none, or cells from the beginning of a block -/
def Rr (w : World) (v : Value) (zs : List Nat) : Prop :=
  (zs = [] ∧ ∃ a c, v = .slice a 0 c) ∨ ∃ b c, v = .slice (some ⟨b, 0, none⟩) zs.length c ∧ ∀ j, j < zs.length → w.cell? ⟨b, j, none⟩ = some (.int .u8 (zs.getD j 0 : Nat))
theorem Rr.sl {w : World} {v : Value} {zs : List Nat} (h : Rr w v zs) : ∃ a c, v = .slice a zs.length c := by
  rcases h with ⟨rfl, a, c, rfl⟩ | ⟨b, c, rfl, _⟩
  · exact ⟨_, _, rfl⟩
  · exact ⟨_, _, rfl⟩
theorem Rr.form {w : World} {a : Option Addr} {n c : Nat} {zs : List Nat} (h : Rr w (.slice a n c) zs) (h0 : 0 < zs.length) : ∃ b, a = some ⟨b, 0, none⟩ ∧ ∀ j, j < zs.length → w.cell? ⟨b, j, none⟩ = some (.int .u8 (zs.getD j 0 : Nat)) := by
  rcases h with ⟨rfl, _⟩ | ⟨b, c', h1, h2⟩
  · simp at h0
  · simp only [Value.slice.injEq] at h1
    exact ⟨b, h1.1, h2⟩
theorem Rr.ofOwn {w : World} {B : Nat} {v : Value} {zs : List Nat} (h : w.ownsRow B 5 1 v zs.length (bs zs)) : Rr w v zs := by
  by_cases h0 : zs.length = 0
  · obtain ⟨a, c, rfl⟩ := own_slice h
    exact Or.inl ⟨List.eq_nil_of_length_eq_zero h0, a, c, by rw [h0]⟩
  · obtain ⟨b, cap, rfl, _, _⟩ := h.form (by omega)
    exact Or.inr ⟨b, cap, rfl, fun j hj => by rw [h.cellAt j (by omega)]; exact bs_get zs j hj⟩
theorem By.rr {w : World} {v : Value} {b : Nat} {zs : List Nat} {T k : Nat} (h : By w v b zs T k) : Rr w v zs := by
  obtain ⟨c, rfl, _⟩ := h.form
  exact Or.inr ⟨b, c, rfl, h.cell⟩
theorem By.src {w : World} {v : Value} {b : Nat} {zs : List Nat} {T k : Nat} (h : By w v b zs T k) : SrcOf w v zs := by
  obtain ⟨c, rfl, _⟩ := h.form
  exact Or.inr ⟨⟨b, 0, none⟩, c, rfl, fun j hj => by rw [show (⟨b, 0, none⟩ : Addr).add j = ⟨b, j, none⟩ from (by unfold Addr.add; split <;> simp_all)]; exact h.cell j hj⟩
theorem By.below {w w' : World} {v : Value} {b : Nat} {zs : List Nat} {T k B : Nat} (h : By w v b zs T k) (hb : Below B w w') (hB : b < B) : By w' v b zs T k :=
  ⟨h.form, fun j hj => by rw [hb.cell (p := ⟨b, j, none⟩) hB]; exact h.cell j hj, fun j => by rw [newFrozen hb b j hB]; exact h.thaw j, Nat.lt_of_lt_of_le h.lies hb.size, h.len, h.val, h.byt, h.last⟩
theorem list_eq_of_getD {xs ys : List Nat} (hl : xs.length = ys.length) (h : ∀ j, j < xs.length → xs.getD j 0 = ys.getD j 0) : xs = ys := by
  refine List.ext_getElem hl fun j h1 h2 => ?_
  have := h j h1
  rw [List.getD_eq_getElem?_getD, List.getD_eq_getElem?_getD, List.getElem?_eq_getElem h1, List.getElem?_eq_getElem h2] at this
  simpa using this

theorem drewN_drewN (w : World) (a b : Nat) : (w.drewN a).drewN b = w.drewN (a + b) := by
  simp [World.drewN, Nat.add_assoc]

/-- one number, one row of bytes -/
theorem By.uniq {w w' : World} {v v' : Value} {b b' : Nat} {zs zs' : List Nat} {T k : Nat} (h : By w v b zs T k) (h' : By w' v' b' zs' T k) : zs = zs' := by
  have hp := pre_inj h.byt h'.byt (k + 4) (h.val.trans h'.val.symm)
  have l1 := h.len
  have l2 := h'.len
  have hall : ∀ i, zs.getD i 0 = zs'.getD i 0 := fun i => by
    by_cases hi : i < k + 4
    · exact hp i hi
    · rw [getD_len zs (by omega), getD_len zs' (by omega)]
  have hlen : zs.length = zs'.length := by
    rcases Nat.lt_trichotomy zs.length zs'.length with e | e | e
    · exact absurd ((hall _).symm.trans (getD_len zs (by omega))) (h'.last (by omega))
    · exact e
    · exact absurd ((hall _).trans (getD_len zs' (by omega))) (h.last (by omega))
  exact list_eq_of_getD hlen (fun j _ => hall j)

set_option maxHeartbeats 1000000 in
theorem eqBytes_rr {w : World} {va vb : Value} {xs ys : List Nat} (ha : Rr w va xs) (hb : Rr w vb ys) (hx : xs.length ≤ 140737488355328) (hxb : ∀ i, xs.getD i 0 < 256) (hyb : ∀ i, ys.getD i 0 < 256) :
    Calls Tryd.prog 20 #[va, vb] w fun e w' => e = .returned (.bool (decide (xs = ys))) ∧ Below w.heap.size w w' := by
  obtain ⟨a1, c1, rfl⟩ := ha.sl
  obtain ⟨a2, c2, rfl⟩ := hb.sl
  by_cases hl : xs.length = ys.length
  · by_cases h0 : xs.length = 0
    · obtain rfl : xs = [] := List.eq_nil_of_length_eq_zero h0
      obtain rfl : ys = [] := List.eq_nil_of_length_eq_zero (by rw [← hl]; rfl)
      go_enter Tryd.func20, Tryd.ntmps20
      go_wp2
      go_loop [5] (fun i => i = .int .i64 0) (fun _ => 0)
      case atStart => rfl
      case round =>
        subst hrel
        go_wp2
        go_ret
        exact ⟨rfl, Below.refl _ _⟩
    · obtain ⟨g1, rfl, ca⟩ := ha.form (by omega)
      obtain ⟨g2, rfl, cb⟩ := hb.form (by omega)
      have hca : Hid (∀ j, j < xs.length → w.cell? ⟨g1, j, none⟩ = some (.int .u8 (xs.getD j 0 : Nat))) := ca
      have hcb : Hid (∀ j, j < xs.length → w.cell? ⟨g2, j, none⟩ = some (.int .u8 (ys.getD j 0 : Nat))) := fun j hj => cb j (by omega)
      clear ca cb
      have HXB : Hid (∀ i, xs.getD i 0 < 256) := hxb
      have HYB : Hid (∀ i, ys.getD i 0 < 256) := hyb
      have HL : Hid (xs.length = ys.length) := hl
      clear ha hb hl hxb hyb
      rw [← HL.out]
      go_enter Tryd.func20, Tryd.ntmps20
      go_wp2
      go_loopw [5] (fun i wr => ∃ k n : Nat, k ≤ xs.length ∧ i = .int .i64 k ∧ wr = w.drewN n ∧ Hid (∀ j, j < k → xs.getD j 0 = ys.getD j 0)) (fun i _ => xs.length - (intOf i).toNat)
      case atStart => exact ⟨0, 0, by omega, rfl, rfl, fun j hj => by omega⟩
      case round =>
        obtain ⟨k, n, hk, rfl, rfl, HK⟩ := hrel
        by_cases hlt : k < xs.length
        · have q1 : (w.drewN n).cell? ⟨g1, k, none⟩ = some (.int .u8 (xs.getD k 0 : Nat)) := hca.out k hlt
          have q2 : (w.drewN n).cell? ⟨g2, k, none⟩ = some (.int .u8 (ys.getD k 0 : Nat)) := hcb.out k hlt
          have b1 := HXB.out k
          have b2 := HYB.out k
          have hi1 : (0 : Int) ≤ (k : Int) := by omega
          have hi2 : (k : Int) < (xs.length : Int) := by omega
          generalize he1 : xs.getD k 0 = p1 at *
          generalize he2 : ys.getD k 0 = p2 at *
          have HE1 : Hid (xs.getD k 0 = p1) := he1
          have HE2 : Hid (ys.getD k 0 = p2) := he2
          clear he1 he2
          generalize hW : w.drewN n = W at *
          have HW : Hid (w.drewN n = W) := hW
          clear hW
          by_cases hne : p1 = p2
          · have hne' : ((p1 : Int) != (p2 : Int)) = false := by simp [hne]
            have HN : Hid (p1 = p2) := hne
            clear hne
            go_wp2
            go_quiet (fail)
            go_wp2
            go_roundw
            case rel => exact ⟨k + 1, n + nq, by omega, by go_num, by rw [← HW.out]; exact drewN_drewN _ _ _, fun j hj => by
              by_cases e : j = k
              · rw [e, HE1.out, HE2.out]; exact HN.out
              · exact HK.out j (by omega)⟩
            case measure => simp [intOf]; omega
          · have hne' : ((p1 : Int) != (p2 : Int)) = true := by rw [bne_iff_ne]; omega
            have hdec : decide (xs = ys) = false := by simp; exact fun e => hne (by rw [← HE1.out, ← HE2.out, e])
            have HD : Hid (decide (xs = ys) = false) := hdec
            clear hdec
            go_wp2
            go_quiet (fail)
            go_wp2
            go_ret
            exact ⟨by rw [HD.out]; rfl, by rw [← HW.out]; exact below_drewN (below_drewN (Below.refl _ _) n) nq⟩
        · go_wp2
          go_ret
          have e : xs = ys := list_eq_of_getD HL.out (fun j hj => HK.out j (by omega))
          exact ⟨by rw [e]; simp, below_drewN (Below.refl _ _) n⟩
  · have hne : (((xs.length : Nat) : Int) != ((ys.length : Nat) : Int)) = true := by rw [bne_iff_ne]; omega
    have hne2 : decide (xs = ys) = false := by simp; exact fun e => hl (by rw [e])
    rw [hne2]
    go_enter Tryd.func20, Tryd.ntmps20
    go_wp2
    go_ret
    exact ⟨rfl, Below.refl _ _⟩


end Go.Proofs.YtppanogpeengnaaDoor.L2
