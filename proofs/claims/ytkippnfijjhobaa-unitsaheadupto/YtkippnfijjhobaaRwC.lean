/- DERIVED. The walks of the document's own writer: Uvlc, Leb, Align. -/
import Derived.Test.YtkippnfijjhobaaRwB
namespace Go.Proofs.Ytkippnfijjhobaa
open Go.RowKit

theorem shl_wrap (k : Nat) (hk : k ≤ 61) : IntKind.u64.wrap (2 * 2 ^ k) = ((2 ^ (k + 1) : Nat) : Int) := by
  have := two_pow_wrap (k + 1) (by omega)
  rw [← this]
  congr 1
  rw [Int.pow_succ]
  omega

def LbInv (B x : Nat) (d : Value) (w' : World) (t : Nat) (R : Nat × Nat) (z : Value) (wr : World) : Prop :=
  ∃ (f t' V' v' : Nat) (dr : Value) (lr : List Nat), f ≤ 4 ∧ v' < 128 * 128 ^ f ∧ v' < 4294967296 ∧ z = .int .u32 v' ∧ t' + 8 * f = t + 32 ∧ Wf wr B x dr lr t' V' ∧ Kw x d dr w' wr ∧ Hid (lebGo f t' V' v' = R)

set_option maxHeartbeats 1000000 in
set_option maxRecDepth 100000 in
theorem leb_wf {w : World} {B x : Nat} {d : Value} {l : List Nat} {t V : Nat} (h : Wf w B x d l t V) (ht : t ≤ 1099511627000) (v : Nat) (hv : v < 4294967296) :
    Calls Try.prog 30 #[.pointer (some ⟨x, 0, none⟩), .int .u32 v] w fun e w' => e = .returned (.int .i64 (wLeb t V v).1) ∧ WfK w w' B x d (wLeb t V v).2.1 (wLeb t V v).2.2 := by
  obtain ⟨a, c, rfl⟩ := own_slice h.own
  have hdat := h.data
  have hlen := h.wb.len
  rw [hlen] at hdat
  by_cases h8 : t % 8 = 0
  · rw [show wLeb t V v = (0, (lebGo 4 t V v).1, (lebGo 4 t V v).2) from if_pos h8]
    have ht8 : ((t : Int) % 8 != 0) = false := by simp; omega
    generalize hR : lebGo 4 t V v = R
    have HR : Hid (lebGo 4 t V v = R) := hR
    clear hR hlen
    go_enter Try.func30, Try.ntmps30
    go_wp2_with fail
    go_loopw [1] (fun z wr => LbInv B x (.slice a l.length c) w t R z wr) (fun z _ => (intOf z).toNat)
    case atStart => exact ⟨4, t, V, v, _, l, by omega, by omega, hv, rfl, by omega, h, Kw.refl _ _ _, HR⟩
    case round =>
      obtain ⟨f, t', V', v', dr, lr, hf4, hv', hv32, rfl, ht', hw, hk, HI⟩ := hrel
      have HV : Hid (v' < 128 * 128 ^ f) := hv'
      have HT : Hid (t' + 8 * f = t + 32) := ht'
      have htb : t' ≤ 1099511627776 := by omega
      clear hv' ht'
      by_cases h128 : v' < 128
      · go_wp2_with fail
        refine (put_wf B x dr lr t' V' v' 8 _ hw (by omega) (by omega) (by omega) htb).mono ?_; rintro e w2 ⟨rfl, d2, l2, hw2, hk2⟩
        go_wp2_with fail
        go_ret
        have e : R = (t' + 8, V' * 256 + v') := by
          have := HI.out
          cases f with
          | zero => exact this.symm
          | succ f => rw [lebGo, if_pos h128] at this; exact this.symm
        subst e
        exact ⟨rfl, d2, l2, hw2, hk.trans hk2⟩
      · go_wp2_with fail
        rw [show (128 + (v' : Int) % 128) = ((128 + v' % 128 : Nat) : Int) from by omega]
        refine (put_wf B x dr lr t' V' (128 + v' % 128) 8 _ hw (by omega) (by omega) (by omega) htb).mono ?_; rintro e w2 ⟨rfl, d2, l2, hw2, hk2⟩
        go_wp2_with fail
        go_roundw
        case rel =>
          obtain ⟨f0, rfl⟩ : ∃ f0, f = f0 + 1 := ⟨f - 1, by
            have := HV.out
            rcases Nat.eq_zero_or_pos f with e | e
            · subst e; simp at this; omega
            · omega⟩
          have hpow : v' / 128 < 128 * 128 ^ f0 := by
            have := HV.out
            rw [Nat.pow_succ] at this
            omega
          have hgo : lebGo f0 (t' + 8) (V' * 256 + (128 + v' % 128)) (v' / 128) = R := by
            have := HI.out
            rw [lebGo, if_neg h128, Nat.add_comm (v' % 128) 128] at this
            exact this
          exact ⟨f0, t' + 8, V' * 256 + (128 + v' % 128), v' / 128, d2, l2, by omega, hpow, by omega, by simp, by have := HT.out; omega, hw2, hk.trans hk2, hgo⟩
        case measure => simp [intOf]; omega
  · rw [show wLeb t V v = (2, t, V) from if_neg h8]
    have ht8 : ((t : Int) % 8 != 0) = true := by rw [bne_iff_ne]; omega
    clear hlen
    go_enter Try.func30, Try.ntmps30
    go_wp2_with fail
    go_ret
    exact ⟨rfl, _, l, h, Kw.refl _ _ _⟩

/-- how long the slice is to which the first cell of a block leads -/
def lenOfV : Option Value → Nat | some (.slice _ n _) => n | _ => 0
def lenAt (w : World) (x : Nat) : Nat := lenOfV (w.cell? ⟨x, 0, none⟩)
theorem Wf.lenAt {w : World} {B x : Nat} {d : Value} {l : List Nat} {t V : Nat} (h : Wf w B x d l t V) : Go.Proofs.Ytkippnfijjhobaa.lenAt w x = l.length := by
  obtain ⟨a, c, rfl⟩ := own_slice h.own
  unfold Go.Proofs.Ytkippnfijjhobaa.lenAt
  rw [h.data]
  rfl

end Go.Proofs.Ytkippnfijjhobaa
