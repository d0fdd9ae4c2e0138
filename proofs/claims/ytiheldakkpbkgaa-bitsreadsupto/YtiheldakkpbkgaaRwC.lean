/- DERIVED. The walks of the document's own writer: Uvlc, Leb, Align. -/
import Derived.Test.YtiheldakkpbkgaaRwB
namespace Go.Proofs.Ytiheldakkpbkgaa
open Go.RowKit

theorem shl_wrap (k : Nat) (hk : k ≤ 61) : IntKind.u64.wrap (2 * 2 ^ k) = ((2 ^ (k + 1) : Nat) : Int) := by
  have := two_pow_wrap (k + 1) (by omega)
  rw [← this]
  congr 1
  rw [Int.pow_succ]
  omega

set_option maxHeartbeats 1000000 in
set_option maxRecDepth 100000 in
theorem uvlc_wf {w : World} {B x : Nat} {d : Value} {l : List Nat} {t V : Nat} (h : Wf w B x d l t V) (ht : t ≤ 1099511627744) (v : Nat) (hv : v < 4294967296) :
    Calls Try.prog 26 #[.pointer (some ⟨x, 0, none⟩), .int .u32 v] w fun e w' => e = .returned (.int .i64 (wUvlc t V v).1) ∧ WfK w w' B x d (wUvlc t V v).2.1 (wUvlc t V v).2.2 := by
  by_cases h1 : v = 4294967295
  · rw [show wUvlc t V v = (2, t, V) from if_pos h1]
    subst h1
    go_enter Try.func26, Try.ntmps26
    go_wp2_with fail
    go_ret
    exact ⟨rfl, d, l, h, Kw.refl _ _ _⟩
  · have hne : ((v : Int) == 4294967295) = false := by simp; omega
    obtain ⟨a1, a2, a3, a4⟩ := len_bounds (v + 1) (by omega) (by omega)
    unfold wUvlc
    rw [if_neg h1]
    generalize Lib.bitLen (v + 1) = kk at *
    obtain ⟨K, rfl⟩ : ∃ K, kk = K + 1 := ⟨kk - 1, by omega⟩
    simp only [Nat.add_sub_cancel] at a2 ⊢
    have hv1 : (v : Int) + 1 ≤ 4294967296 := by omega
    have HA2 : Hid (2 ^ K ≤ v + 1) := a2
    have HA3 : Hid (v + 1 < 2 ^ (K + 1)) := a3
    clear a2 a3
    go_enter Try.func26, Try.ntmps26
    go_wp2_with fail
    go_loop [5] (fun z => ∃ k : Nat, k ≤ K ∧ z = .int .i64 k) (fun z => K - (intOf z).toNat)
    case atStart => exact ⟨0, Nat.zero_le _, rfl⟩
    case round =>
      obtain ⟨k, hk, rfl⟩ := hrel
      have ew := shl_wrap k (by omega)
      by_cases hlt : k < K
      · have hc : IntKind.u64.wrap (2 * 2 ^ k) ≤ (v : Int) + 1 := by
          rw [ew]
          have : (2 : Nat) ^ (k + 1) ≤ 2 ^ K := Nat.pow_le_pow_right (by omega) (by omega)
          have := HA2.out
          omega
        clear ew
        go_wp2_with fail
        go_round
        case rel => exact ⟨k + 1, by omega, by go_num⟩
        case measure => simp [intOf]; omega
      · obtain rfl : k = K := by omega
        have hc : (v : Int) + 1 < IntKind.u64.wrap (2 * 2 ^ k) := by
          rw [ew]
          have := HA3.out
          omega
        clear ew
        have hc' : decide (IntKind.u64.wrap (2 * 2 ^ k) ≤ (v : Int) + 1) = false := by simpa using hc
        clear hc hlt hk
        go_wp2_with fail
        refine (put_wf B x d l t V 0 k _ h (by omega) (Nat.two_pow_pos _) (by omega) (by omega)).mono ?_; rintro e w2 ⟨rfl, d2, l2, hw2, hk2⟩
        go_wp2_with fail
        refine (put_wf B x d2 l2 _ _ (v + 1) (k + 1) _ hw2 (by omega) HA3.out (by omega) (by omega)).mono ?_; rintro e w3 ⟨rfl, d3, l3, hw3, hk3⟩
        go_wp2_with fail
        go_ret
        exact ⟨rfl, d3, l3, hw3, hk2.trans hk3⟩

def LbInv (B x : Nat) (d : Value) (w' : World) (t : Nat) (R : Nat × Nat) (z : Value) (wr : World) : Prop :=
  ∃ (f t' V' v' : Nat) (dr : Value) (lr : List Nat), f ≤ 4 ∧ v' < 128 * 128 ^ f ∧ v' < 4294967296 ∧ z = .int .u32 v' ∧ t' + 8 * f = t + 32 ∧ Wf wr B x dr lr t' V' ∧ Kw x d dr w' wr ∧ Hid (lebGo f t' V' v' = R)

set_option maxHeartbeats 1000000 in
set_option maxRecDepth 100000 in
theorem leb_wf {w : World} {B x : Nat} {d : Value} {l : List Nat} {t V : Nat} (h : Wf w B x d l t V) (ht : t ≤ 1099511627000) (v : Nat) (hv : v < 4294967296) :
    Calls Try.prog 27 #[.pointer (some ⟨x, 0, none⟩), .int .u32 v] w fun e w' => e = .returned (.int .i64 (wLeb t V v).1) ∧ WfK w w' B x d (wLeb t V v).2.1 (wLeb t V v).2.2 := by
  obtain ⟨a, c, rfl⟩ := own_slice h.own
  have hdat := h.data
  have hlen := h.wb.len
  rw [hlen] at hdat
  by_cases h8 : t % 8 = 0
  · rw [show wLeb t V v = (0, (lebGo 4 t V v).1, (lebGo 4 t V v).2) from if_pos h8]
    have ht8 : ((t : Int) % 8 != 0) = false := by simp; omega
    generalize hR : lebGo 4 t V v = R
    have HR : Hid (lebGo 4 t V v = R) := hR
    clear hR hlen
    go_enter Try.func27, Try.ntmps27
    go_wp2_with fail
    go_loopw [1] (fun z wr => LbInv B x (.slice a l.length c) w t R z wr) (fun z _ => (intOf z).toNat)
    case atStart => exact ⟨4, t, V, v, _, l, by omega, by omega, hv, rfl, by omega, h, Kw.refl _ _ _, HR⟩
    case round =>
      obtain ⟨f, t', V', v', dr, lr, hf4, hv', hv32, rfl, ht', hw, hk, HI⟩ := hrel
      have HV : Hid (v' < 128 * 128 ^ f) := hv'
      have HT : Hid (t' + 8 * f = t + 32) := ht'
      have htb : t' ≤ 1099511627776 := by omega
      clear hv' ht'
      by_cases h128 : v' < 128
      · go_wp2_with fail
        refine (put_wf B x dr lr t' V' v' 8 _ hw (by omega) (by omega) (by omega) htb).mono ?_; rintro e w2 ⟨rfl, d2, l2, hw2, hk2⟩
        go_wp2_with fail
        go_ret
        have e : R = (t' + 8, V' * 256 + v') := by
          have := HI.out
          cases f with
          | zero => exact this.symm
          | succ f => rw [lebGo, if_pos h128] at this; exact this.symm
        subst e
        exact ⟨rfl, d2, l2, hw2, hk.trans hk2⟩
      · go_wp2_with fail
        rw [show (128 + (v' : Int) % 128) = ((128 + v' % 128 : Nat) : Int) from by omega]
        refine (put_wf B x dr lr t' V' (128 + v' % 128) 8 _ hw (by omega) (by omega) (by omega) htb).mono ?_; rintro e w2 ⟨rfl, d2, l2, hw2, hk2⟩
        go_wp2_with fail
        go_roundw
        case rel =>
          obtain ⟨f0, rfl⟩ : ∃ f0, f = f0 + 1 := ⟨f - 1, by
            have := HV.out
            rcases Nat.eq_zero_or_pos f with e | e
            · subst e; simp at this; omega
            · omega⟩
          have hpow : v' / 128 < 128 * 128 ^ f0 := by
            have := HV.out
            rw [Nat.pow_succ] at this
            omega
          have hgo : lebGo f0 (t' + 8) (V' * 256 + (128 + v' % 128)) (v' / 128) = R := by
            have := HI.out
            rw [lebGo, if_neg h128, Nat.add_comm (v' % 128) 128] at this
            exact this
          exact ⟨f0, t' + 8, V' * 256 + (128 + v' % 128), v' / 128, d2, l2, by omega, hpow, by omega, by simp, by have := HT.out; omega, hw2, hk.trans hk2, hgo⟩
        case measure => simp [intOf]; omega
  · rw [show wLeb t V v = (2, t, V) from if_neg h8]
    have ht8 : ((t : Int) % 8 != 0) = true := by rw [bne_iff_ne]; omega
    clear hlen
    go_enter Try.func27, Try.ntmps27
    go_wp2_with fail
    go_ret
    exact ⟨rfl, _, l, h, Kw.refl _ _ _⟩

/-- how long the slice is to which the first cell of a block leads -/
def lenOfV : Option Value → Nat | some (.slice _ n _) => n | _ => 0
def lenAt (w : World) (x : Nat) : Nat := lenOfV (w.cell? ⟨x, 0, none⟩)
theorem Wf.lenAt {w : World} {B x : Nat} {d : Value} {l : List Nat} {t V : Nat} (h : Wf w B x d l t V) : Go.Proofs.Ytiheldakkpbkgaa.lenAt w x = l.length := by
  obtain ⟨a, c, rfl⟩ := own_slice h.own
  unfold Go.Proofs.Ytiheldakkpbkgaa.lenAt
  rw [h.data]
  rfl

set_option maxHeartbeats 1000000 in
set_option maxRecDepth 100000 in
theorem align_wf {w : World} {B x : Nat} {d : Value} {l : List Nat} {t V : Nat} (h : Wf w B x d l t V) (ht : t ≤ 1099511627000) :
    Calls Try.prog 28 #[.pointer (some ⟨x, 0, none⟩)] w fun e w' => e = .returned (.int .i64 0) ∧ WfK w w' B x d (wAlign t V).1 (wAlign t V).2 := by
  obtain ⟨i, hi, hz0, hz1, hz2⟩ := info_parts Try.inf3
  unfold wAlign
  simp only
  obtain ⟨E, hE⟩ : ∃ E, E = 8 * ((t + 7) / 8) := ⟨_, rfl⟩
  rw [← hE]
  have hE1 : t ≤ E := by omega
  have hE2 : E ≤ t + 7 := by omega
  have HE : Hid (E = 8 * ((t + 7) / 8)) := hE
  clear hE
  go_enter Try.func28, Try.ntmps28
  go_wp2_with fail
  go_loopw [] (fun wr => ∃ (u : Nat) (dr : Value) (lr : List Nat), t ≤ u ∧ u ≤ E ∧ Wf wr B x dr lr u (V * 2 ^ (u - t)) ∧ Kw x d dr w wr) (fun wr => E - lenAt wr x)
  case atStart => exact ⟨t, d, l, Nat.le_refl _, hE1, by simpa using h, Kw.refl _ _ _⟩
  case round =>
    obtain ⟨u, dr, lr, hu1, hu2, hw, hk⟩ := hrel
    have hlen := hw.wb.len
    have hla : lenAt wr x = u := by rw [← hlen]; exact hw.lenAt
    obtain ⟨a, c, rfl⟩ := own_slice hw.own
    have hdat := hw.data
    have hlow := hw.low.2
    have hth := hw.thaw
    have hap := hw.apart
    have hB : B ≤ wr.heap.size := by have := hw.low; omega
    have hyl : lr.length ≤ 1099511627900 := by omega
    have HLA : Hid (lenAt wr x = u) := hla
    have HLn : Hid (lr.length = u) := hlen
    clear hla
    by_cases h8 : u % 8 = 0
    · have ht8 : ((lr.length : Int) % 8 != 0) = false := by simp; omega
      have hue : u = E := by have := HE.out; omega
      subst hue
      clear hlen
      go_wp2_with fail
      go_ret
      exact ⟨rfl, _, lr, hw, hk⟩
    · have ht8 : ((lr.length : Int) % 8 != 0) = true := by rw [bne_iff_ne]; omega
      have hue : u < E := by have := HE.out; omega
      clear hlen
      have hownA : (wr.alloc (.cells #[.int .i64 0] 3)).ownsRow B 3 1 (.slice a lr.length c) lr.length (iz lr) := hw.own.alloc _
      have hnews : ∀ j u, (iz [0])[j]? = some u → (wr.alloc (.cells #[.int .i64 0] 3)).cell? ((⟨wr.heap.size, 0, none⟩ : Addr).add j) = some u := World.news_of_block (cs := #[.int .i64 0]) (heap_alloc_new wr _)
      go_wp2_with (at_builtin; refine wpList_append_lies _ (by rfl) _ _ _ (by rfl) B 3 i (.int .i64 0) 1 8 Try.underlying61 hi hz0 hz1 hz2 rfl (by omega) _ lr.length (iz lr) (by rfl) hownA ⟨wr.heap.size, 0, none⟩ 1 1 (iz [0]) (by rfl) (by rfl) hnews (iz_one _) (by omega) (by unfold maxLen; omega) (by omega) (by simp; omega) (wr.heap.size + 1) (by simp) ?_; intro g cap w1 hown1 hgrow hat hlt; have c0 := (far_cell hgrow hlow hap 0).1.trans hdat; have zz := (far_cell hgrow hlow hap 0).2.trans hth)
      obtain ⟨g1, g2⟩ := grow_wf hw (by omega) hgrow hown1 hat
      have hla2 := g1.lenAt
      refine ⟨⟨u + 1, _, lr ++ [0], by omega, by omega, ?_, hk.trans g2⟩, ?_⟩
      · rw [show u + 1 - t = (u - t) + 1 from by omega, Nat.pow_succ, ← Nat.mul_assoc]
        exact g1
      · rw [hla2, HLA.out, List.length_append, HLn.out]
        simp
        omega

end Go.Proofs.Ytiheldakkpbkgaa
