/- DERIVED. told; both Singles answer alike. -/
import Derived.Test.YtpideemiijhkgaaDoorWs
import Derived.Test.YtpideemiijhkgaaDoorMg
namespace Go.Proofs.YtpideemiijhkgaaDoor
open Go.RowKit

/-- samples that may be written, whatever they are -/
structure Wz (w : World) (g n : Nat) : Prop where
  cell : ∀ j, j < n → ∃ z, w.cell? ⟨g, j, none⟩ = some (.int .u8 z)
  th : ∀ j, w.frozen? ⟨g, j, none⟩ = false
theorem Rw.wz {w : World} {g : Nat} {L : List Nat} (h : Rw w g L) : Wz w g L.length := ⟨fun j hj => ⟨_, h.cell j hj⟩, h.thaw⟩
theorem Wz.set {w : World} {g n k : Nat} (h : Wz w g n) (z : Int) : Wz (w.setCell ⟨g, k, none⟩ (.int .u8 z)) g n := by
  refine ⟨fun j hj => ?_, fun j => by rw [World.frozen?_setCell]; exact h.th j⟩
  obtain ⟨y, hy⟩ := h.cell j hj
  by_cases e : j = k
  · subst e; exact ⟨z, World.cell?_setCell_same _ _ _ hy⟩
  · exact ⟨y, by rw [World.cell?_setCell_other _ _ _ _ (by simp <;> omega)]; exact hy⟩

set_option maxRecDepth 100000 in
set_option maxHeartbeats 1000000 in
theorem told_any {v u : World} {a b : Option Addr} {c d : Nat} {L : List Nat} {er : Int} (ha : Aw v u a L) (hs : Sl u .u8 b L) (hv : v.heap.size ≤ u.heap.size) (hl : L.length ≤ 140737488355328) :
    Calls Tryd.prog 12 #[.slice a L.length c, .int .i64 er, .slice b L.length d, .int .i64 er] u fun e w' => e = .returned (.bool true) ∧ Below v.heap.size u w' := by
  have HE : Hid (Calls Tryd.prog 18 #[.slice a L.length c, .slice b L.length d] u fun e w' => e = .returned (.bool true) ∧ Below u.heap.size u w') := eqBytes_same ha.sl hs rfl hl
  have n1 : (L.length : Int) ≤ 140737488355328 := by omega
  have hee : (er == er) = true := by simp
  by_cases h0 : L.length = 0
  · have HV : Hid (v.heap.size ≤ u.heap.size) := hv
    rw [h0] at HE ⊢
    clear ha hs hl n1 h0
    go_enter Tryd.func12, Tryd.ntmps12
    go_wp2_with fail
    refine HE.out.mono ?_
    rintro e v1 ⟨rfl, hb⟩
    have HB : Hid (Below v.heap.size u v1) := hb.mono HV.out
    clear hb
    go_wp2_with fail
    go_loop [10] (fun i => i = .int .i64 0) (fun _ => 0)
    case atStart => rfl
    case round =>
      subst hrel
      go_wp2_with fail
      go_ret
      exact ⟨rfl, HB.out⟩
  · obtain ⟨g, rfl, hr, hg⟩ : ∃ g, a = some ⟨g, 0, none⟩ ∧ Rw u g L ∧ v.heap.size ≤ g := by
      rcases ha with ⟨h, _⟩ | h
      · rw [h] at h0; exact absurd rfl h0
      · exact h
    have HR : Hid (Rw u g L) := hr
    have HV : Hid (v.heap.size ≤ u.heap.size) := hv
    have HG : Hid (v.heap.size ≤ g) := hg
    clear ha hs hl hr hg hv
    go_enter Tryd.func12, Tryd.ntmps12
    go_wp2_with fail
    refine HE.out.mono ?_
    rintro e v1 ⟨rfl, hb⟩
    have HW : Hid (Wz v1 g L.length) := (HR.out.to hb).wz
    have HB : Hid (Below v.heap.size u v1) := hb.mono HV.out
    clear hb HE HR
    generalize L.length = n at *
    go_wp2_with fail
    go_loopw [10] (fun i wr => ∃ k : Nat, k ≤ n ∧ i = .int .i64 k ∧ Wz wr g n ∧ Below v.heap.size u wr) (fun i _ => n - (intOf i).toNat)
    case atStart => exact ⟨0, by omega, rfl, HW.out, HB.out⟩
    case round =>
      clear HW HB
      obtain ⟨k, hk, rfl, hw, hb⟩ := hrel
      have HB : Hid (Below v.heap.size u wr) := hb
      by_cases hlt : k < n
      · obtain ⟨z, hz⟩ := hw.cell k hlt
        have ht := hw.th k
        have HWn : Hid (∀ y, Wz (wr.setCell ⟨g, k, none⟩ (.int .u8 y)) g n) := fun y => hw.set y
        have k0 : (0 : Int) ≤ (k : Int) := by omega
        have k1 : (k : Int) < (n : Int) := by omega
        clear hw hb
        go_wp2_with fail
        go_roundw
        case rel => exact ⟨k + 1, by omega, by go_num, HWn.out _, below_set HB.out HG.out _⟩
        case measure => simp [intOf]; omega
      · obtain rfl : k = n := by omega
        clear hw hb
        go_wp2_with fail
        go_ret
        exact ⟨rfl, HB.out⟩

theorem FrOk.any {X0 Y0 X1 Y1 X2 Y2 : Int} {C0 C1 C2 : List Nat} {a0 a1 a2 b0 b1 b2 : Option Addr} {c0 c1 c2 d0 d1 d2 : Nat} (h : FrOk ⟨X0, Y0, a0, c0, C0⟩ ⟨X1, Y1, a1, c1, C1⟩ ⟨X2, Y2, a2, c2, C2⟩) : FrOk ⟨X0, Y0, b0, d0, C0⟩ ⟨X1, Y1, b1, d1, C1⟩ ⟨X2, Y2, b2, d2, C2⟩ := ⟨h.w, h.h, h.p0, h.w1, h.h1, h.p1, h.w2, h.h2, h.p2⟩
theorem both_single_0 {C0 C1 C2 : List Nat} (hC : Byt C0) {W0 H0 W1 H1 W2 H2 X Y pw ph vx vy pk : Int} (hf : FrOk ⟨W0, H0, none, 0, C0⟩ ⟨W1, H1, none, 0, C1⟩ ⟨W2, H2, none, 0, C2⟩) (hm : MvOk 0 X Y vx vy) : ∃ (L : List Nat) (er : Int), L.length ≤ 4096 ∧ (∀ (t : World) (a0 a1 a2 : Option Addr) (c0 c1 c2 : Nat), Gt t → Sl t .u8 a0 C0 → Sl t .u8 a1 C1 → Sl t .u8 a2 C2 → Calls Tryd.prog 10 #[.agg #[.int .i64 W0, .int .i64 H0, .slice a0 C0.length c0, .int .i64 W1, .int .i64 H1, .slice a1 C1.length c1, .int .i64 W2, .int .i64 H2, .slice a2 C2.length c2], .int .i64 0, .agg #[.int .i64 X, .int .i64 Y, .int .i64 pw, .int .i64 ph], .agg #[.int .i64 vx, .int .i64 vy], .int .i64 pk] t fun e w' => Rs t w' e L er) ∧ (∀ (t : World) (a0 a1 a2 : Option Addr) (c0 c1 c2 : Nat), Sl t .u8 a0 C0 → Sl t .u8 a1 C1 → Sl t .u8 a2 C2 → Calls Tryd.prog 11 #[.agg #[.int .i64 W0, .int .i64 H0, .slice a0 C0.length c0, .int .i64 W1, .int .i64 H1, .slice a1 C1.length c1, .int .i64 W2, .int .i64 H2, .slice a2 C2.length c2], .int .i64 0, .agg #[.int .i64 X, .int .i64 Y, .int .i64 pw, .int .i64 ph], .agg #[.int .i64 vx, .int .i64 vy], .int .i64 pk] t fun e w' => Rr t w' e L er) := by
  by_cases h : FOk W0 H0 C0 (16 * X + 2 * vx) (16 * Y + 2 * vy) pw ph pk
  · obtain ⟨x, y, rfl, rfl, x0, x1, y0, y1, hl⟩ := h.pl.nat
    have h1 := h.w
    have h2 := h.h
    have h3 := h.k
    obtain ⟨wd, rfl⟩ : ∃ wd : Nat, pw = (wd : Int) := ⟨pw.toNat, by omega⟩
    obtain ⟨ht, rfl⟩ : ∃ ht : Nat, ph = (ht : Int) := ⟨ph.toNat, by omega⟩
    obtain ⟨k, rfl⟩ : ∃ k : Nat, pk = (k : Int) := ⟨pk.toNat, by omega⟩
    refine ⟨fe C0 x y (16 * X + 2 * vx) (16 * Y + 2 * vy) wd ht k, 0, ?_, fun t a0 a1 a2 c0 c1 c2 hg s0 s1 s2 => ?_, fun t a0 a1 a2 c0 c1 c2 s0 s1 s2 => ?_⟩
    · rw [fe_len]; exact Nat.mul_le_mul (show wd ≤ 64 by omega) (show ht ≤ 64 by omega)
    · exact single_0 hf.any hm (fun t' ht' => (fetch_ok (hg.to ht') (s0.to ht') hC h).mono fun _ _ k => k.rs)
    · exact qsingle_0 hf.any hm ⟨h1, h2⟩ (fun t' ht' => (rfetch_ok (s0.to ht') hC h).mono fun _ _ k => k.rr)
  · refine ⟨[], 2, by simp, fun t a0 a1 a2 c0 c1 c2 hg s0 s1 s2 => ?_, fun t a0 a1 a2 c0 c1 c2 s0 s1 s2 => ?_⟩
    · exact single_0 hf.any hm (fun t' ht' => (fetch_no h).mono fun _ _ k => rs_no k)
    · by_cases hs : SdOk pw ph
      · exact qsingle_0 hf.any hm hs (fun t' ht' => (rfetch_no h).mono fun _ _ k => rr_no k)
      · exact (qsingle_no (fun k => hs k.2.2)).mono fun _ _ k => rr_no k
theorem both_single_1 {C0 C1 C2 : List Nat} (hC : Byt C1) {W0 H0 W1 H1 W2 H2 X Y pw ph vx vy pk : Int} (hf : FrOk ⟨W0, H0, none, 0, C0⟩ ⟨W1, H1, none, 0, C1⟩ ⟨W2, H2, none, 0, C2⟩) (hm : MvOk 1 X Y vx vy) : ∃ (L : List Nat) (er : Int), L.length ≤ 4096 ∧ (∀ (t : World) (a0 a1 a2 : Option Addr) (c0 c1 c2 : Nat), Gt t → Sl t .u8 a0 C0 → Sl t .u8 a1 C1 → Sl t .u8 a2 C2 → Calls Tryd.prog 10 #[.agg #[.int .i64 W0, .int .i64 H0, .slice a0 C0.length c0, .int .i64 W1, .int .i64 H1, .slice a1 C1.length c1, .int .i64 W2, .int .i64 H2, .slice a2 C2.length c2], .int .i64 1, .agg #[.int .i64 X, .int .i64 Y, .int .i64 pw, .int .i64 ph], .agg #[.int .i64 vx, .int .i64 vy], .int .i64 pk] t fun e w' => Rs t w' e L er) ∧ (∀ (t : World) (a0 a1 a2 : Option Addr) (c0 c1 c2 : Nat), Sl t .u8 a0 C0 → Sl t .u8 a1 C1 → Sl t .u8 a2 C2 → Calls Tryd.prog 11 #[.agg #[.int .i64 W0, .int .i64 H0, .slice a0 C0.length c0, .int .i64 W1, .int .i64 H1, .slice a1 C1.length c1, .int .i64 W2, .int .i64 H2, .slice a2 C2.length c2], .int .i64 1, .agg #[.int .i64 X, .int .i64 Y, .int .i64 pw, .int .i64 ph], .agg #[.int .i64 vx, .int .i64 vy], .int .i64 pk] t fun e w' => Rr t w' e L er) := by
  by_cases h : FOk W1 H1 C1 (16 * X + vx) (16 * Y + vy) pw ph pk
  · obtain ⟨x, y, rfl, rfl, x0, x1, y0, y1, hl⟩ := h.pl.nat
    have h1 := h.w
    have h2 := h.h
    have h3 := h.k
    obtain ⟨wd, rfl⟩ : ∃ wd : Nat, pw = (wd : Int) := ⟨pw.toNat, by omega⟩
    obtain ⟨ht, rfl⟩ : ∃ ht : Nat, ph = (ht : Int) := ⟨ph.toNat, by omega⟩
    obtain ⟨k, rfl⟩ : ∃ k : Nat, pk = (k : Int) := ⟨pk.toNat, by omega⟩
    refine ⟨fe C1 x y (16 * X + vx) (16 * Y + vy) wd ht k, 0, ?_, fun t a0 a1 a2 c0 c1 c2 hg s0 s1 s2 => ?_, fun t a0 a1 a2 c0 c1 c2 s0 s1 s2 => ?_⟩
    · rw [fe_len]; exact Nat.mul_le_mul (show wd ≤ 64 by omega) (show ht ≤ 64 by omega)
    · exact single_1 hf.any hm (fun t' ht' => (fetch_ok (hg.to ht') (s1.to ht') hC h).mono fun _ _ k => k.rs)
    · exact qsingle_1 hf.any hm ⟨h1, h2⟩ (fun t' ht' => (rfetch_ok (s1.to ht') hC h).mono fun _ _ k => k.rr)
  · refine ⟨[], 2, by simp, fun t a0 a1 a2 c0 c1 c2 hg s0 s1 s2 => ?_, fun t a0 a1 a2 c0 c1 c2 s0 s1 s2 => ?_⟩
    · exact single_1 hf.any hm (fun t' ht' => (fetch_no h).mono fun _ _ k => rs_no k)
    · by_cases hs : SdOk pw ph
      · exact qsingle_1 hf.any hm hs (fun t' ht' => (rfetch_no h).mono fun _ _ k => rr_no k)
      · exact (qsingle_no (fun k => hs k.2.2)).mono fun _ _ k => rr_no k
theorem both_single_2 {C0 C1 C2 : List Nat} (hC : Byt C2) {W0 H0 W1 H1 W2 H2 X Y pw ph vx vy pk : Int} (hf : FrOk ⟨W0, H0, none, 0, C0⟩ ⟨W1, H1, none, 0, C1⟩ ⟨W2, H2, none, 0, C2⟩) (hm : MvOk 2 X Y vx vy) : ∃ (L : List Nat) (er : Int), L.length ≤ 4096 ∧ (∀ (t : World) (a0 a1 a2 : Option Addr) (c0 c1 c2 : Nat), Gt t → Sl t .u8 a0 C0 → Sl t .u8 a1 C1 → Sl t .u8 a2 C2 → Calls Tryd.prog 10 #[.agg #[.int .i64 W0, .int .i64 H0, .slice a0 C0.length c0, .int .i64 W1, .int .i64 H1, .slice a1 C1.length c1, .int .i64 W2, .int .i64 H2, .slice a2 C2.length c2], .int .i64 2, .agg #[.int .i64 X, .int .i64 Y, .int .i64 pw, .int .i64 ph], .agg #[.int .i64 vx, .int .i64 vy], .int .i64 pk] t fun e w' => Rs t w' e L er) ∧ (∀ (t : World) (a0 a1 a2 : Option Addr) (c0 c1 c2 : Nat), Sl t .u8 a0 C0 → Sl t .u8 a1 C1 → Sl t .u8 a2 C2 → Calls Tryd.prog 11 #[.agg #[.int .i64 W0, .int .i64 H0, .slice a0 C0.length c0, .int .i64 W1, .int .i64 H1, .slice a1 C1.length c1, .int .i64 W2, .int .i64 H2, .slice a2 C2.length c2], .int .i64 2, .agg #[.int .i64 X, .int .i64 Y, .int .i64 pw, .int .i64 ph], .agg #[.int .i64 vx, .int .i64 vy], .int .i64 pk] t fun e w' => Rr t w' e L er) := by
  by_cases h : FOk W2 H2 C2 (16 * X + vx) (16 * Y + vy) pw ph pk
  · obtain ⟨x, y, rfl, rfl, x0, x1, y0, y1, hl⟩ := h.pl.nat
    have h1 := h.w
    have h2 := h.h
    have h3 := h.k
    obtain ⟨wd, rfl⟩ : ∃ wd : Nat, pw = (wd : Int) := ⟨pw.toNat, by omega⟩
    obtain ⟨ht, rfl⟩ : ∃ ht : Nat, ph = (ht : Int) := ⟨ph.toNat, by omega⟩
    obtain ⟨k, rfl⟩ : ∃ k : Nat, pk = (k : Int) := ⟨pk.toNat, by omega⟩
    refine ⟨fe C2 x y (16 * X + vx) (16 * Y + vy) wd ht k, 0, ?_, fun t a0 a1 a2 c0 c1 c2 hg s0 s1 s2 => ?_, fun t a0 a1 a2 c0 c1 c2 s0 s1 s2 => ?_⟩
    · rw [fe_len]; exact Nat.mul_le_mul (show wd ≤ 64 by omega) (show ht ≤ 64 by omega)
    · exact single_2 hf.any hm (fun t' ht' => (fetch_ok (hg.to ht') (s2.to ht') hC h).mono fun _ _ k => k.rs)
    · exact qsingle_2 hf.any hm ⟨h1, h2⟩ (fun t' ht' => (rfetch_ok (s2.to ht') hC h).mono fun _ _ k => k.rr)
  · refine ⟨[], 2, by simp, fun t a0 a1 a2 c0 c1 c2 hg s0 s1 s2 => ?_, fun t a0 a1 a2 c0 c1 c2 s0 s1 s2 => ?_⟩
    · exact single_2 hf.any hm (fun t' ht' => (fetch_no h).mono fun _ _ k => rs_no k)
    · by_cases hs : SdOk pw ph
      · exact qsingle_2 hf.any hm hs (fun t' ht' => (rfetch_no h).mono fun _ _ k => rr_no k)
      · exact (qsingle_no (fun k => hs k.2.2)).mono fun _ _ k => rr_no k
theorem both_single {C0 C1 C2 : List Nat} (h0 : Byt C0) (h1 : Byt C1) (h2 : Byt C2) (W0 H0 W1 H1 W2 H2 n X Y pw ph vx vy pk : Int) : ∃ (L : List Nat) (er : Int), L.length ≤ 4096 ∧ (∀ (t : World) (a0 a1 a2 : Option Addr) (c0 c1 c2 : Nat), Gt t → Sl t .u8 a0 C0 → Sl t .u8 a1 C1 → Sl t .u8 a2 C2 → Calls Tryd.prog 10 #[.agg #[.int .i64 W0, .int .i64 H0, .slice a0 C0.length c0, .int .i64 W1, .int .i64 H1, .slice a1 C1.length c1, .int .i64 W2, .int .i64 H2, .slice a2 C2.length c2], .int .i64 n, .agg #[.int .i64 X, .int .i64 Y, .int .i64 pw, .int .i64 ph], .agg #[.int .i64 vx, .int .i64 vy], .int .i64 pk] t fun e w' => Rs t w' e L er) ∧ (∀ (t : World) (a0 a1 a2 : Option Addr) (c0 c1 c2 : Nat), Sl t .u8 a0 C0 → Sl t .u8 a1 C1 → Sl t .u8 a2 C2 → Calls Tryd.prog 11 #[.agg #[.int .i64 W0, .int .i64 H0, .slice a0 C0.length c0, .int .i64 W1, .int .i64 H1, .slice a1 C1.length c1, .int .i64 W2, .int .i64 H2, .slice a2 C2.length c2], .int .i64 n, .agg #[.int .i64 X, .int .i64 Y, .int .i64 pw, .int .i64 ph], .agg #[.int .i64 vx, .int .i64 vy], .int .i64 pk] t fun e w' => Rr t w' e L er) := by
  by_cases hf : FrOk ⟨W0, H0, none, 0, C0⟩ ⟨W1, H1, none, 0, C1⟩ ⟨W2, H2, none, 0, C2⟩
  · by_cases hm : MvOk n X Y vx vy
    · have n0 := hm.n0
      have n1 := hm.n1
      rcases (show n = 0 ∨ n = 1 ∨ n = 2 by omega) with rfl | rfl | rfl
      · exact both_single_0 h0 hf hm
      · exact both_single_1 h1 hf hm
      · exact both_single_2 h2 hf hm
    · exact ⟨[], 2, by simp, fun t a0 a1 a2 c0 c1 c2 _ _ _ _ => (single_no (fun k => hm k.2)).mono fun _ _ k => rs_no k, fun t a0 a1 a2 c0 c1 c2 _ _ _ => (qsingle_no (fun k => hm k.2.1)).mono fun _ _ k => rr_no k⟩
  · exact ⟨[], 2, by simp, fun t a0 a1 a2 c0 c1 c2 _ _ _ _ => (single_no (fun k => hf k.1.any)).mono fun _ _ k => rs_no k, fun t a0 a1 a2 c0 c1 c2 _ _ _ => (qsingle_no (fun k => hf k.1.any)).mono fun _ _ k => rr_no k⟩

end Go.Proofs.YtpideemiijhkgaaDoor
