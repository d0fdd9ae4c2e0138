/- DERIVED. The walk of the program's Ac. -/
import Derived.Test.YtlcegnnhlfafgaaCb
namespace Go.Proofs.Ytlcegnnhlfafgaa
open Go.RowKit

theorem Oi.set {w : World} {B n c g : Nat} {C : List Int} (h : Oi w B (some ⟨g, 0, none⟩) n c C) (k : Nat) (x : Int) : Oi (w.setCell ⟨g, k, none⟩ (.int .i64 x)) B (some ⟨g, 0, none⟩) n c (C.set k x) := by
  refine ⟨?_⟩; rw [is_set]; exact (World.ownsRow.stored h.own k (.int .i64 x)).1
/-- what Ac answers: numbers in new memory, or an error -/
def An (w w' : World) (e : Ending) (C : List Int) (n : Nat) : Prop := ∃ g c, e = .returned (.tuple #[.slice (some ⟨g, 0, none⟩) n c, .int .i64 0]) ∧ Oi w' w.heap.size (some ⟨g, 0, none⟩) n c C ∧ Below w.heap.size w w'
/-- a row that is being lessened -/
structure Ls (w : World) (f : Nat → Nat) (n g c k : Nat) (wr : World) : Prop where
  own : Oi wr w.heap.size (some ⟨g, 0, none⟩) n c (lsF f (mn f n) n k)
  bel : Below w.heap.size w wr
theorem Ls.set {w : World} {f : Nat → Nat} {n g c k : Nat} {wr : World} (h : Ls w f n g c k wr) (hk : k < n) : Ls w f n g c (k + 1) (wr.setCell ⟨g, k, none⟩ (.int .i64 ((f k : Int) - (mn f n : Int)))) :=
  ⟨by rw [← lsF_set _ _ _ _ hk]; exact h.own.set k _, below_set h.bel h.own.lt.1 _⟩

set_option maxRecDepth 100000 in
set_option maxHeartbeats 1000000 in
theorem ac_ok {w : World} {a : Option Addr} {c x y n : Nat} {L : List Nat} (hs : Sl w .u8 a L) (hx : Sd x) (hy : Sd y) (hl : L.length = 4 * x * y) (hb : Byt L) (hn : n = x * y) :
    Calls Try.prog 9 #[.slice a L.length c, .int .i64 (x : Int), .int .i64 (y : Int)] w fun e w' => An w w' e (acF (lv L x) n) n := by
  obtain ⟨q, hq, eq, q0, q1⟩ := side_sq hx hy
  obtain rfl : n = q := by omega
  have HS : Hid (Sl w .u8 a L) := hs
  have HX : Hid (Sd x) := hx
  have HY : Hid (Sd y) := hy
  have HL : Hid (L.length = 4 * x * y) := hl
  have HBy : Hid (Byt L) := hb
  have HN : Hid (n = x * y) := hn
  have x0 : (4 : Int) ≤ (x : Int) := by have := hx.lo; omega
  have x1 : (x : Int) ≤ 32 := by have := hx.hi; omega
  have y1 : (y : Int) ≤ 32 := by have := hy.hi; omega
  have e4 : 4 * (x : Int) * (y : Int) = 4 * (n : Int) := by rw [Int.mul_assoc, eq]
  have hll : (L.length : Int) = 4 * (n : Int) := by rw [hl, Nat.mul_assoc, ← hn]; omega
  have ne : ((L.length : Int) != 4 * (n : Int)) = false := by rw [hll]; simp
  have sx := sdB_yes hx
  have sy := sdB_yes hy
  have HM : Hid (mn (lv L x) n ≤ 2040) := mn_le (by omega) (fun i _ => lv_le hb _ _)
  have HF : Hid (∀ i, lv L x i ≤ 2040) := fun i => lv_le hb _ _
  have n1 : (n : Int) ≤ 1024 := by omega
  clear hs hx hy hl hb hn hq
  go_enter Try.func9, Try.ntmps9
  go_wp2_with (first | (go_at_call 22; refine isSide_any.mono ?_; rintro e w' ⟨rfl, rfl⟩; first | rw [sx] | rw [sy]) | fail)
  refine (halved_any (n := n) HS.out HX.out HY.out HL.out HBy.out HN.out).mono ?_
  rintro e w1 ⟨g, c1, rfl, ho1, hb1⟩
  go_wp2_with fail
  refine (meanOf_any ho1.si (by omega) (by omega) (fun i _ => HF.out i)).mono ?_
  rintro e w2 ⟨rfl, rfl⟩
  have HLs : Hid (Ls w (lv L x) n g c1 0 w1) := ⟨by rw [lsF_zero]; exact ho1, hb1⟩
  clear ho1 hb1
  have m1 : ((mn (lv L x) n : Nat) : Int) ≤ 2040 := by have := HM.out; omega
  generalize hm : mn (lv L x) n = m at *
  have HMM : Hid (mn (lv L x) n = m) := hm
  clear hm
  go_wp2_with fail
  go_loopw [37] (fun i wr => ∃ k : Nat, k ≤ n ∧ i = .int .i64 k ∧ Ls w (lv L x) n g c1 k wr) (fun i _ => n - (intOf i).toNat)
  case atStart => exact ⟨0, by omega, rfl, HLs.out⟩
  case round =>
    clear HLs
    obtain ⟨k, hk, rfl, hls⟩ := hrel
    have k0 : (0 : Int) ≤ (k : Int) := by omega
    by_cases hlt : k < n
    · have k1 : (k : Int) < (n : Int) := by omega
      have c0 := hls.own.cellAt k hlt
      rw [lsF_get _ _ _ _ _ hlt, if_neg (by omega)] at c0
      have f0 := hls.own.ri k
      have v1 := HF.out k
      have HNx : Hid (Ls w (lv L x) n g c1 (k + 1) (wr.setCell ⟨g, k, none⟩ (.int .i64 ((lv L x k : Int) - (m : Int))))) := by rw [← HMM.out]; exact hls.set hlt
      clear hls
      generalize lv L x k = v at *
      have v2 : (v : Int) ≤ 2040 := by omega
      go_wp2_with fail
      go_roundw
      case rel => exact ⟨k + 1, by omega, by go_num, HNx.out⟩
      case measure => simp [intOf]; omega
    · obtain rfl : k = n := by omega
      have HR : Hid (An w wr (.returned (.tuple #[.slice (some ⟨g, 0, none⟩) k c1, .int .i64 0])) (acF (lv L x) k) k) := ⟨g, c1, rfl, by rw [← lsF_all]; exact hls.own, hls.bel⟩
      clear hls
      go_wp2_with fail
      go_returns
      exact HR.out

end Go.Proofs.Ytlcegnnhlfafgaa
