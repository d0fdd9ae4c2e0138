/- DERIVED. The walk of halved. -/
import Derived.Test.YtlcegnnhlfafgaaCa
namespace Go.Proofs.Ytlcegnnhlfafgaa
open Go.RowKit

theorem w64 (n : Int) (h : -9223372036854775808 ≤ n ∧ n ≤ 9223372036854775807) : wrap64 n = n := by unfold wrap64; omega
/-- numbers of n places in a list of the call's own -/
structure Hv (w : World) (f : Nat → Nat) (n : Nat) (l : Value) (wr : World) : Prop where
  ex : ∃ (a : Option Addr) (c : Nat), l = .slice a n c ∧ Oi wr w.heap.size a n c (nm f n) ∧ Below w.heap.size w wr
theorem Oi.madeAt {w : World} {B n c : Nat} {a : Option Addr} {C D : List Int} (h : Oi w B a n c C) (e : C = D) : Oi w B a n c D := e ▸ h
/-- a block's numbers, alone in new memory -/
def Nn (w w' : World) (e : Ending) (C : List Int) (n : Nat) : Prop := ∃ g c, e = .returned (.slice (some ⟨g, 0, none⟩) n c) ∧ Oi w' w.heap.size (some ⟨g, 0, none⟩) n c C ∧ Below w.heap.size w w'
theorem own_some {w : World} {B n c : Nat} {a : Option Addr} {C : List Int} (h : Oi w B a n c C) (h0 : 0 < n) : ∃ g, a = some ⟨g, 0, none⟩ := by
  obtain ⟨b, cap, hv, _, _⟩ := h.own.form h0
  simp only [Value.slice.injEq] at hv
  exact ⟨b, hv.1⟩
theorem side_sq {x y : Nat} (hx : Sd x) (hy : Sd y) : ∃ q : Nat, q = x * y ∧ (x : Int) * (y : Int) = (q : Int) ∧ 16 ≤ q ∧ q ≤ 1024 := ⟨x * y, rfl, by simp, Nat.mul_le_mul hx.lo hy.lo, Nat.mul_le_mul hx.hi hy.hi⟩

set_option maxRecDepth 100000 in
set_option maxHeartbeats 1000000 in
theorem halved_any {w : World} {a : Option Addr} {c x y n : Nat} {L : List Nat} (hs : Sl w .u8 a L) (hx : Sd x) (hy : Sd y) (hl : L.length = 4 * x * y) (hb : Byt L) (hn : n = x * y) :
    Calls Try.prog 23 #[.slice a L.length c, .int .i64 (x : Int), .int .i64 (y : Int)] w fun e w' => Nn w w' e (nm (lv L x) n) n := by
  obtain ⟨q, hq, eq, q0, q1⟩ := side_sq hx hy
  obtain rfl : n = q := by omega
  have HQ : Hid (n = x * y) := hn
  have hll : 0 < L.length := by rw [hl, Nat.mul_assoc, ← hn]; omega
  have HLL : Hid (L.length = 4 * n) := by show _ = _; rw [hl, Nat.mul_assoc, ← hn]
  obtain ⟨b, o, rfl, hbl, hc⟩ := hs.form hll
  have HC : Hid (∀ t : World, Below w.heap.size w t → ∀ j, j < L.length → t.cell? ⟨b, o + j, none⟩ = some (.int .u8 (L.getD j 0 : Nat))) := fun t ht j hj => by rw [newCell ht _ _ hbl]; exact hc j hj
  have HBy : Hid (Byt L) := hb
  have HX : Hid (Sd x) := hx
  have HY : Hid (Sd y) := hy
  have HPL : Hid (∀ i, i < n → pl x i + 2 * x + 1 < L.length) := fun i hi => by
    have := pl_lt (w := x) (h := y) (i := i) (by rw [← hn]; exact hi)
    show _ < _
    rw [hl]; exact this
  have x0 : (4 : Int) ≤ (x : Int) := by have := hx.lo; omega
  have x1 : (x : Int) ≤ 32 := by have := hx.hi; omega
  have y1 : (y : Int) ≤ 32 := by have := hy.hi; omega
  have l1 : (L.length : Int) ≤ 4096 := by have := HLL.out; omega
  have hmk := fun u => mk_room (n := n) (by omega) u
  have HO : Hid (Hv w (lv L x) 0 (.slice (some ⟨w.heap.size, 0, none⟩) 0 n) (w.alloc (.cells (madeCells #[.int .i64 0] n) 3))) := ⟨_, n, rfl, Oi.room w (by omega) (Nat.le_refl _), from_alloc _ _⟩
  clear hs hx hy hl hb hn hq hbl hc hll
  go_enter Try.func23, Try.ntmps23
  go_wp2_with fail
  clear hmk
  generalize hW : World.alloc _ _ = w1 at *
  clear hW
  go_loopw [7, 18] (fun l i wr => ∃ r : Nat, r ≤ y ∧ i = .int .i64 r ∧ Hv w (lv L x) (r * x) l wr) (fun _ i _ => y - (intOf i).toNat)
  case atStart => exact ⟨0, by omega, rfl, by rw [Nat.zero_mul]; exact HO.out⟩
  case round =>
    clear HO
    obtain ⟨r, hr, rfl, ho⟩ := hrel
    have r0 : (0 : Int) ≤ (r : Int) := by omega
    have HV : Hid (Hv w (lv L x) (r * x) u7 wr) := ho
    clear ho
    by_cases hlt : r < y
    · have r1 : (r : Int) < (y : Int) := by omega
      go_wp2_with fail
      go_loopw [7, 22] (fun l i wr => ∃ k : Nat, k ≤ x ∧ i = .int .i64 k ∧ Hv w (lv L x) (r * x + k) l wr) (fun _ i _ => x - (intOf i).toNat)
      case atStart => exact ⟨0, by omega, rfl, HV.out⟩
      case round =>
        clear HV
        obtain ⟨k, hk, rfl, ho⟩ := hrel
        have k0 : (0 : Int) ≤ (k : Int) := by omega
        by_cases hlk : k < x
        · have k1 : (k : Int) < (x : Int) := by omega
          obtain ⟨ad, cp, rfl, hoi, hbel⟩ := ho
          have hi : r * x + k < n := by
            have h1 : (r + 1) * x ≤ y * x := Nat.mul_le_mul_right _ hlt
            rw [Nat.add_mul, Nat.one_mul, Nat.mul_comm y x, ← HQ.out] at h1
            omega
          have hp := HPL.out _ hi
          have hpa := pl_at r hlk
          generalize hm : r * x + k = m at *
          obtain ⟨p, hpp⟩ : ∃ p, p = r * 4 * x := ⟨_, rfl⟩
          obtain ⟨t, ht⟩ : ∃ t, t = pl x m := ⟨_, rfl⟩
          have e1 : 2 * (r : Int) * 2 * (x : Int) = (p : Int) := by rw [hpp, Int.natCast_mul, Int.natCast_mul]; congr 1; omega
          rw [← ht] at hp hpa
          have e2 : (p : Int) + 2 * (k : Int) = (t : Int) := by omega
          obtain ⟨t2, ht2⟩ : ∃ t2, t2 = t + 2 * x := ⟨_, rfl⟩
          obtain ⟨t3, ht3⟩ : ∃ t3, t3 = t + 1 := ⟨_, rfl⟩
          obtain ⟨t4, ht4⟩ : ∃ t4, t4 = t2 + 1 := ⟨_, rfl⟩
          have e3 : (t : Int) + 2 * (x : Int) = (t2 : Int) := by omega
          have c1 := HC.out _ hbel t (by omega)
          have c2 := HC.out _ hbel t2 (by omega)
          have c3 := HC.out _ hbel t3 (by omega)
          have c4 := HC.out _ hbel t4 (by omega)
          have w3 : IntKind.i64.wrap ((t : Int) + 1) = (t3 : Int) := by rw [IntKind.wrap_i64]; omega
          have w4 : IntKind.i64.wrap ((t2 : Int) + 1) = (t4 : Int) := by rw [IntKind.wrap_i64]; omega
          have p1 : (p : Int) ≤ 4096 := by omega
          have t0 : (0 : Int) ≤ (t : Int) := by omega
          have t1 : (t : Int) < (L.length : Int) := by omega
          have t20 : (0 : Int) ≤ (t2 : Int) := by omega
          have t21 : (t2 : Int) < (L.length : Int) := by omega
          have t30 : (0 : Int) ≤ (t3 : Int) := by omega
          have t31 : (t3 : Int) < (L.length : Int) := by omega
          have t40 : (0 : Int) ≤ (t4 : Int) := by omega
          have t41 : (t4 : Int) < (L.length : Int) := by omega
          have b1 := HBy.out t
          have b2 := HBy.out t2
          have b3 := HBy.out t3
          have b4 := HBy.out t4
          have HE : Hid (2 * (L.getD t 0 + L.getD t3 0 + L.getD t2 0 + L.getD t4 0) = lv L x m) := by show _ = _; unfold lv; rw [← ht, ht4, ht2, ht3]
          generalize L.getD t 0 = v1 at *
          generalize L.getD t2 0 = v2 at *
          generalize L.getD t3 0 = v3 at *
          generalize L.getD t4 0 = v4 at *
          have HF : Hid (wrap64 (2 * wrap64 (wrap64 (wrap64 (wrap64 (v1 : Int) + wrap64 (v3 : Int)) + wrap64 (v2 : Int)) + wrap64 (v4 : Int))) = ((lv L x m : Nat) : Int)) := by
            have := HE.out
            show _ = _
            rw [w64 (v1 : Int) (by omega), w64 (v2 : Int) (by omega), w64 (v3 : Int) (by omega), w64 (v4 : Int) (by omega), w64 ((v1 : Int) + v3) (by omega), w64 ((v1 : Int) + v3 + v2) (by omega), w64 ((v1 : Int) + v3 + v2 + v4) (by omega), w64 _ (by omega)]
            omega
          have HOi : Hid (Oi wr w.heap.size ad m cp (nm (lv L x) m)) := hoi
          have HB : Hid (Below w.heap.size w wr) := hbel
          have HBs : Hid (w.heap.size ≤ wr.heap.size) := hbel.size
          have HM : Hid (r * x + k = m) := hm
          have mB : m < 1099511627776 := by omega
          clear HE hp hpa hm hpp ht ht2 ht3 ht4 hi hoi hbel b1 b2 b3 b4
          go_wp2_with fail
          go_quiet (fail)
          go_wp2_with (at_builtin; refine wpList_append_int _ (by rfl) _ _ (by rfl) w.heap.size m cp (nm (lv L x) m) ad _ (HOi.out.drewN _) HBs.out (by omega) (by rfl) (by rfl) ?_; intro g cap w5 how hb5 _)
          go_roundw
          case rel =>
            refine ⟨k + 1, by omega, by go_num, ⟨_, cap, by rw [← Nat.add_assoc, HM.out], ?_, HB.out.trans ((below_drewN (Below.refl _ _) _).trans hb5)⟩⟩
            rw [HF.out, nm_step] at how
            rw [← Nat.add_assoc, HM.out]
            exact how
          case measure => simp [intOf]; omega
        · obtain rfl : k = x := by omega
          have HO : Hid (Hv w (lv L k) ((r + 1) * k) u7 wr) := by rw [Nat.add_mul, Nat.one_mul]; exact ho
          clear ho
          go_wp2_with fail
          go_roundw
          case rel => exact ⟨r + 1, by omega, by go_num, HO.out⟩
          case measure => simp [intOf]; omega
    · obtain rfl : r = y := by omega
      obtain ⟨ad, cp, rfl, hoi, hbel⟩ := HV.out
      rw [Nat.mul_comm r x, ← HQ.out] at hoi
      obtain ⟨g, rfl⟩ := own_some hoi (by omega)
      have HR : Hid (Nn w wr (.returned (.slice (some ⟨g, 0, none⟩) (r * x) cp)) (nm (lv L x) n) n) := ⟨g, cp, by rw [Nat.mul_comm r x, ← HQ.out], hoi, hbel⟩
      clear HV hoi hbel
      go_wp2_with fail
      go_ret
      exact HR.out

end Go.Proofs.Ytlcegnnhlfafgaa
