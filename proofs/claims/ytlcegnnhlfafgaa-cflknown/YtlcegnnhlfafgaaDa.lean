/- DERIVED. The walk of the program's Predict. -/
import Derived.Test.YtlcegnnhlfafgaaCd
namespace Go.Proofs.Ytlcegnnhlfafgaa
open Go.RowKit

set_option maxHeartbeats 400000 in
theorem predictor_any {w : World} {al : Int} : Calls Try.prog 27 #[.int .i64 al] w fun e w' => e = .returned (.func (.func 29) #[] #[.pointer (some ⟨w.heap.size, 0, none⟩)]) ∧ w' = w.alloc (.cells #[.int .i64 al] 3) := by
  go_enter Try.func27, Try.ntmps27
  go_wp2_with fail
  go_ret
  exact ⟨rfl, rfl⟩

/-- samples and numbers that Predict takes -/
structure Qk (C : List Nat) (A : List Int) (al : Int) : Prop where
  short : C.length ≤ 1024
  len : A.length = C.length
  nums : wiB 2048 A = true
  a0 : -16 ≤ al
  a1 : al ≤ 16
theorem wi_one {al : Int} (h : -16 ≤ al ∧ al ≤ 16) : wiB 16 [al] = true := wiB_yes fun j hj => by
  obtain rfl : j = 0 := by simpa using hj
  exact h
theorem wi_none {al : Int} (h : ¬ (-16 ≤ al ∧ al ≤ 16)) : wiB 16 [al] = false := wiB_no 0 (by simp) h
/-- a block of predictions in new memory -/
def Pn (w w' : World) (e : Ending) (C : List Nat) : Prop := ∃ g, e = .returned (.tuple #[.slice (some ⟨g, 0, none⟩) C.length C.length, .int .i64 0]) ∧ Rw w' g C ∧ w.heap.size ≤ g ∧ Below w.heap.size w w'
theorem two_far {t : World} {b o b2 o2 g k : Nat} {p q v : Value} (c1 : t.cell? ⟨b, o, none⟩ = some p) (c2 : t.cell? ⟨b2, o2, none⟩ = some q) (h1 : b ≠ g) (h2 : b2 ≠ g) : (t.setCell ⟨g, k, none⟩ v).cell? ⟨b, o, none⟩ = some p ∧ (t.setCell ⟨g, k, none⟩ v).cell? ⟨b2, o2, none⟩ = some q :=
  ⟨by rw [World.cell?_setCell_other _ _ _ _ (by simp)]; exact c1, by rw [World.cell?_setCell_other _ _ _ _ (by simp)]; exact c2⟩
/-- predictions that are being made -/
structure Pw (w : World) (C : List Nat) (A : List Int) (al : Int) (g k : Nat) (wr : World) : Prop where
  rw : Rw wr g (pdK C A al k)
  low : w.heap.size ≤ g
  bel : Below w.heap.size w wr

set_option maxRecDepth 100000 in
set_option maxHeartbeats 1000000 in
theorem predict_some {w : World} {b o b2 o2 c c2 : Nat} {C : List Nat} {A : List Int} {al : Int} (hbl : b < w.heap.size) (hbl2 : b2 < w.heap.size) (hc : ∀ j, j < C.length → w.cell? ⟨b, o + j, none⟩ = some (.int .u8 (C.getD j 0 : Nat))) (hc2 : ∀ j, j < A.length → w.cell? ⟨b2, o2 + j, none⟩ = some (.int .i64 (A.getD j 0))) (hb : Byt C) (h : Qk C A al) :
    Calls Try.prog 15 #[.slice (some ⟨b, o, none⟩) C.length c, .slice (some ⟨b2, o2, none⟩) A.length c2, .int .i64 al] w fun e w' => Pn w w' e (pdL C A al) := by
  have HN : Hid (A.length = C.length) := h.len
  have HBy : Hid (Byt C) := hb
  have hl := h.len
  have h1 := h.short
  have HWi : Hid (wiB 2048 A = true) := h.nums
  have w1 := h.nums
  have w2 := wi_one ⟨h.a0, h.a1⟩
  have a0 := h.a0
  have a1 := h.a1
  rw [hl]
  generalize hn : C.length = n at *
  have HCn : Hid (C.length = n) := hn
  have HS2 : Hid (Si w (some ⟨b2, o2, none⟩) A) := Or.inr ⟨b2, o2, rfl, hbl2, fun j hj => hc2 j hj⟩
  have HC : Hid (∀ t : World, Below w.heap.size w t → ∀ j, j < n → t.cell? ⟨b, o + j, none⟩ = some (.int .u8 (C.getD j 0 : Nat)) ∧ t.cell? ⟨b2, o2 + j, none⟩ = some (.int .i64 (A.getD j 0))) := fun t ht j hj => ⟨by rw [newCell ht _ _ hbl]; exact hc j (by omega), by rw [newCell ht _ _ hbl2]; exact hc2 j (by omega)⟩
  have HBl : Hid (b < w.heap.size ∧ b2 < w.heap.size) := ⟨hbl, hbl2⟩
  have n1 : (n : Int) ≤ 1024 := by omega
  have ne : ((n : Int) != (n : Int)) = false := by simp
  have hmk := fun u => mk_row (n := n) (by omega) u
  have HSo : Hid (Si (w.alloc (.cells #[.int .i64 al] 3)) (some ⟨w.heap.size, 0, none⟩) [al]) := (Ri.built 3 w [al] rfl).si
  clear hc hc2 hb h hl hbl hbl2 hn
  go_enter Try.func15, Try.ntmps15
  go_wp2_with (first | (go_at_call 26; with_reducible refine (within_any (M := 2048) HS2.out HN.out (by omega) (by omega) (by omega)).mono ?_; rintro e w' ⟨rfl, rfl⟩; rw [w1]) | (go_at_call 26; with_reducible refine (within_any (M := 16) (n := 1) HSo.out rfl (by omega) (by omega) (by omega)).mono ?_; rintro e w' ⟨rfl, rfl⟩; rw [w2]) | fail)
  refine predictor_any.mono ?_
  rintro e w3 ⟨rfl, rfl⟩
  have hz : (w.alloc (.cells #[.int .i64 al] 3)).heap.size = w.heap.size + 1 := by simp
  rw [hz]
  have HB3 : Hid (Below w.heap.size w ((w.alloc (.cells #[.int .i64 al] 3)).alloc (.cells #[.int .i64 al] 3))) := to_alloc (from_alloc _ _) _
  have HX3 : Hid (((w.alloc (.cells #[.int .i64 al] 3)).alloc (.cells #[.int .i64 al] 3)).cell? ⟨w.heap.size + 1, 0, none⟩ = some (.int .i64 al)) := by show _ = _; simp [go_sem]
  have HZ3 : Hid (((w.alloc (.cells #[.int .i64 al] 3)).alloc (.cells #[.int .i64 al] 3)).heap.size = w.heap.size + 2) := by show _ = _; simp
  generalize ((w.alloc (.cells #[.int .i64 al] 3)).alloc (.cells #[.int .i64 al] 3)) = v at *
  clear HSo hz w1 w2
  have hz3 := HZ3.out
  go_wp2_with fail
  have HR : Hid (Pw w C A al v.heap.size 0 (v.alloc (.cells (madeCells #[.int .u8 0] n) 5))) := ⟨by rw [pdK_zero, HCn.out]; exact Rw.made v n, HB3.out.size, to_alloc HB3.out _⟩
  have HX4 : Hid (∀ t : World, Below v.heap.size (v.alloc (.cells (madeCells #[.int .u8 0] n) 5)) t → t.cell? ⟨w.heap.size + 1, 0, none⟩ = some (.int .i64 al)) := fun t ht => by
    rw [newCell ht _ _ (by omega), newCell (from_alloc v _) _ _ (by omega)]; exact HX3.out
  have HB4 : Hid (Below v.heap.size (v.alloc (.cells (madeCells #[.int .u8 0] n) 5)) (v.alloc (.cells (madeCells #[.int .u8 0] n) 5))) := Below.refl _ _
  generalize (v.alloc (.cells (madeCells #[.int .u8 0] n) 5)) = v4 at *
  have HG : Hid (w.heap.size + 2 = v.heap.size) := hz3.symm
  clear hz3 HZ3 hmk HX3 HB3
  generalize v.heap.size = g at *
  have hg := HG.out
  subst hg
  clear HG
  go_loopw [39] (fun i wr => ∃ k : Nat, k ≤ n ∧ i = .int .i64 k ∧ Pw w C A al (w.heap.size + 2) k wr ∧ Below (w.heap.size + 2) v4 wr) (fun i _ => n - (intOf i).toNat)
  case atStart => exact ⟨0, by omega, rfl, HR.out, HB4.out⟩
  case round =>
    clear HR HB4
    obtain ⟨k, hk, rfl, hp, hb4⟩ := hrel
    have k0 : (0 : Int) ≤ (k : Int) := by omega
    by_cases hlt : k < n
    · have k1 : (k : Int) < (n : Int) := by omega
      have HBw : Hid (Below w.heap.size w wr.drew) := below_drew hp.bel
      obtain ⟨c1, c2⟩ := HC.out _ HBw.out k hlt
      have c3 := HX4.out _ (below_drew hb4)
      have c4 : wr.drew.cell? ⟨w.heap.size + 2, k, none⟩ = some (.int .u8 (0 : Int)) := by
        have := hp.rw.cell k (by rw [pdK_len, HCn.out]; exact hlt)
        rw [pdK_get _ _ _ _ _ (by rw [HCn.out]; exact hlt), if_neg (by omega)] at this
        exact this
      have c5 : wr.drew.frozen? ⟨w.heap.size + 2, k, none⟩ = false := hp.rw.thaw k
      obtain ⟨y0, y1⟩ := wiB_at HWi.out k (by rw [HN.out]; exact hlt)
      have vb := HBy.out k
      obtain ⟨hb1, hb2⟩ := HBl.out
      have HNx : Hid (Pw w C A al (w.heap.size + 2) (k + 1) (wr.drew.setCell ⟨w.heap.size + 2, k, none⟩ (.int .u8 ((pd (C.getD k 0) (al * A.getD k 0) : Nat) : Int)))) :=
        ⟨by rw [← pdK_set _ _ _ _ (by rw [HCn.out]; exact hlt)]; exact hp.rw.drew.set _ _, hp.low, below_set (below_drew hp.bel) hp.low _⟩
      have HBn : Hid (Below (w.heap.size + 2) v4 (wr.drew.setCell ⟨w.heap.size + 2, k, none⟩ (.int .u8 ((pd (C.getD k 0) (al * A.getD k 0) : Nat) : Int)))) := below_set (below_drew hb4) (Nat.le_refl _) _
      clear hp hb4
      generalize C.getD k 0 = vv at *
      generalize A.getD k 0 = y at *
      have HM : Hid (Calls Try.prog 29 #[.int .u8 (vv : Int), .int .i64 y, .pointer (some ⟨w.heap.size + 1, 0, none⟩)] wr.drew fun e w' => e = .returned (.int .u8 (pd vv (al * y) : Nat)) ∧ wr.drew = w') := moved_any c3 a0 a1 y0 y1 vb
      generalize pd vv (al * y) = z at *
      go_wp2_with fail
      go_region_held3 (fun t => t.cell? ⟨b, o + k, none⟩ = some (.int .u8 (vv : Int)) ∧ t.cell? ⟨b2, o2 + k, none⟩ = some (.int .i64 y)) ((first | exact ⟨c1, c2⟩ | exact two_far c1 c2 (by omega) (by omega))) ((go_at_call 29; refine HM.out.mono ?_; rintro e w5 ⟨rfl, rfl⟩))
      go_wp2_with fail
      go_roundw
      case rel => exact ⟨k + 1, by omega, by go_num, HNx.out, HBn.out⟩
      case measure => simp [intOf]; omega
    · obtain rfl : k = n := by omega
      have HRt : Hid (Pn w wr (.returned (.tuple #[.slice (some ⟨w.heap.size + 2, 0, none⟩) k k, .int .i64 0])) (pdL C A al)) := by
        refine ⟨_, by rw [pdL_len, HCn.out], ?_, hp.low, hp.bel⟩
        have := hp.rw
        rw [← HCn.out, pdK_all] at this
        exact this
      clear hp hb4
      go_wp2_with fail
      go_returns
      exact HRt.out

end Go.Proofs.Ytlcegnnhlfafgaa
