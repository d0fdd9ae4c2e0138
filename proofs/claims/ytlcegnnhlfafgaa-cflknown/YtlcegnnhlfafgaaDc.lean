/- DERIVED. The walk of the document's Predict. -/
import Derived.Test.YtlcegnnhlfafgaaDb
namespace Go.Proofs.Ytlcegnnhlfafgaa
open Go.RowKit

/-- what the document's Predict answers where lengths and alpha may be -/
def Rr (w w' : World) (e : Ending) (C : List Nat) (A : List Int) (al : Int) : Prop :=
  (wiB 2048 A = true ∧ ∃ a c, e = .returned (.tuple #[.slice a C.length c, .int .i64 0]) ∧ Sl w' .u8 a (pdL C A al) ∧ Below w.heap.size w w') ∨ (wiB 2048 A = false ∧ e = .returned (.tuple #[.slice none 0 0, .int .i64 2]) ∧ Below w.heap.size w w')
/-- its list behind k samples -/
structure Rl (w : World) (D : List Nat) (k : Nat) (l : Value) (wr : World) : Prop where
  ex : ∃ (a : Option Addr) (c : Nat), l = .slice a k c ∧ wr.ownsRow w.heap.size 5 1 (.slice a k c) k (ns .u8 (D.take k)) ∧ (0 < k → ∃ g, a = some ⟨g, 0, none⟩) ∧ Below w.heap.size w wr

set_option maxRecDepth 100000 in
set_option maxHeartbeats 1000000 in
theorem rpredict_some {w : World} {b o b2 o2 c c2 : Nat} {C : List Nat} {A : List Int} {al : Int} (hbl : b < w.heap.size) (hbl2 : b2 < w.heap.size) (hc : ∀ j, j < C.length → w.cell? ⟨b, o + j, none⟩ = some (.int .u8 (C.getD j 0 : Nat))) (hc2 : ∀ j, j < A.length → w.cell? ⟨b2, o2 + j, none⟩ = some (.int .i64 (A.getD j 0))) (hb : Byt C)
    (h0 : 0 < C.length) (h1 : C.length ≤ 1024) (hl : A.length = C.length) (a0 : -16 ≤ al) (a1 : al ≤ 16) :
    Calls Try.prog 16 #[.slice (some ⟨b, o, none⟩) C.length c, .slice (some ⟨b2, o2, none⟩) A.length c2, .int .i64 al] w fun e w' => Rr w w' e C A al := by
  have HN : Hid (A.length = C.length) := hl
  have HBy : Hid (Byt C) := hb
  rw [hl]
  generalize hn : C.length = n at *
  have HCn : Hid (C.length = n) := hn
  have HC : Hid (∀ t : World, Below w.heap.size w t → ∀ j, j < n → t.cell? ⟨b, o + j, none⟩ = some (.int .u8 (C.getD j 0 : Nat)) ∧ t.cell? ⟨b2, o2 + j, none⟩ = some (.int .i64 (A.getD j 0))) := fun t ht j hj => ⟨by rw [newCell ht _ _ hbl]; exact hc j (by omega), by rw [newCell ht _ _ hbl2]; exact hc2 j (by omega)⟩
  have n1 : (n : Int) ≤ 1024 := by omega
  have ne : ((n : Int) != (n : Int)) = false := by simp
  have HR : Hid (Rl w (pdL C A al) 0 (.slice none 0 0) w) := ⟨none, 0, rfl, World.ownsRow_nil _ _ _ _, fun h => by omega, Below.refl _ _⟩
  clear hc hc2 hb hl hbl hbl2 hn
  go_enter Try.func16, Try.ntmps16
  go_wp2_with fail
  go_loopw [8, 9] (fun l i wr => ∃ k : Nat, k ≤ n ∧ i = .int .i64 k ∧ Rl w (pdL C A al) k l wr ∧ Hid (∀ j, j < k → -2048 ≤ A.getD j 0 ∧ A.getD j 0 ≤ 2048)) (fun _ i _ => n - (intOf i).toNat)
  case atStart => exact ⟨0, by omega, rfl, HR.out, fun j hj => by omega⟩
  case round =>
    clear HR
    obtain ⟨k, hk, rfl, ⟨ad, cp, rfl, hoi, hsome, hbel⟩, HK⟩ := hrel
    have k0 : (0 : Int) ≤ (k : Int) := by omega
    by_cases hlt : k < n
    · have k1 : (k : Int) < (n : Int) := by omega
      obtain ⟨c1, d1⟩ := HC.out _ hbel k hlt
      have HF : Hid (¬ (-2048 ≤ A.getD k 0 ∧ A.getD k 0 ≤ 2048) → Rr w wr (.returned (.tuple #[.slice none 0 0, .int .i64 2])) C A al) := fun q => Or.inr ⟨wiB_no k (by rw [HN.out]; exact hlt) q, rfl, hbel⟩
      have vb := HBy.out k
      have HT : Hid ((pdL C A al).take k ++ [(pdL C A al).getD k 0] = (pdL C A al).take (k + 1)) := take_step (by rw [pdL_len, HCn.out]; exact hlt)
      have HG : Hid ((pdL C A al).getD k 0 = pd (C.getD k 0) (al * A.getD k 0)) := pdL_get _ _ _ _ (by rw [HCn.out]; exact hlt)
      have HO : Hid (wr.ownsRow w.heap.size 5 1 (.slice ad k cp) k (ns .u8 ((pdL C A al).take k))) := hoi
      have HB : Hid (Below w.heap.size w wr) := hbel
      have HBs : Hid (w.heap.size ≤ wr.heap.size) := hbel.size
      clear hoi hsome hbel
      generalize hyy : A.getD k 0 = y at *
      have HY : Hid (A.getD k 0 = y) := hyy
      clear hyy
      by_cases x0 : y < -2048
      · have HFF := HF.out (by omega)
        clear HF
        go_wp2_with fail
        go_returns
        exact HFF
      · by_cases x1 : 2048 < y
        · have HFF := HF.out (by omega)
          clear HF
          go_wp2_with fail
          go_returns
          exact HFF
        · have HK2 : Hid (∀ j, j < k + 1 → -2048 ≤ A.getD j 0 ∧ A.getD j 0 ≤ 2048) := fun j hj => by
            by_cases e : j = k
            · subst e; rw [HY.out]; omega
            · exact HK.out j (by omega)
          clear HF HK
          obtain ⟨p0, p1⟩ := mul_lim a0 a1 (by omega : -2048 ≤ y) (by omega : y ≤ 2048)
          rw [HG.out] at HT
          clear HG
          generalize C.getD k 0 = vv at *
          have hpc := pd_cl vv (al * y)
          have hma := mv_ab (al * y)
          generalize hp : al * y = p at *
          have ap := ab_pos p
          have al1 := ab_le (v := p) (M := 32768) ⟨p0, p1⟩
          have vb2 : (vv : Int) < 256 := by omega
          by_cases hz : p < 0
          · rw [if_pos hz] at hma
            rw [hma] at hpc
            have zb := pd_lt vv p
            generalize pd vv p = z at *
            have zb2 : (z : Int) < 256 := by omega
            generalize hab : ab p = q at *
            have HAb : Hid (ab p = q) := hab
            have HCl : Hid (cl ((vv : Int) + -((q + 32) / 64)) = (z : Int)) := hpc.symm
            clear hma hpc hab
            go_wp2_with (first | (go_at_call 19; refine (abs_any (by omega)).mono ?_; rintro e w' ⟨rfl, rfl⟩; rw [HAb.out]) | (go_at_call 28; refine clip_any.mono ?_; rintro e w' ⟨rfl, rfl⟩; rw [HCl.out]) | (at_builtin; refine wpList_append_u8 _ (by rfl) _ _ (by rfl) w.heap.size k ((pdL C A al).take k) (.slice ad k cp) _ z rfl HO.out HBs.out (by omega) (by rfl) (by rfl) ?_; intro g cap w5 how hb5))
            go_roundw
            case rel => exact ⟨k + 1, by omega, by go_num, ⟨_, cap, rfl, by rw [← HT.out]; exact how, fun _ => ⟨g, rfl⟩, HB.out.trans hb5⟩, HK2⟩
            case measure => simp [intOf]; omega
          · rw [if_neg hz] at hma
            rw [hma] at hpc
            have zb := pd_lt vv p
            generalize pd vv p = z at *
            have zb2 : (z : Int) < 256 := by omega
            generalize hab : ab p = q at *
            have HAb : Hid (ab p = q) := hab
            have HCl : Hid (cl ((vv : Int) + (q + 32) / 64) = (z : Int)) := hpc.symm
            clear hma hpc hab
            go_wp2_with (first | (go_at_call 19; refine (abs_any (by omega)).mono ?_; rintro e w' ⟨rfl, rfl⟩; rw [HAb.out]) | (go_at_call 28; refine clip_any.mono ?_; rintro e w' ⟨rfl, rfl⟩; rw [HCl.out]) | (at_builtin; refine wpList_append_u8 _ (by rfl) _ _ (by rfl) w.heap.size k ((pdL C A al).take k) (.slice ad k cp) _ z rfl HO.out HBs.out (by omega) (by rfl) (by rfl) ?_; intro g cap w5 how hb5))
            go_roundw
            case rel => exact ⟨k + 1, by omega, by go_num, ⟨_, cap, rfl, by rw [← HT.out]; exact how, fun _ => ⟨g, rfl⟩, HB.out.trans hb5⟩, HK2⟩
            case measure => simp [intOf]; omega
    · obtain rfl : k = n := by omega
      have HRt : Hid (Rr w wr (.returned (.tuple #[.slice ad k cp, .int .i64 0])) C A al) := by
        have ht : (pdL C A al).take k = pdL C A al := List.take_of_length_le (by rw [pdL_len, HCn.out]; exact Nat.le_refl _)
        rw [ht] at hoi
        exact Or.inl ⟨wiB_yes fun j hj => HK.out j (by rw [HN.out] at hj; exact hj), ad, cp, by rw [HCn.out], own_sl (by rw [pdL_len, HCn.out]) h0 hoi (hsome h0), hbel⟩
      clear hoi hsome hbel
      go_wp2_with fail
      go_returns
      exact HRt.out

set_option maxRecDepth 100000 in
set_option maxHeartbeats 1000000 in
theorem rpredict_nil {w : World} {a a2 : Option Addr} {c c2 : Nat} {al : Int} (a0 : -16 ≤ al) (a1 : al ≤ 16) :
    Calls Try.prog 16 #[.slice a 0 c, .slice a2 0 c2, .int .i64 al] w fun e w' => Rr w w' e [] [] al := by
  have HR : Hid (Rr w w (.returned (.tuple #[.slice none 0 0, .int .i64 0])) [] [] al) := Or.inl ⟨rfl, none, 0, rfl, Or.inl rfl, Below.refl _ _⟩
  go_enter Try.func16, Try.ntmps16
  go_wp2_with fail
  go_loopw [8, 9] (fun l i wr => l = .slice none 0 0 ∧ i = .int .i64 0 ∧ wr = w) (fun _ _ _ => 0)
  case atStart => exact ⟨rfl, rfl, rfl⟩
  case round =>
    obtain ⟨rfl, rfl, rfl⟩ := hrel
    go_wp2_with fail
    go_returns
    exact HR.out

set_option maxRecDepth 100000 in
set_option maxHeartbeats 1000000 in
theorem rpredict_far {w : World} {a a2 : Option Addr} {c c2 : Nat} {C : List Nat} {A : List Int} {al : Int} (hC : C.length ≤ 140737488355328) (h : ¬ (C.length ≤ 1024 ∧ A.length = C.length ∧ -16 ≤ al ∧ al ≤ 16)) :
    Calls Try.prog 16 #[.slice a C.length c, .slice a2 A.length c2, .int .i64 al] w fun e w' => e = .returned (.tuple #[.slice none 0 0, .int .i64 2]) ∧ w = w' := by
  by_cases h0 : 1024 < C.length
  · have i0 : (1024 : Int) < (C.length : Int) := by omega
    clear h
    go_enter Try.func16, Try.ntmps16
    go_wp2_with fail
    go_returns
    exact ⟨rfl, rfl⟩
  have i0 : ¬ (1024 : Int) < (C.length : Int) := by omega
  by_cases h1 : A.length = C.length
  · have ne : ((A.length : Int) != (C.length : Int)) = false := by rw [h1]; simp
    by_cases h2 : al < -16
    · clear h h1
      go_enter Try.func16, Try.ntmps16
      go_wp2_with fail
      go_returns
      exact ⟨rfl, rfl⟩
    · have h3 : 16 < al := by omega
      clear h h1
      go_enter Try.func16, Try.ntmps16
      go_wp2_with fail
      go_returns
      exact ⟨rfl, rfl⟩
  · have ne : ((A.length : Int) != (C.length : Int)) = true := by rw [bne_iff_ne]; omega
    clear h h1
    go_enter Try.func16, Try.ntmps16
    go_wp2_with fail
    go_returns
    exact ⟨rfl, rfl⟩

theorem rpredict_ok {w : World} {a a2 : Option Addr} {c c2 n : Nat} {C : List Nat} {A : List Int} {al : Int} (hs : Sl w .u8 a C) (hs2 : Si w a2 A) (hb : Byt C) (h : Qk C A al) (hn : A.length = n) :
    Calls Try.prog 16 #[.slice a C.length c, .slice a2 n c2, .int .i64 al] w fun e w' => ∃ a' c', e = .returned (.tuple #[.slice a' C.length c', .int .i64 0]) ∧ Sl w' .u8 a' (pdL C A al) ∧ Below w.heap.size w w' := by
  subst hn
  have key : Calls Try.prog 16 #[.slice a C.length c, .slice a2 A.length c2, .int .i64 al] w fun e w' => Rr w w' e C A al := by
    by_cases h0 : C.length = 0
    · obtain rfl : C = [] := List.eq_nil_of_length_eq_zero h0
      obtain rfl : A = [] := List.eq_nil_of_length_eq_zero (by rw [h.len]; rfl)
      exact rpredict_nil h.a0 h.a1
    · obtain ⟨b, o, rfl, hbl, hc⟩ := hs.form (by omega)
      obtain ⟨b2, o2, rfl, hbl2, hc2⟩ := hs2.form (by rw [h.len]; omega)
      exact rpredict_some hbl hbl2 hc hc2 hb (by omega) h.short h.len h.a0 h.a1
  refine key.mono ?_
  rintro e w' (⟨_, k⟩ | ⟨k, _⟩)
  · exact k
  · rw [h.nums] at k; cases k
theorem rpredict_no {w : World} {a a2 : Option Addr} {c c2 : Nat} {C : List Nat} {A : List Int} {al : Int} (hs : Sl w .u8 a C) (hs2 : Si w a2 A) (hb : Byt C) (hC : C.length ≤ 140737488355328) (h : ¬ Qk C A al) :
    Calls Try.prog 16 #[.slice a C.length c, .slice a2 A.length c2, .int .i64 al] w fun e w' => e = .returned (.tuple #[.slice none 0 0, .int .i64 2]) ∧ Below w.heap.size w w' := by
  by_cases q : C.length ≤ 1024 ∧ A.length = C.length ∧ -16 ≤ al ∧ al ≤ 16
  · obtain ⟨q0, q1, q2, q3⟩ := q
    have h0 : C.length ≠ 0 := fun h0 => h ⟨q0, q1, by rw [List.eq_nil_of_length_eq_zero (show A.length = 0 by omega)]; rfl, q2, q3⟩
    obtain ⟨b, o, rfl, hbl, hc⟩ := hs.form (by omega)
    obtain ⟨b2, o2, rfl, hbl2, hc2⟩ := hs2.form (by omega)
    refine (rpredict_some hbl hbl2 hc hc2 hb (by omega) q0 q1 q2 q3).mono ?_
    rintro e w' (⟨k, _⟩ | ⟨_, k⟩)
    · exact absurd ⟨q0, q1, k, q2, q3⟩ h
    · exact k
  · refine (rpredict_far hC q).mono ?_
    rintro e w' ⟨rfl, rfl⟩
    exact ⟨rfl, Below.refl _ _⟩

end Go.Proofs.Ytlcegnnhlfafgaa
