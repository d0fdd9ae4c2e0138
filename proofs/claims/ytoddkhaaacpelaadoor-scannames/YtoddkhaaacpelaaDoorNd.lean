/- DERIVED. The walk of CopyInts, and of ScanContexts. -/
import Derived.Test.YtoddkhaaacpelaaDoorNc
import Derived.Deep.DeepCutAuto
namespace Go.Proofs.YtoddkhaaacpelaaDoor
open Go.RowKit

/-- a copy, alone in new memory -/
def Cp (w w' : World) (e : Ending) (C : List Int) : Prop := ∃ a c, e = .returned (.slice a C.length c) ∧ Oi w' w.heap.size a C.length c C ∧ Below w.heap.size w w'

set_option maxHeartbeats 400000 in
theorem copy_some {w : World} {b o c : Nat} {C : List Int} (hc : ∀ j, j < C.length → w.cell? ⟨b, o + j, none⟩ = some (.int .i64 (C.getD j 0))) (hl : C.length ≤ 17592186043904) (h0 : 0 < C.length) :
    Calls Tryd.prog 6 #[.slice (some ⟨b, o, none⟩) C.length c] w fun e w' => Cp w w' e C := by
  obtain ⟨i, hi, hz0, hz1, hz2⟩ := info_parts Tryd.info3
  have hown : w.ownsRow w.heap.size 3 1 (.slice none 0 0) 0 [] := World.ownsRow_nil _ _ _ _
  have hnews : ∀ j u, (is C)[j]? = some u → w.cell? ((⟨b, o, none⟩ : Addr).add j) = some u := by
    intro j u hu
    have hj : j < C.length := by have := List.getElem?_eq_some_iff.1 hu; obtain ⟨h1, _⟩ := this; rw [is_length] at h1; exact h1
    rw [is_get C j hj] at hu
    rw [← hu, addr_add]
    exact hc j hj
  clear hc
  go_enter Tryd.func6, Tryd.ntmps6
  go_wp2_with (at_builtin; refine wpList_append_lies _ (by rfl) _ _ _ (by rfl) w.heap.size 3 i (.int .i64 0) 1 8 Tryd.underlying22 hi hz0 hz1 hz2 rfl (by omega) _ 0 [] (by rfl) hown ⟨b, o, none⟩ C.length c (is C) (by rfl) (by rw [is_length, Nat.mul_one]) hnews (is_one C) h0 (by unfold maxLen; omega) (by omega) (by simp) w.heap.size (by simp) ?_; intro g cap w1 hown1 hgrow hat hlt)
  go_ret
  rw [List.nil_append, Nat.zero_add] at hown1
  exact ⟨_, _, rfl, ⟨hown1⟩, (Below.refl _ _).grown hgrow (by simp) (fun k hk => by simp [Value.ownBlock] at hk)⟩

set_option maxHeartbeats 400000 in
theorem copy_none {a : Option Addr} {c : Nat} {w : World} : Calls Tryd.prog 6 #[.slice a 0 c] w fun e w' => e = .returned (.slice none 0 0) ∧ w' = w := by
  cases a with
  | none =>
    go_enter Tryd.func6, Tryd.ntmps6
    go_wp2
    go_ret
    exact ⟨rfl, rfl⟩
  | some ad =>
    go_enter Tryd.func6, Tryd.ntmps6
    go_wp2
    go_ret
    exact ⟨rfl, rfl⟩
theorem copy_any {w : World} {a : Option Addr} {c : Nat} {C : List Int} (h : Si w a C) (hl : C.length ≤ 17592186043904) :
    Calls Tryd.prog 6 #[.slice a C.length c] w fun e w' => Cp w w' e C := by
  by_cases h0 : C.length = 0
  · obtain rfl : C = [] := List.eq_nil_of_length_eq_zero h0
    refine copy_none.mono ?_
    rintro e w' ⟨rfl, rfl⟩
    exact ⟨none, 0, rfl, Oi.nil _ _, Below.refl _ _⟩
  · obtain ⟨b, o, rfl, _, hc⟩ := h.form (by omega)
    exact copy_some hc hl (by omega)

/-- two slices that hold the same, and the table -/
structure Tw (w : World) (a b : Option Addr) (L : List Int) (wr : World) : Prop where
  sa : Si wr a L
  sb : Si wr b L
  nt : Nt wr
  bel : Below w.heap.size w wr
theorem Tw.to {w : World} {a b : Option Addr} {L : List Int} {wr wr' : World} (h : Tw w a b L wr) (hb : Below wr.heap.size wr wr') : Tw w a b L wr' := ⟨h.sa.to hb, h.sb.to hb, h.nt.to hb, below_to h.bel hb⟩
theorem Tw.drewN {w : World} {a b : Option Addr} {L : List Int} {wr : World} (h : Tw w a b L wr) (k : Nat) : Tw w a b L (wr.drewN k) := h.to (below_drewN (Below.refl _ _) k)

set_option maxRecDepth 100000 in
set_option maxHeartbeats 1000000 in
theorem contexts_walk {w : World} {a : Option Addr} {cp : Nat} {L : List Int} {z p : Int} (hN : Nt w) (hs : Si w a L) (hl : L.length ≤ 17592186043904) : Calls Tryd.prog 3 #[.slice a L.length cp, .int .i64 z, .int .i64 p] w fun e w' => e = .returned (.bool true) ∧ Below w.heap.size w w' := by
  have HC : Hid (Si w a L) := hs
  have HN : Hid (Nt w) := hN
  have HL : Hid (L.length = L.length ∧ L.length ≤ 140737488355328) := ⟨rfl, by omega⟩
  have ee : eqI L L = true := eqI_self _
  clear hs hN
  go_enter Tryd.func3, Tryd.ntmps3
  go_wp2_with fail
  refine (copy_any HC.out (by omega)).mono ?_
  rintro e w1 ⟨b, cb, rfl, hob, hb1⟩
  have HT : Hid (Tw w a b L w1) := ⟨HC.out.to hb1, hob.si, HN.out.to hb1, hb1⟩
  clear hob hb1
  generalize hlen : L.length = len at *
  have HLn : Hid (L.length = len ∧ len ≤ 140737488355328) := ⟨hlen, by omega⟩
  clear hlen HL
  go_wp2_with fail
  go_loopw [8] (fun i wr => ∃ k : Int, -1 ≤ k ∧ k ≤ 16 ∧ i = .int .i64 k ∧ Tw w a b L wr) (fun i _ => (16 - intOf i).toNat)
  case atStart => exact ⟨-1, by omega, by omega, rfl, HT.out⟩
  case round =>
    clear HT
    obtain ⟨k, k0, k1, rfl, ht⟩ := hrel
    have HT : Hid (Tw w a b L wr) := ht
    clear ht
    by_cases hlt : k < 16
    · by_cases hk0 : 0 ≤ k
      · obtain ⟨x, e, hx1, hx2⟩ := base_both (L := L) (q := len) (z := z) (p := k) HLn.out.1 HLn.out.2
        obtain ⟨y, f, hy1, hy2⟩ := more_both (L := L) (q := len) (z := z) (p := k) HLn.out.1 HLn.out.2
        have HX1 : Hid _ := hx1
        have HX2 : Hid _ := hx2
        have HY1 : Hid _ := hy1
        have HY2 : Hid _ := hy2
        clear hx1 hx2 hy1 hy2
        have t1 : (x != x) = false := by simp
        have t2 : (e != e) = false := by simp
        have t3 : (y != y) = false := by simp
        have t4 : (f != f) = false := by simp
        go_wp2_with fail
        refine (HX1.out _ _ _ HT.out.nt HT.out.sb).mono ?_
        rintro e1 w2 ⟨rfl, k1', rfl⟩
        have HT2 : Hid (Tw w a b L (wr.drewN k1')) := HT.out.drewN _
        generalize wr.drewN k1' = v2 at *
        go_wp2_with fail
        refine (HX2.out _ _ _ HT2.out.sa).mono ?_
        rintro e1 w3 ⟨rfl, k2', rfl⟩
        have HT3 : Hid (Tw w a b L (v2.drewN k2')) := HT2.out.drewN _
        generalize v2.drewN k2' = v3 at *
        go_wp2_with fail
        refine (HY1.out _ _ _ HT3.out.nt HT3.out.sb).mono ?_
        rintro e1 w4 ⟨rfl, k3', rfl⟩
        have HT4 : Hid (Tw w a b L (v3.drewN k3')) := HT3.out.drewN _
        generalize v3.drewN k3' = v4 at *
        go_wp2_with fail
        refine (HY2.out _ _ _ HT4.out.sa).mono ?_
        rintro e1 w5 ⟨rfl, k4', rfl⟩
        have HT5 : Hid (Tw w a b L (v4.drewN k4')) := HT4.out.drewN _
        generalize v4.drewN k4' = v5 at *
        go_wp2_with fail
        go_roundw
        case rel => exact ⟨k + 1, by omega, by omega, by go_num, HT5.out⟩
        case measure => simp [intOf]; omega
      · obtain ⟨x, e, hx1, hx2⟩ := base_both (L := L) (q := len) (z := z) (p := p) HLn.out.1 HLn.out.2
        obtain ⟨y, f, hy1, hy2⟩ := more_both (L := L) (q := len) (z := z) (p := p) HLn.out.1 HLn.out.2
        have HX1 : Hid _ := hx1
        have HX2 : Hid _ := hx2
        have HY1 : Hid _ := hy1
        have HY2 : Hid _ := hy2
        clear hx1 hx2 hy1 hy2
        have t1 : (x != x) = false := by simp
        have t2 : (e != e) = false := by simp
        have t3 : (y != y) = false := by simp
        have t4 : (f != f) = false := by simp
        go_wp2_with fail
        refine (HX1.out _ _ _ HT.out.nt HT.out.sb).mono ?_
        rintro e1 w2 ⟨rfl, k1', rfl⟩
        have HT2 : Hid (Tw w a b L (wr.drewN k1')) := HT.out.drewN _
        generalize wr.drewN k1' = v2 at *
        go_wp2_with fail
        refine (HX2.out _ _ _ HT2.out.sa).mono ?_
        rintro e1 w3 ⟨rfl, k2', rfl⟩
        have HT3 : Hid (Tw w a b L (v2.drewN k2')) := HT2.out.drewN _
        generalize v2.drewN k2' = v3 at *
        go_wp2_with fail
        refine (HY1.out _ _ _ HT3.out.nt HT3.out.sb).mono ?_
        rintro e1 w4 ⟨rfl, k3', rfl⟩
        have HT4 : Hid (Tw w a b L (v3.drewN k3')) := HT3.out.drewN _
        generalize v3.drewN k3' = v4 at *
        go_wp2_with fail
        refine (HY2.out _ _ _ HT4.out.sa).mono ?_
        rintro e1 w5 ⟨rfl, k4', rfl⟩
        have HT5 : Hid (Tw w a b L (v4.drewN k4')) := HT4.out.drewN _
        generalize v4.drewN k4' = v5 at *
        go_wp2_with fail
        go_roundw
        case rel => exact ⟨k + 1, by omega, by omega, by go_num, HT5.out⟩
        case measure => simp [intOf]; omega
    · go_wp2_with (first | (go_at_call 11; refine (eqInts_at HT.out.sb HT.out.sa HLn.out.1 HLn.out.1 HLn.out.2 HLn.out.2).mono ?_; rintro e w7 ⟨rfl, hb7⟩; have H7 : Hid (Below w.heap.size w w7) := below_to HT.out.bel hb7; clear hb7) | (go_at_call 12; refine awake_any.mono ?_; rintro e w8 ⟨rfl, H8⟩))
      go_ret
      exact ⟨rfl, below_to H7.out H8.out⟩

end Go.Proofs.YtoddkhaaacpelaaDoor
