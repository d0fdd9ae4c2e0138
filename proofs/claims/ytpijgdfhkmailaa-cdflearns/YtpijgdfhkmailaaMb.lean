/- DERIVED. The walks of the statements' own 'kept' and 'told'. -/
import Derived.Test.YtpijgdfhkmailaaMa
namespace Go.Proofs.Ytpijgdfhkmailaa
open Go.RowKit

set_option maxRecDepth 100000 in
set_option maxHeartbeats 1000000 in
theorem kept_true {w : World} {B g cp : Nat} {a : Option Addr} {c : Nat} {C : List Nat} {n : Int} (hc : Cp w B g cp C) (h : Sl w .u16 a C) (hl : C.length ≤ 70368744175616) :
    Calls Try.prog 21 #[.agg #[.slice (some ⟨g, 0, none⟩) C.length cp, .int .i64 n], .agg #[.slice a C.length c, .int .i64 n]] w fun e w' => e = .returned (.bool true) ∧ Below w.heap.size w w' := by
  have hcap := hc.own.cap
  have b0 : (C.length : Int) + 3 ≤ (cp : Int) := by omega
  have b1 : (0 : Int) ≤ (C.length : Int) + 3 := by omega
  have hbe : Below w.heap.size w ((w.alloc (.cells #[.slice (some ⟨g, 0, none⟩) C.length cp, .int .i64 n] 24)).alloc (.cells #[.slice a C.length c, .int .i64 n] 24)) := to_alloc (from_alloc _ _) _
  have HBE : Hid _ := hbe
  have HC : Hid (Cp w B g cp C) := hc
  have HS : Hid (Sl w .u16 a C) := h
  have z0 : ((w.alloc (.cells #[.slice (some ⟨g, 0, none⟩) C.length cp, .int .i64 n] 24)).alloc (.cells #[.slice a C.length c, .int .i64 n] 24)).cell? ⟨w.heap.size + 1, 0, none⟩ = some (.slice a C.length c) := by simp
  have HZ : Hid _ := z0
  have hws : w.heap.size + 1 < ((w.alloc (.cells #[.slice (some ⟨g, 0, none⟩) C.length cp, .int .i64 n] 24)).alloc (.cells #[.slice a C.length c, .int .i64 n] 24)).heap.size := by simp
  have HWS : Hid _ := hws
  clear hc h hbe z0 hws
  go_enter Try.func21, Try.ntmps21
  go_wp2_with fail
  generalize (w.alloc (.cells #[.slice (some ⟨g, 0, none⟩) C.length cp, .int .i64 n] 24)).alloc (.cells #[.slice a C.length c, .int .i64 n] 24) = W at *
  refine (same_true (HC.out.sl.to HBE.out) (HS.out.to HBE.out) (by omega)).mono ?_
  rintro e w1 ⟨rfl, hb⟩
  have q0 : w1.cell? ⟨w.heap.size + 1, 0, none⟩ = some (.slice a C.length c) := by rw [newCell hb _ _ HWS.out]; exact HZ.out
  have hcw := (HC.out.to HBE.out).to hb
  have r0 : w1.cell? ⟨g, C.length, none⟩ = some (.int .u16 7777) := hcw.room 0 (by omega)
  have r1 : w1.cell? ⟨g, C.length + 1, none⟩ = some (.int .u16 7777) := hcw.room 1 (by omega)
  have r2 : w1.cell? ⟨g, C.length + 2, none⟩ = some (.int .u16 7777) := hcw.room 2 (by omega)
  have HB1 : Hid (Below w.heap.size w w1) := below_to HBE.out hb
  clear hb hcw
  have i0 : (0 : Int) ≤ (C.length : Int) := by omega
  have i1 : (C.length : Int) < (C.length : Int) + 3 := by omega
  have i2 : (0 : Int) ≤ (C.length : Int) + 1 := by omega
  have i3 : (C.length : Int) + 1 < (C.length : Int) + 3 := by omega
  have i4 : (0 : Int) ≤ (C.length : Int) + 2 := by omega
  have i5 : (C.length : Int) + 2 < (C.length : Int) + 3 := by omega
  have j1 : ((C.length : Int) + 1).toNat = C.length + 1 := by omega
  have j2 : ((C.length : Int) + 2).toNat = C.length + 2 := by omega
  have j3 : ((C.length : Int) + 3).toNat = C.length + 3 := by omega
  go_wp2_with fail
  go_ret
  exact ⟨rfl, HB1.out⟩

/-- a row of its own, whose block alone may have turned -/
structure Tw (w : World) (B : Nat) (r : Option Nat) (a : Option Addr) (n c : Nat) (wr : World) : Prop where
  own : ∃ D : List Nat, D.length = n ∧ wr.ownsRow B 49 1 (.slice a n c) n (ns .u16 D)
  gr : w.grownBy wr r
  at_ : ∀ g, (Value.slice a n c).ownBlock = some g → r = some g ∨ w.heap.size ≤ g

set_option maxRecDepth 100000 in
set_option maxHeartbeats 1000000 in
theorem told_true {w : World} {B ca cb : Nat} {a b : Option Addr} {C : List Nat} {n x : Int} (ho : w.ownsRow B 49 1 (.slice a C.length ca) C.length (ns .u16 C)) (h : Sl w .u16 b C) (hl : C.length ≤ 1000000) (hB : B ≤ w.heap.size) :
    Calls Try.prog 14 #[.agg #[.slice a C.length ca, .int .i64 n], .int .i64 x, .agg #[.slice b C.length cb, .int .i64 n], .int .i64 x] w fun e w' => e = .returned (.bool true) ∧ w.grownBy w' (Value.slice a C.length ca).ownBlock := by
  have hbe : Below w.heap.size w ((w.alloc (.cells #[.slice a C.length ca, .int .i64 n] 24)).alloc (.cells #[.slice b C.length cb, .int .i64 n] 24)) := to_alloc (from_alloc _ _) _
  have HBE : Hid _ := hbe
  have HO : Hid (w.ownsRow B 49 1 (.slice a C.length ca) C.length (ns .u16 C)) := ho
  have HS : Hid (Sl w .u16 b C) := h
  have z0 : ((w.alloc (.cells #[.slice a C.length ca, .int .i64 n] 24)).alloc (.cells #[.slice b C.length cb, .int .i64 n] 24)).cell? ⟨w.heap.size, 0, none⟩ = some (.slice a C.length ca) := by
    rw [World.cell?_alloc_lt _ _ _ (by simp)]; simp
  have HZ : Hid _ := z0
  have hws : w.heap.size < ((w.alloc (.cells #[.slice a C.length ca, .int .i64 n] 24)).alloc (.cells #[.slice b C.length cb, .int .i64 n] 24)).heap.size := by simp; omega
  have HWS : Hid _ := hws
  have HF : Hid (0 < C.length → ∃ g, a = some ⟨g, 0, none⟩) := fun h0 => by
    obtain ⟨g, c', hv, _⟩ := ho.form h0
    simp only [Value.slice.injEq] at hv
    exact ⟨g, hv.1⟩
  have hxx : (x == x) = true := by simp
  clear ho h hbe z0 hws
  go_enter Try.func14, Try.ntmps14
  go_wp2_with fail
  generalize (w.alloc (.cells #[.slice a C.length ca, .int .i64 n] 24)).alloc (.cells #[.slice b C.length cb, .int .i64 n] 24) = W at *
  refine (same_true (Sl.ofOwn (own_below HO.out HBE.out)) (HS.out.to HBE.out) (by omega)).mono ?_
  rintro e w1 ⟨rfl, hb⟩
  have q0 : w1.cell? ⟨w.heap.size, 0, none⟩ = some (.slice a C.length ca) := by rw [newCell hb _ _ HWS.out]; exact HZ.out
  have HB1 : Hid (Below w.heap.size w w1) := below_to HBE.out hb
  clear hb
  go_wp2_with fail
  go_loopw [11] (fun iv wr => ∃ k : Nat, k ≤ C.length ∧ iv = .int .i64 k ∧ Tw w B (Value.slice a C.length ca).ownBlock a C.length ca wr) (fun iv _ => C.length - (intOf iv).toNat)
  case atStart => exact ⟨0, by omega, rfl, ⟨C, rfl, own_below HO.out HB1.out⟩, below_grown HB1.out _, fun g hg => Or.inl hg⟩
  case round =>
    obtain ⟨k, hk, rfl, htw⟩ := hrel
    clear HO HB1 q0 HZ
    by_cases hlt : k < C.length
    · obtain ⟨g, rfl⟩ := HF.out (by omega)
      obtain ⟨⟨D, hD, hown⟩, hgr, hat⟩ := htw
      have how : Ow wr B g C.length ca D := ⟨hown⟩
      have c1 := how.cell k hlt
      have c2 := how.thaw k
      have HOW : Hid (Ow wr B g C.length ca D) := how
      have HGR : Hid (w.grownBy wr (Value.slice (some ⟨g, 0, none⟩) C.length ca).ownBlock) := hgr
      have HAT : Hid _ := hat
      have b0 : 0 ≤ (k : Int) := by omega
      have b1 : (k : Int) < (C.length : Int) := by omega
      generalize D.getD k 0 = dk at *
      clear hown hgr hat how
      go_wp2_with fail
      go_roundw
      case rel =>
        refine ⟨k + 1, by omega, by go_num, ⟨D.set k 1, by simpa using hD, (HOW.out.set k 1).own⟩, ?_, HAT.out⟩
        refine grown_trans HGR.out (r' := some g) ⟨rfl, rfl, rfl, by simp [World.setCell], fun i hi hne => Below.heap_setCell _ _ _ _ (fun e => hne (by rw [e]))⟩ (fun g' hg' => Or.inl ?_)
        simp [Value.ownBlock] at hg' ⊢
        exact hg'
      case measure => simp [intOf]; omega
    · have b1 : ¬ (k : Int) < (C.length : Int) := by omega
      have HTW : Hid _ := htw
      clear htw
      go_wp2_with fail
      generalize wr = wo at *
      go_loopw [10, 12] (fun cv iv wr => ∃ (q : Nat) (a' : Option Addr) (c' : Nat), q ≤ 4 ∧ iv = .int .i64 q ∧ cv = .slice a' (C.length + q) c' ∧ Tw w B (Value.slice a C.length ca).ownBlock a' (C.length + q) c' wr) (fun _ iv _ => 4 - (intOf iv).toNat)
      case atStart => exact ⟨0, a, ca, by omega, rfl, rfl, HTW.out⟩
      case round =>
        obtain ⟨q, a', c', hq, rfl, rfl, htw⟩ := hrel
        clear HTW
        by_cases hqt : q < 4
        · have hqt' : (q : Int) < 4 := by omega
          obtain ⟨⟨D, hD, hown⟩, hgr, hat⟩ := htw
          have HOW : Hid (wr.ownsRow B 49 1 (.slice a' (C.length + q) c') (C.length + q) (ns .u16 D)) := hown
          have HGR : Hid (w.grownBy wr (Value.slice a C.length ca).ownBlock) := hgr
          have HAT : Hid (∀ g, (Value.slice a' (C.length + q) c').ownBlock = some g → (Value.slice a C.length ca).ownBlock = some g ∨ w.heap.size ≤ g) := hat
          have HD : Hid (D.length = C.length + q) := hD
          have hsz := hgr.size
          clear hown hgr hat hD
          go_wp2_with (at_builtin; refine wpList_append_num _ (by rfl) _ _ (by rfl) B (C.length + q) D (.slice a' (C.length + q) c') 2 2 rfl HD.out HOW.out (by omega) (by omega) (by rfl) (by rfl) ?_; intro g cap w' how' hgr' hat')
          go_roundw
          case rel =>
            refine ⟨q + 1, _, cap, by omega, by go_num, rfl, ⟨D ++ [2], by rw [List.length_append, HD.out]; rfl, how'.own⟩, grown_trans HGR.out hgr' (fun g' hg' => HAT.out g' hg'), fun g' hg' => ?_⟩
            simp [Value.ownBlock] at hg'
            subst hg'
            rcases hat' with e | e
            · exact HAT.out _ e
            · right; omega
          case measure => simp [intOf]; omega
        · have hqt' : ¬ (q : Int) < 4 := by omega
          have HGR : Hid _ := htw.gr
          clear htw
          go_wp2_with fail
          go_ret
          exact ⟨rfl, HGR.out⟩

end Go.Proofs.Ytpijgdfhkmailaa
