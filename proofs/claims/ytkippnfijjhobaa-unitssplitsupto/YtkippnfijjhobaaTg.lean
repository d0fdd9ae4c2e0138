/- DERIVED. The document's Split. -/
import Derived.Test.YtkippnfijjhobaaTr
namespace Go.Proofs.Ytkippnfijjhobaa
open Go.RowKit

def RdC : Prop := ∀ (w : World) (N : Nat) (v : Value) (b : List Nat) (q : Nat), By w N v b → N ≤ w.heap.size → b.length ≤ 1099511627776 → q < b.length → Calls Try.prog 26 #[v, .int .i64 (q : Int)] w fun e w' => RdQ w b q e w'

set_option maxHeartbeats 4000000 in
set_option maxRecDepth 100000 in
theorem rsplit_core (HR : RdC) {w : World} {N : Nat} {v : Value} {b : List Nat} (h : By w N v b) (hN : N ≤ w.heap.size) (hL : b.length ≤ 1099511627776) :
    Calls Try.prog 11 #[v] w fun e w' => SplQ w.heap.size w (splitP b) e w' := by
  obtain ⟨a, c, rfl, hc, hnc, hsb⟩ := h.ex
  obtain ⟨B, hB⟩ : ∃ B, B = w.heap.size := ⟨_, rfl⟩
  rw [← hB] at hN ⊢
  have HH : Hid (By w N (.slice a b.length c) b) := h
  have HBz : Hid (B = w.heap.size) := hB
  clear h hsb hB
  go_enter Try.func11, Try.ntmps11
  go_wp2_with fail
  go_loopw [5, 6] (fun lv av wr => SpI B w b lv av wr) (fun _ av _ => b.length - (intOf av).toNat)
  case atStart => exact ⟨0, b.length, [], rfl, by omega, by omega, by simp, Ol.nil _ _, by rw [HBz.out]; exact Below.refl _ _, by show _ = _; simp [splitP]⟩
  case round =>
    obtain ⟨q, f, P, rfl, hq, hf, hP, hol, hb, HS⟩ := hrel
    have HO : Hid (Ol wr B u5 P) := hol
    have HB : Hid (Below B w wr) := hb
    clear hol hb
    by_cases hlt : q < b.length
    · have HF : Hid (∀ (e : Nat), (pick (b.drop q)).1 = e → e ≠ 0 → ∀ w', Below wr.heap.size wr w' → SplQ B w (splitP b) (.returned (.tuple #[u5, .int .i64 (q : Int), .int .i64 (e : Int)])) w') := fun e h1 h2 w' h3 => split_end HS.out (cutS_stop hlt hf h1 h2) (HO.out.to h3) (HB.out.trans (h3.mono (by have := HB.out.size; have := HBz.out; omega))) rfl
      have HRD : Hid (Calls Try.prog 26 #[.slice a b.length c, .int .i64 (q : Int)] wr fun e w' => RdQ wr b q e w') := HR wr N _ b q (HH.out.below HB.out hN) (by have := HB.out.size; have := HBz.out; omega) hL hlt
      go_wp2_with fail
      refine HRD.out.mono ?_; rintro e w1 ⟨hb1, ⟨er, h1, h2, rfl⟩ | ⟨m, s, ad, cc, h1, h2, rfl⟩⟩
      · have her' : ((er : Int) != 0) = true := by rw [bne_iff_ne]; omega
        go_wp2_with fail
        go_ret3
        exact HF.out er h1 h2 _ (to_alloc hb1 _)
      · have hz0 : ∀ i, (b.drop q).getD i 0 < 256 := fun i => by rw [getD_drop]; exact HH.out.byt _
        have hne : b.drop q ≠ [] := fun h => by have := congrArg List.length h; rw [List.length_drop] at this; simp at this; omega
        have hpf := pick_front hne hz0 (by rw [h1])
        rw [h1, List.length_drop] at hpf
        obtain ⟨_, _, hm2, hms, _⟩ := hpf
        simp only at hm2 hms
        have hms' : q + m + s ≤ b.length := by omega
        obtain ⟨L, hL1, hL2⟩ := HO.out
        have hLn := hL2.len
        have hL1' : Ow (w1.alloc (.cells #[.int .i64 ((b.getD q 0 / 16 : Nat) : Int), .slice ad s cc] 44)) B u5 L := hL1.to (to_alloc hb1 _)
        have HL2 : Hid (Bo wr B L P) := hL2
        have HW : Hid _ := h2
        have HP1 : Hid _ := h1
        have HB1 : Hid (Below wr.heap.size wr w1) := hb1
        have hBs : B ≤ (w1.alloc (.cells #[.int .i64 ((b.getD q 0 / 16 : Nat) : Int), .slice ad s cc] 44)).heap.size := by have := HB.out.size; have := hb1.size; have := HBz.out; simp; omega
        have hLL : L.length < 4398046511104 := by omega
        clear hL1 hL2 h1 h2 hb1 hLn
        generalize hT : ((b.getD q 0 / 16 : Nat) : Int) = T at hL1' hBs ⊢
        have HT : Hid (T = ((b.getD q 0 / 16 : Nat) : Int)) := hT.symm
        clear hT
        go_wp2_with (at_builtin; refine wpList_append_pc _ (by rfl) _ _ (by rfl) B L u5 (T, ad, s, cc) _ (by rfl) hL1' hBs hLL (by rfl) (w1.heap.size + 1) (by simp) (by rfl) ?_; intro g cap w4 hO4 hgr4 hat4 hb4)
        go_roundw
        case rel =>
          have hbb : Below B w (w1.alloc (.cells #[.int .i64 T, .slice ad s cc] 44)) := HB.out.trans ((to_alloc HB1.out _).mono (by have := HB.out.size; have := HBz.out; omega))
          exact split_step HS.out hlt HP1.out hm2 hms' hf hP HT.out hL1' (HL2.out.to (to_alloc HB1.out _)) rfl ((own_mono HW.out (by have := HB.out.size; have := HBz.out; omega)).alloc _) HH.out.byt HH.out.len hO4 hgr4 (hbb.trans hb4) rfl
        case measure => simp [intOf]; omega
    · go_wp2_with fail
      go_ret3
      exact split_end HS.out (cutS_done (by omega)) HO.out HB.out rfl
end Go.Proofs.Ytkippnfijjhobaa
