/- DERIVED. The walk of rac.Read. -/
import Derived.Test.YtppanogpeengnaaDoorL2DcB
namespace Go.Proofs.YtppanogpeengnaaDoor.L2
open Go.RowKit

theorem Dt.alloc {w : World} {v : Value} {b : Nat} {zs : List Nat} (h : Dt w v b zs) (o : Obj) : Dt (w.alloc o) v b zs := by
  rcases h with h | ⟨off, c, h1, h2, h3, h4⟩
  · exact Or.inl h
  · exact Or.inr ⟨off, c, by simp; omega, h2, h3, fun i hi => by rw [World.cell?_alloc_lt _ _ _ h1]; exact h4 i hi⟩

/-- a decoder in block x that was made between two worlds; where its bytes lie -/
def DcMade (w w' : World) (zs : List Nat) (x : Nat) : Prop := ∃ b, Dc w' x b zs 4 (dFirst zs) 4294967295 ∧ w.heap.size ≤ x ∧ w.heap.size ≤ b ∧ (zs ≠ [] → b < w'.heap.size) ∧ Below w.heap.size w w'
/-- a decoder in block x that was made between two worlds -/
def DcNew (w w' : World) (zs : List Nat) (x : Nat) : Prop := ∃ b, Dc w' x b zs 4 (dFirst zs) 4294967295 ∧ w.heap.size ≤ x ∧ w.heap.size ≤ b ∧ Below w.heap.size w w'

set_option maxRecDepth 100000 in
set_option maxHeartbeats 1000000 in
theorem read_core {w : World} {v : Value} {zs : List Nat} (h : SrcOf w v zs) (hz : ∀ i, zs.getD i 0 < 256) (hl : zs.length ≤ 140737488355328) :
    Calls Tryd.prog 50 #[v] w fun e w' => ∃ x, e = .returned (.pointer (some ⟨x, 0, none⟩)) ∧ DcMade w w' zs x := by
  go_enter Tryd.func50, Tryd.ntmps50
  go_wp2_with fail
  refine (clone_any h hl).mono ?_
  rintro e w1 ⟨a1, c1, rfl, hown, hb⟩
  obtain ⟨b, hb1, hb2, hb3, hdt⟩ := Dt.ofOwn hown
  have hsz := hb.size
  have HB3 : Hid (zs ≠ [] → b < w1.heap.size + 1) := fun h => by have := hb3 h; omega
  clear hb3
  have HB : Hid _ := hb
  have HDT : Hid (Dt w1 (.slice a1 zs.length c1) b zs) := hdt
  have HZ : Hid (∀ i, zs.getD i 0 < 256) := hz
  clear hb hdt hown h hz
  go_wp2_with fail
  have hd0 : Dc (w1.alloc (.cells #[.slice a1 zs.length c1, .int .u32 0, .int .u32 4294967295] 124)) w1.heap.size b zs 0 (pre zs 0) 4294967295 := by
    refine ⟨⟨.slice a1 zs.length c1, by simp, ?_⟩, by simp [pre], by simp, by simp, by simp, by simp, by simp, by omega, HZ.out, hl⟩
    exact HDT.out.alloc _
  have HBA : Hid (Below w.heap.size w (w1.alloc (.cells #[.slice a1 zs.length c1, .int .u32 0, .int .u32 4294967295] 124))) := HB.out.alloc hsz _
  have hWs : (w1.alloc (.cells #[.slice a1 zs.length c1, .int .u32 0, .int .u32 4294967295] 124)).heap.size = w1.heap.size + 1 := by simp
  have HWS : Hid (∀ y, (zs ≠ [] → y < w1.heap.size + 1) → zs ≠ [] → y < (w1.alloc (.cells #[.slice a1 zs.length c1, .int .u32 0, .int .u32 4294967295] 124)).heap.size) := fun y h1 h2 => by rw [hWs]; exact h1 h2
  clear HB HDT hWs
  generalize w1.alloc (.cells #[.slice a1 zs.length c1, .int .u32 0, .int .u32 4294967295] 124) = W at *
  generalize w1.heap.size = x at *
  go_loopw [8] (fun i wr => ∃ k : Nat, i = .int .i64 k ∧ k ≤ 4 ∧ Dc wr x b zs k (pre zs k) 4294967295 ∧ Kp x W wr) (fun i _ => 4 - (intOf i).toNat)
  case atStart => exact ⟨0, rfl, by omega, hd0, Kp.refl _ _⟩
  case round =>
    clear hd0
    obtain ⟨k, rfl, hk, hd, hkp⟩ := hrel
    by_cases hlt : k < 4
    · have hpl : pre zs k < 16777216 := by
        have h1 := pre_lt HZ.out k
        have h2 : 256 ^ k ≤ 256 ^ 3 := Nat.pow_le_pow_right (by omega) (by omega)
        omega
      have HPL : Hid _ := hpl
      clear hpl
      go_wp2_with fail
      refine (fetch_dc hd HPL.out).mono ?_; rintro e w2 ⟨rfl, hd2, hk2⟩
      go_wp2_with fail
      go_roundw
      case rel => exact ⟨k + 1, by go_num, by omega, hd2, hkp.trans hk2⟩
      case measure => simp [intOf]; omega
    · obtain rfl : k = 4 := by omega
      have hc := hd.code
      have ht := hd.thaw1
      have h1 := hd.setCode (dFirst zs)
      have hbel : ∀ u : Value, Below w.heap.size w (wr.setCell ⟨x, 1, none⟩ u) := fun u => HBA.out.trans (by
        have hk3 := hkp.trans (Kp.set x 1 wr u)
        exact ⟨hk3.os, hk3.tape, hk3.output, Nat.le_of_eq hk3.size.symm, fun k hk => hk3.block k (by omega)⟩)
      have HS : Hid (DcMade w (wr.setCell ⟨x, 1, none⟩ (.int .u32 (dFirst zs : Nat))) zs x) := ⟨b, h1, hsz, hb1, fun h => by have h5 := HWS.out b HB3.out h; have h6 := hkp.size; simp [World.setCell]; omega, hbel _⟩
      have HF : Hid (dFirst zs = min (pre zs 4) 4294967294) := rfl
      clear h1 hbel hd
      generalize dFirst zs = F at *
      generalize pre zs 4 = p4 at *
      go_wp2_with fail
      all_goals
        go_ret
        refine ⟨x, rfl, ?_⟩
        have e := HF.out
        have hs := HS.out
        first
          | (rw [show ((F : Nat) : Int) = 4294967294 from by omega] at hs; exact hs)
          | (rw [show ((F : Nat) : Int) = (p4 : Int) from by omega] at hs; exact hs)

theorem read_any {w : World} {v : Value} {zs : List Nat} (h : SrcOf w v zs) (hz : ∀ i, zs.getD i 0 < 256) (hl : zs.length ≤ 140737488355328) :
    Calls Tryd.prog 50 #[v] w fun e w' => ∃ x, e = .returned (.pointer (some ⟨x, 0, none⟩)) ∧ DcNew w w' zs x := by
  refine (read_core h hz hl).mono ?_
  rintro e w' ⟨x, rfl, b, h1, h2, h3, _, h5⟩
  exact ⟨x, rfl, b, h1, h2, h3, h5⟩

end Go.Proofs.YtppanogpeengnaaDoor.L2
