/- DERIVED. Frames: the program and the document side by side; a frame in a variable. -/
import Derived.Test.YtlgfkkegehpllaaRs
import Derived.Test.YtlgfkkegehpllaaRq
namespace Go.Proofs.Ytlgfkkegehpllaa
open Go.RowKit

/-- a frame is answered, in new memory, or none -/
def Fb (u w' : World) (e : Ending) (W0 H0 W1 H1 W2 H2 : Int) (L0 L1 L2 : List Nat) (er : Int) : Prop := ∃ a0 a1 a2, e = .returned (.tuple #[.agg #[.int .i64 W0, .int .i64 H0, .slice a0 L0.length L0.length, .int .i64 W1, .int .i64 H1, .slice a1 L1.length L1.length, .int .i64 W2, .int .i64 H2, .slice a2 L2.length L2.length], .int .i64 er]) ∧ Rn u w' a0 L0 ∧ Rn u w' a1 L1 ∧ Rn u w' a2 L2 ∧ Ap a0 a1 ∧ Ap a0 a2 ∧ Ap a1 a2 ∧ Below u.heap.size u w'
theorem ap_none (a : Option Addr) : Ap none a := fun _ _ e => by cases e
theorem ap_some {g g' : Nat} (h : g ≠ g') : Ap (some ⟨g, 0, none⟩) (some ⟨g', 0, none⟩) := fun x y e1 e2 => by
  simp only [Option.some.injEq, Addr.mk.injEq] at e1 e2
  omega
theorem Fn.fb {u w' : World} {e : Ending} {w0 h0 w1 h1 w2 h2 : Nat} {D0 D1 D2 : List Nat} (h : Fn u w' e w0 h0 w1 h1 w2 h2 D0 D1 D2) : Fb u w' e w0 h0 w1 h1 w2 h2 D0 D1 D2 0 := by
  obtain ⟨g0, g1, g2, rfl, r0, r1, r2, k0, k1, k2, n01, n02, n12, hb⟩ := h
  exact ⟨_, _, _, rfl, Or.inr ⟨g0, rfl, k0, r0⟩, Or.inr ⟨g1, rfl, k1, r1⟩, Or.inr ⟨g2, rfl, k2, r2⟩, ap_some n01, ap_some n02, ap_some n12, hb⟩
theorem Fz.fb {u w' : World} {e : Ending} (h : Fz u w' e) : Fb u w' e 0 0 0 0 0 0 [] [] [] 2 := by
  obtain ⟨rfl, hb⟩ := h
  exact ⟨none, none, none, rfl, Or.inl ⟨rfl, rfl⟩, Or.inl ⟨rfl, rfl⟩, Or.inl ⟨rfl, rfl⟩, ap_none _, ap_none _, ap_none _, hb⟩

theorem frame_two (w h : Int) (v : Nat) : ∃ (W0 H0 W1 H1 W2 H2 : Int) (L0 L1 L2 : List Nat) (er : Int), L0.length ≤ 262144 ∧ L1.length ≤ 262144 ∧ L2.length ≤ 262144 ∧ (∀ u : World, Calls Try.prog 34 #[.int .i64 w, .int .i64 h, .int .u8 (v : Int)] u fun e w' => Fb u w' e W0 H0 W1 H1 W2 H2 L0 L1 L2 er) ∧ (∀ u : World, Calls Try.prog 35 #[.int .i64 w, .int .i64 h, .int .u8 (v : Int)] u fun e w' => Fb u w' e W0 H0 W1 H1 W2 H2 L0 L1 L2 er) := by
  by_cases hv : Vs w ∧ Vs h
  · obtain ⟨hw, hh⟩ := hv
    have i0 := hw.lo
    have i1 := hw.hi
    have i2 := hh.lo
    have i3 := hh.hi
    obtain ⟨x, rfl⟩ : ∃ n : Nat, w = (n : Int) := ⟨w.toNat, by omega⟩
    obtain ⟨y, rfl⟩ : ∃ n : Nat, h = (n : Int) := ⟨h.toNat, by omega⟩
    refine ⟨x, y, (x / 2 : Nat), (y / 2 : Nat), (x / 2 : Nat), (y / 2 : Nat), List.replicate (x * y) v, List.replicate (x / 2 * (y / 2)) v, List.replicate (x / 2 * (y / 2)) v, 0, ?_, ?_, ?_, fun u => (frame_ok hw hh).mono (fun _ _ h => h.fb), fun u => (rframe_ok hw hh).mono (fun _ _ h => h.fb)⟩
    all_goals rw [List.length_replicate]; exact prod_le (by omega) (by omega)
  · exact ⟨0, 0, 0, 0, 0, 0, [], [], [], 2, by simp, by simp, by simp, fun u => (frame_no hv).mono (fun _ _ h => h.fb), fun u => (rframe_no hv).mono (fun _ _ h => h.fb)⟩

theorem FOk.any {X0 Y0 X1 Y1 X2 Y2 : Int} {C0 C1 C2 : List Nat} {a0 a1 a2 b0 b1 b2 : Option Addr} {c0 c1 c2 d0 d1 d2 : Nat} (h : FOk ⟨X0, Y0, a0, c0, C0⟩ ⟨X1, Y1, a1, c1, C1⟩ ⟨X2, Y2, a2, c2, C2⟩) : FOk ⟨X0, Y0, b0, d0, C0⟩ ⟨X1, Y1, b1, d1, C1⟩ ⟨X2, Y2, b2, d2, C2⟩ := ⟨h.w, h.h, h.p0, h.w1, h.h1, h.p1, h.w2, h.h2, h.p2⟩

theorem fr_any {X0 Y0 X1 Y1 X2 Y2 : Int} {C0 C1 C2 : List Nat} (h : FOk ⟨X0, Y0, none, 0, C0⟩ ⟨X1, Y1, none, 0, C1⟩ ⟨X2, Y2, none, 0, C2⟩) : ∃ x y x2 y2 : Nat, X0 = (x : Int) ∧ Y0 = (y : Int) ∧ X1 = (x2 : Int) ∧ Y1 = (y2 : Int) ∧ X2 = (x2 : Int) ∧ Y2 = (y2 : Int) ∧ 16 ≤ x ∧ x ≤ 256 ∧ 16 ≤ y ∧ y ≤ 256 ∧ x2 = x / 2 ∧ y2 = y / 2 ∧
    ∀ (u : World) (a0 a1 a2 : Option Addr) (c0 c1 c2 : Nat), Sl u .u8 a0 C0 → Sl u .u8 a1 C1 → Sl u .u8 a2 C2 → C0.length ≤ c0 → C1.length ≤ c1 → C2.length ≤ c2 → Fr u x y x2 y2 a0 a1 a2 c0 c1 c2 C0 C1 C2 := by
  obtain ⟨x, y, ex, ey, b1, b2, b3, b4, hl0⟩ := h.p0.nat
  obtain ⟨x1, y1, ex1, ey1, _, _, _, _, hl1⟩ := h.p1.nat
  obtain ⟨x2, y2, ex2, ey2, _, _, _, _, hl2⟩ := h.p2.nat
  have f1 := h.w1
  have f2 := h.h1
  have f3 := h.w2
  have f4 := h.h2
  have vw := h.w
  have vh := h.h
  have g1 := vw.lo
  have g2 := vw.hi
  have g3 := vh.lo
  have g4 := vh.hi
  simp only at ex ey ex1 ey1 ex2 ey2 f1 f2 f3 f4 vw vh g1 g2 g3 g4 hl0 hl1 hl2
  obtain rfl : x2 = x1 := by omega
  obtain rfl : y2 = y1 := by omega
  refine ⟨x, y, x2, y2, ex, ey, ex1, ey1, ex2, ey2, by omega, by omega, by omega, by omega, by omega, by omega, fun u a0 a1 a2 c0 c1 c2 s0 s1 s2 k0 k1 k2 => ?_⟩
  exact ⟨by rw [← ex]; exact vw, by rw [← ey]; exact vh, by omega, by omega, hl0, hl1, hl2, k0, k1, k2, s0, s1, s2⟩

theorem coded_two (X0 Y0 X1 Y1 X2 Y2 : Int) (C0 C1 C2 : List Nat) : ∃ (W0 H0 W1 H1 W2 H2 : Int) (L0 L1 L2 : List Nat) (er : Int), L0.length ≤ 262144 ∧ L1.length ≤ 262144 ∧ L2.length ≤ 262144 ∧ (∀ (u : World) (a0 a1 a2 : Option Addr) (c0 c1 c2 : Nat), Sl u .u8 a0 C0 → Sl u .u8 a1 C1 → Sl u .u8 a2 C2 → C0.length ≤ c0 → C1.length ≤ c1 → C2.length ≤ c2 → Calls Try.prog 36 #[.agg #[.int .i64 X0, .int .i64 Y0, .slice a0 C0.length c0, .int .i64 X1, .int .i64 Y1, .slice a1 C1.length c1, .int .i64 X2, .int .i64 Y2, .slice a2 C2.length c2]] u fun e w' => Fb u w' e W0 H0 W1 H1 W2 H2 L0 L1 L2 er) ∧ (∀ (u : World) (a0 a1 a2 : Option Addr) (c0 c1 c2 : Nat), Sl u .u8 a0 C0 → Sl u .u8 a1 C1 → Sl u .u8 a2 C2 → C0.length ≤ c0 → C1.length ≤ c1 → C2.length ≤ c2 → Calls Try.prog 37 #[.agg #[.int .i64 X0, .int .i64 Y0, .slice a0 C0.length c0, .int .i64 X1, .int .i64 Y1, .slice a1 C1.length c1, .int .i64 X2, .int .i64 Y2, .slice a2 C2.length c2]] u fun e w' => Fb u w' e W0 H0 W1 H1 W2 H2 L0 L1 L2 er) := by
  by_cases hf : FOk ⟨X0, Y0, none, 0, C0⟩ ⟨X1, Y1, none, 0, C1⟩ ⟨X2, Y2, none, 0, C2⟩
  · obtain ⟨x, y, x2, y2, rfl, rfl, rfl, rfl, rfl, rfl, b1, b2, b3, b4, e1, e2, hF⟩ := fr_any hf
    have hx := cs_le b2
    have hy := cs_le b4
    refine ⟨(cs x : Nat), (cs y : Nat), (cs x / 2 : Nat), (cs y / 2 : Nat), (cs x / 2 : Nat), (cs y / 2 : Nat), padL x y C0 (cs x) (cs y), padL x2 y2 C1 (cs x / 2) (cs y / 2), padL x2 y2 C2 (cs x / 2) (cs y / 2), 0, ?_, ?_, ?_, fun u a0 a1 a2 c0 c1 c2 s0 s1 s2 k0 k1 k2 => (coded_ok (hF u a0 a1 a2 c0 c1 c2 s0 s1 s2 k0 k1 k2) rfl rfl rfl rfl).mono (fun _ _ h => h.fb), fun u a0 a1 a2 c0 c1 c2 s0 s1 s2 k0 k1 k2 => (rcoded_ok (hF u a0 a1 a2 c0 c1 c2 s0 s1 s2 k0 k1 k2) rfl rfl rfl rfl).mono (fun _ _ h => h.fb)⟩
    all_goals rw [padL_len]; exact prod_le (by omega) (by omega)
  · exact ⟨0, 0, 0, 0, 0, 0, [], [], [], 2, by simp, by simp, by simp, fun u a0 a1 a2 c0 c1 c2 s0 s1 s2 k0 k1 k2 => (coded_no (fun k => hf k.any)).mono (fun _ _ h => h.fb), fun u a0 a1 a2 c0 c1 c2 s0 s1 s2 k0 k1 k2 => (rcoded_no (fun k => hf k.any)).mono (fun _ _ h => h.fb)⟩

theorem crop_two (X0 Y0 X1 Y1 X2 Y2 : Int) (C0 C1 C2 : List Nat) (w h : Int) : ∃ (W0 H0 W1 H1 W2 H2 : Int) (L0 L1 L2 : List Nat) (er : Int), L0.length ≤ 262144 ∧ L1.length ≤ 262144 ∧ L2.length ≤ 262144 ∧ (∀ (u : World) (a0 a1 a2 : Option Addr) (c0 c1 c2 : Nat), Sl u .u8 a0 C0 → Sl u .u8 a1 C1 → Sl u .u8 a2 C2 → C0.length ≤ c0 → C1.length ≤ c1 → C2.length ≤ c2 → Calls Try.prog 38 #[.agg #[.int .i64 X0, .int .i64 Y0, .slice a0 C0.length c0, .int .i64 X1, .int .i64 Y1, .slice a1 C1.length c1, .int .i64 X2, .int .i64 Y2, .slice a2 C2.length c2], .int .i64 w, .int .i64 h] u fun e w' => Fb u w' e W0 H0 W1 H1 W2 H2 L0 L1 L2 er) ∧ (∀ (u : World) (a0 a1 a2 : Option Addr) (c0 c1 c2 : Nat), Sl u .u8 a0 C0 → Sl u .u8 a1 C1 → Sl u .u8 a2 C2 → C0.length ≤ c0 → C1.length ≤ c1 → C2.length ≤ c2 → Calls Try.prog 39 #[.agg #[.int .i64 X0, .int .i64 Y0, .slice a0 C0.length c0, .int .i64 X1, .int .i64 Y1, .slice a1 C1.length c1, .int .i64 X2, .int .i64 Y2, .slice a2 C2.length c2], .int .i64 w, .int .i64 h] u fun e w' => Fb u w' e W0 H0 W1 H1 W2 H2 L0 L1 L2 er) := by
  by_cases hf : FOk ⟨X0, Y0, none, 0, C0⟩ ⟨X1, Y1, none, 0, C1⟩ ⟨X2, Y2, none, 0, C2⟩
  · by_cases hv : Vs w ∧ Vs h ∧ w ≤ X0 ∧ h ≤ Y0
    · obtain ⟨vw, vh, lw, lh⟩ := hv
      obtain ⟨x, y, x2, y2, rfl, rfl, rfl, rfl, rfl, rfl, b1, b2, b3, b4, e1, e2, hF⟩ := fr_any hf
      have i0 := vw.lo
      have i2 := vh.lo
      obtain ⟨p, rfl⟩ : ∃ n : Nat, w = (n : Int) := ⟨w.toNat, by omega⟩
      obtain ⟨q, rfl⟩ : ∃ n : Nat, h = (n : Int) := ⟨h.toNat, by omega⟩
      refine ⟨p, q, (p / 2 : Nat), (q / 2 : Nat), (p / 2 : Nat), (q / 2 : Nat), padL x y C0 p q, padL x2 y2 C1 (p / 2) (q / 2), padL x2 y2 C2 (p / 2) (q / 2), 0, ?_, ?_, ?_, fun u a0 a1 a2 c0 c1 c2 s0 s1 s2 k0 k1 k2 => ?_, fun u a0 a1 a2 c0 c1 c2 s0 s1 s2 k0 k1 k2 => (rcrop_ok (hF u a0 a1 a2 c0 c1 c2 s0 s1 s2 k0 k1 k2) vw vh (by omega) (by omega) rfl rfl).mono (fun _ _ h => h.fb)⟩
      · rw [padL_len]; exact prod_le (by omega) (by omega)
      · rw [padL_len]; exact prod_le (by omega) (by omega)
      · rw [padL_len]; exact prod_le (by omega) (by omega)
      · rw [← cut_pad (x := x) (y := y) (by omega) (by omega), ← cut_pad (x := x2) (y := y2) (C := C1) (by omega) (by omega), ← cut_pad (x := x2) (y := y2) (C := C2) (by omega) (by omega)]
        exact (crop_ok (hF u a0 a1 a2 c0 c1 c2 s0 s1 s2 k0 k1 k2) vw vh (by omega) (by omega) rfl rfl).mono (fun _ _ h => h.fb)
    · exact ⟨0, 0, 0, 0, 0, 0, [], [], [], 2, by simp, by simp, by simp, fun u a0 a1 a2 c0 c1 c2 s0 s1 s2 k0 k1 k2 => (crop_no hf.any hv).mono (fun _ _ h => h.fb), fun u a0 a1 a2 c0 c1 c2 s0 s1 s2 k0 k1 k2 => (rcrop_no hf.any hv).mono (fun _ _ h => h.fb)⟩
  · exact ⟨0, 0, 0, 0, 0, 0, [], [], [], 2, by simp, by simp, by simp, fun u a0 a1 a2 c0 c1 c2 s0 s1 s2 k0 k1 k2 => (crop_bad (fun k => hf k.any)).mono (fun _ _ h => h.fb), fun u a0 a1 a2 c0 c1 c2 s0 s1 s2 k0 k1 k2 => (rcrop_bad (fun k => hf k.any)).mono (fun _ _ h => h.fb)⟩

/-- a frame in a variable of its own, behind V -/
structure Of (V T : World) (y : Nat) (a0 a1 a2 : Option Addr) (W0 H0 W1 H1 W2 H2 : Int) (L0 L1 L2 : List Nat) : Prop where
  c0 : T.cell? ⟨y, 0, none⟩ = some (.int .i64 W0)
  c1 : T.cell? ⟨y, 1, none⟩ = some (.int .i64 H0)
  c2 : T.cell? ⟨y, 2, none⟩ = some (.slice a0 L0.length L0.length)
  c3 : T.cell? ⟨y, 3, none⟩ = some (.int .i64 W1)
  c4 : T.cell? ⟨y, 4, none⟩ = some (.int .i64 H1)
  c5 : T.cell? ⟨y, 5, none⟩ = some (.slice a1 L1.length L1.length)
  c6 : T.cell? ⟨y, 6, none⟩ = some (.int .i64 W2)
  c7 : T.cell? ⟨y, 7, none⟩ = some (.int .i64 H2)
  c8 : T.cell? ⟨y, 8, none⟩ = some (.slice a2 L2.length L2.length)
  r0 : Rn V T a0 L0
  r1 : Rn V T a1 L1
  r2 : Rn V T a2 L2
  ap01 : Ap a0 a1
  ap02 : Ap a0 a2
  ap12 : Ap a1 a2
  ly : y < T.heap.size
  ny : V.heap.size ≤ y
  bel : Below V.heap.size V T
theorem Of.to {V T : World} {y : Nat} {a0 a1 a2 : Option Addr} {W0 H0 W1 H1 W2 H2 : Int} {L0 L1 L2 : List Nat} {T' : World} (h : Of V T y a0 a1 a2 W0 H0 W1 H1 W2 H2 L0 L1 L2) (hb : Below T.heap.size T T') : Of V T' y a0 a1 a2 W0 H0 W1 H1 W2 H2 L0 L1 L2 :=
  ⟨by rw [newCell hb _ _ h.ly]; exact h.c0, by rw [newCell hb _ _ h.ly]; exact h.c1, by rw [newCell hb _ _ h.ly]; exact h.c2, by rw [newCell hb _ _ h.ly]; exact h.c3, by rw [newCell hb _ _ h.ly]; exact h.c4, by rw [newCell hb _ _ h.ly]; exact h.c5, by rw [newCell hb _ _ h.ly]; exact h.c6, by rw [newCell hb _ _ h.ly]; exact h.c7, by rw [newCell hb _ _ h.ly]; exact h.c8, h.r0.to hb, h.r1.to hb, h.r2.to hb, h.ap01, h.ap02, h.ap12, Nat.lt_of_lt_of_le h.ly hb.size, h.ny, below_to h.bel hb⟩
theorem of_a {V w : World} {a0 a1 a2 : Option Addr} {W0 H0 W1 H1 W2 H2 : Int} {L0 L1 L2 : List Nat} (r0 : Rn V w a0 L0) (r1 : Rn V w a1 L1) (r2 : Rn V w a2 L2) (n01 : Ap a0 a1) (n02 : Ap a0 a2) (n12 : Ap a1 a2) (hb : Below V.heap.size V w) : Of V (w.alloc (.cells #[.int .i64 W0, .int .i64 H0, .slice a0 L0.length L0.length, .int .i64 W1, .int .i64 H1, .slice a1 L1.length L1.length, .int .i64 W2, .int .i64 H2, .slice a2 L2.length L2.length] 51)) w.heap.size a0 a1 a2 W0 H0 W1 H1 W2 H2 L0 L1 L2 :=
  ⟨by simp, by simp, by simp, by simp, by simp, by simp, by simp, by simp, by simp, r0.to (from_alloc _ _), r1.to (from_alloc _ _), r2.to (from_alloc _ _), n01, n02, n12, by simp, hb.size, to_alloc hb _⟩
/-- where rows that lie ahead of V turn -/
theorem Of.kt {V T : World} {y : Nat} {a0 a1 a2 : Option Addr} {W0 H0 W1 H1 W2 H2 : Int} {L0 L1 L2 : List Nat} {T' : World} {b0 b1 b2 : Option Addr} (h : Of V T y a0 a1 a2 W0 H0 W1 H1 W2 H2 L0 L1 L2) (k : Kt b0 b1 b2 T T') (m0 : ∀ g, b0 = some ⟨g, 0, none⟩ → g < V.heap.size) (m1 : ∀ g, b1 = some ⟨g, 0, none⟩ → g < V.heap.size) (m2 : ∀ g, b2 = some ⟨g, 0, none⟩ → g < V.heap.size) :
    T'.cell? ⟨y, 0, none⟩ = some (.int .i64 W0) ∧ T'.cell? ⟨y, 1, none⟩ = some (.int .i64 H0) ∧ T'.cell? ⟨y, 2, none⟩ = some (.slice a0 L0.length L0.length) ∧ T'.cell? ⟨y, 3, none⟩ = some (.int .i64 W1) ∧ T'.cell? ⟨y, 4, none⟩ = some (.int .i64 H1) ∧ T'.cell? ⟨y, 5, none⟩ = some (.slice a1 L1.length L1.length) ∧ T'.cell? ⟨y, 6, none⟩ = some (.int .i64 W2) ∧ T'.cell? ⟨y, 7, none⟩ = some (.int .i64 H2) ∧ T'.cell? ⟨y, 8, none⟩ = some (.slice a2 L2.length L2.length) ∧ Rn V T' a0 L0 ∧ Rn V T' a1 L1 ∧ Rn V T' a2 L2 := by
  have hn := h.ny
  have hc : ∀ o, T'.cell? ⟨y, o, none⟩ = T.cell? ⟨y, o, none⟩ := fun o => k.cell _ _ h.ly (fun g e => by have := m0 g e; omega) (fun g e => by have := m1 g e; omega) (fun g e => by have := m2 g e; omega)
  refine ⟨by rw [hc]; exact h.c0, by rw [hc]; exact h.c1, by rw [hc]; exact h.c2, by rw [hc]; exact h.c3, by rw [hc]; exact h.c4, by rw [hc]; exact h.c5, by rw [hc]; exact h.c6, by rw [hc]; exact h.c7, by rw [hc]; exact h.c8, h.r0.kt k ?_ ?_ ?_, h.r1.kt k ?_ ?_ ?_, h.r2.kt k ?_ ?_ ?_⟩
  · exact fun g g' e e' => by have := m0 g e; have := (h.r0.lt g' e').1; omega
  · exact fun g g' e e' => by have := m1 g e; have := (h.r0.lt g' e').1; omega
  · exact fun g g' e e' => by have := m2 g e; have := (h.r0.lt g' e').1; omega
  · exact fun g g' e e' => by have := m0 g e; have := (h.r1.lt g' e').1; omega
  · exact fun g g' e e' => by have := m1 g e; have := (h.r1.lt g' e').1; omega
  · exact fun g g' e e' => by have := m2 g e; have := (h.r1.lt g' e').1; omega
  · exact fun g g' e e' => by have := m0 g e; have := (h.r2.lt g' e').1; omega
  · exact fun g g' e e' => by have := m1 g e; have := (h.r2.lt g' e').1; omega
  · exact fun g g' e e' => by have := m2 g e; have := (h.r2.lt g' e').1; omega

end Go.Proofs.Ytlgfkkegehpllaa
