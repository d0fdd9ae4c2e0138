/- DERIVED. The walk of PlaneFrames. -/
import Derived.Test.YtlgfkkegehpllaaRt
import Derived.Test.YtlgfkkegehpllaaQg
import Derived.Test.YtlgfkkegehpllaaQf
import Derived.Test.YtlgfkkegehpllaaPt
import Derived.Deep.DeepCutAuto
import Derived.Deep.Light
namespace Go.Proofs.Ytlgfkkegehpllaa
open Go.RowKit

/-- what the walk reads all along -/
structure Kfw (u V t : World) (xb : Nat) (X0 Y0 X1 Y1 X2 Y2 : Int) (a0 a1 a2 b0 b1 b2 : Option Addr) (c0 c1 c2 d0 d1 d2 : Nat) (C0 C1 C2 : List Nat) : Prop where
  p : t.cell? ⟨u.heap.size, 0, none⟩ = some (.int .i64 X0) ∧ t.cell? ⟨u.heap.size, 1, none⟩ = some (.int .i64 Y0) ∧ t.cell? ⟨u.heap.size, 2, none⟩ = some (.slice a0 C0.length c0) ∧ t.cell? ⟨u.heap.size, 3, none⟩ = some (.int .i64 X1) ∧ t.cell? ⟨u.heap.size, 4, none⟩ = some (.int .i64 Y1) ∧ t.cell? ⟨u.heap.size, 5, none⟩ = some (.slice a1 C1.length c1) ∧ t.cell? ⟨u.heap.size, 6, none⟩ = some (.int .i64 X2) ∧ t.cell? ⟨u.heap.size, 7, none⟩ = some (.int .i64 Y2) ∧ t.cell? ⟨u.heap.size, 8, none⟩ = some (.slice a2 C2.length c2)
  x : t.cell? ⟨xb, 0, none⟩ = some (.int .i64 X0) ∧ t.cell? ⟨xb, 1, none⟩ = some (.int .i64 Y0) ∧ t.cell? ⟨xb, 2, none⟩ = some (.slice b0 C0.length d0) ∧ t.cell? ⟨xb, 3, none⟩ = some (.int .i64 X1) ∧ t.cell? ⟨xb, 4, none⟩ = some (.int .i64 Y1) ∧ t.cell? ⟨xb, 5, none⟩ = some (.slice b1 C1.length d1) ∧ t.cell? ⟨xb, 6, none⟩ = some (.int .i64 X2) ∧ t.cell? ⟨xb, 7, none⟩ = some (.int .i64 Y2) ∧ t.cell? ⟨xb, 8, none⟩ = some (.slice b2 C2.length d2)
  sa0 : Sl t .u8 a0 C0
  sa1 : Sl t .u8 a1 C1
  sa2 : Sl t .u8 a2 C2
  sx0 : Sl t .u8 b0 C0
  sx1 : Sl t .u8 b1 C1
  sx2 : Sl t .u8 b2 C2
  bel : Below V.heap.size V t
/-- a frame in a variable, where rows ahead of it may turn -/
structure Og (V T : World) (y : Nat) (a0 a1 a2 : Option Addr) (W0 H0 W1 H1 W2 H2 : Int) (L0 L1 L2 : List Nat) : Prop where
  c : T.cell? ⟨y, 0, none⟩ = some (.int .i64 W0) ∧ T.cell? ⟨y, 1, none⟩ = some (.int .i64 H0) ∧ T.cell? ⟨y, 2, none⟩ = some (.slice a0 L0.length L0.length) ∧ T.cell? ⟨y, 3, none⟩ = some (.int .i64 W1) ∧ T.cell? ⟨y, 4, none⟩ = some (.int .i64 H1) ∧ T.cell? ⟨y, 5, none⟩ = some (.slice a1 L1.length L1.length) ∧ T.cell? ⟨y, 6, none⟩ = some (.int .i64 W2) ∧ T.cell? ⟨y, 7, none⟩ = some (.int .i64 H2) ∧ T.cell? ⟨y, 8, none⟩ = some (.slice a2 L2.length L2.length)
  r0 : Rn V T a0 L0
  r1 : Rn V T a1 L1
  r2 : Rn V T a2 L2
  ly : y < T.heap.size
  ny : V.heap.size ≤ y
theorem Of.og {V T : World} {y : Nat} {a0 a1 a2 : Option Addr} {W0 H0 W1 H1 W2 H2 : Int} {L0 L1 L2 : List Nat} (h : Of V T y a0 a1 a2 W0 H0 W1 H1 W2 H2 L0 L1 L2) : Og V T y a0 a1 a2 W0 H0 W1 H1 W2 H2 L0 L1 L2 :=
  ⟨⟨h.c0, h.c1, h.c2, h.c3, h.c4, h.c5, h.c6, h.c7, h.c8⟩, h.r0, h.r1, h.r2, h.ly, h.ny⟩
theorem Og.kt {V T : World} {y : Nat} {a0 a1 a2 : Option Addr} {W0 H0 W1 H1 W2 H2 : Int} {L0 L1 L2 : List Nat} {T' : World} {b0 b1 b2 : Option Addr} (h : Og V T y a0 a1 a2 W0 H0 W1 H1 W2 H2 L0 L1 L2) (k : Kt b0 b1 b2 T T') (m0 : ∀ g, b0 = some ⟨g, 0, none⟩ → g < V.heap.size) (m1 : ∀ g, b1 = some ⟨g, 0, none⟩ → g < V.heap.size) (m2 : ∀ g, b2 = some ⟨g, 0, none⟩ → g < V.heap.size) : Og V T' y a0 a1 a2 W0 H0 W1 H1 W2 H2 L0 L1 L2 := by
  have hn := h.ny
  have hc : ∀ o, T'.cell? ⟨y, o, none⟩ = T.cell? ⟨y, o, none⟩ := fun o => k.cell _ _ h.ly (fun g e => by have := m0 g e; omega) (fun g e => by have := m1 g e; omega) (fun g e => by have := m2 g e; omega)
  obtain ⟨q0, q1, q2, q3, q4, q5, q6, q7, q8⟩ := h.c
  refine ⟨⟨by rw [hc]; exact q0, by rw [hc]; exact q1, by rw [hc]; exact q2, by rw [hc]; exact q3, by rw [hc]; exact q4, by rw [hc]; exact q5, by rw [hc]; exact q6, by rw [hc]; exact q7, by rw [hc]; exact q8⟩, h.r0.kt k ?_ ?_ ?_, h.r1.kt k ?_ ?_ ?_, h.r2.kt k ?_ ?_ ?_, Nat.lt_of_lt_of_le h.ly k.size, h.ny⟩
  · exact fun g g' e e' => by have := m0 g e; have := (h.r0.lt g' e').1; omega
  · exact fun g g' e e' => by have := m1 g e; have := (h.r0.lt g' e').1; omega
  · exact fun g g' e e' => by have := m2 g e; have := (h.r0.lt g' e').1; omega
  · exact fun g g' e e' => by have := m0 g e; have := (h.r1.lt g' e').1; omega
  · exact fun g g' e e' => by have := m1 g e; have := (h.r1.lt g' e').1; omega
  · exact fun g g' e e' => by have := m2 g e; have := (h.r1.lt g' e').1; omega
  · exact fun g g' e e' => by have := m0 g e; have := (h.r2.lt g' e').1; omega
  · exact fun g g' e e' => by have := m1 g e; have := (h.r2.lt g' e').1; omega
  · exact fun g g' e e' => by have := m2 g e; have := (h.r2.lt g' e').1; omega
theorem fk_any {X0 Y0 X1 Y1 X2 Y2 : Int} {C0 C1 C2 : List Nat} (a0 a1 a2 : Option Addr) (c0 c1 c2 : Nat) : fk ⟨X0, Y0, a0, c0, C0⟩ ⟨X1, Y1, a1, c1, C1⟩ ⟨X2, Y2, a2, c2, C2⟩ = fk ⟨X0, Y0, none, 0, C0⟩ ⟨X1, Y1, none, 0, C1⟩ ⟨X2, Y2, none, 0, C2⟩ := by
  by_cases h : FOk ⟨X0, Y0, none, 0, C0⟩ ⟨X1, Y1, none, 0, C1⟩ ⟨X2, Y2, none, 0, C2⟩
  · rw [fk_ok h, fk_ok h.any]
  · rw [fk_no h, fk_no (fun k => h k.any)]

set_option maxRecDepth 100000 in
set_option maxHeartbeats 4000000 in
theorem frames_walk {u : World} {X0 Y0 X1 Y1 X2 Y2 w h : Int} {a0 a1 a2 : Option Addr} {c0 c1 c2 : Nat} {C0 C1 C2 : List Nat} (s0 : Sl u .u8 a0 C0) (s1 : Sl u .u8 a1 C1) (s2 : Sl u .u8 a2 C2) (k0 : C0.length ≤ c0) (k1 : C1.length ≤ c1) (k2 : C2.length ≤ c2) (hl : C0.length ≤ 140737488355328 ∧ C1.length ≤ 140737488355328 ∧ C2.length ≤ 140737488355328) :
    Calls Try.prog 5 #[.agg #[.int .i64 X0, .int .i64 Y0, .slice a0 C0.length c0, .int .i64 X1, .int .i64 Y1, .slice a1 C1.length c1, .int .i64 X2, .int .i64 Y2, .slice a2 C2.length c2], .int .i64 w, .int .i64 h] u fun e w' => e = .returned (.bool true) ∧ Below u.heap.size u w' := by
  obtain ⟨W10, H10, W11, H11, W12, H12, L10, L11, L12, e1, m10, m11, m12, fP, fD⟩ := frame_two w h 9
  obtain ⟨W20, H20, W21, H21, W22, H22, L20, L21, L22, e2, m20, m21, m22, gP, gD⟩ := coded_two X0 Y0 X1 Y1 X2 Y2 C0 C1 C2
  obtain ⟨W30, H30, W31, H31, W32, H32, L30, L31, L32, e3, m30, m31, m32, hP, hD⟩ := crop_two X0 Y0 X1 Y1 X2 Y2 C0 C1 C2 w h
  have HfP : Hid (∀ t : World, Calls Try.prog 34 #[.int .i64 w, .int .i64 h, .int .u8 9] t fun e w' => Fb t w' e W10 H10 W11 H11 W12 H12 L10 L11 L12 e1) := fP
  have HfD : Hid (∀ t : World, Calls Try.prog 35 #[.int .i64 w, .int .i64 h, .int .u8 9] t fun e w' => Fb t w' e W10 H10 W11 H11 W12 H12 L10 L11 L12 e1) := fD
  have HgP : Hid _ := gP
  have HgD : Hid _ := gD
  have HhP : Hid _ := hP
  have HhD : Hid _ := hD
  clear fP fD gP gD hP hD
  have HL0 : Hid (C0.length ≤ 140737488355328) := hl.1
  have HL1 : Hid (C1.length ≤ 140737488355328) := hl.2.1
  have HL2 : Hid (C2.length ≤ 140737488355328) := hl.2.2
  have HC0 : Hid (C0.length ≤ c0) := k0
  have HC1 : Hid (C1.length ≤ c1) := k1
  have HC2 : Hid (C2.length ≤ c2) := k2
  have HBU : Hid (Below u.heap.size u (u.alloc (.cells #[.int .i64 X0, .int .i64 Y0, .slice a0 C0.length c0, .int .i64 X1, .int .i64 Y1, .slice a1 C1.length c1, .int .i64 X2, .int .i64 Y2, .slice a2 C2.length c2] 51))) := from_alloc _ _
  have HS0 : Hid (Sl (u.alloc (.cells #[.int .i64 X0, .int .i64 Y0, .slice a0 C0.length c0, .int .i64 X1, .int .i64 Y1, .slice a1 C1.length c1, .int .i64 X2, .int .i64 Y2, .slice a2 C2.length c2] 51)) .u8 a0 C0) := s0.to HBU.out
  have HS1 : Hid (Sl (u.alloc (.cells #[.int .i64 X0, .int .i64 Y0, .slice a0 C0.length c0, .int .i64 X1, .int .i64 Y1, .slice a1 C1.length c1, .int .i64 X2, .int .i64 Y2, .slice a2 C2.length c2] 51)) .u8 a1 C1) := s1.to HBU.out
  have HS2 : Hid (Sl (u.alloc (.cells #[.int .i64 X0, .int .i64 Y0, .slice a0 C0.length c0, .int .i64 X1, .int .i64 Y1, .slice a1 C1.length c1, .int .i64 X2, .int .i64 Y2, .slice a2 C2.length c2] 51)) .u8 a2 C2) := s2.to HBU.out
  have HZ : Hid ((u.alloc (.cells #[.int .i64 X0, .int .i64 Y0, .slice a0 C0.length c0, .int .i64 X1, .int .i64 Y1, .slice a1 C1.length c1, .int .i64 X2, .int .i64 Y2, .slice a2 C2.length c2] 51)).heap.size = u.heap.size + 1) := by show _ = _; simp
  have HP : Hid ((u.alloc (.cells #[.int .i64 X0, .int .i64 Y0, .slice a0 C0.length c0, .int .i64 X1, .int .i64 Y1, .slice a1 C1.length c1, .int .i64 X2, .int .i64 Y2, .slice a2 C2.length c2] 51)).cell? ⟨u.heap.size, 0, none⟩ = some (.int .i64 X0) ∧ (u.alloc (.cells #[.int .i64 X0, .int .i64 Y0, .slice a0 C0.length c0, .int .i64 X1, .int .i64 Y1, .slice a1 C1.length c1, .int .i64 X2, .int .i64 Y2, .slice a2 C2.length c2] 51)).cell? ⟨u.heap.size, 1, none⟩ = some (.int .i64 Y0) ∧ (u.alloc (.cells #[.int .i64 X0, .int .i64 Y0, .slice a0 C0.length c0, .int .i64 X1, .int .i64 Y1, .slice a1 C1.length c1, .int .i64 X2, .int .i64 Y2, .slice a2 C2.length c2] 51)).cell? ⟨u.heap.size, 2, none⟩ = some (.slice a0 C0.length c0) ∧ (u.alloc (.cells #[.int .i64 X0, .int .i64 Y0, .slice a0 C0.length c0, .int .i64 X1, .int .i64 Y1, .slice a1 C1.length c1, .int .i64 X2, .int .i64 Y2, .slice a2 C2.length c2] 51)).cell? ⟨u.heap.size, 3, none⟩ = some (.int .i64 X1) ∧ (u.alloc (.cells #[.int .i64 X0, .int .i64 Y0, .slice a0 C0.length c0, .int .i64 X1, .int .i64 Y1, .slice a1 C1.length c1, .int .i64 X2, .int .i64 Y2, .slice a2 C2.length c2] 51)).cell? ⟨u.heap.size, 4, none⟩ = some (.int .i64 Y1) ∧ (u.alloc (.cells #[.int .i64 X0, .int .i64 Y0, .slice a0 C0.length c0, .int .i64 X1, .int .i64 Y1, .slice a1 C1.length c1, .int .i64 X2, .int .i64 Y2, .slice a2 C2.length c2] 51)).cell? ⟨u.heap.size, 5, none⟩ = some (.slice a1 C1.length c1) ∧ (u.alloc (.cells #[.int .i64 X0, .int .i64 Y0, .slice a0 C0.length c0, .int .i64 X1, .int .i64 Y1, .slice a1 C1.length c1, .int .i64 X2, .int .i64 Y2, .slice a2 C2.length c2] 51)).cell? ⟨u.heap.size, 6, none⟩ = some (.int .i64 X2) ∧ (u.alloc (.cells #[.int .i64 X0, .int .i64 Y0, .slice a0 C0.length c0, .int .i64 X1, .int .i64 Y1, .slice a1 C1.length c1, .int .i64 X2, .int .i64 Y2, .slice a2 C2.length c2] 51)).cell? ⟨u.heap.size, 7, none⟩ = some (.int .i64 Y2) ∧ (u.alloc (.cells #[.int .i64 X0, .int .i64 Y0, .slice a0 C0.length c0, .int .i64 X1, .int .i64 Y1, .slice a1 C1.length c1, .int .i64 X2, .int .i64 Y2, .slice a2 C2.length c2] 51)).cell? ⟨u.heap.size, 8, none⟩ = some (.slice a2 C2.length c2)) := by unfold Hid; simp [go_sem]
  clear s0 s1 s2 k0 k1 k2 hl
  go_enter Try.func5, Try.ntmps5
  go_wp2_with fail
  generalize (u.alloc (.cells #[.int .i64 X0, .int .i64 Y0, .slice a0 C0.length c0, .int .i64 X1, .int .i64 Y1, .slice a1 C1.length c1, .int .i64 X2, .int .i64 Y2, .slice a2 C2.length c2] 51)) = U at *
  refine (copyFrame_any HS0.out HS1.out HS2.out HL0.out HL1.out HL2.out).mono ?_
  rintro e w1 ⟨b0, b1, b2, d0, d1, d2, rfl, hn0, hn1, hn2, hb1⟩
  have HV : Hid (Below U.heap.size U (w1.alloc (.cells #[.int .i64 X0, .int .i64 Y0, .slice b0 C0.length d0, .int .i64 X1, .int .i64 Y1, .slice b1 C1.length d1, .int .i64 X2, .int .i64 Y2, .slice b2 C2.length d2] 51))) := to_alloc hb1 _
  have HKV : Hid (Kfw u (w1.alloc (.cells #[.int .i64 X0, .int .i64 Y0, .slice b0 C0.length d0, .int .i64 X1, .int .i64 Y1, .slice b1 C1.length d1, .int .i64 X2, .int .i64 Y2, .slice b2 C2.length d2] 51)) (w1.alloc (.cells #[.int .i64 X0, .int .i64 Y0, .slice b0 C0.length d0, .int .i64 X1, .int .i64 Y1, .slice b1 C1.length d1, .int .i64 X2, .int .i64 Y2, .slice b2 C2.length d2] 51)) w1.heap.size X0 Y0 X1 Y1 X2 Y2 a0 a1 a2 b0 b1 b2 c0 c1 c2 d0 d1 d2 C0 C1 C2) := by
    have z := HZ.out
    have zV : U.heap.size ≤ w1.heap.size := hb1.size
    obtain ⟨q0, q1, q2, q3, q4, q5, q6, q7, q8⟩ := HP.out
    refine ⟨⟨?_, ?_, ?_, ?_, ?_, ?_, ?_, ?_, ?_⟩, ⟨by simp, by simp, by simp, by simp, by simp, by simp, by simp, by simp, by simp⟩, HS0.out.to HV.out, HS1.out.to HV.out, HS2.out.to HV.out, hn0.sl.to (from_alloc _ _), hn1.sl.to (from_alloc _ _), hn2.sl.to (from_alloc _ _), Below.refl _ _⟩
    all_goals rw [newCell HV.out _ _ (by omega)]
    all_goals assumption
  have HD0 : Hid (C0.length ≤ d0) := hn0.cap
  have HD1 : Hid (C1.length ≤ d1) := hn1.cap
  have HD2 : Hid (C2.length ≤ d2) := hn2.cap
  have HXZ : Hid (w1.heap.size < (w1.alloc (.cells #[.int .i64 X0, .int .i64 Y0, .slice b0 C0.length d0, .int .i64 X1, .int .i64 Y1, .slice b1 C1.length d1, .int .i64 X2, .int .i64 Y2, .slice b2 C2.length d2] 51)).heap.size) := by show _ < _; simp
  obtain ⟨⟨p0, p1, p2, p3, p4, p5, p6, p7, p8⟩, ⟨x0, x1, x2, x3, x4, x5, x6, x7, x8⟩, _, _, _, _, _, _, _⟩ := HKV.out
  clear hn0 hn1 hn2 hb1
  go_wp2_with fail
  clear p0 x0 p1 x1 p2 x2 p3 x3 p4 x4 p5 x5 p6 x6 p7 x7 p8 x8
  generalize w1.heap.size = xb at *
  generalize (w1.alloc (.cells #[.int .i64 X0, .int .i64 Y0, .slice b0 C0.length d0, .int .i64 X1, .int .i64 Y1, .slice b1 C1.length d1, .int .i64 X2, .int .i64 Y2, .slice b2 C2.length d2] 51)) = V at *
  have HK : Hid (∀ t : World, Below V.heap.size V t → Kfw u V t xb X0 Y0 X1 Y1 X2 Y2 a0 a1 a2 b0 b1 b2 c0 c1 c2 d0 d1 d2 C0 C1 C2) := fun t ht => by
    have zu := HZ.out
    have zv := HV.out.size
    have hx := HXZ.out
    obtain ⟨⟨q0, q1, q2, q3, q4, q5, q6, q7, q8⟩, ⟨y0, y1, y2, y3, y4, y5, y6, y7, y8⟩, s0, s1, s2, t0, t1, t2, _⟩ := HKV.out
    refine ⟨⟨?_, ?_, ?_, ?_, ?_, ?_, ?_, ?_, ?_⟩, ⟨?_, ?_, ?_, ?_, ?_, ?_, ?_, ?_, ?_⟩, s0.to ht, s1.to ht, s2.to ht, t0.to ht, t1.to ht, t2.to ht, ht⟩
    all_goals rw [newCell ht _ _ (by omega)]
    all_goals assumption
  clear HP HZ HS0 HS1 HS2 HXZ HKV
  obtain ⟨er, her⟩ : ∃ er, er = fk ⟨X0, Y0, none, 0, C0⟩ ⟨X1, Y1, none, 0, C1⟩ ⟨X2, Y2, none, 0, C2⟩ := ⟨_, rfl⟩
  have KO : Hid (∀ t : World, Below V.heap.size V t → Calls Try.prog 32 #[.agg #[.int .i64 X0, .int .i64 Y0, .slice b0 C0.length d0, .int .i64 X1, .int .i64 Y1, .slice b1 C1.length d1, .int .i64 X2, .int .i64 Y2, .slice b2 C2.length d2]] t fun e w' => e = .returned (.int .i64 er) ∧ Below V.heap.size V w') := fun t ht => whole_any.mono (by
    rintro e w' ⟨rfl, hb⟩
    exact ⟨by rw [fk_any, ← her], below_to ht hb⟩)
  have KR : Hid (∀ t : World, Below V.heap.size V t → Calls Try.prog 33 #[.agg #[.int .i64 X0, .int .i64 Y0, .slice a0 C0.length c0, .int .i64 X1, .int .i64 Y1, .slice a1 C1.length c1, .int .i64 X2, .int .i64 Y2, .slice a2 C2.length c2]] t fun e w' => e = .returned (.int .i64 er) ∧ Below V.heap.size V w') := fun t ht => rwhole_any.mono (by
    rintro e w' ⟨rfl, hb⟩
    exact ⟨by rw [fk_any, ← her], below_to ht hb⟩)
  have HKr : Hid (∀ t : World, Below V.heap.size V t → (t.cell? ⟨u.heap.size, 0, none⟩ = some (.int .i64 X0) ∧ t.cell? ⟨u.heap.size, 1, none⟩ = some (.int .i64 Y0) ∧ t.cell? ⟨u.heap.size, 2, none⟩ = some (.slice a0 C0.length c0) ∧ t.cell? ⟨u.heap.size, 3, none⟩ = some (.int .i64 X1) ∧ t.cell? ⟨u.heap.size, 4, none⟩ = some (.int .i64 Y1) ∧ t.cell? ⟨u.heap.size, 5, none⟩ = some (.slice a1 C1.length c1) ∧ t.cell? ⟨u.heap.size, 6, none⟩ = some (.int .i64 X2) ∧ t.cell? ⟨u.heap.size, 7, none⟩ = some (.int .i64 Y2) ∧ t.cell? ⟨u.heap.size, 8, none⟩ = some (.slice a2 C2.length c2) ∧ t.cell? ⟨xb, 0, none⟩ = some (.int .i64 X0) ∧ t.cell? ⟨xb, 1, none⟩ = some (.int .i64 Y0) ∧ t.cell? ⟨xb, 2, none⟩ = some (.slice b0 C0.length d0) ∧ t.cell? ⟨xb, 3, none⟩ = some (.int .i64 X1) ∧ t.cell? ⟨xb, 4, none⟩ = some (.int .i64 Y1) ∧ t.cell? ⟨xb, 5, none⟩ = some (.slice b1 C1.length d1) ∧ t.cell? ⟨xb, 6, none⟩ = some (.int .i64 X2) ∧ t.cell? ⟨xb, 7, none⟩ = some (.int .i64 Y2) ∧ t.cell? ⟨xb, 8, none⟩ = some (.slice b2 C2.length d2) ∧ Below V.heap.size V t)) := fun t ht => by
    obtain ⟨⟨q0, q1, q2, q3, q4, q5, q6, q7, q8⟩, ⟨y0, y1, y2, y3, y4, y5, y6, y7, y8⟩, _, _, _, _, _, _, _⟩ := HK.out t ht
    exact ⟨q0, q1, q2, q3, q4, q5, q6, q7, q8, y0, y1, y2, y3, y4, y5, y6, y7, y8, ht⟩
  clear her
  have ee : (er != er) = false := by simp
  go_cut [26] (fun s26 T => s26 = .bool false ∧ Below V.heap.size V T)
  case first =>
    go_region_held3 (fun t => t.cell? ⟨u.heap.size, 0, none⟩ = some (.int .i64 X0) ∧ t.cell? ⟨u.heap.size, 1, none⟩ = some (.int .i64 Y0) ∧ t.cell? ⟨u.heap.size, 2, none⟩ = some (.slice a0 C0.length c0) ∧ t.cell? ⟨u.heap.size, 3, none⟩ = some (.int .i64 X1) ∧ t.cell? ⟨u.heap.size, 4, none⟩ = some (.int .i64 Y1) ∧ t.cell? ⟨u.heap.size, 5, none⟩ = some (.slice a1 C1.length c1) ∧ t.cell? ⟨u.heap.size, 6, none⟩ = some (.int .i64 X2) ∧ t.cell? ⟨u.heap.size, 7, none⟩ = some (.int .i64 Y2) ∧ t.cell? ⟨u.heap.size, 8, none⟩ = some (.slice a2 C2.length c2) ∧ t.cell? ⟨xb, 0, none⟩ = some (.int .i64 X0) ∧ t.cell? ⟨xb, 1, none⟩ = some (.int .i64 Y0) ∧ t.cell? ⟨xb, 2, none⟩ = some (.slice b0 C0.length d0) ∧ t.cell? ⟨xb, 3, none⟩ = some (.int .i64 X1) ∧ t.cell? ⟨xb, 4, none⟩ = some (.int .i64 Y1) ∧ t.cell? ⟨xb, 5, none⟩ = some (.slice b1 C1.length d1) ∧ t.cell? ⟨xb, 6, none⟩ = some (.int .i64 X2) ∧ t.cell? ⟨xb, 7, none⟩ = some (.int .i64 Y2) ∧ t.cell? ⟨xb, 8, none⟩ = some (.slice b2 C2.length d2) ∧ Below V.heap.size V t)
      ((exact HKr.out _ (by solve | (repeat (first | with_reducible assumption | with_reducible refine to_alloc ?_ _ | with_reducible refine below_set ?_ ?_ _ | with_reducible refine below_drew ?_ | with_reducible exact Below.refl _ _ | (dsimp only; omega))))))
      ((first | (go_at_call 32; with_reducible refine (KO.out _ ?_).mono ?_; (focus (first | with_reducible assumption | exact below_drew (Below.refl _ _) | exact below_drew (by assumption))); rintro e wA ⟨rfl, hbA⟩) | (go_at_call 33; with_reducible refine (KR.out _ ?_).mono ?_; (focus (first | with_reducible assumption | exact below_drew (Below.refl _ _) | exact below_drew (by assumption))); rintro e wA ⟨rfl, hbA⟩)))
    all_goals
      go_wp2_with fail
      go_meet
      go_light
      first | exact ⟨rfl, by assumption⟩ | exact ⟨rfl, below_drew (by assumption)⟩ | exact ⟨by simp, by assumption⟩
  obtain ⟨rfl, hbc⟩ := hcut
  have HB2 : Hid (Below V.heap.size V wc) := hbc
  clear hbc KO KR HKr ee
  generalize wc = V2 at *
  obtain ⟨⟨p0, p1, p2, p3, p4, p5, p6, p7, p8⟩, ⟨x0, x1, x2, x3, x4, x5, x6, x7, x8⟩, sa0, sa1, sa2, sx0, sx1, sx2, _⟩ := HK.out V2 HB2.out
  have HA0 : Hid (Sl V2 .u8 a0 C0) := sa0
  have HX0 : Hid (Sl V2 .u8 b0 C0) := sx0
  have HA1 : Hid (Sl V2 .u8 a1 C1) := sa1
  have HX1 : Hid (Sl V2 .u8 b1 C1) := sx1
  have HA2 : Hid (Sl V2 .u8 a2 C2) := sa2
  have HX2 : Hid (Sl V2 .u8 b2 C2) := sx2
  clear sa0 sa1 sa2 sx0 sx1 sx2
  go_wp2_with fail
  refine (HfP.out V2).mono ?_
  rintro e v1 ⟨f10, f11, f12, rfl, r0, r1, r2, n01, n02, n12, hb⟩
  have HO1 : Hid (Of V2 (v1.alloc (.cells #[.int .i64 W10, .int .i64 H10, .slice f10 L10.length L10.length, .int .i64 W11, .int .i64 H11, .slice f11 L11.length L11.length, .int .i64 W12, .int .i64 H12, .slice f12 L12.length L12.length] 51)) v1.heap.size f10 f11 f12 W10 H10 W11 H11 W12 H12 L10 L11 L12) := of_a r0 r1 r2 n01 n02 n12 hb
  have HB3 : Hid (Below V.heap.size V (v1.alloc (.cells #[.int .i64 W10, .int .i64 H10, .slice f10 L10.length L10.length, .int .i64 W11, .int .i64 H11, .slice f11 L11.length L11.length, .int .i64 W12, .int .i64 H12, .slice f12 L12.length L12.length] 51))) := below_to HB2.out HO1.out.bel
  clear r0 r1 r2 n01 n02 n12 hb
  clear p0 x0 p1 x1 p2 x2 p3 x3 p4 x4 p5 x5 p6 x6 p7 x7 p8 x8 HA0 HA1 HA2 HX0 HX1 HX2
  obtain ⟨⟨p0, p1, p2, p3, p4, p5, p6, p7, p8⟩, ⟨x0, x1, x2, x3, x4, x5, x6, x7, x8⟩, sa0, sa1, sa2, sx0, sx1, sx2, _⟩ := HK.out (v1.alloc (.cells #[.int .i64 W10, .int .i64 H10, .slice f10 L10.length L10.length, .int .i64 W11, .int .i64 H11, .slice f11 L11.length L11.length, .int .i64 W12, .int .i64 H12, .slice f12 L12.length L12.length] 51)) HB3.out
  have HA0 : Hid (Sl (v1.alloc (.cells #[.int .i64 W10, .int .i64 H10, .slice f10 L10.length L10.length, .int .i64 W11, .int .i64 H11, .slice f11 L11.length L11.length, .int .i64 W12, .int .i64 H12, .slice f12 L12.length L12.length] 51)) .u8 a0 C0) := sa0
  have HX0 : Hid (Sl (v1.alloc (.cells #[.int .i64 W10, .int .i64 H10, .slice f10 L10.length L10.length, .int .i64 W11, .int .i64 H11, .slice f11 L11.length L11.length, .int .i64 W12, .int .i64 H12, .slice f12 L12.length L12.length] 51)) .u8 b0 C0) := sx0
  have HA1 : Hid (Sl (v1.alloc (.cells #[.int .i64 W10, .int .i64 H10, .slice f10 L10.length L10.length, .int .i64 W11, .int .i64 H11, .slice f11 L11.length L11.length, .int .i64 W12, .int .i64 H12, .slice f12 L12.length L12.length] 51)) .u8 a1 C1) := sa1
  have HX1 : Hid (Sl (v1.alloc (.cells #[.int .i64 W10, .int .i64 H10, .slice f10 L10.length L10.length, .int .i64 W11, .int .i64 H11, .slice f11 L11.length L11.length, .int .i64 W12, .int .i64 H12, .slice f12 L12.length L12.length] 51)) .u8 b1 C1) := sx1
  have HA2 : Hid (Sl (v1.alloc (.cells #[.int .i64 W10, .int .i64 H10, .slice f10 L10.length L10.length, .int .i64 W11, .int .i64 H11, .slice f11 L11.length L11.length, .int .i64 W12, .int .i64 H12, .slice f12 L12.length L12.length] 51)) .u8 a2 C2) := sa2
  have HX2 : Hid (Sl (v1.alloc (.cells #[.int .i64 W10, .int .i64 H10, .slice f10 L10.length L10.length, .int .i64 W11, .int .i64 H11, .slice f11 L11.length L11.length, .int .i64 W12, .int .i64 H12, .slice f12 L12.length L12.length] 51)) .u8 b2 C2) := sx2
  clear sa0 sa1 sa2 sx0 sx1 sx2
  go_wp2_with fail
  generalize v1.heap.size = y1 at *
  generalize (v1.alloc (.cells #[.int .i64 W10, .int .i64 H10, .slice f10 L10.length L10.length, .int .i64 W11, .int .i64 H11, .slice f11 L11.length L11.length, .int .i64 W12, .int .i64 H12, .slice f12 L12.length L12.length] 51)) = V3 at *
  refine (HfD.out V3).mono ?_
  rintro e v2 ⟨f20, f21, f22, rfl, r0, r1, r2, n01, n02, n12, hb⟩
  have HO2 : Hid (Of V3 (v2.alloc (.cells #[.int .i64 W10, .int .i64 H10, .slice f20 L10.length L10.length, .int .i64 W11, .int .i64 H11, .slice f21 L11.length L11.length, .int .i64 W12, .int .i64 H12, .slice f22 L12.length L12.length] 51)) v2.heap.size f20 f21 f22 W10 H10 W11 H11 W12 H12 L10 L11 L12) := of_a r0 r1 r2 n01 n02 n12 hb
  have HB4 : Hid (Below V.heap.size V (v2.alloc (.cells #[.int .i64 W10, .int .i64 H10, .slice f20 L10.length L10.length, .int .i64 W11, .int .i64 H11, .slice f21 L11.length L11.length, .int .i64 W12, .int .i64 H12, .slice f22 L12.length L12.length] 51))) := below_to HB3.out HO2.out.bel
  clear r0 r1 r2 n01 n02 n12 hb
  clear p0 x0 p1 x1 p2 x2 p3 x3 p4 x4 p5 x5 p6 x6 p7 x7 p8 x8 HA0 HA1 HA2 HX0 HX1 HX2
  obtain ⟨⟨p0, p1, p2, p3, p4, p5, p6, p7, p8⟩, ⟨x0, x1, x2, x3, x4, x5, x6, x7, x8⟩, sa0, sa1, sa2, sx0, sx1, sx2, _⟩ := HK.out (v2.alloc (.cells #[.int .i64 W10, .int .i64 H10, .slice f20 L10.length L10.length, .int .i64 W11, .int .i64 H11, .slice f21 L11.length L11.length, .int .i64 W12, .int .i64 H12, .slice f22 L12.length L12.length] 51)) HB4.out
  have HA0 : Hid (Sl (v2.alloc (.cells #[.int .i64 W10, .int .i64 H10, .slice f20 L10.length L10.length, .int .i64 W11, .int .i64 H11, .slice f21 L11.length L11.length, .int .i64 W12, .int .i64 H12, .slice f22 L12.length L12.length] 51)) .u8 a0 C0) := sa0
  have HX0 : Hid (Sl (v2.alloc (.cells #[.int .i64 W10, .int .i64 H10, .slice f20 L10.length L10.length, .int .i64 W11, .int .i64 H11, .slice f21 L11.length L11.length, .int .i64 W12, .int .i64 H12, .slice f22 L12.length L12.length] 51)) .u8 b0 C0) := sx0
  have HA1 : Hid (Sl (v2.alloc (.cells #[.int .i64 W10, .int .i64 H10, .slice f20 L10.length L10.length, .int .i64 W11, .int .i64 H11, .slice f21 L11.length L11.length, .int .i64 W12, .int .i64 H12, .slice f22 L12.length L12.length] 51)) .u8 a1 C1) := sa1
  have HX1 : Hid (Sl (v2.alloc (.cells #[.int .i64 W10, .int .i64 H10, .slice f20 L10.length L10.length, .int .i64 W11, .int .i64 H11, .slice f21 L11.length L11.length, .int .i64 W12, .int .i64 H12, .slice f22 L12.length L12.length] 51)) .u8 b1 C1) := sx1
  have HA2 : Hid (Sl (v2.alloc (.cells #[.int .i64 W10, .int .i64 H10, .slice f20 L10.length L10.length, .int .i64 W11, .int .i64 H11, .slice f21 L11.length L11.length, .int .i64 W12, .int .i64 H12, .slice f22 L12.length L12.length] 51)) .u8 a2 C2) := sa2
  have HX2 : Hid (Sl (v2.alloc (.cells #[.int .i64 W10, .int .i64 H10, .slice f20 L10.length L10.length, .int .i64 W11, .int .i64 H11, .slice f21 L11.length L11.length, .int .i64 W12, .int .i64 H12, .slice f22 L12.length L12.length] 51)) .u8 b2 C2) := sx2
  clear sa0 sa1 sa2 sx0 sx1 sx2
  go_wp2_with fail
  generalize v2.heap.size = y2 at *
  generalize (v2.alloc (.cells #[.int .i64 W10, .int .i64 H10, .slice f20 L10.length L10.length, .int .i64 W11, .int .i64 H11, .slice f21 L11.length L11.length, .int .i64 W12, .int .i64 H12, .slice f22 L12.length L12.length] 51)) = V4 at *
  refine (HgP.out V4 b0 b1 b2 d0 d1 d2 HX0.out HX1.out HX2.out HD0.out HD1.out HD2.out).mono ?_
  rintro e v3 ⟨f30, f31, f32, rfl, r0, r1, r2, n01, n02, n12, hb⟩
  have HO3 : Hid (Of V4 (v3.alloc (.cells #[.int .i64 W20, .int .i64 H20, .slice f30 L20.length L20.length, .int .i64 W21, .int .i64 H21, .slice f31 L21.length L21.length, .int .i64 W22, .int .i64 H22, .slice f32 L22.length L22.length] 51)) v3.heap.size f30 f31 f32 W20 H20 W21 H21 W22 H22 L20 L21 L22) := of_a r0 r1 r2 n01 n02 n12 hb
  have HB5 : Hid (Below V.heap.size V (v3.alloc (.cells #[.int .i64 W20, .int .i64 H20, .slice f30 L20.length L20.length, .int .i64 W21, .int .i64 H21, .slice f31 L21.length L21.length, .int .i64 W22, .int .i64 H22, .slice f32 L22.length L22.length] 51))) := below_to HB4.out HO3.out.bel
  clear r0 r1 r2 n01 n02 n12 hb
  clear p0 x0 p1 x1 p2 x2 p3 x3 p4 x4 p5 x5 p6 x6 p7 x7 p8 x8 HA0 HA1 HA2 HX0 HX1 HX2
  obtain ⟨⟨p0, p1, p2, p3, p4, p5, p6, p7, p8⟩, ⟨x0, x1, x2, x3, x4, x5, x6, x7, x8⟩, sa0, sa1, sa2, sx0, sx1, sx2, _⟩ := HK.out (v3.alloc (.cells #[.int .i64 W20, .int .i64 H20, .slice f30 L20.length L20.length, .int .i64 W21, .int .i64 H21, .slice f31 L21.length L21.length, .int .i64 W22, .int .i64 H22, .slice f32 L22.length L22.length] 51)) HB5.out
  have HA0 : Hid (Sl (v3.alloc (.cells #[.int .i64 W20, .int .i64 H20, .slice f30 L20.length L20.length, .int .i64 W21, .int .i64 H21, .slice f31 L21.length L21.length, .int .i64 W22, .int .i64 H22, .slice f32 L22.length L22.length] 51)) .u8 a0 C0) := sa0
  have HX0 : Hid (Sl (v3.alloc (.cells #[.int .i64 W20, .int .i64 H20, .slice f30 L20.length L20.length, .int .i64 W21, .int .i64 H21, .slice f31 L21.length L21.length, .int .i64 W22, .int .i64 H22, .slice f32 L22.length L22.length] 51)) .u8 b0 C0) := sx0
  have HA1 : Hid (Sl (v3.alloc (.cells #[.int .i64 W20, .int .i64 H20, .slice f30 L20.length L20.length, .int .i64 W21, .int .i64 H21, .slice f31 L21.length L21.length, .int .i64 W22, .int .i64 H22, .slice f32 L22.length L22.length] 51)) .u8 a1 C1) := sa1
  have HX1 : Hid (Sl (v3.alloc (.cells #[.int .i64 W20, .int .i64 H20, .slice f30 L20.length L20.length, .int .i64 W21, .int .i64 H21, .slice f31 L21.length L21.length, .int .i64 W22, .int .i64 H22, .slice f32 L22.length L22.length] 51)) .u8 b1 C1) := sx1
  have HA2 : Hid (Sl (v3.alloc (.cells #[.int .i64 W20, .int .i64 H20, .slice f30 L20.length L20.length, .int .i64 W21, .int .i64 H21, .slice f31 L21.length L21.length, .int .i64 W22, .int .i64 H22, .slice f32 L22.length L22.length] 51)) .u8 a2 C2) := sa2
  have HX2 : Hid (Sl (v3.alloc (.cells #[.int .i64 W20, .int .i64 H20, .slice f30 L20.length L20.length, .int .i64 W21, .int .i64 H21, .slice f31 L21.length L21.length, .int .i64 W22, .int .i64 H22, .slice f32 L22.length L22.length] 51)) .u8 b2 C2) := sx2
  clear sa0 sa1 sa2 sx0 sx1 sx2
  go_wp2_with fail
  generalize v3.heap.size = y3 at *
  generalize (v3.alloc (.cells #[.int .i64 W20, .int .i64 H20, .slice f30 L20.length L20.length, .int .i64 W21, .int .i64 H21, .slice f31 L21.length L21.length, .int .i64 W22, .int .i64 H22, .slice f32 L22.length L22.length] 51)) = V5 at *
  refine (HgD.out V5 a0 a1 a2 c0 c1 c2 HA0.out HA1.out HA2.out HC0.out HC1.out HC2.out).mono ?_
  rintro e v4 ⟨f40, f41, f42, rfl, r0, r1, r2, n01, n02, n12, hb⟩
  have HO4 : Hid (Of V5 (v4.alloc (.cells #[.int .i64 W20, .int .i64 H20, .slice f40 L20.length L20.length, .int .i64 W21, .int .i64 H21, .slice f41 L21.length L21.length, .int .i64 W22, .int .i64 H22, .slice f42 L22.length L22.length] 51)) v4.heap.size f40 f41 f42 W20 H20 W21 H21 W22 H22 L20 L21 L22) := of_a r0 r1 r2 n01 n02 n12 hb
  have HB6 : Hid (Below V.heap.size V (v4.alloc (.cells #[.int .i64 W20, .int .i64 H20, .slice f40 L20.length L20.length, .int .i64 W21, .int .i64 H21, .slice f41 L21.length L21.length, .int .i64 W22, .int .i64 H22, .slice f42 L22.length L22.length] 51))) := below_to HB5.out HO4.out.bel
  clear r0 r1 r2 n01 n02 n12 hb
  clear p0 x0 p1 x1 p2 x2 p3 x3 p4 x4 p5 x5 p6 x6 p7 x7 p8 x8 HA0 HA1 HA2 HX0 HX1 HX2
  obtain ⟨⟨p0, p1, p2, p3, p4, p5, p6, p7, p8⟩, ⟨x0, x1, x2, x3, x4, x5, x6, x7, x8⟩, sa0, sa1, sa2, sx0, sx1, sx2, _⟩ := HK.out (v4.alloc (.cells #[.int .i64 W20, .int .i64 H20, .slice f40 L20.length L20.length, .int .i64 W21, .int .i64 H21, .slice f41 L21.length L21.length, .int .i64 W22, .int .i64 H22, .slice f42 L22.length L22.length] 51)) HB6.out
  have HA0 : Hid (Sl (v4.alloc (.cells #[.int .i64 W20, .int .i64 H20, .slice f40 L20.length L20.length, .int .i64 W21, .int .i64 H21, .slice f41 L21.length L21.length, .int .i64 W22, .int .i64 H22, .slice f42 L22.length L22.length] 51)) .u8 a0 C0) := sa0
  have HX0 : Hid (Sl (v4.alloc (.cells #[.int .i64 W20, .int .i64 H20, .slice f40 L20.length L20.length, .int .i64 W21, .int .i64 H21, .slice f41 L21.length L21.length, .int .i64 W22, .int .i64 H22, .slice f42 L22.length L22.length] 51)) .u8 b0 C0) := sx0
  have HA1 : Hid (Sl (v4.alloc (.cells #[.int .i64 W20, .int .i64 H20, .slice f40 L20.length L20.length, .int .i64 W21, .int .i64 H21, .slice f41 L21.length L21.length, .int .i64 W22, .int .i64 H22, .slice f42 L22.length L22.length] 51)) .u8 a1 C1) := sa1
  have HX1 : Hid (Sl (v4.alloc (.cells #[.int .i64 W20, .int .i64 H20, .slice f40 L20.length L20.length, .int .i64 W21, .int .i64 H21, .slice f41 L21.length L21.length, .int .i64 W22, .int .i64 H22, .slice f42 L22.length L22.length] 51)) .u8 b1 C1) := sx1
  have HA2 : Hid (Sl (v4.alloc (.cells #[.int .i64 W20, .int .i64 H20, .slice f40 L20.length L20.length, .int .i64 W21, .int .i64 H21, .slice f41 L21.length L21.length, .int .i64 W22, .int .i64 H22, .slice f42 L22.length L22.length] 51)) .u8 a2 C2) := sa2
  have HX2 : Hid (Sl (v4.alloc (.cells #[.int .i64 W20, .int .i64 H20, .slice f40 L20.length L20.length, .int .i64 W21, .int .i64 H21, .slice f41 L21.length L21.length, .int .i64 W22, .int .i64 H22, .slice f42 L22.length L22.length] 51)) .u8 b2 C2) := sx2
  clear sa0 sa1 sa2 sx0 sx1 sx2
  go_wp2_with fail
  generalize v4.heap.size = y4 at *
  generalize (v4.alloc (.cells #[.int .i64 W20, .int .i64 H20, .slice f40 L20.length L20.length, .int .i64 W21, .int .i64 H21, .slice f41 L21.length L21.length, .int .i64 W22, .int .i64 H22, .slice f42 L22.length L22.length] 51)) = V6 at *
  refine (HhP.out V6 b0 b1 b2 d0 d1 d2 HX0.out HX1.out HX2.out HD0.out HD1.out HD2.out).mono ?_
  rintro e v5 ⟨f50, f51, f52, rfl, r0, r1, r2, n01, n02, n12, hb⟩
  have HO5 : Hid (Of V6 (v5.alloc (.cells #[.int .i64 W30, .int .i64 H30, .slice f50 L30.length L30.length, .int .i64 W31, .int .i64 H31, .slice f51 L31.length L31.length, .int .i64 W32, .int .i64 H32, .slice f52 L32.length L32.length] 51)) v5.heap.size f50 f51 f52 W30 H30 W31 H31 W32 H32 L30 L31 L32) := of_a r0 r1 r2 n01 n02 n12 hb
  have HB7 : Hid (Below V.heap.size V (v5.alloc (.cells #[.int .i64 W30, .int .i64 H30, .slice f50 L30.length L30.length, .int .i64 W31, .int .i64 H31, .slice f51 L31.length L31.length, .int .i64 W32, .int .i64 H32, .slice f52 L32.length L32.length] 51))) := below_to HB6.out HO5.out.bel
  clear r0 r1 r2 n01 n02 n12 hb
  clear p0 x0 p1 x1 p2 x2 p3 x3 p4 x4 p5 x5 p6 x6 p7 x7 p8 x8 HA0 HA1 HA2 HX0 HX1 HX2
  obtain ⟨⟨p0, p1, p2, p3, p4, p5, p6, p7, p8⟩, ⟨x0, x1, x2, x3, x4, x5, x6, x7, x8⟩, sa0, sa1, sa2, sx0, sx1, sx2, _⟩ := HK.out (v5.alloc (.cells #[.int .i64 W30, .int .i64 H30, .slice f50 L30.length L30.length, .int .i64 W31, .int .i64 H31, .slice f51 L31.length L31.length, .int .i64 W32, .int .i64 H32, .slice f52 L32.length L32.length] 51)) HB7.out
  have HA0 : Hid (Sl (v5.alloc (.cells #[.int .i64 W30, .int .i64 H30, .slice f50 L30.length L30.length, .int .i64 W31, .int .i64 H31, .slice f51 L31.length L31.length, .int .i64 W32, .int .i64 H32, .slice f52 L32.length L32.length] 51)) .u8 a0 C0) := sa0
  have HX0 : Hid (Sl (v5.alloc (.cells #[.int .i64 W30, .int .i64 H30, .slice f50 L30.length L30.length, .int .i64 W31, .int .i64 H31, .slice f51 L31.length L31.length, .int .i64 W32, .int .i64 H32, .slice f52 L32.length L32.length] 51)) .u8 b0 C0) := sx0
  have HA1 : Hid (Sl (v5.alloc (.cells #[.int .i64 W30, .int .i64 H30, .slice f50 L30.length L30.length, .int .i64 W31, .int .i64 H31, .slice f51 L31.length L31.length, .int .i64 W32, .int .i64 H32, .slice f52 L32.length L32.length] 51)) .u8 a1 C1) := sa1
  have HX1 : Hid (Sl (v5.alloc (.cells #[.int .i64 W30, .int .i64 H30, .slice f50 L30.length L30.length, .int .i64 W31, .int .i64 H31, .slice f51 L31.length L31.length, .int .i64 W32, .int .i64 H32, .slice f52 L32.length L32.length] 51)) .u8 b1 C1) := sx1
  have HA2 : Hid (Sl (v5.alloc (.cells #[.int .i64 W30, .int .i64 H30, .slice f50 L30.length L30.length, .int .i64 W31, .int .i64 H31, .slice f51 L31.length L31.length, .int .i64 W32, .int .i64 H32, .slice f52 L32.length L32.length] 51)) .u8 a2 C2) := sa2
  have HX2 : Hid (Sl (v5.alloc (.cells #[.int .i64 W30, .int .i64 H30, .slice f50 L30.length L30.length, .int .i64 W31, .int .i64 H31, .slice f51 L31.length L31.length, .int .i64 W32, .int .i64 H32, .slice f52 L32.length L32.length] 51)) .u8 b2 C2) := sx2
  clear sa0 sa1 sa2 sx0 sx1 sx2
  go_wp2_with fail
  generalize v5.heap.size = y5 at *
  generalize (v5.alloc (.cells #[.int .i64 W30, .int .i64 H30, .slice f50 L30.length L30.length, .int .i64 W31, .int .i64 H31, .slice f51 L31.length L31.length, .int .i64 W32, .int .i64 H32, .slice f52 L32.length L32.length] 51)) = V7 at *
  refine (HhD.out V7 a0 a1 a2 c0 c1 c2 HA0.out HA1.out HA2.out HC0.out HC1.out HC2.out).mono ?_
  rintro e v6 ⟨f60, f61, f62, rfl, r0, r1, r2, n01, n02, n12, hb⟩
  have HO6 : Hid (Of V7 (v6.alloc (.cells #[.int .i64 W30, .int .i64 H30, .slice f60 L30.length L30.length, .int .i64 W31, .int .i64 H31, .slice f61 L31.length L31.length, .int .i64 W32, .int .i64 H32, .slice f62 L32.length L32.length] 51)) v6.heap.size f60 f61 f62 W30 H30 W31 H31 W32 H32 L30 L31 L32) := of_a r0 r1 r2 n01 n02 n12 hb
  have HB8 : Hid (Below V.heap.size V (v6.alloc (.cells #[.int .i64 W30, .int .i64 H30, .slice f60 L30.length L30.length, .int .i64 W31, .int .i64 H31, .slice f61 L31.length L31.length, .int .i64 W32, .int .i64 H32, .slice f62 L32.length L32.length] 51))) := below_to HB7.out HO6.out.bel
  clear r0 r1 r2 n01 n02 n12 hb
  clear p0 x0 p1 x1 p2 x2 p3 x3 p4 x4 p5 x5 p6 x6 p7 x7 p8 x8 HA0 HA1 HA2 HX0 HX1 HX2
  obtain ⟨⟨p0, p1, p2, p3, p4, p5, p6, p7, p8⟩, ⟨x0, x1, x2, x3, x4, x5, x6, x7, x8⟩, sa0, sa1, sa2, sx0, sx1, sx2, _⟩ := HK.out (v6.alloc (.cells #[.int .i64 W30, .int .i64 H30, .slice f60 L30.length L30.length, .int .i64 W31, .int .i64 H31, .slice f61 L31.length L31.length, .int .i64 W32, .int .i64 H32, .slice f62 L32.length L32.length] 51)) HB8.out
  have HA0 : Hid (Sl (v6.alloc (.cells #[.int .i64 W30, .int .i64 H30, .slice f60 L30.length L30.length, .int .i64 W31, .int .i64 H31, .slice f61 L31.length L31.length, .int .i64 W32, .int .i64 H32, .slice f62 L32.length L32.length] 51)) .u8 a0 C0) := sa0
  have HX0 : Hid (Sl (v6.alloc (.cells #[.int .i64 W30, .int .i64 H30, .slice f60 L30.length L30.length, .int .i64 W31, .int .i64 H31, .slice f61 L31.length L31.length, .int .i64 W32, .int .i64 H32, .slice f62 L32.length L32.length] 51)) .u8 b0 C0) := sx0
  have HA1 : Hid (Sl (v6.alloc (.cells #[.int .i64 W30, .int .i64 H30, .slice f60 L30.length L30.length, .int .i64 W31, .int .i64 H31, .slice f61 L31.length L31.length, .int .i64 W32, .int .i64 H32, .slice f62 L32.length L32.length] 51)) .u8 a1 C1) := sa1
  have HX1 : Hid (Sl (v6.alloc (.cells #[.int .i64 W30, .int .i64 H30, .slice f60 L30.length L30.length, .int .i64 W31, .int .i64 H31, .slice f61 L31.length L31.length, .int .i64 W32, .int .i64 H32, .slice f62 L32.length L32.length] 51)) .u8 b1 C1) := sx1
  have HA2 : Hid (Sl (v6.alloc (.cells #[.int .i64 W30, .int .i64 H30, .slice f60 L30.length L30.length, .int .i64 W31, .int .i64 H31, .slice f61 L31.length L31.length, .int .i64 W32, .int .i64 H32, .slice f62 L32.length L32.length] 51)) .u8 a2 C2) := sa2
  have HX2 : Hid (Sl (v6.alloc (.cells #[.int .i64 W30, .int .i64 H30, .slice f60 L30.length L30.length, .int .i64 W31, .int .i64 H31, .slice f61 L31.length L31.length, .int .i64 W32, .int .i64 H32, .slice f62 L32.length L32.length] 51)) .u8 b2 C2) := sx2
  clear sa0 sa1 sa2 sx0 sx1 sx2
  obtain ⟨l0, l1, l2, l3, l4, l5, l6, l7, l8⟩ := (((((HO1.out.to HO2.out.bel).to HO3.out.bel).to HO4.out.bel).to HO5.out.bel).to HO6.out.bel).og.c
  obtain ⟨r0, r1, r2, r3, r4, r5, r6, r7, r8⟩ := ((((HO2.out.to HO3.out.bel).to HO4.out.bel).to HO5.out.bel).to HO6.out.bel).og.c
  go_wp2_with fail
  clear l0 r0 l1 r1 l2 r2 l3 r3 l4 r4 l5 r5 l6 r6 l7 r7 l8 r8
  generalize v6.heap.size = y6 at *
  generalize (v6.alloc (.cells #[.int .i64 W30, .int .i64 H30, .slice f60 L30.length L30.length, .int .i64 W31, .int .i64 H31, .slice f61 L31.length L31.length, .int .i64 W32, .int .i64 H32, .slice f62 L32.length L32.length] 51)) = V8 at *
  clear p0 x0 p1 x1 p2 x2 p3 x3 p4 x4 p5 x5 p6 x6 p7 x7 p8 x8 HA0 HA1 HA2 HX0 HX1 HX2
  have z1 : V2.heap.size ≤ V3.heap.size := HO1.out.bel.size
  have z2 : V3.heap.size ≤ V4.heap.size := HO2.out.bel.size
  have z3 : V4.heap.size ≤ V5.heap.size := HO3.out.bel.size
  have z4 : V5.heap.size ≤ V6.heap.size := HO4.out.bel.size
  have z5 : V6.heap.size ≤ V7.heap.size := HO5.out.bel.size
  have z6 : V7.heap.size ≤ V8.heap.size := HO6.out.bel.size
  have HG1 : Hid (Og V2 V8 y1 f10 f11 f12 W10 H10 W11 H11 W12 H12 L10 L11 L12) := (((((HO1.out.to HO2.out.bel).to HO3.out.bel).to HO4.out.bel).to HO5.out.bel).to HO6.out.bel).og
  have HG2 : Hid (Og V3 V8 y2 f20 f21 f22 W10 H10 W11 H11 W12 H12 L10 L11 L12) := ((((HO2.out.to HO3.out.bel).to HO4.out.bel).to HO5.out.bel).to HO6.out.bel).og
  have HG3 : Hid (Og V4 V8 y3 f30 f31 f32 W20 H20 W21 H21 W22 H22 L20 L21 L22) := (((HO3.out.to HO4.out.bel).to HO5.out.bel).to HO6.out.bel).og
  have HG4 : Hid (Og V5 V8 y4 f40 f41 f42 W20 H20 W21 H21 W22 H22 L20 L21 L22) := ((HO4.out.to HO5.out.bel).to HO6.out.bel).og
  have HG5 : Hid (Og V6 V8 y5 f50 f51 f52 W30 H30 W31 H31 W32 H32 L30 L31 L32) := (HO5.out.to HO6.out.bel).og
  have HG6 : Hid (Og V7 V8 y6 f60 f61 f62 W30 H30 W31 H31 W32 H32 L30 L31 L32) := HO6.out.og
  have HM10 : Hid (∀ g, f10 = some ⟨g, 0, none⟩ → V2.heap.size ≤ g ∧ g < V3.heap.size) := fun g e => HO1.out.r0.lt g e
  have HM11 : Hid (∀ g, f11 = some ⟨g, 0, none⟩ → V2.heap.size ≤ g ∧ g < V3.heap.size) := fun g e => HO1.out.r1.lt g e
  have HM12 : Hid (∀ g, f12 = some ⟨g, 0, none⟩ → V2.heap.size ≤ g ∧ g < V3.heap.size) := fun g e => HO1.out.r2.lt g e
  have HN1 : Hid (Ap f10 f11 ∧ Ap f10 f12 ∧ Ap f11 f12) := ⟨HO1.out.ap01, HO1.out.ap02, HO1.out.ap12⟩
  have HM30 : Hid (∀ g, f30 = some ⟨g, 0, none⟩ → V4.heap.size ≤ g ∧ g < V5.heap.size) := fun g e => HO3.out.r0.lt g e
  have HM31 : Hid (∀ g, f31 = some ⟨g, 0, none⟩ → V4.heap.size ≤ g ∧ g < V5.heap.size) := fun g e => HO3.out.r1.lt g e
  have HM32 : Hid (∀ g, f32 = some ⟨g, 0, none⟩ → V4.heap.size ≤ g ∧ g < V5.heap.size) := fun g e => HO3.out.r2.lt g e
  have HN3 : Hid (Ap f30 f31 ∧ Ap f30 f32 ∧ Ap f31 f32) := ⟨HO3.out.ap01, HO3.out.ap02, HO3.out.ap12⟩
  have HM50 : Hid (∀ g, f50 = some ⟨g, 0, none⟩ → V6.heap.size ≤ g ∧ g < V7.heap.size) := fun g e => HO5.out.r0.lt g e
  have HM51 : Hid (∀ g, f51 = some ⟨g, 0, none⟩ → V6.heap.size ≤ g ∧ g < V7.heap.size) := fun g e => HO5.out.r1.lt g e
  have HM52 : Hid (∀ g, f52 = some ⟨g, 0, none⟩ → V6.heap.size ≤ g ∧ g < V7.heap.size) := fun g e => HO5.out.r2.lt g e
  have HN5 : Hid (Ap f50 f51 ∧ Ap f50 f52 ∧ Ap f51 f52) := ⟨HO5.out.ap01, HO5.out.ap02, HO5.out.ap12⟩
  have zV := HB2.out.size
  clear HO1 HO2 HO3 HO4 HO5 HO6
  have HB8' : Hid (Below V.heap.size V V8) := HB8.out
  refine (toldFrame_any HG1.out.r0 HG1.out.r1 HG1.out.r2 HN1.out.1 HN1.out.2.1 HN1.out.2.2 HG2.out.r0.sl HG2.out.r1.sl HG2.out.r2.sl (by omega) (by omega) (by omega)).mono ?_
  rintro e g1 ⟨rfl, hk⟩
  have HBg1 : Hid (Below V.heap.size V g1) := HB8.out.trans (hk.below HB8.out.size (fun g e => by have := HM10.out g e; omega) (fun g e => by have := HM11.out g e; omega) (fun g e => by have := HM12.out g e; omega))
  replace HG3 : Hid (Og V4 g1 y3 f30 f31 f32 W20 H20 W21 H21 W22 H22 L20 L21 L22) := HG3.out.kt hk (fun g e => by have := HM10.out g e; omega) (fun g e => by have := HM11.out g e; omega) (fun g e => by have := HM12.out g e; omega)
  replace HG4 : Hid (Og V5 g1 y4 f40 f41 f42 W20 H20 W21 H21 W22 H22 L20 L21 L22) := HG4.out.kt hk (fun g e => by have := HM10.out g e; omega) (fun g e => by have := HM11.out g e; omega) (fun g e => by have := HM12.out g e; omega)
  replace HG5 : Hid (Og V6 g1 y5 f50 f51 f52 W30 H30 W31 H31 W32 H32 L30 L31 L32) := HG5.out.kt hk (fun g e => by have := HM10.out g e; omega) (fun g e => by have := HM11.out g e; omega) (fun g e => by have := HM12.out g e; omega)
  replace HG6 : Hid (Og V7 g1 y6 f60 f61 f62 W30 H30 W31 H31 W32 H32 L30 L31 L32) := HG6.out.kt hk (fun g e => by have := HM10.out g e; omega) (fun g e => by have := HM11.out g e; omega) (fun g e => by have := HM12.out g e; omega)
  clear hk HG1 HG2 HM10 HM11 HM12 HN1
  obtain ⟨p0, p1, p2, p3, p4, p5, p6, p7, p8⟩ := HG3.out.c
  obtain ⟨x0, x1, x2, x3, x4, x5, x6, x7, x8⟩ := HG4.out.c
  go_wp2_with fail
  clear p0 x0 p1 x1 p2 x2 p3 x3 p4 x4 p5 x5 p6 x6 p7 x7 p8 x8
  refine (toldFrame_any HG3.out.r0 HG3.out.r1 HG3.out.r2 HN3.out.1 HN3.out.2.1 HN3.out.2.2 HG4.out.r0.sl HG4.out.r1.sl HG4.out.r2.sl (by omega) (by omega) (by omega)).mono ?_
  rintro e g2 ⟨rfl, hk⟩
  have HBg2 : Hid (Below V.heap.size V g2) := HBg1.out.trans (hk.below HBg1.out.size (fun g e => by have := HM30.out g e; omega) (fun g e => by have := HM31.out g e; omega) (fun g e => by have := HM32.out g e; omega))
  replace HG5 : Hid (Og V6 g2 y5 f50 f51 f52 W30 H30 W31 H31 W32 H32 L30 L31 L32) := HG5.out.kt hk (fun g e => by have := HM30.out g e; omega) (fun g e => by have := HM31.out g e; omega) (fun g e => by have := HM32.out g e; omega)
  replace HG6 : Hid (Og V7 g2 y6 f60 f61 f62 W30 H30 W31 H31 W32 H32 L30 L31 L32) := HG6.out.kt hk (fun g e => by have := HM30.out g e; omega) (fun g e => by have := HM31.out g e; omega) (fun g e => by have := HM32.out g e; omega)
  clear hk HG3 HG4 HM30 HM31 HM32 HN3
  obtain ⟨p0, p1, p2, p3, p4, p5, p6, p7, p8⟩ := HG5.out.c
  obtain ⟨x0, x1, x2, x3, x4, x5, x6, x7, x8⟩ := HG6.out.c
  go_wp2_with fail
  clear p0 x0 p1 x1 p2 x2 p3 x3 p4 x4 p5 x5 p6 x6 p7 x7 p8 x8
  refine (toldFrame_any HG5.out.r0 HG5.out.r1 HG5.out.r2 HN5.out.1 HN5.out.2.1 HN5.out.2.2 HG6.out.r0.sl HG6.out.r1.sl HG6.out.r2.sl (by omega) (by omega) (by omega)).mono ?_
  rintro e g3 ⟨rfl, hk⟩
  have HBg3 : Hid (Below V.heap.size V g3) := HBg2.out.trans (hk.below HBg2.out.size (fun g e => by have := HM50.out g e; omega) (fun g e => by have := HM51.out g e; omega) (fun g e => by have := HM52.out g e; omega))
  clear hk HG5 HG6 HM50 HM51 HM52 HN5
  obtain ⟨⟨p0, p1, p2, p3, p4, p5, p6, p7, p8⟩, ⟨x0, x1, x2, x3, x4, x5, x6, x7, x8⟩, sa0, sa1, sa2, sx0, sx1, sx2, _⟩ := HK.out g3 HBg3.out
  have HA0 : Hid (Sl g3 .u8 a0 C0) := sa0
  have HX0 : Hid (Sl g3 .u8 b0 C0) := sx0
  have HA1 : Hid (Sl g3 .u8 a1 C1) := sa1
  have HX1 : Hid (Sl g3 .u8 b1 C1) := sx1
  have HA2 : Hid (Sl g3 .u8 a2 C2) := sa2
  have HX2 : Hid (Sl g3 .u8 b2 C2) := sx2
  clear sa0 sa1 sa2 sx0 sx1 sx2
  go_wp2_with fail
  refine (sameFrame_true HX0.out HX1.out HX2.out HA0.out HA1.out HA2.out HL0.out HL1.out HL2.out).mono ?_
  rintro e g4 ⟨rfl, hb4⟩
  have HB4' : Hid (Below V.heap.size V g4) := below_to HBg3.out hb4
  clear hb4
  clear p0 x0 p1 x1 p2 x2 p3 x3 p4 x4 p5 x5 p6 x6 p7 x7 p8 x8 HA0 HA1 HA2 HX0 HX1 HX2
  go_wp2_with fail
  refine works_true.mono ?_
  rintro e g5 ⟨rfl, hb5⟩
  have HB5' : Hid (Below V.heap.size V g5) := below_to HB4'.out hb5
  clear hb5
  go_wp2_with fail
  go_ret
  exact ⟨rfl, (HBU.out.trans (HV.out.mono HBU.out.size)).trans (HB5'.out.mono (Nat.le_trans HBU.out.size HV.out.size))⟩

end Go.Proofs.Ytlgfkkegehpllaa
