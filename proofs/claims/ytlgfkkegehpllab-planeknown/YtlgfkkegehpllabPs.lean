/- DERIVED. Coded and Crop of frames that may be, Coded refused; the statements' own four, Bring, solid, inside. -/
import Derived.Test.YtlgfkkegehpllabPr
namespace Go.Proofs.Ytlgfkkegehpllab
open Go.RowKit

/-- a frame that may be, in memory -/
structure Fr (w : World) (x y x2 y2 : Nat) (a0 a1 a2 : Option Addr) (c0 c1 c2 : Nat) (C0 C1 C2 : List Nat) : Prop where
  vx : Vs (x : Int)
  vy : Vs (y : Int)
  ex : x2 = x / 2
  ey : y2 = y / 2
  l0 : C0.length = x * y
  l1 : C1.length = x2 * y2
  l2 : C2.length = x2 * y2
  k0 : C0.length ≤ c0
  k1 : C1.length ≤ c1
  k2 : C2.length ≤ c2
  s0 : Sl w .u8 a0 C0
  s1 : Sl w .u8 a1 C1
  s2 : Sl w .u8 a2 C2
theorem Fr.bx {w : World} {x y x2 y2 : Nat} {a0 a1 a2 : Option Addr} {c0 c1 c2 : Nat} {C0 C1 C2 : List Nat} (F : Fr w x y x2 y2 a0 a1 a2 c0 c1 c2 C0 C1 C2) : 16 ≤ x ∧ x ≤ 256 ∧ x % 2 = 0 ∧ 16 ≤ y ∧ y ≤ 256 ∧ y % 2 = 0 := by
  have h1 := F.vx.lo; have h2 := F.vx.hi; have h3 := F.vx.even; have h4 := F.vy.lo; have h5 := F.vy.hi; have h6 := F.vy.even
  omega
theorem Fr.to {w w' : World} {x y x2 y2 : Nat} {a0 a1 a2 : Option Addr} {c0 c1 c2 : Nat} {C0 C1 C2 : List Nat} (F : Fr w x y x2 y2 a0 a1 a2 c0 c1 c2 C0 C1 C2) (hb : Below w.heap.size w w') : Fr w' x y x2 y2 a0 a1 a2 c0 c1 c2 C0 C1 C2 :=
  ⟨F.vx, F.vy, F.ex, F.ey, F.l0, F.l1, F.l2, F.k0, F.k1, F.k2, F.s0.to hb, F.s1.to hb, F.s2.to hb⟩
theorem Fr.fok {w : World} {x y x2 y2 : Nat} {a0 a1 a2 : Option Addr} {c0 c1 c2 : Nat} {C0 C1 C2 : List Nat} (F : Fr w x y x2 y2 a0 a1 a2 c0 c1 c2 C0 C1 C2) : FOk ⟨(x : Int), (y : Int), a0, c0, C0⟩ ⟨(x2 : Int), (y2 : Int), a1, c1, C1⟩ ⟨(x2 : Int), (y2 : Int), a2, c2, C2⟩ := by
  obtain ⟨h1, h2, h3, h4, h5, h6⟩ := F.bx
  have e1 := F.ex
  have e2 := F.ey
  exact ⟨F.vx, F.vy, POk.of (by omega) (by omega) (by omega) (by omega) F.l0, by simp only; omega, by simp only; omega, POk.of (by omega) (by omega) (by omega) (by omega) F.l1, by simp only; omega, by simp only; omega, POk.of (by omega) (by omega) (by omega) (by omega) F.l2⟩
theorem Fr.of {w : World} {p q r : Pv} (h : FOk p q r) (k0 : p.C.length ≤ p.c) (k1 : q.C.length ≤ q.c) (k2 : r.C.length ≤ r.c) (s0 : Sl w .u8 p.a p.C) (s1 : Sl w .u8 q.a q.C) (s2 : Sl w .u8 r.a r.C) :
    ∃ x y x2 y2 : Nat, p.W = (x : Int) ∧ p.H = (y : Int) ∧ q.W = (x2 : Int) ∧ q.H = (y2 : Int) ∧ r.W = (x2 : Int) ∧ r.H = (y2 : Int) ∧ Fr w x y x2 y2 p.a q.a r.a p.c q.c r.c p.C q.C r.C := by
  obtain ⟨x, y, ex, ey, b1, b2, b3, b4, hl0⟩ := h.p0.nat
  obtain ⟨x1, y1, ex1, ey1, _, _, _, _, hl1⟩ := h.p1.nat
  obtain ⟨x2, y2, ex2, ey2, _, _, _, _, hl2⟩ := h.p2.nat
  have f1 := h.w1; have f2 := h.h1; have f3 := h.w2; have f4 := h.h2
  obtain rfl : x2 = x1 := by omega
  obtain rfl : y2 = y1 := by omega
  exact ⟨x, y, x2, y2, ex, ey, ex1, ey1, ex2, ey2, by rw [← ex]; exact h.w, by rw [← ey]; exact h.h, by omega, by omega, hl0, hl1, hl2, k0, k1, k2, s0, s1, s2⟩

theorem coded_ok {u : World} {x y x2 y2 w h w2 h2 : Nat} {a0 a1 a2 : Option Addr} {c0 c1 c2 : Nat} {C0 C1 C2 : List Nat} (F : Fr u x y x2 y2 a0 a1 a2 c0 c1 c2 C0 C1 C2) (ew : w = cs x) (eh : h = cs y) (e1 : w2 = w / 2) (e2 : h2 = h / 2) :
    Calls Try.prog 27 #[.agg #[.int .i64 (x : Int), .int .i64 (y : Int), .slice a0 C0.length c0, .int .i64 (x2 : Int), .int .i64 (y2 : Int), .slice a1 C1.length c1, .int .i64 (x2 : Int), .int .i64 (y2 : Int), .slice a2 C2.length c2]] u fun e w' => Fn u w' e w h w2 h2 w2 h2 (padL x y C0 w h) (padL x2 y2 C1 w2 h2) (padL x2 y2 C2 w2 h2) := by
  obtain ⟨b1, b2, b3, b4, b5, b6⟩ := F.bx
  have hx := cs_le b2
  have hy := cs_le b5
  have f1 := F.ex
  have f2 := F.ey
  exact coded_walk (fk_ok F.fok) ew eh b2 b5 e1 e2 F.s0 F.s1 F.s2 (fun v s => pad_ok s (by omega) (by omega) (by omega) (by omega) F.l0 F.k0 (by omega) (by omega) (by omega) (by omega)) (fun v s => pad_ok s (by omega) (by omega) (by omega) (by omega) F.l1 F.k1 (by omega) (by omega) (by omega) (by omega)) (fun v s => pad_ok s (by omega) (by omega) (by omega) (by omega) F.l2 F.k2 (by omega) (by omega) (by omega) (by omega))

theorem crop_ok {u : World} {x y x2 y2 w h w2 h2 : Nat} {a0 a1 a2 : Option Addr} {c0 c1 c2 : Nat} {C0 C1 C2 : List Nat} (F : Fr u x y x2 y2 a0 a1 a2 c0 c1 c2 C0 C1 C2) (vw : Vs (w : Int)) (vh : Vs (h : Int)) (lw : w ≤ x) (lh : h ≤ y) (e1 : w2 = w / 2) (e2 : h2 = h / 2) :
    Calls Try.prog 15 #[.agg #[.int .i64 (x : Int), .int .i64 (y : Int), .slice a0 C0.length c0, .int .i64 (x2 : Int), .int .i64 (y2 : Int), .slice a1 C1.length c1, .int .i64 (x2 : Int), .int .i64 (y2 : Int), .slice a2 C2.length c2], .int .i64 (w : Int), .int .i64 (h : Int)] u fun e w' => Fn u w' e w h w2 h2 w2 h2 (cutL x C0 0 0 w h) (cutL x2 C1 0 0 w2 h2) (cutL x2 C2 0 0 w2 h2) := by
  obtain ⟨b1, b2, b3, b4, b5, b6⟩ := F.bx
  have f1 := F.ex
  have f2 := F.ey
  have g1 := vw.lo
  have g2 := vh.lo
  exact crop_walk (fk_ok F.fok) vw vh lw lh e1 e2 F.s0 F.s1 F.s2 (fun v s => cut_ok (X := 0) (Y := 0) s (by omega) (by omega) (by omega) (by omega) F.l0 F.k0 (by omega) (by omega) (by omega) (by omega)) (fun v s => cut_ok (X := 0) (Y := 0) s (by omega) (by omega) (by omega) (by omega) F.l1 F.k1 (by omega) (by omega) (by omega) (by omega)) (fun v s => cut_ok (X := 0) (Y := 0) s (by omega) (by omega) (by omega) (by omega) F.l2 F.k2 (by omega) (by omega) (by omega) (by omega))

theorem Rw.ofAlloc {w : World} {cs : Array Value} {C : List Nat} {g : Nat} (hg : w.heap.size = g) (h : cs = (ns .u8 C).toArray) : Rw (w.alloc (.cells cs 5)) g C := by subst hg h; exact ⟨heap_alloc_new w _⟩

set_option maxHeartbeats 1000000 in
theorem four_ok {u : World} : Calls Try.prog 4 #[] u fun e w' => ∃ g, e = .returned (.agg #[.int .i64 2, .int .i64 2, .slice (some ⟨g, 0, none⟩) 4 4]) ∧ u.heap.size ≤ g ∧ Rw w' g [1, 2, 3, 4] ∧ Below u.heap.size u w' := by
  go_enter Try.func4, Try.ntmps4
  go_wp2
  go_returns
  exact ⟨_, rfl, by omega, Rw.ofAlloc (by simp) (by simp [ns]), by go_grown⟩

/-- what Bring answers -/
def br (i n : Int) : Int := if n ≤ 0 then 0 else i % n
theorem br_in {i n : Int} (h : 0 < n) : 0 ≤ br i n ∧ br i n < n := by unfold br; rw [if_neg (by omega)]; exact ⟨Int.emod_nonneg _ (by omega), Int.emod_lt_of_pos _ h⟩


end Go.Proofs.Ytlgfkkegehpllab
