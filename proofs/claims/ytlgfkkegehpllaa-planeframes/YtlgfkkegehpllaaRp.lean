/- DERIVED. The document's Coded and Crop, of frames that may be. -/
import Derived.Test.YtlgfkkegehpllaaRm
import Derived.Test.YtlgfkkegehpllaaQh
import Derived.Test.YtlgfkkegehpllaaQe
import Derived.Test.YtlgfkkegehpllaaPs
namespace Go.Proofs.Ytlgfkkegehpllaa
open Go.RowKit

theorem cut_pad {x y w h : Nat} {C : List Nat} (hw : w ≤ x) (hh : h ≤ y) : cutL x C 0 0 w h = padL x y C w h := by
  unfold cutL padL
  refine tab_eq fun j hj => ?_
  have hw0 : 0 < w := by
    rcases Nat.eq_zero_or_pos w with e | e
    · subst e; simp at hj
    · exact e
  have h1 : j / w < h := by rw [Nat.div_lt_iff_lt_mul hw0, Nat.mul_comm]; exact hj
  have h2 : j % w < w := Nat.mod_lt _ hw0
  unfold cutF padF
  simp only [Nat.zero_add]
  rw [show min (j / w) (y - 1) = j / w by omega, show min (j % w) (x - 1) = j % w by omega]

set_option maxRecDepth 100000 in
set_option maxHeartbeats 2000000 in
theorem rcoded_ok {u : World} {x y x2 y2 w h w2 h2 : Nat} {a0 a1 a2 : Option Addr} {c0 c1 c2 : Nat} {C0 C1 C2 : List Nat} (F : Fr u x y x2 y2 a0 a1 a2 c0 c1 c2 C0 C1 C2) (ew : w = cs x) (eh : h = cs y) (e1 : w2 = w / 2) (e2 : h2 = h / 2) :
    Calls Try.prog 37 #[.agg #[.int .i64 (x : Int), .int .i64 (y : Int), .slice a0 C0.length c0, .int .i64 (x2 : Int), .int .i64 (y2 : Int), .slice a1 C1.length c1, .int .i64 (x2 : Int), .int .i64 (y2 : Int), .slice a2 C2.length c2]] u fun e w' => Fn u w' e w h w2 h2 w2 h2 (padL x y C0 w h) (padL x2 y2 C1 w2 h2) (padL x2 y2 C2 w2 h2) := by
  obtain ⟨b1, b2, b3, b4, b5, b6⟩ := F.bx
  have f1 := F.ex
  have f2 := F.ey
  have hx := cs_le b2
  have hy := cs_le b5
  obtain ⟨qx, hqx⟩ : ∃ q : Nat, q = (x + 7) / 8 := ⟨_, rfl⟩
  obtain ⟨qy, hqy⟩ : ∃ q : Nat, q = (y + 7) / 8 := ⟨_, rfl⟩
  have ew2 : ((x : Int) + 7) / 8 = (qx : Int) := by omega
  have eh2 : ((y : Int) + 7) / 8 = (qy : Int) := by omega
  have ew3 : (qx : Int) * 8 = (w : Int) := by rw [ew]; unfold cs; omega
  have eh3 : (qy : Int) * 8 = (h : Int) := by rw [eh]; unfold cs; omega
  have ew4 : (w : Int) ≤ 256 := by omega
  have eh4 : (h : Int) ≤ 256 := by omega
  have ew5 : (qx : Int) ≤ 32 := by omega
  have eh5 : (qy : Int) ≤ 32 := by omega
  have HEW : Hid (w = cs x) := ew
  have HEH : Hid (h = cs y) := eh
  clear hqx hqy
  have x1 : (x : Int) ≤ 256 := by omega
  have y1 : (y : Int) ≤ 256 := by omega
  have HZ : Hid (∀ v : World, Sl v .u8 a0 C0 → Sl v .u8 a1 C1 → Sl v .u8 a2 C2 → Calls Try.prog 60 #[.agg #[.int .i64 (x : Int), .int .i64 (y : Int), .slice a0 C0.length c0, .int .i64 (x2 : Int), .int .i64 (y2 : Int), .slice a1 C1.length c1, .int .i64 (x2 : Int), .int .i64 (y2 : Int), .slice a2 C2.length c2], .int .i64 (w : Int), .int .i64 (h : Int)] v fun e w' => Fm v w' e w h w2 h2 w2 h2 (padL x y C0 w h) (padL x2 y2 C1 w2 h2) (padL x2 y2 C2 w2 h2)) := fun v t0 t1 t2 =>
    resized_walk e1 e2 (by omega) (by omega) t0 t1 t2 (fun v s => sized_ok s (by omega) (by omega) (by omega) (by omega) F.l0 (by omega) (by omega) (by omega)) (fun v s => sized_ok s (by omega) (by omega) (by omega) (by omega) F.l1 (by omega) (by omega) (by omega)) (fun v s => sized_ok s (by omega) (by omega) (by omega) (by omega) F.l2 (by omega) (by omega) (by omega))
  have hfk := fk_ok F.fok
  have HS0 : Hid (Sl u .u8 a0 C0) := F.s0
  have HS1 : Hid (Sl u .u8 a1 C1) := F.s1
  have HS2 : Hid (Sl u .u8 a2 C2) := F.s2
  generalize padL x y C0 w h = D0 at *
  generalize padL x2 y2 C1 w2 h2 = D1 at *
  generalize padL x2 y2 C2 w2 h2 = D2 at *
  clear F f1 f2 e1 e2 ew eh
  go_enter Try.func37, Try.ntmps37
  go_wp2_with fail
  refine rwhole_any.mono ?_
  rintro e w1 ⟨rfl, hb⟩
  rw [hfk]
  have s0 : w1.cell? ⟨u.heap.size + 1, 0, none⟩ = some (.int .i64 0) := by rw [newCell hb _ _ (by simp)]; simp [go_sem]
  have s1 : w1.cell? ⟨u.heap.size + 1, 1, none⟩ = some (.int .i64 0) := by rw [newCell hb _ _ (by simp)]; simp [go_sem]
  have s2 : w1.cell? ⟨u.heap.size + 1, 2, none⟩ = some (.slice none 0 0) := by rw [newCell hb _ _ (by simp)]; simp [go_sem]
  have s3 : w1.cell? ⟨u.heap.size + 1, 3, none⟩ = some (.int .i64 0) := by rw [newCell hb _ _ (by simp)]; simp [go_sem]
  have s4 : w1.cell? ⟨u.heap.size + 1, 4, none⟩ = some (.int .i64 0) := by rw [newCell hb _ _ (by simp)]; simp [go_sem]
  have s5 : w1.cell? ⟨u.heap.size + 1, 5, none⟩ = some (.slice none 0 0) := by rw [newCell hb _ _ (by simp)]; simp [go_sem]
  have s6 : w1.cell? ⟨u.heap.size + 1, 6, none⟩ = some (.int .i64 0) := by rw [newCell hb _ _ (by simp)]; simp [go_sem]
  have s7 : w1.cell? ⟨u.heap.size + 1, 7, none⟩ = some (.int .i64 0) := by rw [newCell hb _ _ (by simp)]; simp [go_sem]
  have s8 : w1.cell? ⟨u.heap.size + 1, 8, none⟩ = some (.slice none 0 0) := by rw [newCell hb _ _ (by simp)]; simp [go_sem]
  have th : ∀ o, w1.frozen? ⟨u.heap.size + 1, o, none⟩ = false := fun o => by rw [newFrozen hb _ _ (by simp)]; simp [go_sem]
  have p0 : w1.cell? ⟨u.heap.size, 0, none⟩ = some (.int .i64 (x : Int)) := by rw [newCell hb _ _ (by simp <;> omega)]; simp [go_sem]
  have p1 : w1.cell? ⟨u.heap.size, 1, none⟩ = some (.int .i64 (y : Int)) := by rw [newCell hb _ _ (by simp <;> omega)]; simp [go_sem]
  have p2 : w1.cell? ⟨u.heap.size, 2, none⟩ = some (.slice a0 C0.length c0) := by rw [newCell hb _ _ (by simp <;> omega)]; simp [go_sem]
  have p3 : w1.cell? ⟨u.heap.size, 3, none⟩ = some (.int .i64 (x2 : Int)) := by rw [newCell hb _ _ (by simp <;> omega)]; simp [go_sem]
  have p4 : w1.cell? ⟨u.heap.size, 4, none⟩ = some (.int .i64 (y2 : Int)) := by rw [newCell hb _ _ (by simp <;> omega)]; simp [go_sem]
  have p5 : w1.cell? ⟨u.heap.size, 5, none⟩ = some (.slice a1 C1.length c1) := by rw [newCell hb _ _ (by simp <;> omega)]; simp [go_sem]
  have p6 : w1.cell? ⟨u.heap.size, 6, none⟩ = some (.int .i64 (x2 : Int)) := by rw [newCell hb _ _ (by simp <;> omega)]; simp [go_sem]
  have p7 : w1.cell? ⟨u.heap.size, 7, none⟩ = some (.int .i64 (y2 : Int)) := by rw [newCell hb _ _ (by simp <;> omega)]; simp [go_sem]
  have p8 : w1.cell? ⟨u.heap.size, 8, none⟩ = some (.slice a2 C2.length c2) := by rw [newCell hb _ _ (by simp <;> omega)]; simp [go_sem]
  have HB : Hid (Below u.heap.size u w1) := below_to (to_alloc (from_alloc u _) _) hb
  have hz : u.heap.size + 2 ≤ w1.heap.size := by have := hb.size; simp at this; omega
  clear hb hfk
  go_wp2_with fail
  refine (HZ.out w1 (HS0.out.to HB.out) (HS1.out.to HB.out) (HS2.out.to HB.out)).mono ?_
  rintro e w3 ⟨g0, g1, g2, rfl, hr0, hr1, hr2, hg0, hg1, hg2, n01, n02, n12, hb3⟩
  have q0 : w3.cell? ⟨u.heap.size + 1, 0, none⟩ = some (.int .i64 0) := by rw [newCell hb3 _ _ (by omega)]; exact s0
  have q1 : w3.cell? ⟨u.heap.size + 1, 1, none⟩ = some (.int .i64 0) := by rw [newCell hb3 _ _ (by omega)]; exact s1
  have q2 : w3.cell? ⟨u.heap.size + 1, 2, none⟩ = some (.slice none 0 0) := by rw [newCell hb3 _ _ (by omega)]; exact s2
  have q3 : w3.cell? ⟨u.heap.size + 1, 3, none⟩ = some (.int .i64 0) := by rw [newCell hb3 _ _ (by omega)]; exact s3
  have q4 : w3.cell? ⟨u.heap.size + 1, 4, none⟩ = some (.int .i64 0) := by rw [newCell hb3 _ _ (by omega)]; exact s4
  have q5 : w3.cell? ⟨u.heap.size + 1, 5, none⟩ = some (.slice none 0 0) := by rw [newCell hb3 _ _ (by omega)]; exact s5
  have q6 : w3.cell? ⟨u.heap.size + 1, 6, none⟩ = some (.int .i64 0) := by rw [newCell hb3 _ _ (by omega)]; exact s6
  have q7 : w3.cell? ⟨u.heap.size + 1, 7, none⟩ = some (.int .i64 0) := by rw [newCell hb3 _ _ (by omega)]; exact s7
  have q8 : w3.cell? ⟨u.heap.size + 1, 8, none⟩ = some (.slice none 0 0) := by rw [newCell hb3 _ _ (by omega)]; exact s8
  have th3 : ∀ o, w3.frozen? ⟨u.heap.size + 1, o, none⟩ = false := fun o => by rw [newFrozen hb3 _ _ (by omega)]; exact th o
  have HB3 : Hid (Below u.heap.size u w3) := below_to HB.out hb3
  have HR0 : Hid (Rw w3 g0 D0) := hr0
  have HR1 : Hid (Rw w3 g1 D1) := hr1
  have HR2 : Hid (Rw w3 g2 D2) := hr2
  clear hr0 hr1 hr2 hb3 th s0 p0 s1 p1 s2 p2 s3 p3 s4 p4 s5 p5 s6 p6 s7 p7 s8 p8
  go_wp2_with fail
  refine bodyPost_ret (v := .tuple #[.agg #[.int .i64 (w : Int), .int .i64 (h : Int), .slice (some ⟨g0, 0, none⟩) D0.length D0.length, .int .i64 (w2 : Int), .int .i64 (h2 : Int), .slice (some ⟨g1, 0, none⟩) D1.length D1.length, .int .i64 (w2 : Int), .int .i64 (h2 : Int), .slice (some ⟨g2, 0, none⟩) D2.length D2.length], .int .i64 0]) (by simp [results, Try.results37, go_sem, q0, q1, q2, q3, q4, q5, q6, q7, q8]) rfl ?_
  have hk := Kb.set (Kb.set (Kb.set (Kb.set (Kb.set (Kb.set (Kb.set (Kb.set (Kb.set (Kb.refl (u.heap.size + 1) w3) 0 (.int .i64 (w : Int))) 1 (.int .i64 (h : Int))) 2 (.slice (some ⟨g0, 0, none⟩) D0.length D0.length)) 3 (.int .i64 (w2 : Int))) 4 (.int .i64 (h2 : Int))) 5 (.slice (some ⟨g1, 0, none⟩) D1.length D1.length)) 6 (.int .i64 (w2 : Int))) 7 (.int .i64 (h2 : Int))) 8 (.slice (some ⟨g2, 0, none⟩) D2.length D2.length)
  exact ⟨g0, g1, g2, rfl, HR0.out.carry (hk.block _ (by omega)), HR1.out.carry (hk.block _ (by omega)), HR2.out.carry (hk.block _ (by omega)), by omega, by omega, by omega, n01, n02, n12, HB3.out.trans (hk.below (by omega))⟩

set_option maxRecDepth 100000 in
set_option maxHeartbeats 2000000 in
theorem rcrop_ok {u : World} {x y x2 y2 w h w2 h2 : Nat} {a0 a1 a2 : Option Addr} {c0 c1 c2 : Nat} {C0 C1 C2 : List Nat} (F : Fr u x y x2 y2 a0 a1 a2 c0 c1 c2 C0 C1 C2) (vw : Vs (w : Int)) (vh : Vs (h : Int)) (lw : w ≤ x) (lh : h ≤ y) (e1 : w2 = w / 2) (e2 : h2 = h / 2) :
    Calls Try.prog 39 #[.agg #[.int .i64 (x : Int), .int .i64 (y : Int), .slice a0 C0.length c0, .int .i64 (x2 : Int), .int .i64 (y2 : Int), .slice a1 C1.length c1, .int .i64 (x2 : Int), .int .i64 (y2 : Int), .slice a2 C2.length c2], .int .i64 (w : Int), .int .i64 (h : Int)] u fun e w' => Fn u w' e w h w2 h2 w2 h2 (padL x y C0 w h) (padL x2 y2 C1 w2 h2) (padL x2 y2 C2 w2 h2) := by
  obtain ⟨b1, b2, b3, b4, b5, b6⟩ := F.bx
  have f1 := F.ex
  have f2 := F.ey
  have g1 := vw.lo
  have g2 := vh.lo
  have lw2 : ¬ (x : Int) < (w : Int) := by omega
  have lh2 : ¬ (y : Int) < (h : Int) := by omega
  have HZ : Hid (∀ v : World, Sl v .u8 a0 C0 → Sl v .u8 a1 C1 → Sl v .u8 a2 C2 → Calls Try.prog 60 #[.agg #[.int .i64 (x : Int), .int .i64 (y : Int), .slice a0 C0.length c0, .int .i64 (x2 : Int), .int .i64 (y2 : Int), .slice a1 C1.length c1, .int .i64 (x2 : Int), .int .i64 (y2 : Int), .slice a2 C2.length c2], .int .i64 (w : Int), .int .i64 (h : Int)] v fun e w' => Fm v w' e w h w2 h2 w2 h2 (padL x y C0 w h) (padL x2 y2 C1 w2 h2) (padL x2 y2 C2 w2 h2)) := fun v t0 t1 t2 =>
    resized_walk e1 e2 (by omega) (by omega) t0 t1 t2 (fun v s => sized_ok s (by omega) (by omega) (by omega) (by omega) F.l0 (by omega) (by omega) (by omega)) (fun v s => sized_ok s (by omega) (by omega) (by omega) (by omega) F.l1 (by omega) (by omega) (by omega)) (fun v s => sized_ok s (by omega) (by omega) (by omega) (by omega) F.l2 (by omega) (by omega) (by omega))
  have hfk := fk_ok F.fok
  have HS0 : Hid (Sl u .u8 a0 C0) := F.s0
  have HS1 : Hid (Sl u .u8 a1 C1) := F.s1
  have HS2 : Hid (Sl u .u8 a2 C2) := F.s2
  generalize padL x y C0 w h = D0 at *
  generalize padL x2 y2 C1 w2 h2 = D1 at *
  generalize padL x2 y2 C2 w2 h2 = D2 at *
  clear F f1 f2 e1 e2 
  go_enter Try.func39, Try.ntmps39
  go_wp2_with fail
  refine rwhole_any.mono ?_
  rintro e w1 ⟨rfl, hb⟩
  rw [hfk]
  have s0 : w1.cell? ⟨u.heap.size + 1, 0, none⟩ = some (.int .i64 0) := by rw [newCell hb _ _ (by simp)]; simp [go_sem]
  have s1 : w1.cell? ⟨u.heap.size + 1, 1, none⟩ = some (.int .i64 0) := by rw [newCell hb _ _ (by simp)]; simp [go_sem]
  have s2 : w1.cell? ⟨u.heap.size + 1, 2, none⟩ = some (.slice none 0 0) := by rw [newCell hb _ _ (by simp)]; simp [go_sem]
  have s3 : w1.cell? ⟨u.heap.size + 1, 3, none⟩ = some (.int .i64 0) := by rw [newCell hb _ _ (by simp)]; simp [go_sem]
  have s4 : w1.cell? ⟨u.heap.size + 1, 4, none⟩ = some (.int .i64 0) := by rw [newCell hb _ _ (by simp)]; simp [go_sem]
  have s5 : w1.cell? ⟨u.heap.size + 1, 5, none⟩ = some (.slice none 0 0) := by rw [newCell hb _ _ (by simp)]; simp [go_sem]
  have s6 : w1.cell? ⟨u.heap.size + 1, 6, none⟩ = some (.int .i64 0) := by rw [newCell hb _ _ (by simp)]; simp [go_sem]
  have s7 : w1.cell? ⟨u.heap.size + 1, 7, none⟩ = some (.int .i64 0) := by rw [newCell hb _ _ (by simp)]; simp [go_sem]
  have s8 : w1.cell? ⟨u.heap.size + 1, 8, none⟩ = some (.slice none 0 0) := by rw [newCell hb _ _ (by simp)]; simp [go_sem]
  have th : ∀ o, w1.frozen? ⟨u.heap.size + 1, o, none⟩ = false := fun o => by rw [newFrozen hb _ _ (by simp)]; simp [go_sem]
  have p0 : w1.cell? ⟨u.heap.size, 0, none⟩ = some (.int .i64 (x : Int)) := by rw [newCell hb _ _ (by simp <;> omega)]; simp [go_sem]
  have p1 : w1.cell? ⟨u.heap.size, 1, none⟩ = some (.int .i64 (y : Int)) := by rw [newCell hb _ _ (by simp <;> omega)]; simp [go_sem]
  have p2 : w1.cell? ⟨u.heap.size, 2, none⟩ = some (.slice a0 C0.length c0) := by rw [newCell hb _ _ (by simp <;> omega)]; simp [go_sem]
  have p3 : w1.cell? ⟨u.heap.size, 3, none⟩ = some (.int .i64 (x2 : Int)) := by rw [newCell hb _ _ (by simp <;> omega)]; simp [go_sem]
  have p4 : w1.cell? ⟨u.heap.size, 4, none⟩ = some (.int .i64 (y2 : Int)) := by rw [newCell hb _ _ (by simp <;> omega)]; simp [go_sem]
  have p5 : w1.cell? ⟨u.heap.size, 5, none⟩ = some (.slice a1 C1.length c1) := by rw [newCell hb _ _ (by simp <;> omega)]; simp [go_sem]
  have p6 : w1.cell? ⟨u.heap.size, 6, none⟩ = some (.int .i64 (x2 : Int)) := by rw [newCell hb _ _ (by simp <;> omega)]; simp [go_sem]
  have p7 : w1.cell? ⟨u.heap.size, 7, none⟩ = some (.int .i64 (y2 : Int)) := by rw [newCell hb _ _ (by simp <;> omega)]; simp [go_sem]
  have p8 : w1.cell? ⟨u.heap.size, 8, none⟩ = some (.slice a2 C2.length c2) := by rw [newCell hb _ _ (by simp <;> omega)]; simp [go_sem]
  have HB : Hid (Below u.heap.size u w1) := below_to (to_alloc (from_alloc u _) _) hb
  have hz : u.heap.size + 2 ≤ w1.heap.size := by have := hb.size; simp at this; omega
  clear hb hfk
  go_wp2_with fail
  refine (ry vw).mono ?_
  rintro e wq ⟨rfl, rfl⟩
  go_wp2_with fail
  refine (ry vh).mono ?_
  rintro e wq ⟨rfl, rfl⟩
  go_wp2_with fail
  refine (HZ.out w1 (HS0.out.to HB.out) (HS1.out.to HB.out) (HS2.out.to HB.out)).mono ?_
  rintro e w3 ⟨g0, g1, g2, rfl, hr0, hr1, hr2, hg0, hg1, hg2, n01, n02, n12, hb3⟩
  have q0 : w3.cell? ⟨u.heap.size + 1, 0, none⟩ = some (.int .i64 0) := by rw [newCell hb3 _ _ (by omega)]; exact s0
  have q1 : w3.cell? ⟨u.heap.size + 1, 1, none⟩ = some (.int .i64 0) := by rw [newCell hb3 _ _ (by omega)]; exact s1
  have q2 : w3.cell? ⟨u.heap.size + 1, 2, none⟩ = some (.slice none 0 0) := by rw [newCell hb3 _ _ (by omega)]; exact s2
  have q3 : w3.cell? ⟨u.heap.size + 1, 3, none⟩ = some (.int .i64 0) := by rw [newCell hb3 _ _ (by omega)]; exact s3
  have q4 : w3.cell? ⟨u.heap.size + 1, 4, none⟩ = some (.int .i64 0) := by rw [newCell hb3 _ _ (by omega)]; exact s4
  have q5 : w3.cell? ⟨u.heap.size + 1, 5, none⟩ = some (.slice none 0 0) := by rw [newCell hb3 _ _ (by omega)]; exact s5
  have q6 : w3.cell? ⟨u.heap.size + 1, 6, none⟩ = some (.int .i64 0) := by rw [newCell hb3 _ _ (by omega)]; exact s6
  have q7 : w3.cell? ⟨u.heap.size + 1, 7, none⟩ = some (.int .i64 0) := by rw [newCell hb3 _ _ (by omega)]; exact s7
  have q8 : w3.cell? ⟨u.heap.size + 1, 8, none⟩ = some (.slice none 0 0) := by rw [newCell hb3 _ _ (by omega)]; exact s8
  have th3 : ∀ o, w3.frozen? ⟨u.heap.size + 1, o, none⟩ = false := fun o => by rw [newFrozen hb3 _ _ (by omega)]; exact th o
  have HB3 : Hid (Below u.heap.size u w3) := below_to HB.out hb3
  have HR0 : Hid (Rw w3 g0 D0) := hr0
  have HR1 : Hid (Rw w3 g1 D1) := hr1
  have HR2 : Hid (Rw w3 g2 D2) := hr2
  clear hr0 hr1 hr2 hb3 th s0 p0 s1 p1 s2 p2 s3 p3 s4 p4 s5 p5 s6 p6 s7 p7 s8 p8
  go_wp2_with fail
  refine bodyPost_ret (v := .tuple #[.agg #[.int .i64 (w : Int), .int .i64 (h : Int), .slice (some ⟨g0, 0, none⟩) D0.length D0.length, .int .i64 (w2 : Int), .int .i64 (h2 : Int), .slice (some ⟨g1, 0, none⟩) D1.length D1.length, .int .i64 (w2 : Int), .int .i64 (h2 : Int), .slice (some ⟨g2, 0, none⟩) D2.length D2.length], .int .i64 0]) (by simp [results, Try.results39, go_sem, q0, q1, q2, q3, q4, q5, q6, q7, q8]) rfl ?_
  have hk := Kb.set (Kb.set (Kb.set (Kb.set (Kb.set (Kb.set (Kb.set (Kb.set (Kb.set (Kb.refl (u.heap.size + 1) w3) 0 (.int .i64 (w : Int))) 1 (.int .i64 (h : Int))) 2 (.slice (some ⟨g0, 0, none⟩) D0.length D0.length)) 3 (.int .i64 (w2 : Int))) 4 (.int .i64 (h2 : Int))) 5 (.slice (some ⟨g1, 0, none⟩) D1.length D1.length)) 6 (.int .i64 (w2 : Int))) 7 (.int .i64 (h2 : Int))) 8 (.slice (some ⟨g2, 0, none⟩) D2.length D2.length)
  exact ⟨g0, g1, g2, rfl, HR0.out.carry (hk.block _ (by omega)), HR1.out.carry (hk.block _ (by omega)), HR2.out.carry (hk.block _ (by omega)), by omega, by omega, by omega, n01, n02, n12, HB3.out.trans (hk.below (by omega))⟩

end Go.Proofs.Ytlgfkkegehpllaa
