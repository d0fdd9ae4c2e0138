/- DERIVED. The walk of awake. -/
import Derived.Test.YtkmnpechhdendaaDoorYk
namespace Go.Proofs.YtkmnpechhdendaaDoor
open Go.RowKit L3

def wkL : List Int := [-20, 1, 0, 0, 0, 0, 0, 0, 0, 0, 0, 0, 0, 0, 0, 0]
theorem wk_lv : Lv 4 wkL := ⟨rfl, fun p => by
  by_cases hp : p < 16
  · have : ∀ p, p < 16 → -1048576 ≤ wkL.getD p 0 ∧ wkL.getD p 0 ≤ 1048576 := by decide +kernel
    exact this p hp
  · rw [List.getD_eq_getElem?_getD, List.getElem?_eq_none (by show 16 ≤ p; omega)]; simp⟩
theorem wk_count : (cw 4 4 1 2 wkL).wc = 15 := by decide +kernel
theorem wk_sz : L10.Sz 4 4 := Or.inl ⟨rfl, rfl⟩
theorem wk_run : (cw 4 4 1 2 wkL).run (wS true) = (some wkL, ((cw 4 4 1 2 wkL).run (wS true)).2) ∧ ((cw 4 4 1 2 wkL).run (wS true)).2.n = 15 ∧ ((cw 4 4 1 2 wkL).run (wS true)).2.W = true := by
  have r := cw_ran (wS_ok true) (by show (0 : Nat) ≤ _; omega) wk_sz (col := 1) (sg := 2) (by omega) (by omega) (fun _ => wk_lv)
  obtain ⟨a, h1, h2⟩ := r.wri rfl
  refine ⟨Prod.ext (by rw [h1, h2]) rfl, ?_, r.w⟩
  rw [Prg.run_wc _ _ rfl, wk_count]; rfl
/-- what a reader of a writer's bytes makes of one block -/
theorem one_read {ad : Bool} {zs : List Nat} (hz : ∀ i, zs.getD i 0 < 256) {z : Int} {n col sg : Nat} (hs : L10.Sz z n) (hc : col ≤ 1) (hg : sg ≤ 2) {L : List Int} (hL : Lv n L) (hp : L2.pre zs (((cw z n col sg L).run (wS ad)).2.c + 4) = ((cw z n col sg L).run (wS ad)).2.a) :
    ((cr z n col sg).run (rS ad zs)).1 = some L ∧ ((cr z n col sg).run (rS ad zs)).2.n = ((cw z n col sg L).run (wS ad)).2.n := by
  have r := cw_ran (wS_ok ad) (by show (0 : Nat) ≤ _; omega) hs hc hg (fun _ => hL)
  obtain ⟨a, h1, h2⟩ := r.wri rfl
  have htw := cw_tw hs hc hg hL
  have hev := (r.so.ev (by rw [r.w]; rfl)).1
  have hI := run_inc _ _ _ htw (wS_ok ad) rfl
  have hg0 : 0 < ((cw z n col sg L).run (wS ad)).2.b := by have := hev.least; omega
  have hy := run_syn hz hg0 hp _ _ _ _ htw (wS_ok ad) (rS_ok ad hz) rfl (syn_first hz hI hg0 hp) (L2.Inc.refl _ _ _)
  exact ⟨by rw [hy.1, h1, h2], hy.2.n⟩

theorem ri_si {w : World} {g : Nat} {C : List Int} (h : L10.Ri 3 w g C) : L10.Si w (some ⟨g, 0, none⟩) C := Or.inr ⟨g, 0, rfl, h.lt, fun j hj => by rw [Nat.zero_add]; exact h.cell j hj⟩

set_option maxRecDepth 100000 in
set_option maxHeartbeats 2000000 in
theorem awake_ok (hcl : CodeLaw) {w : World} (hsh : Sh w) (hnt : L10.Nt w) : Calls Tryd.prog 6 #[] w fun e w' => e = .returned (.bool true) ∧ Below w.heap.size w w' := by
  have HCL : Hid CodeLaw := hcl
  have HSh : Hid (∀ u, Below w.heap.size w u → Sh u ∧ L10.Nt u) := fun u hu => ⟨hsh.to hu, hnt.to hu⟩
  have HW2 : Hid (1 < w.heap.size) := hnt.low
  have hmk : ∀ u : World, (Instr.makeSlice 32 (.int .i64 16) (.int .i64 16)).run Tryd.prog u = .ok (.slice (some ⟨u.heap.size, 0, none⟩) 16 16) (u.alloc (.cells (madeCells #[.int .i64 0] 16) 3)) := fun u => L10.mk_ints (n := 16) (by omega) u
  have hr0 := L10.Ri.made 3 w 16 rfl
  have c0 := hr0.cell 0 (by simp)
  have f0 := hr0.thaw 0
  have he1 : ((madeCells #[.int .i64 0] 16).setIfInBounds 0 (.int .i64 (-20))) = (L10.is (-20 :: List.replicate 15 0)).toArray := by kernel_rfl
  have hr1 : L10.Ri 3 (w.alloc (.cells ((madeCells #[.int .i64 0] 16).setIfInBounds 0 (.int .i64 (-20))) 3)) w.heap.size (-20 :: List.replicate 15 0) := by rw [he1]; exact L10.Ri.built 3 w _ rfl
  have c1 := hr1.cell 1 (by simp)
  have f1 := hr1.thaw 1
  clear hr0 hr1 he1
  have he : (((madeCells #[.int .i64 0] 16).setIfInBounds 0 (.int .i64 (-20))).setIfInBounds 1 (.int .i64 1)) = (L10.is wkL).toArray := by kernel_rfl
  have HRi : Hid (L10.Ri 3 (w.alloc (.cells (((madeCells #[.int .i64 0] 16).setIfInBounds 0 (.int .i64 (-20))).setIfInBounds 1 (.int .i64 1)) 3)) w.heap.size wkL) := by show L10.Ri _ _ _ _; rw [he]; exact L10.Ri.built 3 w wkL rfl
  have HB0 : Hid (Below w.heap.size w (w.alloc (.cells (((madeCells #[.int .i64 0] 16).setIfInBounds 0 (.int .i64 (-20))).setIfInBounds 1 (.int .i64 1)) 3))) := L10.from_alloc w _
  clear he hcl hsh hnt
  go_enter Tryd.func6, Tryd.ntmps6
  go_wp2_with fail
  generalize (w.alloc (.cells (((madeCells #[.int .i64 0] 16).setIfInBounds 0 (.int .i64 (-20))).setIfInBounds 1 (.int .i64 1)) 3)) = w1 at *
  generalize hg : w.heap.size = g at *
  have HG : Hid (w.heap.size = g) := hg
  clear hg hmk c0 c1 f0 f1
  have hz1 : g ≤ w1.heap.size := by have := HB0.out.size; have := HG.out; omega
  obtain ⟨sh1, nt1⟩ := HSh.out _ HB0.out
  refine (default_hs sh1).mono ?_
  rintro e w2 ⟨bt2, B2, rfl, hs2, hb2⟩
  have HB2 : Hid (Below g w w2) := HB0.out.trans (hb2.mono hz1)
  have HR2 : Hid (L10.Ri 3 w2 g wkL) := HRi.out.to hb2
  obtain ⟨sh2, nt2⟩ := HSh.out _ HB2.out
  have HWr : Hid (Calls Tryd.prog 7 #[.agg #[.slice (some ⟨bt2, 0, none⟩) 32 32], .bool true] w2 fun e w' => ∃ x O, e = .returned (.tuple #[.pointer (some ⟨x, 0, none⟩), .int .i64 0]) ∧ Cd w' w2.heap.size x O (wS true) ∧ (∀ y, O y → w2.heap.size ≤ y) ∧ Below w2.heap.size w2 w') := writer_cd sh2 hs2
  clear hs2 hb2 sh1 nt1 sh2 nt2
  go_wp2_with fail
  refine HWr.out.mono ?_
  rintro e w3 ⟨x, O, rfl, hc3, ho3, hb3⟩
  have hz2 : g ≤ w2.heap.size := by have := HB2.out.size; have := HG.out; omega
  have hg2 : g < w2.heap.size := HR2.out.lt
  have HB3 : Hid (Below g w w3) := HB2.out.trans (hb3.mono hz2)
  have HR3 : Hid (L10.Ri 3 w3 g wkL) := HR2.out.to hb3
  obtain ⟨sh3, nt3⟩ := HSh.out _ HB3.out
  have HL2 : Hid (1 < w2.heap.size) := by show 1 < _; have := HW2.out; have := HB2.out.size; omega
  have HK3 : Hid (Calls Tryd.prog 10 #[.pointer (some ⟨x, 0, none⟩), .int .i64 4, .int .i64 ((1 : Nat) : Int), .int .i64 ((2 : Nat) : Int), .slice (some ⟨g, 0, none⟩) (4 * 4) 16] w3 fun en w' => Kc w3 w' w2.heap.size x O (4 * 4) ((cw 4 4 1 2 wkL).run (wS true)) en) :=
    kcode_w HCL.out hc3 sh3 nt3 HL2.out (by show (0 : Nat) ≤ _; omega) wk_sz (by omega) (by omega) rfl wk_lv HR3.out.lt (fun e => by have := ho3 _ e; omega) (fun p hp => by rw [Nat.zero_add]; exact HR3.out.cell p hp)
  have HOl : Hid (∀ y, O y → w2.heap.size ≤ y) := ho3
  have HZ3 : Hid (w2.heap.size ≤ w3.heap.size) := hb3.size
  have HOg : ¬ O g := fun e => by have := ho3 _ e; omega
  clear hc3 ho3 hb3 HWr sh3 nt3
  go_wp2_with fail
  refine HK3.out.mono ?_
  rintro e w4 ⟨O4, hc4, ht4, hb4, hy4, -⟩
  obtain ⟨g4, rfl, hr4, hl4, hn4⟩ := hy4 wkL (by rw [wk_run.1])
  have hz3 : g < w3.heap.size := HR3.out.lt
  obtain ⟨-, hn15, hWt⟩ := wk_run
  have HOn : Hid (¬ O g) := HOg
  generalize hs4 : ((cw 4 4 1 2 wkL).run (wS true)).2 = s4 at *
  have HB4 : Hid (Below g w w4) := HB3.out.trans (hb4.mono hz2)
  have HR4 : Hid (L10.Ri 3 w4 g wkL) := HR3.out.carry (ht4.ke.block g hz3 HOn.out)
  have HA4 : Hid (L10.Ri 3 w4 g4 wkL ∧ ¬ O4 g4) := ⟨hr4, hn4⟩
  have HC4 : Hid (Cd w4 w2.heap.size x O4 s4) := hc4
  have HN4 : Hid (¬ O4 g) := by
    intro e
    rcases ht4.new g e with e2 | e2
    · exact HOn.out e2
    · omega
  have HBy : Hid (Calls Tryd.prog 12 #[.pointer (some ⟨x, 0, none⟩)] w4 fun e w' => ∃ v, e = .returned (.tuple #[v, .int .i64 0]) ∧ ∃ zs, L2.SrcOf w' v zs ∧ (∀ i, zs.getD i 0 < 256) ∧ zs.length ≤ 140737488355328 ∧ L2.pre zs (s4.c + 4) = s4.a ∧ Below w4.heap.size w4 w') := bytes_cd hc4 hWt (by rw [hn15]; omega)
  have HS4 : Hid (((cw 4 4 1 2 wkL).run (wS true)).2 = s4) := hs4
  have HO4 : Hid (∀ y, O4 y → 1 < y ∧ y < w4.heap.size) := fun y hy => ⟨by
    rcases ht4.new y hy with e2 | e2
    · have h1 := HOl.out y e2; have h2 := HL2.out; omega
    · have h2 := HL2.out; have h3 := HZ3.out; omega, hc4.lt hy⟩
  have HG4 : Hid (1 < g4) := by show 1 < g4; have h2 := HL2.out; have h3 := HZ3.out; omega
  clear hc4 ht4 hb4 hr4 hl4 hn4 hs4 hy4 HK3 HOn
  go_wp2_with fail
  refine HBy.out.mono ?_
  rintro e w5 ⟨vb, rfl, zs, hsrc, hzb, hzl, hpre, hb5⟩
  have hz4 : g < w4.heap.size := HR4.out.lt
  have HZ45 : Hid (w4.heap.size ≤ w5.heap.size) := hb5.size
  have HB5 : Hid (Below g w w5) := HB4.out.trans (hb5.mono (by omega))
  have HR5 : Hid (L10.Ri 3 w5 g wkL) := HR4.out.to hb5
  have HA5 : Hid (L10.Ri 3 w5 g4 wkL ∧ ¬ O4 g4) := ⟨HA4.out.1.to hb5, HA4.out.2⟩
  have HC5 : Hid (Cd w5 w2.heap.size x O4 s4) := HC4.out.to hb5
  have HSr : Hid (L2.SrcOf w5 vb zs) := hsrc
  have HZ : Hid ((∀ i, zs.getD i 0 < 256) ∧ zs.length ≤ 140737488355328 ∧ L2.pre zs (s4.c + 4) = s4.a) := ⟨hzb, hzl, hpre⟩
  clear hsrc hzb hzl hpre hb5 HBy HC4 HA4
  obtain ⟨sh5, nt5⟩ := HSh.out _ HB5.out
  go_wp2_with fail
  refine (default_hs sh5).mono ?_
  rintro e w6 ⟨bt6, B6, rfl, hs6, hb6⟩
  have hz5 : g < w5.heap.size := HR5.out.lt
  have HZ56 : Hid (w5.heap.size ≤ w6.heap.size) := hb6.size
  have HB6 : Hid (Below g w w6) := HB5.out.trans (hb6.mono (by omega))
  have HR6 : Hid (L10.Ri 3 w6 g wkL) := HR5.out.to hb6
  have HA6 : Hid (L10.Ri 3 w6 g4 wkL ∧ ¬ O4 g4) := ⟨HA5.out.1.to hb6, HA5.out.2⟩
  have HC6 : Hid (Cd w6 w2.heap.size x O4 s4) := HC5.out.to hb6
  obtain ⟨sh6, nt6⟩ := HSh.out _ HB6.out
  have HRd : Hid (Calls Tryd.prog 13 #[vb, .agg #[.slice (some ⟨bt6, 0, none⟩) 32 32], .bool true] w6 fun e w' => ∃ x O, e = .returned (.tuple #[.pointer (some ⟨x, 0, none⟩), .int .i64 0]) ∧ Cd w' w6.heap.size x O (rS true zs) ∧ (∀ y, O y → y = 0 ∨ w6.heap.size ≤ y) ∧ Below w6.heap.size w6 w') := reader_cd sh6 hs6 (src_to HSr.out hb6) HZ.out.1 HZ.out.2.1
  clear hs6 hb6 sh5 nt5 sh6 nt6 HA5 HC5
  go_wp2_with fail
  refine HRd.out.mono ?_
  rintro e w7 ⟨r, Or7, rfl, hc7, ho7, hb7⟩
  have hz6 : g < w6.heap.size := HR6.out.lt
  have HB7 : Hid (Below g w w7) := HB6.out.trans (hb7.mono (by omega))
  have HR7 : Hid (L10.Ri 3 w7 g wkL) := HR6.out.to hb7
  have HA7 : Hid (L10.Ri 3 w7 g4 wkL) := HA6.out.1.to hb7
  have HC7 : Hid (Cd w7 w2.heap.size x O4 s4) := HC6.out.to hb7
  obtain ⟨sh7, nt7⟩ := HSh.out _ HB7.out
  have HO7 : Hid (∀ y, Or7 y → y = 0 ∨ w6.heap.size ≤ y) := ho7
  have HL6 : Hid (1 < w6.heap.size) := by show 1 < _; have := HL2.out; have := HB6.out.size; have := HW2.out; omega
  have HK7 : Hid (Calls Tryd.prog 10 #[.pointer (some ⟨r, 0, none⟩), .int .i64 4, .int .i64 ((1 : Nat) : Int), .int .i64 ((2 : Nat) : Int), .slice none 0 0] w7 fun en w' => Kc w7 w' w6.heap.size r Or7 (4 * 4) ((cr 4 4 1 2).run (rS true zs)) en) :=
    kcode_r HCL.out hc7 sh7 nt7 HL6.out (by show (0 : Nat) ≤ _; omega) wk_sz (by omega) (by omega) rfl
  have HOne : Hid (((cr 4 4 1 2).run (rS true zs)).1 = some wkL ∧ ((cr 4 4 1 2).run (rS true zs)).2.n = s4.n) := by
    have h1 := one_read (ad := true) HZ.out.1 wk_sz (col := 1) (sg := 2) (by omega) (by omega) wk_lv (by rw [HS4.out]; exact HZ.out.2.2)
    rw [HS4.out] at h1
    exact h1
  clear hc7 ho7 hb7 HRd sh7 nt7
  go_wp2_with fail
  refine HK7.out.mono ?_
  rintro e w8 ⟨O8, hc8, ht8, hb8, hy8, -⟩
  obtain ⟨g8, rfl, hr8, hl8, hn8⟩ := hy8 wkL HOne.out.1
  have hz7 : g < w7.heap.size := HR7.out.lt
  have hg1 : 1 < g := by have := HW2.out; have := HG.out; omega
  have nO : ∀ y, 1 < y → y < w6.heap.size → ¬ Or7 y := fun y h1 h2 e => by
    rcases HO7.out y e with e2 | e2
    · omega
    · omega
  have hg6 : g < w6.heap.size := HR6.out.lt
  have hg46 : g4 < w6.heap.size := HA6.out.1.lt
  have HB8 : Hid (Below g w w8) := HB7.out.trans (hb8.mono (by omega))
  have HR8 : Hid (L10.Ri 3 w8 g wkL) := HR7.out.carry (ht8.ke.block g hz7 (nO g hg1 hg6))
  have HA8 : Hid (L10.Ri 3 w8 g4 wkL) := HA7.out.carry (ht8.ke.block g4 HA7.out.lt (nO g4 HG4.out hg46))
  have HD8 : Hid (L10.Ri 3 w8 g8 wkL) := hr8
  have HW8 : Hid (Cd w8 w2.heap.size x O4 s4) := HC7.out.ke ht8.ke (fun y hy e => by
    have h1 := HO4.out y e
    have h2 := HZ45.out
    have h3 := HZ56.out
    exact nO y h1.1 (by omega) hy)
  have HC8 : Hid (Cd w8 w6.heap.size r O8 ((cr 4 4 1 2).run (rS true zs)).2) := hc8
  have HN8 : Hid (((cr 4 4 1 2).run (rS true zs)).2.n = 15 ∧ s4.n = 15) := ⟨HOne.out.2.trans hn15, hn15⟩
  have HSi : Hid (∀ u, Below w8.heap.size w8 u → L10.Si u (some ⟨g, 0, none⟩) wkL ∧ L10.Si u (some ⟨g4, 0, none⟩) wkL ∧ L10.Si u (some ⟨g8, 0, none⟩) wkL) := fun u hu => ⟨ri_si (HR8.out.to hu), ri_si (HA8.out.to hu), ri_si (HD8.out.to hu)⟩
  generalize ((cr 4 4 1 2).run (rS true zs)).2 = s8 at *
  clear hc8 ht8 hb8 hy8 hr8 hl8 hn8 HK7 HOne nO
  go_wp2_with fail
  obtain ⟨q1, q2, q3⟩ := HSi.out _ (Below.refl _ _)
  refine (L10.eqInts_at q2 q1 (n := 16) (m := 16) rfl rfl (by omega) (by omega)).mono ?_
  rintro e w9 ⟨rfl, hb9⟩
  rw [L10.eqI_self]
  have HB9 : Hid (Below w8.heap.size w8 w9) := hb9
  clear q1 q2 q3 hb9
  go_wp2_with fail
  obtain ⟨q1, q2, q3⟩ := HSi.out _ HB9.out
  refine (L10.eqInts_at q3 q1 (n := 16) (m := 16) rfl rfl (by omega) (by omega)).mono ?_
  rintro e w10 ⟨rfl, hb10⟩
  rw [L10.eqI_self]
  have HB10 : Hid (Below w8.heap.size w8 w10) := L10.below_to HB9.out hb10
  clear q1 q2 q3 hb10
  go_wp2_with fail
  refine (count_cd (HW8.out.to HB10.out)).mono ?_
  rintro e w11 ⟨rfl, rfl⟩
  rw [HN8.out.2]
  go_wp2_with fail
  refine (count_cd (HC8.out.to HB10.out)).mono ?_
  rintro e w11 ⟨rfl, rfl⟩
  rw [HN8.out.1]
  go_wp2_with fail
  refine (sign_neg (by omega) (v := -20) ((HR8.out.to HB10.out).cell 0 (by decide)) (by omega)).mono ?_
  rintro e w11 ⟨rfl, rfl⟩
  go_wp2_with fail
  go_ret
  refine ⟨rfl, ?_⟩
  rw [HG.out]
  exact HB8.out.trans (HB10.out.mono (by have := HR8.out.lt; omega))

end Go.Proofs.YtkmnpechhdendaaDoor
