/- DERIVED. The document's sized. -/
import Derived.Test.YtlgfkkegehpllaaQd
namespace Go.Proofs.Ytlgfkkegehpllaa
open Go.RowKit

/-- a list whose first k places are there -/
def tabP (n : Nat) (f : Nat → Nat) (k : Nat) : List Nat := tab n fun i => if i < k then f i else 0
theorem tabP_len (n : Nat) (f : Nat → Nat) (k : Nat) : (tabP n f k).length = n := tab_len _ _
theorem tabP_zero (n : Nat) (f : Nat → Nat) : tabP n f 0 = List.replicate n 0 := (eq_tab (by simp) fun j hj => by rw [rep_get hj, if_neg (by omega)]).symm
theorem tabP_all (n : Nat) (f : Nat → Nat) : tabP n f n = tab n f := tab_eq fun j hj => by rw [if_pos hj]
theorem tabP_step {n : Nat} {f : Nat → Nat} {k : Nat} (h : k < n) : (tabP n f k).set k (f k) = tabP n f (k + 1) := by
  refine list_eq_of_getD (by rw [List.length_set, tabP_len, tabP_len]) fun j hj => ?_
  rw [List.length_set, tabP_len] at hj
  rw [set_get (by rw [tabP_len]; exact h)]
  unfold tabP
  rw [tab_get _ hj, tab_get _ hj]
  by_cases e : k = j
  · rw [if_pos e, e, if_pos (by omega)]
  · rw [if_neg e]
    by_cases g : j < k
    · rw [if_pos g, if_pos (by omega)]
    · rw [if_neg g, if_neg (by omega)]

def SzInv (V : World) (g n : Nat) (f : Nat → Nat) (iv : Value) (wr : World) : Prop := ∃ k : Nat, k ≤ n ∧ iv = .int .i64 k ∧ Rw wr g (tabP n f k) ∧ Kf g V wr

set_option maxRecDepth 100000 in
set_option maxHeartbeats 4000000 in
theorem sized_ok {u : World} {a : Option Addr} {c : Nat} {C : List Nat} {x y w h : Nat} (hs : Sl u .u8 a C) (hx0 : 1 ≤ x) (hx1 : x ≤ 512) (hy0 : 1 ≤ y) (hy1 : y ≤ 512) (hl : C.length = x * y) (hw0 : 1 ≤ w) (hw1 : w ≤ 512) (hh1 : h ≤ 512) :
    Calls Try.prog 55 #[.agg #[.int .i64 (x : Int), .int .i64 (y : Int), .slice a C.length c], .int .i64 (w : Int), .int .i64 (h : Int)] u fun e w' => ∃ g, e = .returned (.agg #[.int .i64 (w : Int), .int .i64 (h : Int), .slice (some ⟨g, 0, none⟩) (padL x y C w h).length (padL x y C w h).length]) ∧ u.heap.size ≤ g ∧ Rw w' g (padL x y C w h) ∧ Below u.heap.size u w' := by
  obtain ⟨n, hn⟩ : ∃ n, n = w * h := ⟨_, rfl⟩
  have hnb : n ≤ 262144 := by rw [hn]; exact prod_le hw1 hh1
  have en : (w : Int) * (h : Int) = (n : Int) := by rw [← Int.natCast_mul, hn]
  have n1 : (n : Int) ≤ 262144 := by omega
  have hmk := mk_row (n := n) (by omega)
  have i1 : (1 : Int) ≤ (w : Int) := by omega
  have i2 : (w : Int) ≤ 512 := by omega
  have i4 : (h : Int) ≤ 512 := by omega
  obtain ⟨f, hf⟩ : ∃ f, f = padF x y C w := ⟨_, rfl⟩
  have HPL : Hid (padL x y C w h = tab n f) := by unfold Hid padL; rw [hn, hf]
  have HAt : Hid (∀ (t : World) (k X Y : Nat), Sl t .u8 a C → X = k % w → Y = k / w → Calls Try.prog 15 #[.agg #[.int .i64 (x : Int), .int .i64 (y : Int), .slice a C.length c], .int .i64 (X : Int), .int .i64 (Y : Int)] t fun e w' => e = .returned (.int .u8 (f k : Nat)) ∧ Below t.heap.size t w') := fun t k X Y ht eX eY => by
    have := rat_ok (w := t) (c := c) (i := (X : Int)) (j := (Y : Int)) ht hx0 hx1 hy0 hy1 hl
    rw [nr_nat, nr_nat] at this
    rw [show f k = C.getD (min Y (y - 1) * x + min X (x - 1)) 0 from by rw [hf, eX, eY]; rfl]
    exact this
  have HSL : Hid (Sl u .u8 a C) := hs
  obtain ⟨V, hV⟩ : ∃ V, V = ((((u.alloc (.cells #[.int .i64 (x : Int), .int .i64 (y : Int), .slice a C.length c] 24)).alloc (.cells #[.int .i64 0, .int .i64 0, .slice none 0 0] 24)).alloc (.cells (madeCells #[.int .u8 0] n) 5)).alloc (.cells #[.int .i64 (w : Int), .int .i64 (h : Int), .slice (some ⟨u.heap.size + 1 + 1, 0, none⟩) n n] 24)) := ⟨_, rfl⟩
  have HR : Hid (Rw V (u.heap.size + 1 + 1) (List.replicate n 0)) := by unfold Hid; rw [hV]; exact (Rw.madeAt _ _ (by simp)).to (from_alloc _ _)
  have HBV : Hid (Below u.heap.size u V) := by unfold Hid; rw [hV]; exact to_alloc (to_alloc (to_alloc (from_alloc _ _) _) _) _
  have HZ : Hid (V.heap.size = u.heap.size + 4) := by unfold Hid; rw [hV]; simp
  have P0 : Hid (V.cell? ⟨u.heap.size, 0, none⟩ = some (.int .i64 (x : Int))) := by unfold Hid; rw [hV]; simp [go_sem]
  have P1 : Hid (V.cell? ⟨u.heap.size, 1, none⟩ = some (.int .i64 (y : Int))) := by unfold Hid; rw [hV]; simp [go_sem]
  have P2 : Hid (V.cell? ⟨u.heap.size, 2, none⟩ = some (.slice a C.length c)) := by unfold Hid; rw [hV]; simp [go_sem]
  have R0 : Hid (V.cell? ⟨u.heap.size + 1, 0, none⟩ = some (.int .i64 0)) := by unfold Hid; rw [hV]; simp [go_sem]
  have R1 : Hid (V.cell? ⟨u.heap.size + 1, 1, none⟩ = some (.int .i64 0)) := by unfold Hid; rw [hV]; simp [go_sem]
  have R2 : Hid (V.cell? ⟨u.heap.size + 1, 2, none⟩ = some (.slice none 0 0)) := by unfold Hid; rw [hV]; simp [go_sem]
  have RT : Hid (∀ o, V.frozen? ⟨u.heap.size + 1, o, none⟩ = false) := fun o => by rw [hV]; simp [go_sem]
  have Q0 : Hid (V.cell? ⟨u.heap.size + 1 + 1 + 1, 0, none⟩ = some (.int .i64 (w : Int))) := by unfold Hid; rw [hV]; simp [go_sem]
  have Q1 : Hid (V.cell? ⟨u.heap.size + 1 + 1 + 1, 1, none⟩ = some (.int .i64 (h : Int))) := by unfold Hid; rw [hV]; simp [go_sem]
  have Q2 : Hid (V.cell? ⟨u.heap.size + 1 + 1 + 1, 2, none⟩ = some (.slice (some ⟨u.heap.size + 1 + 1, 0, none⟩) n n)) := by unfold Hid; rw [hV]; simp [go_sem]
  have HV : Hid _ := hV
  have HN : Hid _ := hn
  clear hV hn hs hl hf
  go_enter Try.func55, Try.ntmps55
  go_wp2_with fail
  rw [← HV.out]
  clear HV hmk
  go_loopw [8] (fun i wr => SzInv V (u.heap.size + 1 + 1) n f i wr) (fun i _ => n - (intOf i).toNat)
  case atStart => exact ⟨0, Nat.zero_le _, rfl, by rw [tabP_zero]; exact HR.out, Kf.refl _ _⟩
  case round =>
    obtain ⟨k, hk, rfl, hr, hkf⟩ := hrel
    have HR2 : Hid (Rw wr (u.heap.size + 1 + 1) (tabP n f k)) := hr
    have HK : Hid (Kf (u.heap.size + 1 + 1) V wr) := hkf
    have hz := HZ.out
    by_cases hlt : k < n
    · obtain ⟨X, hX⟩ : ∃ X, X = k % w := ⟨_, rfl⟩
      obtain ⟨Y, hY⟩ : ∃ Y, Y = k / w := ⟨_, rfl⟩
      have hXl : X < w := by rw [hX]; exact Nat.mod_lt _ hw0
      have hYl : Y ≤ n := by rw [hY]; have := Nat.div_le_self k w; omega
      have t1 : (k : Int).tmod (w : Int) = (X : Int) := by rw [hX]; rfl
      have t2 : (k : Int).tdiv (w : Int) = (Y : Int) := by rw [hY]; rfl
      have t3 : (k : Int) % (w : Int) = (X : Int) := by rw [hX]; rfl
      have t4 : (k : Int) / (w : Int) = (Y : Int) := by rw [hY]; rfl
      have t5 : ¬ (w : Int) = 0 := by omega
      have t6 : IntKind.i64.wrap (Y : Int) = (Y : Int) := by rw [IntKind.wrap_i64]; omega
      have t7 : ¬ w = 0 := by omega
      have b0 : 0 ≤ (k : Int) := by omega
      have b1 : (k : Int) < (n : Int) := by omega
      have HKK : Hid (∀ t : World, Kf (u.heap.size + 1 + 1) V t → (t.cell? ⟨u.heap.size, 0, none⟩ = some (.int .i64 (x : Int)) ∧ t.cell? ⟨u.heap.size, 1, none⟩ = some (.int .i64 (y : Int)) ∧ t.cell? ⟨u.heap.size, 2, none⟩ = some (.slice a C.length c) ∧ t.cell? ⟨u.heap.size + 1 + 1 + 1, 2, none⟩ = some (.slice (some ⟨u.heap.size + 1 + 1, 0, none⟩) n n) ∧ Kf (u.heap.size + 1 + 1) V t)) := fun t ht =>
        ⟨by rw [ht.cell _ _ (by omega) (by omega)]; exact P0.out, by rw [ht.cell _ _ (by omega) (by omega)]; exact P1.out, by rw [ht.cell _ _ (by omega) (by omega)]; exact P2.out, by rw [ht.cell _ _ (by omega) (by omega)]; exact Q2.out, ht⟩
      have HCall : Hid (Calls Try.prog 15 #[.agg #[.int .i64 (x : Int), .int .i64 (y : Int), .slice a C.length c], .int .i64 (X : Int), .int .i64 (Y : Int)] wr.drew fun e w' => e = .returned (.int .u8 (f k : Nat)) ∧ Below wr.drew.heap.size wr.drew w') := HAt.out _ k X Y (HSL.out.low HBV.out hkf (by omega)).drew hX hY
      have HST : Hid _ := tabP_step (f := f) hlt
      have HX : Hid _ := hX
      have HY : Hid _ := hY
      obtain ⟨fk', hfk⟩ : ∃ q, q = f k := ⟨_, rfl⟩
      rw [← hfk] at HCall HST
      clear hr hkf hX hY hfk
      go_wp2_with fail
      go_region_held3 (fun t => t.cell? ⟨u.heap.size, 0, none⟩ = some (.int .i64 (x : Int)) ∧ t.cell? ⟨u.heap.size, 1, none⟩ = some (.int .i64 (y : Int)) ∧ t.cell? ⟨u.heap.size, 2, none⟩ = some (.slice a C.length c) ∧ t.cell? ⟨u.heap.size + 1 + 1 + 1, 2, none⟩ = some (.slice (some ⟨u.heap.size + 1 + 1, 0, none⟩) n n) ∧ Kf (u.heap.size + 1 + 1) V t)
        ((exact HKK.out _ (by first | exact HK.out.drew | exact HK.out.drew.step (by assumption) | exact (HK.out.drew.step (by assumption)).kb (Kb.setCell _ _ _ _))))
        ((go_at_call 15; refine HCall.out.mono ?_; rintro e w5 ⟨rfl, hb5⟩; have hr5 : Rw w5 (u.heap.size + 1 + 1) (tabP n f k) := HR2.out.drew.to hb5; have z1 : ∃ v, w5.cell? ⟨u.heap.size + 1 + 1, k, none⟩ = some v := ⟨_, hr5.cell k (by rw [tabP_len]; exact hlt)⟩; obtain ⟨old, z1⟩ := z1; have z2 := hr5.thaw k))
      go_wp2_with fail
      go_roundw
      case rel => exact ⟨k + 1, by omega, by go_num, by rw [← HST.out]; exact hr5.set _ _, (HK.out.drew.step hb5).kb (Kb.setCell _ _ _ _)⟩
      case measure => simp [intOf]; omega
    · have hk' : k = n := by omega
      subst hk'
      have c0 : wr.cell? ⟨u.heap.size + 1, 0, none⟩ = some (.int .i64 0) := by rw [hkf.cell _ _ (by omega) (by omega)]; exact R0.out
      have c1 : wr.cell? ⟨u.heap.size + 1, 1, none⟩ = some (.int .i64 0) := by rw [hkf.cell _ _ (by omega) (by omega)]; exact R1.out
      have c2 : wr.cell? ⟨u.heap.size + 1, 2, none⟩ = some (.slice none 0 0) := by rw [hkf.cell _ _ (by omega) (by omega)]; exact R2.out
      have f0 : ∀ o, wr.frozen? ⟨u.heap.size + 1, o, none⟩ = false := fun o => by rw [hkf.frozen _ _ (by omega) (by omega)]; exact RT.out o
      have q0 : wr.cell? ⟨u.heap.size + 1 + 1 + 1, 0, none⟩ = some (.int .i64 (w : Int)) := by rw [hkf.cell _ _ (by omega) (by omega)]; exact Q0.out
      have q1 : wr.cell? ⟨u.heap.size + 1 + 1 + 1, 1, none⟩ = some (.int .i64 (h : Int)) := by rw [hkf.cell _ _ (by omega) (by omega)]; exact Q1.out
      have q2 : wr.cell? ⟨u.heap.size + 1 + 1 + 1, 2, none⟩ = some (.slice (some ⟨u.heap.size + 1 + 1, 0, none⟩) k k) := by rw [hkf.cell _ _ (by omega) (by omega)]; exact Q2.out
      clear hr hkf
      go_wp2_with fail
      have hr2 := HR2.out
      rw [tabP_all, ← HPL.out] at hr2
      refine bodyPost_ret (v := .agg #[.int .i64 (w : Int), .int .i64 (h : Int), .slice (some ⟨u.heap.size + 1 + 1, 0, none⟩) k k]) (by simp [results, Try.results55, go_sem, c0, c1, c2]) rfl ?_
      refine ⟨u.heap.size + 1 + 1, by rw [padL_len, ← HN.out], by omega, ((hr2.far (a := ⟨u.heap.size + 1, 0, none⟩) (by simp) _).far (a := ⟨u.heap.size + 1, 1, none⟩) (by simp) _).far (a := ⟨u.heap.size + 1, 2, none⟩) (by simp) _, ?_⟩
      exact below_set (below_set (below_set (HBV.out.trans (HK.out.below (by omega) (by omega))) (by simp) _) (by simp) _) (by simp) _

end Go.Proofs.Ytlgfkkegehpllaa
