/- DERIVED. The document's tree, of all sizes; its Blocks. -/
import Derived.Test.YtjijgeeejhijhaaDe
import Derived.Test.YtjijgeeejhijhaaDf
import Derived.Test.YtjijgeeejhijhaaDg
import Derived.Test.YtjijgeeejhijhaaDh
namespace Go.Proofs.Ytjijgeeejhijhaa
open Go.RowKit

theorem go_all : ∀ k, k < 4 → Tk k
  | 0, _ => fun A Z w L u x y hz h ha hr hx hy hC hL => by
    have hrb := rgn_rb (by omega) hr
    have l0 := lf_pos 0
    by_cases hm : meet (x, y, sd 0, sd 0) A.ar = true
    · by_cases hi : wthn (x, y, sd 0, sd 0) A.ar = true
      · rw [tree_0 hm hi, show cutR 0 x y (sd 0) = [(x, y, sd 0, sd 0)] from by simp [cutR, prt, prF, sd]]
        exact go_leaf8 hz h ha hrb hm hi rfl rfl rfl (by omega)
      · have hi' : wthn (x, y, sd 0, sd 0) A.ar = false := by simpa using hi
        rw [tree_0n hi']
        exact go_part hz h ha hrb hm hi' rfl rfl (fun Z' t hz' ht => quarters_8 rfl hz' ht)
    · exact (by rw [tree_off (by simpa using hm)]; exact go_off hz h ha hrb (mo := false) (by simpa using hm) rfl rfl)
  | k + 1, hk => fun A Z w L u x y hz h ha hr hx hy hC hL => by
    have ih := go_all k (by omega)
    have e : lf (k + 1) = 4 * lf k := rfl
    have lp := lf_pos k
    have hrb := rgn_rb hk hr
    have h8 : sd (k + 1) ≠ 8 := by rcases sd_cases hk with q | q | q | q <;> omega
    by_cases hm : meet (x, y, sd (k + 1), sd (k + 1)) A.ar = true
    · by_cases hi : wthn (x, y, sd (k + 1), sd (k + 1)) A.ar = true
      · by_cases hp : pkV (k + 1) A.C u = 3
        · rw [tree_split hm hi hp]
          exact go_split hz h ha hrb hm hi rfl rfl hC (by omega) rfl h8 hp (fun Z' t hz' ht => quarters_any (by omega) ih rfl rfl hz' ht ha hr hC (by omega) hx hy)
        · rw [tree_in hm hi hp]
          exact go_leaf hz h ha hrb hm hi rfl rfl hC (by omega) rfl h8 hr (by omega) rfl hp rfl
      · have hi' : wthn (x, y, sd (k + 1), sd (k + 1)) A.ar = false := by simpa using hi
        rw [tree_part hm hi']
        exact go_part hz h ha hrb hm hi' rfl rfl (fun Z' t hz' ht => quarters_any (by omega) ih rfl rfl hz' ht ha hr hC (by omega) hx hy)
    · exact (by rw [tree_off (by simpa using hm)]; exact go_off hz h ha hrb (mo := false) (by simpa using hm) rfl rfl)

/-- the tree in new memory -/
theorem ts0 {V : World} {c : Nat} {a : Option Addr} {x y m n : Int} {C : List Int} (hs : Si V a C) :
    Tz ⟨V.heap.size, a, c, (x, y, m, n), C⟩ (fun i => i < V.heap.size) ∧ Ts ⟨V.heap.size, a, c, (x, y, m, n), C⟩ (fun i => i < V.heap.size) (V.alloc (.cells #[.int .i64 x, .int .i64 y, .int .i64 m, .int .i64 n, .slice a C.length c, .int .i64 0, .slice none 0 0] 58)) [] 0 := by
  have hb := from_alloc V (.cells #[.int .i64 x, .int .i64 y, .int .i64 m, .int .i64 n, .slice a C.length c, .int .i64 0, .slice none 0 0] 58)
  refine ⟨⟨fun b o s h0 he => ?_, fun q => Nat.lt_irrefl _ q⟩, ⟨fun i hi => Nat.lt_of_lt_of_le hi hb.size, ⟨?_, ?_, ?_, ?_⟩, ?_, ?_, ⟨.slice none 0 0, ?_, Or4.nil _ _, fun g hg => by simp [Value.ownBlock] at hg⟩, fun o => ?_, hs.to hb, ?_, Nat.zero_le _⟩⟩
  · rcases hs with hs | ⟨b', o', h1, h2, _⟩
    · exact absurd hs h0
    · have he' : a = some ⟨b, o, s⟩ := he
      rw [he'] at h1
      simp only [Option.some.injEq, Addr.mk.injEq] at h1
      show b < _
      rw [h1.1]; exact h2
  all_goals simp [go_sem]
set_option maxRecDepth 100000 in
set_option maxHeartbeats 4000000 in
theorem rblocks_ok {w : World} {x y s s' ax ay aw ah : Int} {a : Option Addr} {c : Nat} {C : List Int} (hq : sqr x y s s' = true) (ha : are ax ay aw ah = true) (hs : Si w a C) (hC : C.length ≤ 140737488355328) :
    Calls Try.prog 17 #[.agg #[.int .i64 x, .int .i64 y, .int .i64 s, .int .i64 s'], .agg #[.int .i64 ax, .int .i64 ay, .int .i64 aw, .int .i64 ah], .slice a C.length c] w fun e w' => Bq w w' e (tree (ax, ay, aw, ah) C 3 x y 0) := by
  obtain ⟨hr, h64, hx, hy⟩ := sqr_in hq
  obtain ⟨-, hss, -, -⟩ := rgn_in hr
  subst hss
  subst h64
  have HRg : Hid (∀ t, Calls Try.prog 26 #[.agg #[.int .i64 x, .int .i64 y, .int .i64 64, .int .i64 64]] t fun e w' => e = .returned (.bool true) ∧ Below t.heap.size t w') := fun t => by rw [← hr]; exact region_any
  obtain ⟨⟨a0, a0', a0''⟩, ⟨a1, a1', a1''⟩, ⟨a2, a2', a2''⟩, ⟨a3, a3', a3''⟩⟩ := are_in ha
  have E0 : Hid (∀ t, Calls Try.prog 34 #[.int .i64 ax, .int .i64 0, .int .i64 1024] t fun e w' => e = .returned (.bool true) ∧ t = w') := fun t => by rw [← show un ax 0 1024 = true from decide_eq_true ⟨a0, a0', a0''⟩]; exact eights_any
  have E1 : Hid (∀ t, Calls Try.prog 34 #[.int .i64 ay, .int .i64 0, .int .i64 1024] t fun e w' => e = .returned (.bool true) ∧ t = w') := fun t => by rw [← show un ay 0 1024 = true from decide_eq_true ⟨a1, a1', a1''⟩]; exact eights_any
  have E2 : Hid (∀ t, Calls Try.prog 34 #[.int .i64 aw, .int .i64 8, .int .i64 1024] t fun e w' => e = .returned (.bool true) ∧ t = w') := fun t => by rw [← show un aw 8 1024 = true from decide_eq_true ⟨a2, a2', a2''⟩]; exact eights_any
  have E3 : Hid (∀ t, Calls Try.prog 34 #[.int .i64 ah, .int .i64 8, .int .i64 1024] t fun e w' => e = .returned (.bool true) ∧ t = w') := fun t => by rw [← show un ah 8 1024 = true from decide_eq_true ⟨a3, a3', a3''⟩]; exact eights_any
  have hao : ArOk (ax, ay, aw, ah) := by show Rb ax ay aw ah; exact ⟨by omega, by omega, by omega, by omega⟩
  have HGo : Hid (∀ (V : World), Si V a C → Calls Try.prog 35 #[.pointer (some ⟨V.heap.size, 0, none⟩), .agg #[.int .i64 x, .int .i64 y, .int .i64 64, .int .i64 64]] (V.alloc (.cells #[.int .i64 ax, .int .i64 ay, .int .i64 aw, .int .i64 ah, .slice a C.length c, .int .i64 0, .slice none 0 0] 58)) fun e w' => e = .returned (.tuple #[]) ∧ ∃ v, w'.cell? ⟨V.heap.size, 6, none⟩ = some v ∧ w'.cell? ⟨V.heap.size, 5, none⟩ = some (.int .i64 ((tree (ax, ay, aw, ah) C 3 x y 0).2 : Int)) ∧ Or4 w' V.heap.size v (tree (ax, ay, aw, ah) C 3 x y 0).1 ∧ Below V.heap.size V w') := fun V hsi => by
    obtain ⟨hz, hst⟩ := ts0 (V := V) (c := c) (x := ax) (y := ay) (m := aw) (n := ah) hsi
    refine (go_all 3 (by omega) ⟨V.heap.size, a, c, (ax, ay, aw, ah), C⟩ _ _ [] 0 x y hz hst hao hr (by show x + 64 ≤ _; omega) (by show y + 64 ≤ _; omega) hC (by show 0 + lf 3 ≤ 300; decide)).mono ?_
    rintro e w' ⟨h1, h2, h3⟩
    rw [List.nil_append] at h2
    obtain ⟨v, l1, l2, l3⟩ := h2.leaf
    have hb := from_alloc V (.cells #[.int .i64 ax, .int .i64 ay, .int .i64 aw, .int .i64 ah, .slice a C.length c, .int .i64 0, .slice none 0 0] 58)
    exact ⟨h1, v, l1, h2.used, l2.rebase (fun g hg => Nat.le_of_not_lt (fun q => (l3 g hg).1 q)), ⟨h3.os.trans hb.os, h3.tape.trans hb.tape, h3.output.trans hb.output, Nat.le_trans hb.size h3.size, fun i hi => (h3.block i hi).trans (hb.block i hi)⟩⟩
  generalize tree (ax, ay, aw, ah) C 3 x y 0 = p at *
  have HSi : Hid (Si w a C) := hs
  have hx' : x ≤ 1024 := hx
  have hy' : y ≤ 1024 := hy
  clear hq ha hr a0 a0' a0'' a1 a1' a1'' a2 a2' a2'' a3 a3' a3'' hao hC hs hx hy
  have K3 : Hid (Fr ((w.alloc (.cells #[.int .i64 x, .int .i64 y, .int .i64 64, .int .i64 64] 23)).alloc (.cells #[.int .i64 ax, .int .i64 ay, .int .i64 aw, .int .i64 ah] 23)) w.heap.size x y 64 64) := ⟨by simp [go_sem], by simp [go_sem], by simp [go_sem], by simp [go_sem]⟩
  have K4 : Hid (Fr ((w.alloc (.cells #[.int .i64 x, .int .i64 y, .int .i64 64, .int .i64 64] 23)).alloc (.cells #[.int .i64 ax, .int .i64 ay, .int .i64 aw, .int .i64 ah] 23)) (w.heap.size + 1) ax ay aw ah) := ⟨by simp [go_sem], by simp [go_sem], by simp [go_sem], by simp [go_sem]⟩
  have KB : Hid (Below w.heap.size w ((w.alloc (.cells #[.int .i64 x, .int .i64 y, .int .i64 64, .int .i64 64] 23)).alloc (.cells #[.int .i64 ax, .int .i64 ay, .int .i64 aw, .int .i64 ah] 23))) := to_alloc (from_alloc _ _) _
  have KZ : Hid (w.heap.size + 2 ≤ ((w.alloc (.cells #[.int .i64 x, .int .i64 y, .int .i64 64, .int .i64 64] 23)).alloc (.cells #[.int .i64 ax, .int .i64 ay, .int .i64 aw, .int .i64 ah] 23)).heap.size) := by show _ ≤ _; simp
  go_enter Try.func17, Try.ntmps17
  go_upto_region 1 with fail
  generalize ((w.alloc (.cells #[.int .i64 x, .int .i64 y, .int .i64 64, .int .i64 64] 23)).alloc (.cells #[.int .i64 ax, .int .i64 ay, .int .i64 aw, .int .i64 ah] 23)) = V0 at *
  obtain ⟨r0, r1, r2, r3⟩ := K3.out
  go_wp2_with fail
  refine (HRg.out _).mono ?_
  rintro e V1 ⟨rfl, hb⟩
  have hk := Kz.ofBelow (Z := fun i => i < w.heap.size + 2) (fun i hi => Nat.lt_of_lt_of_le hi KZ.out) hb
  have M3 : Hid (Fr V1 w.heap.size x y 64 64) := K3.out.kz hk (by show _ < _; omega)
  have M4 : Hid (Fr V1 (w.heap.size + 1) ax ay aw ah) := K4.out.kz hk (by show _ < _; omega)
  have MB : Hid (Below w.heap.size w V1) := below_to KB.out (hb.mono (by have := KZ.out; omega))
  have MZ : Hid (w.heap.size + 2 ≤ V1.heap.size) := Nat.le_trans KZ.out hb.size
  clear hb hk r0 r1 r2 r3 K3 K4 KB KZ HRg
  obtain ⟨r0, r1, r2, r3⟩ := M3.out
  obtain ⟨q0, q1, q2, q3⟩ := M4.out
  go_upto_region 4 with (first | ((with_reducible refine (E0.out _).mono ?_); rintro e w5 ⟨rfl, rfl⟩) | ((with_reducible refine (E1.out _).mono ?_); rintro e w5 ⟨rfl, rfl⟩) | ((with_reducible refine (E2.out _).mono ?_); rintro e w5 ⟨rfl, rfl⟩) | ((with_reducible refine (E3.out _).mono ?_); rintro e w5 ⟨rfl, rfl⟩))
  have hbv := from_alloc V1 (.cells #[.int .i64 ax, .int .i64 ay, .int .i64 aw, .int .i64 ah, .slice a C.length c, .int .i64 0, .slice none 0 0] 58)
  have hf := M3.out.below hbv (by have := MZ.out; omega)
  have HCl := HGo.out V1 (HSi.out.to MB.out)
  have HC : Hid (Calls Try.prog 35 #[.pointer (some ⟨V1.heap.size, 0, none⟩), .agg #[.int .i64 x, .int .i64 y, .int .i64 64, .int .i64 64]] (V1.alloc (.cells #[.int .i64 ax, .int .i64 ay, .int .i64 aw, .int .i64 ah, .slice a C.length c, .int .i64 0, .slice none 0 0] 58)) fun e w' => e = .returned (.tuple #[]) ∧ ∃ v, w'.cell? ⟨V1.heap.size, 6, none⟩ = some v ∧ w'.cell? ⟨V1.heap.size, 5, none⟩ = some (.int .i64 (p.2 : Int)) ∧ Or4 w' V1.heap.size v p.1 ∧ Below V1.heap.size V1 w') := HCl
  clear HCl hbv r0 r1 r2 r3 q0 q1 q2 q3 hx' hy' E0 E1 E2 E3 HGo HSi M3 M4
  generalize (V1.alloc (.cells #[.int .i64 ax, .int .i64 ay, .int .i64 aw, .int .i64 ah, .slice a C.length c, .int .i64 0, .slice none 0 0] 58)) = V2 at *
  obtain ⟨r0, r1, r2, r3⟩ := hf
  go_wp2_with fail
  refine HC.out.mono ?_
  rintro e V3 ⟨rfl, v, c6, c5, ho, hb⟩
  have HO : Hid (Or4 V3 w.heap.size v p.1) := ho.rebase (fun g hg => Nat.le_trans MB.out.size (ho.own.lt g hg).1)
  have HB : Hid (Below w.heap.size w V3) := below_to MB.out hb
  clear ho hb r0 r1 r2 r3 HC MB MZ
  go_wp2_with fail
  go_quiet (fail)
  go_wp2_with fail
  refine bodyPost_ret (v := .tuple #[v, .int .i64 (p.2 : Int), .int .i64 0]) (by simp [results, Try.results17, go_sem]) rfl ?_
  exact ⟨v, rfl, HO.out.carry (fun _ _ => rfl), below_drewN HB.out _⟩

theorem un_of {n a b : Int} (h : un n a b = true) : a ≤ n ∧ n ≤ b ∧ n % 8 = 0 := of_decide_eq_true h
set_option maxRecDepth 100000 in
set_option maxHeartbeats 4000000 in
theorem rblocks_no {w : World} {x y s s' ax ay aw ah : Int} {a : Option Addr} {n c : Nat} (h : ¬ (sqr x y s s' = true ∧ are ax ay aw ah = true)) :
    Calls Try.prog 17 #[.agg #[.int .i64 x, .int .i64 y, .int .i64 s, .int .i64 s'], .agg #[.int .i64 ax, .int .i64 ay, .int .i64 aw, .int .i64 ah], .slice a n c] w fun e w' => e = .returned (.tuple #[.slice none 0 0, .int .i64 0, .int .i64 2]) ∧ Below w.heap.size w w' := by
  have HRg : Hid (∀ t, Calls Try.prog 26 #[.agg #[.int .i64 x, .int .i64 y, .int .i64 s, .int .i64 s']] t fun e w' => e = .returned (.bool (rgn x y s s')) ∧ Below t.heap.size t w') := fun t => region_any
  have E0 : Hid (∀ t, Calls Try.prog 34 #[.int .i64 ax, .int .i64 0, .int .i64 1024] t fun e w' => e = .returned (.bool (un ax 0 1024)) ∧ t = w') := fun t => eights_any
  have E1 : Hid (∀ t, Calls Try.prog 34 #[.int .i64 ay, .int .i64 0, .int .i64 1024] t fun e w' => e = .returned (.bool (un ay 0 1024)) ∧ t = w') := fun t => eights_any
  have E2 : Hid (∀ t, Calls Try.prog 34 #[.int .i64 aw, .int .i64 8, .int .i64 1024] t fun e w' => e = .returned (.bool (un aw 8 1024)) ∧ t = w') := fun t => eights_any
  have E3 : Hid (∀ t, Calls Try.prog 34 #[.int .i64 ah, .int .i64 8, .int .i64 1024] t fun e w' => e = .returned (.bool (un ah 8 1024)) ∧ t = w') := fun t => eights_any
  have hh : rgn x y s s' = false ∨ s ≠ 64 ∨ 1024 < x ∨ 1024 < y ∨ un ax 0 1024 = false ∨ un ay 0 1024 = false ∨ un aw 8 1024 = false ∨ un ah 8 1024 = false := by
    cases k0 : rgn x y s s'
    · exact Or.inl rfl
    · cases k1 : un ax 0 1024
      · simp
      · cases k2 : un ay 0 1024
        · simp
        · cases k3 : un aw 8 1024
          · simp
          · cases k4 : un ah 8 1024
            · simp
            · refine Or.inr ?_
              by_cases e1 : s = 64
              · by_cases e2 : x ≤ 1024
                · by_cases e3 : y ≤ 1024
                  · exact absurd ⟨by unfold sqr; rw [k0, decide_eq_true e1, decide_eq_true e2, decide_eq_true e3]; rfl, by unfold are; rw [k1, k2, k3, k4]; rfl⟩ h
                  · exact Or.inr (Or.inr (Or.inl (by omega)))
                · exact Or.inr (Or.inl (by omega))
              · exact Or.inl e1
  generalize rgn x y s s' = b0 at *
  generalize un ax 0 1024 = b1 at *
  generalize un ay 0 1024 = b2 at *
  generalize un aw 8 1024 = b3 at *
  generalize un ah 8 1024 = b4 at *
  have HH : Hid (b0 = false ∨ s ≠ 64 ∨ 1024 < x ∨ 1024 < y ∨ b1 = false ∨ b2 = false ∨ b3 = false ∨ b4 = false) := hh
  clear h hh
  have K3 : Hid (Fr ((w.alloc (.cells #[.int .i64 x, .int .i64 y, .int .i64 s, .int .i64 s'] 23)).alloc (.cells #[.int .i64 ax, .int .i64 ay, .int .i64 aw, .int .i64 ah] 23)) w.heap.size x y s s') := ⟨by simp [go_sem], by simp [go_sem], by simp [go_sem], by simp [go_sem]⟩
  have K4 : Hid (Fr ((w.alloc (.cells #[.int .i64 x, .int .i64 y, .int .i64 s, .int .i64 s'] 23)).alloc (.cells #[.int .i64 ax, .int .i64 ay, .int .i64 aw, .int .i64 ah] 23)) (w.heap.size + 1) ax ay aw ah) := ⟨by simp [go_sem], by simp [go_sem], by simp [go_sem], by simp [go_sem]⟩
  have KB : Hid (Below w.heap.size w ((w.alloc (.cells #[.int .i64 x, .int .i64 y, .int .i64 s, .int .i64 s'] 23)).alloc (.cells #[.int .i64 ax, .int .i64 ay, .int .i64 aw, .int .i64 ah] 23))) := to_alloc (from_alloc _ _) _
  have KZ : Hid (w.heap.size + 2 ≤ ((w.alloc (.cells #[.int .i64 x, .int .i64 y, .int .i64 s, .int .i64 s'] 23)).alloc (.cells #[.int .i64 ax, .int .i64 ay, .int .i64 aw, .int .i64 ah] 23)).heap.size) := by show _ ≤ _; simp
  go_enter Try.func17, Try.ntmps17
  go_upto_region 1 with fail
  generalize ((w.alloc (.cells #[.int .i64 x, .int .i64 y, .int .i64 s, .int .i64 s'] 23)).alloc (.cells #[.int .i64 ax, .int .i64 ay, .int .i64 aw, .int .i64 ah] 23)) = V0 at *
  obtain ⟨r0, r1, r2, r3⟩ := K3.out
  go_wp2_with fail
  refine (HRg.out _).mono ?_
  rintro e V1 ⟨rfl, hb⟩
  have hk := Kz.ofBelow (Z := fun i => i < w.heap.size + 2) (fun i hi => Nat.lt_of_lt_of_le hi KZ.out) hb
  have M3 : Hid (Fr V1 w.heap.size x y s s') := K3.out.kz hk (by show _ < _; omega)
  have M4 : Hid (Fr V1 (w.heap.size + 1) ax ay aw ah) := K4.out.kz hk (by show _ < _; omega)
  have MB : Hid (Below w.heap.size w V1) := below_to KB.out (hb.mono (by have := KZ.out; omega))
  clear hb hk r0 r1 r2 r3 K3 K4 KB KZ HRg
  obtain ⟨r0, r1, r2, r3⟩ := M3.out
  obtain ⟨q0, q1, q2, q3⟩ := M4.out
  have hh := HH.out
  clear HH M3 M4
  have fin : ∀ e : Ending, e = .returned (.tuple #[.slice none 0 0, .int .i64 0, .int .i64 2]) → e = .returned (.tuple #[.slice none 0 0, .int .i64 0, .int .i64 2]) := fun _ h => h
  clear fin
  have s64 : (s != 64) = decide (s ≠ 64) := by
    by_cases e : s = 64
    · simp [e]
    · rw [decide_eq_true e, bne_iff_ne]; exact e
  cases b0
  · clear hh s64
    go_wp2_with (first | ((with_reducible refine (E0.out _).mono ?_); rintro e w5 ⟨rfl, rfl⟩) | ((with_reducible refine (E1.out _).mono ?_); rintro e w5 ⟨rfl, rfl⟩) | ((with_reducible refine (E2.out _).mono ?_); rintro e w5 ⟨rfl, rfl⟩) | ((with_reducible refine (E3.out _).mono ?_); rintro e w5 ⟨rfl, rfl⟩))
    refine bodyPost_ret (v := .tuple #[.slice none 0 0, .int .i64 0, .int .i64 2]) (by simp [results, Try.results17, go_sem]) rfl ?_
    exact ⟨rfl, MB.out⟩
  · by_cases e1 : s = 64
    · by_cases e2 : x ≤ 1024
      · by_cases e3 : y ≤ 1024
        · subst e1
          cases b1
          · clear hh s64
            go_wp2_with (first | ((with_reducible refine (E0.out _).mono ?_); rintro e w5 ⟨rfl, rfl⟩) | ((with_reducible refine (E1.out _).mono ?_); rintro e w5 ⟨rfl, rfl⟩) | ((with_reducible refine (E2.out _).mono ?_); rintro e w5 ⟨rfl, rfl⟩) | ((with_reducible refine (E3.out _).mono ?_); rintro e w5 ⟨rfl, rfl⟩))
            refine bodyPost_ret (v := .tuple #[.slice none 0 0, .int .i64 0, .int .i64 2]) (by simp [results, Try.results17, go_sem]) rfl ?_
            exact ⟨rfl, MB.out⟩
          · cases b2
            · clear hh s64
              go_wp2_with (first | ((with_reducible refine (E0.out _).mono ?_); rintro e w5 ⟨rfl, rfl⟩) | ((with_reducible refine (E1.out _).mono ?_); rintro e w5 ⟨rfl, rfl⟩) | ((with_reducible refine (E2.out _).mono ?_); rintro e w5 ⟨rfl, rfl⟩) | ((with_reducible refine (E3.out _).mono ?_); rintro e w5 ⟨rfl, rfl⟩))
              refine bodyPost_ret (v := .tuple #[.slice none 0 0, .int .i64 0, .int .i64 2]) (by simp [results, Try.results17, go_sem]) rfl ?_
              exact ⟨rfl, MB.out⟩
            · cases b3
              · clear hh s64
                go_wp2_with (first | ((with_reducible refine (E0.out _).mono ?_); rintro e w5 ⟨rfl, rfl⟩) | ((with_reducible refine (E1.out _).mono ?_); rintro e w5 ⟨rfl, rfl⟩) | ((with_reducible refine (E2.out _).mono ?_); rintro e w5 ⟨rfl, rfl⟩) | ((with_reducible refine (E3.out _).mono ?_); rintro e w5 ⟨rfl, rfl⟩))
                refine bodyPost_ret (v := .tuple #[.slice none 0 0, .int .i64 0, .int .i64 2]) (by simp [results, Try.results17, go_sem]) rfl ?_
                exact ⟨rfl, MB.out⟩
              · have hb4 : b4 = false := by
                  rcases hh with q | q | q | q | q | q | q | q
                  · cases q
                  · exact absurd rfl q
                  · omega
                  · omega
                  · cases q
                  · cases q
                  · cases q
                  · exact q
                subst hb4
                clear hh s64
                go_wp2_with (first | ((with_reducible refine (E0.out _).mono ?_); rintro e w5 ⟨rfl, rfl⟩) | ((with_reducible refine (E1.out _).mono ?_); rintro e w5 ⟨rfl, rfl⟩) | ((with_reducible refine (E2.out _).mono ?_); rintro e w5 ⟨rfl, rfl⟩) | ((with_reducible refine (E3.out _).mono ?_); rintro e w5 ⟨rfl, rfl⟩))
                refine bodyPost_ret (v := .tuple #[.slice none 0 0, .int .i64 0, .int .i64 2]) (by simp [results, Try.results17, go_sem]) rfl ?_
                exact ⟨rfl, MB.out⟩
        · subst e1
          clear hh s64
          go_wp2_with (first | ((with_reducible refine (E0.out _).mono ?_); rintro e w5 ⟨rfl, rfl⟩) | ((with_reducible refine (E1.out _).mono ?_); rintro e w5 ⟨rfl, rfl⟩) | ((with_reducible refine (E2.out _).mono ?_); rintro e w5 ⟨rfl, rfl⟩) | ((with_reducible refine (E3.out _).mono ?_); rintro e w5 ⟨rfl, rfl⟩))
          refine bodyPost_ret (v := .tuple #[.slice none 0 0, .int .i64 0, .int .i64 2]) (by simp [results, Try.results17, go_sem]) rfl ?_
          exact ⟨rfl, MB.out⟩
      · subst e1
        clear hh s64
        go_wp2_with (first | ((with_reducible refine (E0.out _).mono ?_); rintro e w5 ⟨rfl, rfl⟩) | ((with_reducible refine (E1.out _).mono ?_); rintro e w5 ⟨rfl, rfl⟩) | ((with_reducible refine (E2.out _).mono ?_); rintro e w5 ⟨rfl, rfl⟩) | ((with_reducible refine (E3.out _).mono ?_); rintro e w5 ⟨rfl, rfl⟩))
        refine bodyPost_ret (v := .tuple #[.slice none 0 0, .int .i64 0, .int .i64 2]) (by simp [results, Try.results17, go_sem]) rfl ?_
        exact ⟨rfl, MB.out⟩
    · rw [decide_eq_true e1] at s64
      clear hh e1
      go_wp2_with (first | ((with_reducible refine (E0.out _).mono ?_); rintro e w5 ⟨rfl, rfl⟩) | ((with_reducible refine (E1.out _).mono ?_); rintro e w5 ⟨rfl, rfl⟩) | ((with_reducible refine (E2.out _).mono ?_); rintro e w5 ⟨rfl, rfl⟩) | ((with_reducible refine (E3.out _).mono ?_); rintro e w5 ⟨rfl, rfl⟩))
      refine bodyPost_ret (v := .tuple #[.slice none 0 0, .int .i64 0, .int .i64 2]) (by simp [results, Try.results17, go_sem]) rfl ?_
      exact ⟨rfl, MB.out⟩
end Go.Proofs.Ytjijgeeejhijhaa
