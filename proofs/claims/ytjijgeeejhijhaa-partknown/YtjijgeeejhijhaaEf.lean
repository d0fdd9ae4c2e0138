/- DERIVED. The program's Blocks. -/
import Derived.Test.YtjijgeeejhijhaaEe
import Derived.Test.YtjijgeeejhijhaaEg
import Derived.Laws.EntriesVeiled
namespace Go.Proofs.Ytjijgeeejhijhaa
open Go.RowKit

/-- the closures' variables, new -/
def ad0 (V : World) (p4 p5 : Nat) (a : Option Addr) (c : Nat) (ar : Rc) (C : List Int) : Ad := ⟨p4, V.heap.size, p5, V.heap.size + 1, V.heap.size + 1 + 1, V.heap.size + 1 + 1 + 1, a, c, ar, C⟩
def wd0 (V : World) (p4 p5 : Nat) : World := (((V.alloc (.cells #[.int .i64 0] 3)).alloc (.cells #[.func (.func 30) #[] #[.pointer (some ⟨V.heap.size, 0, none⟩), .pointer (some ⟨p5, 0, none⟩)]] 52)).alloc (.cells #[.slice none 0 0] 27)).alloc (.cells #[.func (.func 31) #[] #[.pointer (some ⟨p4, 0, none⟩), .pointer (some ⟨V.heap.size + 1, 0, none⟩), .pointer (some ⟨V.heap.size + 1 + 1, 0, none⟩), .pointer (some ⟨V.heap.size + 1 + 1 + 1, 0, none⟩)]] 53)
def zs0 (V : World) : Nat → Prop := fun i => i < V.heap.size + 4 ∧ i ≠ V.heap.size ∧ i ≠ V.heap.size + 1 + 1
theorem wd0_size (V : World) (p4 p5 : Nat) : (wd0 V p4 p5).heap.size = V.heap.size + 4 := by simp [wd0]
theorem wd0_below (V : World) (p4 p5 : Nat) : Below V.heap.size V (wd0 V p4 p5) := to_alloc (to_alloc (to_alloc (from_alloc _ _) _) _) _
theorem st0 {V : World} {p4 p5 c : Nat} {a : Option Addr} {x y m n : Int} {C : List Int} (h4 : Fr V p4 x y m n) (l4 : p4 < V.heap.size) (h5 : V.cell? ⟨p5, 0, none⟩ = some (.slice a C.length c)) (l5 : p5 < V.heap.size) (hs : Si V a C) :
    Zs (ad0 V p4 p5 a c (x, y, m, n) C) (zs0 V) ∧ St (ad0 V p4 p5 a c (x, y, m, n) C) (zs0 V) (wd0 V p4 p5) [] 0 := by
  have hb := wd0_below V p4 p5
  have hz := wd0_size V p4 p5
  have hn : ∀ p o, p < V.heap.size → (wd0 V p4 p5).cell? ⟨p, o, none⟩ = V.cell? ⟨p, o, none⟩ := fun p o hp => newCell hb p o hp
  refine ⟨⟨⟨by show p4 < _; omega, by show p4 ≠ _; omega, by show p4 ≠ _; omega⟩, ⟨by show p5 < _; omega, by show p5 ≠ _; omega, by show p5 ≠ _; omega⟩, ⟨by show V.heap.size + 1 < _; omega, by show V.heap.size + 1 ≠ _; omega, by show V.heap.size + 1 ≠ _; omega⟩, ⟨by show V.heap.size + 1 + 1 + 1 < _; omega, by show V.heap.size + 1 + 1 + 1 ≠ _; omega, by show V.heap.size + 1 + 1 + 1 ≠ _; omega⟩, fun b o s h0 he => ?_, fun q => q.2.1 rfl, fun q => q.2.2 rfl, by show V.heap.size ≠ V.heap.size + 1 + 1; omega⟩, ?_⟩
  · rcases hs with hs | ⟨b', o', h1, h2, _⟩
    · exact absurd hs h0
    · have he' : a = some ⟨b, o, s⟩ := he
      rw [he'] at h1
      simp only [Option.some.injEq, Addr.mk.injEq] at h1
      rw [h1.1]
      exact ⟨by omega, by omega, by omega⟩
  · refine ⟨fun i hi => by rw [hz]; exact hi.1, ⟨?_, ?_, ?_, ?_⟩, ?_, ?_, ?_, ?_, hs.to hb, ?_, ?_, ⟨.slice none 0 0, ?_, Or4.nil _ _, fun g hg => by simp [Value.ownBlock] at hg⟩, ?_, ?_, Nat.zero_le _⟩
    · show (wd0 V p4 p5).cell? ⟨p4, 0, none⟩ = _; rw [hn _ _ l4]; exact h4.r0
    · show (wd0 V p4 p5).cell? ⟨p4, 0 + 1, none⟩ = _; rw [hn _ _ l4]; exact h4.r1
    · show (wd0 V p4 p5).cell? ⟨p4, 0 + 2, none⟩ = _; rw [hn _ _ l4]; exact h4.r2
    · show (wd0 V p4 p5).cell? ⟨p4, 0 + 3, none⟩ = _; rw [hn _ _ l4]; exact h4.r3
    · show (wd0 V p4 p5).cell? ⟨V.heap.size, 0, none⟩ = _; unfold wd0; simp [go_sem]
    · show (wd0 V p4 p5).frozen? ⟨V.heap.size, 0, none⟩ = _; unfold wd0; simp [go_sem]
    · show V.heap.size < _; rw [hz]; omega
    · show (wd0 V p4 p5).cell? ⟨p5, 0, none⟩ = _; rw [hn _ _ l5]; exact h5
    · show (wd0 V p4 p5).cell? ⟨V.heap.size + 1, 0, none⟩ = _; unfold wd0; simp [go_sem, pkF, ad0]
    · show (wd0 V p4 p5).cell? ⟨V.heap.size + 1 + 1 + 1, 0, none⟩ = _; unfold wd0; simp [go_sem, grF, ad0]
    · show (wd0 V p4 p5).cell? ⟨V.heap.size + 1 + 1, 0, none⟩ = _; unfold wd0; simp [go_sem]
    · show (wd0 V p4 p5).frozen? ⟨V.heap.size + 1 + 1, 0, none⟩ = _; unfold wd0; simp [go_sem]
    · show V.heap.size + 1 + 1 < _; rw [hz]; omega
set_option maxRecDepth 100000 in
set_option maxHeartbeats 4000000 in
theorem blocks_ok {w : World} {x y s s' ax ay aw ah : Int} {a : Option Addr} {c : Nat} {C : List Int} (hq : sqr x y s s' = true) (ha : are ax ay aw ah = true) (hs : Si w a C) (hC : C.length ≤ 140737488355328) :
    Calls Try.prog 16 #[.agg #[.int .i64 x, .int .i64 y, .int .i64 s, .int .i64 s'], .agg #[.int .i64 ax, .int .i64 ay, .int .i64 aw, .int .i64 ah], .slice a C.length c] w fun e w' => Bq w w' e (tree (ax, ay, aw, ah) C 3 x y 0) := by
  obtain ⟨hr, h64, hx, hy⟩ := sqr_in hq
  obtain ⟨-, hss, -, -⟩ := rgn_in hr
  subst hss
  subst h64
  have HSq : Hid (∀ t, Calls Try.prog 28 #[.agg #[.int .i64 x, .int .i64 y, .int .i64 64, .int .i64 64]] t fun e w' => e = .returned (.bool true) ∧ Below t.heap.size t w') := fun t => by rw [← hq]; exact isSquare_any
  have HAr : Hid (∀ t, Calls Try.prog 29 #[.agg #[.int .i64 ax, .int .i64 ay, .int .i64 aw, .int .i64 ah]] t fun e w' => e = .returned (.bool true) ∧ Below t.heap.size t w') := fun t => by rw [← ha]; exact isArea_any
  obtain ⟨a0, a1, a2, a3⟩ := are_in ha
  have hao : ArOk (ax, ay, aw, ah) := by show Rb ax ay aw ah; exact ⟨by omega, by omega, by omega, by omega⟩
  have HGr : Hid (∀ (V : World) (p4 p5 : Nat), Fr V p4 ax ay aw ah → p4 < V.heap.size → V.cell? ⟨p5, 0, none⟩ = some (.slice a C.length c) → p5 < V.heap.size → Si V a C →
      Calls Try.prog 31 #[.agg #[.int .i64 x, .int .i64 y, .int .i64 64, .int .i64 64], .pointer (some ⟨p4, 0, none⟩), .pointer (some ⟨V.heap.size + 1, 0, none⟩), .pointer (some ⟨V.heap.size + 1 + 1, 0, none⟩), .pointer (some ⟨V.heap.size + 1 + 1 + 1, 0, none⟩)] (wd0 V p4 p5) fun e w' => e = .returned (.tuple #[]) ∧ St (ad0 V p4 p5 a c (ax, ay, aw, ah) C) (zs0 V) w' (tree (ax, ay, aw, ah) C 3 x y 0).1 (tree (ax, ay, aw, ah) C 3 x y 0).2 ∧ Kz (zs0 V) (wd0 V p4 p5) w') := fun V p4 p5 h4 l4 h5 l5 hsi => by
    obtain ⟨hz, hst⟩ := st0 h4 l4 h5 l5 hsi
    refine (grow_all 3 (by omega) (ad0 V p4 p5 a c (ax, ay, aw, ah) C) (zs0 V) (wd0 V p4 p5) [] 0 x y hz hst hao hr (by show x + 64 ≤ _; omega) (by show y + 64 ≤ _; omega) hC (by show 0 + lf 3 ≤ 300; decide)).mono ?_
    rintro e w' ⟨h1, h2, h3⟩
    rw [List.nil_append] at h2
    exact ⟨h1, h2, h3⟩
  generalize tree (ax, ay, aw, ah) C 3 x y 0 = p at *
  have HSi : Hid (Si w a C) := hs
  clear hq ha hr hx hy a0 a1 a2 a3 hao hC hs
  go_enter Try.func16, Try.ntmps16
  go_upto_region 1 with fail
  have K3 : Hid (Fr (((w.alloc (.cells #[.int .i64 x, .int .i64 y, .int .i64 64, .int .i64 64] 23)).alloc (.cells #[.int .i64 ax, .int .i64 ay, .int .i64 aw, .int .i64 ah] 23)).alloc (.cells #[.slice a C.length c] 33)) w.heap.size x y 64 64) := ⟨by simp [go_sem], by simp [go_sem], by simp [go_sem], by simp [go_sem]⟩
  have K4 : Hid (Fr (((w.alloc (.cells #[.int .i64 x, .int .i64 y, .int .i64 64, .int .i64 64] 23)).alloc (.cells #[.int .i64 ax, .int .i64 ay, .int .i64 aw, .int .i64 ah] 23)).alloc (.cells #[.slice a C.length c] 33)) (w.heap.size + 1) ax ay aw ah) := ⟨by simp [go_sem], by simp [go_sem], by simp [go_sem], by simp [go_sem]⟩
  have K5 : Hid ((((w.alloc (.cells #[.int .i64 x, .int .i64 y, .int .i64 64, .int .i64 64] 23)).alloc (.cells #[.int .i64 ax, .int .i64 ay, .int .i64 aw, .int .i64 ah] 23)).alloc (.cells #[.slice a C.length c] 33)).cell? ⟨w.heap.size + 1 + 1, 0, none⟩ = some (.slice a C.length c)) := by show _ = _; simp [go_sem]
  have KB : Hid (Below w.heap.size w (((w.alloc (.cells #[.int .i64 x, .int .i64 y, .int .i64 64, .int .i64 64] 23)).alloc (.cells #[.int .i64 ax, .int .i64 ay, .int .i64 aw, .int .i64 ah] 23)).alloc (.cells #[.slice a C.length c] 33))) := to_alloc (to_alloc (from_alloc _ _) _) _
  have KZ : Hid (w.heap.size + 3 ≤ (((w.alloc (.cells #[.int .i64 x, .int .i64 y, .int .i64 64, .int .i64 64] 23)).alloc (.cells #[.int .i64 ax, .int .i64 ay, .int .i64 aw, .int .i64 ah] 23)).alloc (.cells #[.slice a C.length c] 33)).heap.size) := by show _ ≤ _; simp
  generalize (((w.alloc (.cells #[.int .i64 x, .int .i64 y, .int .i64 64, .int .i64 64] 23)).alloc (.cells #[.int .i64 ax, .int .i64 ay, .int .i64 aw, .int .i64 ah] 23)).alloc (.cells #[.slice a C.length c] 33)) = V0 at *
  have r0 := K3.out.r0
  have r1 := K3.out.r1
  have r2 := K3.out.r2
  have r3 := K3.out.r3
  go_wp2_with fail
  refine (HSq.out _).mono ?_
  rintro e V1 ⟨rfl, hb⟩
  have K4a : Hid (Fr V1 (w.heap.size + 1) ax ay aw ah) := K4.out.kz (Kz.ofBelow (Z := fun i => i < w.heap.size + 3) (fun i hi => Nat.lt_of_lt_of_le hi KZ.out) hb) (by show _ < _; omega)
  have KBa : Hid (Below V0.heap.size V0 V1) := hb
  clear hb r0 r1 r2 r3
  have r0 := K4a.out.r0
  have r1 := K4a.out.r1
  have r2 := K4a.out.r2
  have r3 := K4a.out.r3
  go_wp2_with fail
  refine (HAr.out _).mono ?_
  rintro e V ⟨rfl, hb'⟩
  have hb : Below V0.heap.size V0 V := below_to KBa.out hb'
  have hk := Kz.ofBelow (Z := fun i => i < w.heap.size + 3) (fun i hi => Nat.lt_of_lt_of_le hi KZ.out) hb
  have M3 : Hid (Fr V w.heap.size x y 64 64) := K3.out.kz hk (by show _ < _; omega)
  have M4 : Hid (Fr V (w.heap.size + 1) ax ay aw ah) := K4.out.kz hk (by show _ < _; omega)
  have M5 : Hid (V.cell? ⟨w.heap.size + 1 + 1, 0, none⟩ = some (.slice a C.length c)) := by show _ = _; rw [hk.cell (by show _ < _; omega)]; exact K5.out
  have MB : Hid (Below w.heap.size w V) := below_to KB.out (hb.mono (by have := KZ.out; have := KB.out.size; omega))
  have MZ : Hid (w.heap.size + 3 ≤ V.heap.size) := Nat.le_trans KZ.out hb.size
  have HG := HGr.out V (w.heap.size + 1) (w.heap.size + 1 + 1) M4.out (by have := MZ.out; omega) M5.out (by have := MZ.out; omega) (HSi.out.to MB.out)
  have HGc : Hid (Calls Try.prog 31 #[.agg #[.int .i64 x, .int .i64 y, .int .i64 64, .int .i64 64], .pointer (some ⟨w.heap.size + 1, 0, none⟩), .pointer (some ⟨V.heap.size + 1, 0, none⟩), .pointer (some ⟨V.heap.size + 1 + 1, 0, none⟩), .pointer (some ⟨V.heap.size + 1 + 1 + 1, 0, none⟩)] (wd0 V (w.heap.size + 1) (w.heap.size + 1 + 1)) fun e w' => e = .returned (.tuple #[]) ∧ St (ad0 V (w.heap.size + 1) (w.heap.size + 1 + 1) a c (ax, ay, aw, ah) C) (zs0 V) w' p.1 p.2 ∧ Kz (zs0 V) (wd0 V (w.heap.size + 1) (w.heap.size + 1 + 1)) w') := HG
  have hwb := wd0_below V (w.heap.size + 1) (w.heap.size + 1 + 1)
  have M3b : Hid (Fr (wd0 V (w.heap.size + 1) (w.heap.size + 1 + 1)) w.heap.size x y 64 64) := M3.out.kz (Kz.ofBelow (Z := fun i => i < w.heap.size + 3) (fun i hi => Nat.lt_of_lt_of_le hi MZ.out) hwb) (by show _ < _; omega)
  clear HG hwb hb hb' hk r0 r1 r2 r3 K3 K4 K5 KB KZ K4a KBa HGr HSq HAr HSi M4 M5
  have HF : Hid (∀ w', St (ad0 V (w.heap.size + 1) (w.heap.size + 1 + 1) a c (ax, ay, aw, ah) C) (zs0 V) w' p.1 p.2 → Kz (zs0 V) (wd0 V (w.heap.size + 1) (w.heap.size + 1 + 1)) w' → ∃ v, w'.cell? ⟨V.heap.size + 1 + 1, 0, none⟩ = some v ∧ w'.cell? ⟨V.heap.size, 0, none⟩ = some (.int .i64 (p.2 : Int)) ∧ Or4 w' w.heap.size v p.1 ∧ Below w.heap.size w w') := fun w' hs hk => by
    obtain ⟨v, h1, h2, h3⟩ := hs.leaf
    refine ⟨v, h1, hs.used, h2.rebase fun g hg => ?_, ?_⟩
    · have h4 := (h3 g hg).1
      have h5 := MZ.out
      refine Nat.le_of_not_lt fun hlt => h4 ⟨by omega, by omega, by omega⟩
    · have hb := below_to MB.out ((wd0_below V (w.heap.size + 1) (w.heap.size + 1 + 1)).mono (by have := MZ.out; omega))
      exact ⟨hk.os.trans hb.os, hk.tape.trans hb.tape, hk.output.trans hb.output, Nat.le_trans hb.size hk.size, fun i hi => by have := MZ.out; rw [hk.block i ⟨by omega, by omega, by omega⟩]; exact hb.block i hi⟩
  have HC3 : Hid ((wd0 V (w.heap.size + 1) (w.heap.size + 1 + 1)).cell? ⟨V.heap.size + 1 + 1 + 1, 0, none⟩ = some (.func (.func 31) #[] #[.pointer (some ⟨w.heap.size + 1, 0, none⟩), .pointer (some ⟨V.heap.size + 1, 0, none⟩), .pointer (some ⟨V.heap.size + 1 + 1, 0, none⟩), .pointer (some ⟨V.heap.size + 1 + 1 + 1, 0, none⟩)])) := by show _ = _; unfold wd0; simp [go_sem]
  go_upto_region 8 with fail
  change Code.wp Try.prog _ _ _ (wd0 V (w.heap.size + 1) (w.heap.size + 1 + 1))
  have c3 := HC3.out
  have r0 := M3b.out.r0
  have r1 := M3b.out.r1
  have r2 := M3b.out.r2
  have r3 := M3b.out.r3
  generalize wd0 V (w.heap.size + 1) (w.heap.size + 1 + 1) = X at *
  clear HC3 M3 M3b MB MZ
  go_wp2_with fail
  refine HGc.out.mono ?_
  rintro e X' ⟨rfl, hst, hkz⟩
  obtain ⟨v, c4, c5, ho, hb⟩ := HF.out X' hst hkz
  have HO : Hid _ := ho
  have HB : Hid _ := hb
  clear hst hkz ho hb c3 r0 r1 r2 r3 HF HGc
  go_wp2_with fail
  go_quiet (fail)
  go_wp2_with fail
  refine bodyPost_ret (v := .tuple #[v, .int .i64 (p.2 : Int), .int .i64 0]) (by simp [results, Try.results16, go_sem]) rfl ?_
  exact ⟨v, rfl, HO.out.carry (fun _ _ => rfl), below_drewN HB.out _⟩

set_option maxRecDepth 100000 in
set_option maxHeartbeats 2000000 in
theorem blocks_no {w : World} {x y s s' ax ay aw ah : Int} {a : Option Addr} {n c : Nat} (h : ¬ (sqr x y s s' = true ∧ are ax ay aw ah = true)) :
    Calls Try.prog 16 #[.agg #[.int .i64 x, .int .i64 y, .int .i64 s, .int .i64 s'], .agg #[.int .i64 ax, .int .i64 ay, .int .i64 aw, .int .i64 ah], .slice a n c] w fun e w' => e = .returned (.tuple #[.slice none 0 0, .int .i64 0, .int .i64 2]) ∧ Below w.heap.size w w' := by
  have HSq : Hid (∀ t, Calls Try.prog 28 #[.agg #[.int .i64 x, .int .i64 y, .int .i64 s, .int .i64 s']] t fun e w' => e = .returned (.bool (sqr x y s s')) ∧ Below t.heap.size t w') := fun t => isSquare_any
  have HAr : Hid (∀ t, Calls Try.prog 29 #[.agg #[.int .i64 ax, .int .i64 ay, .int .i64 aw, .int .i64 ah]] t fun e w' => e = .returned (.bool (are ax ay aw ah)) ∧ Below t.heap.size t w') := fun t => isArea_any
  generalize sqr x y s s' = q at *
  generalize are ax ay aw ah = q' at *
  have hq : q = false ∨ (q = true ∧ q' = false) := by cases q <;> cases q' <;> simp_all
  clear h
  have K4 : Hid (∀ o p : Obj, Fr (((w.alloc o).alloc (.cells #[.int .i64 ax, .int .i64 ay, .int .i64 aw, .int .i64 ah] 23)).alloc p) (w.heap.size + 1) ax ay aw ah) := fun o p => ⟨by simp [go_sem], by simp [go_sem], by simp [go_sem], by simp [go_sem]⟩
  have KB : Hid (∀ o p r : Obj, Below w.heap.size w (((w.alloc o).alloc p).alloc r)) := fun o p r => to_alloc (to_alloc (from_alloc _ _) _) _
  have KZ : Hid (∀ o p r : Obj, w.heap.size + 1 < (((w.alloc o).alloc p).alloc r).heap.size) := fun o p r => by simp
  rcases hq with rfl | ⟨rfl, rfl⟩
  · go_enter Try.func16, Try.ntmps16
    go_wp2_with fail
    refine (HSq.out _).mono ?_
    rintro e V1 ⟨rfl, hb⟩
    have HB := below_to (KB.out _ _ _) hb
    have HBh : Hid (Below w.heap.size w V1) := HB
    clear HB hb
    go_wp2_with fail
    refine bodyPost_ret (v := .tuple #[.slice none 0 0, .int .i64 0, .int .i64 2]) (by simp [results, Try.results16, go_sem]) rfl ?_
    exact ⟨rfl, HBh.out⟩
  · go_enter Try.func16, Try.ntmps16
    go_wp2_with fail
    refine (HSq.out _).mono ?_
    rintro e V1 ⟨rfl, hb⟩
    have HBh : Hid (Below w.heap.size w V1) := below_to (KB.out _ _ _) hb
    have r := K4.out (.cells #[.int .i64 x, .int .i64 y, .int .i64 s, .int .i64 s'] 23) (.cells #[.slice a n c] 33)
    have r' : Fr V1 (w.heap.size + 1) ax ay aw ah := ⟨by rw [newCell hb _ _ (KZ.out _ _ _)]; exact r.r0, by rw [newCell hb _ _ (KZ.out _ _ _)]; exact r.r1, by rw [newCell hb _ _ (KZ.out _ _ _)]; exact r.r2, by rw [newCell hb _ _ (KZ.out _ _ _)]; exact r.r3⟩
    obtain ⟨r0, r1, r2, r3⟩ := r'
    clear hb r
    go_wp2_with fail
    refine (HAr.out _).mono ?_
    rintro e V ⟨rfl, hb⟩
    have HBi : Hid (Below w.heap.size w V) := below_to HBh.out hb
    clear hb
    go_wp2_with fail
    refine bodyPost_ret (v := .tuple #[.slice none 0 0, .int .i64 0, .int .i64 2]) (by simp [results, Try.results16, go_sem]) rfl ?_
    exact ⟨rfl, HBi.out⟩
end Go.Proofs.Ytjijgeeejhijhaa
