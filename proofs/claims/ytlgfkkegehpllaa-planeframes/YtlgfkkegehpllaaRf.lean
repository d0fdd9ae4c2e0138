/- DERIVED. The document's Cut. -/
import Derived.Test.YtlgfkkegehpllaaRe
import Derived.Test.YtlgfkkegehpllaaQa
namespace Go.Proofs.Ytlgfkkegehpllaa
open Go.RowKit

theorem take_step {L : List Nat} {n : Nat} (h : n < L.length) : L.take n ++ [L.getD n 0] = L.take (n + 1) := by
  rw [List.take_succ_eq_append_getElem h, List.getD_eq_getElem?_getD, List.getElem?_eq_getElem h]; rfl

/-- 'append(c, x)' on a row of bytes -/
theorem wpList_append_u8 (wr : World) {ops : Array Oper} {rest : List Oper} {o : Oper} {a : Act} {Q : Exit → Act → World → Prop} (hgd : o.guard = none) (s x : Operand)
    (ho : o.op = .call { callee := .builtin .append, args := #[s, x], argTypes := #[22, 22] })
    (B n : Nat) (C : List Nat) (v : Value) (X : Int) (y : Nat) (hX : X = (y : Int)) (hown : wr.ownsRow B 5 1 v n (ns .u8 C)) (hB : B ≤ wr.heap.size) (hL : n < 70368744177664)
    (hs : a.eval s = v) (hx : a.eval x = .slice (some ⟨wr.heap.size, 0, none⟩) 1 1)
    (h : ∀ g cap w', w'.ownsRow B 5 1 (.slice (some ⟨g, 0, none⟩) (n + 1) cap) (n + 1) (ns .u8 (C ++ [y])) → Below B wr w' → wpList Try.prog ops Q rest (a.put o.dst (.slice (some ⟨g, 0, none⟩) (n + 1) cap)) w') :
    wpList Try.prog ops Q (o :: rest) a (wr.alloc (.cells #[.int .u8 X] 5)) := by
  subst hX
  obtain ⟨i, hi, hz0, hz1, hz2⟩ := info_parts Try.info5
  have hnews : ∀ j u, (ns .u8 [y])[j]? = some u → (wr.alloc (.cells #[.int .u8 (y : Int)] 5)).cell? ((⟨wr.heap.size, 0, none⟩ : Addr).add j) = some u := World.news_of_block (cs := #[.int .u8 (y : Int)]) (heap_alloc_new wr _)
  refine wpList_append_lies _ hgd s x 22 ho B 5 i (.int .u8 0) 1 1 Try.underlying22 hi hz0 hz1 hz2 rfl (by omega) v n (ns .u8 C) hs (hown.alloc _) ⟨wr.heap.size, 0, none⟩ 1 1 (ns .u8 [y]) hx (by rfl) hnews (ns_one _ _) (by omega) (by unfold maxLen; omega) (by omega) (by simp; omega) (wr.heap.size + 1) (by simp) ?_
  intro g cap w' hown' hgrow hat _
  refine h g cap w' (by rw [ns_append]; exact hown') ?_
  exact ((Below.refl B wr).alloc hB _).grown hgrow (by simp; omega) (fun k hk => (hown.lt k hk).1)

def CuO (V : World) (L : List Nat) (w Y ht : Nat) (ov yv : Value) (wr : World) : Prop := ∃ (k n : Nat) (a' : Option Addr) (c' : Nat), k ≤ ht ∧ n = k * w ∧ yv = .int .i64 ((Y + k : Nat) : Int) ∧ ov = .slice a' n c' ∧ (0 < n → ∃ g, a' = some ⟨g, 0, none⟩) ∧ wr.ownsRow V.heap.size 5 1 (.slice a' n c') n (ns .u8 (L.take n)) ∧ Below V.heap.size V wr
def CuI (V : World) (L : List Nat) (q w X : Nat) (ov xv : Value) (wr : World) : Prop := ∃ (j n : Nat) (a' : Option Addr) (c' : Nat), j ≤ w ∧ n = q + j ∧ xv = .int .i64 ((X + j : Nat) : Int) ∧ ov = .slice a' n c' ∧ (0 < n → ∃ g, a' = some ⟨g, 0, none⟩) ∧ wr.ownsRow V.heap.size 5 1 (.slice a' n c') n (ns .u8 (L.take n)) ∧ Below V.heap.size V wr
theorem own_sl {w : World} {B n c : Nat} {a : Option Addr} {L : List Nat} (hn : n = L.length) (h0 : 0 < n) (h : w.ownsRow B 5 1 (.slice a n c) n (ns .u8 L)) (ha : ∃ g, a = some ⟨g, 0, none⟩) : Sl w .u8 a L := by
  obtain ⟨g, rfl⟩ := ha
  subst hn
  have hlt := h.lt g rfl
  exact Or.inr ⟨g, 0, rfl, hlt.2, fun j hj => by rw [Nat.zero_add, h.cellAt j (by omega)]; exact ns_get _ _ _ hj⟩

set_option maxRecDepth 100000 in
set_option maxHeartbeats 2000000 in
theorem rcut_ok {u : World} {a : Option Addr} {c : Nat} {C : List Nat} {x y X Y w ht : Nat} (hs : Sl u .u8 a C) (hx0 : 1 ≤ x) (hx1 : x ≤ 512) (hy0 : 1 ≤ y) (hy1 : y ≤ 512) (hl : C.length = x * y) (hw : 1 ≤ w) (hh : 1 ≤ ht) (hX : X + w ≤ x) (hY : Y + ht ≤ y) :
    Calls Try.prog 24 #[.agg #[.int .i64 (x : Int), .int .i64 (y : Int), .slice a C.length c], .agg #[.int .i64 (X : Int), .int .i64 (Y : Int), .int .i64 (w : Int), .int .i64 (ht : Int)]] u fun e w' => ∃ a' c', e = .returned (.tuple #[.slice a' (w * ht) c', .int .i64 0]) ∧ Sl w' .u8 a' (cutL x C X Y w ht) ∧ Below u.heap.size u w' := by
  have hck : ck (x : Int) (y : Int) C = 0 := ck_ok (POk.of hx0 hx1 hy0 hy1 hl)
  have HW : Hid (Win (x : Int) (y : Int) (X : Int) (Y : Int) (w : Int) (ht : Int)) := ⟨by omega, by omega, by omega, by omega, by omega, by omega⟩
  have hp := prod_le hx1 hy1
  have hwh : w * ht ≤ 262144 := prod_le (by omega) (by omega)
  obtain ⟨b, o, rfl, hbl, hcell⟩ := hs.form (by rw [hl]; exact Nat.mul_pos hx0 hy0)
  obtain ⟨L, hL⟩ : ∃ L, L = cutL x C X Y w ht := ⟨_, rfl⟩
  have HLL : Hid (L.length = w * ht) := by unfold Hid; rw [hL, cutL_len]
  have HG : Hid (∀ k j, k < ht → j < w → (k * w + j < L.length ∧ L.getD (k * w + j) 0 = C.getD ((Y + k) * x + (X + j)) 0 ∧ (Y + k) * x + (X + j) < C.length)) := fun k j hk hj => by
    have h1 : k * w + j < w * ht := at_lt hk hj
    refine ⟨by rw [HLL.out]; exact h1, ?_, by rw [hl]; exact at_lt (by omega) (by omega)⟩
    rw [hL]; unfold cutL; rw [tab_get _ h1]; unfold cutF
    rw [show (k * w + j) / w = k by rw [Nat.add_comm, Nat.add_mul_div_right _ _ (by omega), Nat.div_eq_of_lt hj, Nat.zero_add], show (k * w + j) % w = j by rw [Nat.add_comm, Nat.add_mul_mod_self_right, Nat.mod_eq_of_lt hj]]
  have HCC : Hid (∀ t : World, Below u.heap.size u t → ∀ j, j < C.length → t.cell? ⟨b, o + j, none⟩ = some (.int .u8 (C.getD j 0 : Nat))) := fun t hb j hj => by rw [newCell hb _ _ hbl]; exact hcell j hj
  have HCL : Hid (L = cutL x C X Y w ht) := hL
  have HWH : Hid (w * ht ≤ 262144) := hwh
  have HCB : Hid (C.length ≤ 262144) := by unfold Hid; rw [hl]; exact hp
  have i1 : (x : Int) ≤ 512 := by omega
  have i2 : (Y : Int) + (ht : Int) ≤ 512 := by omega
  have i3 : (X : Int) + (w : Int) ≤ 512 := by omega
  clear hs hl hcell hp hwh hL hbl
  go_enter Try.func24, Try.ntmps24
  go_wp2_with fail
  refine rcheck_any.mono ?_
  rintro e w1 ⟨rfl, hb⟩
  rw [hck]
  have d0 : w1.cell? ⟨u.heap.size, 0, none⟩ = some (.int .i64 (x : Int)) := by rw [newCell hb _ _ (by simp <;> omega)]; simp [go_sem]
  have d1 : w1.cell? ⟨u.heap.size, 1, none⟩ = some (.int .i64 (y : Int)) := by rw [newCell hb _ _ (by simp <;> omega)]; simp [go_sem]
  have d2 : w1.cell? ⟨u.heap.size, 2, none⟩ = some (.slice (some ⟨b, o, none⟩) C.length c) := by rw [newCell hb _ _ (by simp <;> omega)]; simp [go_sem]
  have d3 : w1.cell? ⟨u.heap.size + 1, 0, none⟩ = some (.int .i64 (X : Int)) := by rw [newCell hb _ _ (by simp <;> omega)]; simp [go_sem]
  have d4 : w1.cell? ⟨u.heap.size + 1, 1, none⟩ = some (.int .i64 (Y : Int)) := by rw [newCell hb _ _ (by simp <;> omega)]; simp [go_sem]
  have d5 : w1.cell? ⟨u.heap.size + 1, 2, none⟩ = some (.int .i64 (w : Int)) := by rw [newCell hb _ _ (by simp <;> omega)]; simp [go_sem]
  have d6 : w1.cell? ⟨u.heap.size + 1, 3, none⟩ = some (.int .i64 (ht : Int)) := by rw [newCell hb _ _ (by simp <;> omega)]; simp [go_sem]
  have hz : u.heap.size + 2 ≤ w1.heap.size := by have := hb.size; simp at this; omega
  have HB : Hid (Below u.heap.size u w1) := below_to (to_alloc (from_alloc u _) _) hb
  clear hb hck
  go_wp2_with fail
  refine (rwithin_yes HW.out (by omega) (by omega)).mono ?_
  rintro e V ⟨rfl, hb⟩
  have HBV : Hid (Below u.heap.size u V) := below_to HB.out hb
  have hzV : u.heap.size + 2 ≤ V.heap.size := Nat.le_trans hz hb.size
  have HF : Hid (∀ t : World, Below V.heap.size V t → (t.cell? ⟨u.heap.size, 0, none⟩ = some (.int .i64 (x : Int)) ∧ t.cell? ⟨u.heap.size, 2, none⟩ = some (.slice (some ⟨b, o, none⟩) C.length c) ∧ t.cell? ⟨u.heap.size + 1, 0, none⟩ = some (.int .i64 (X : Int)) ∧ t.cell? ⟨u.heap.size + 1, 1, none⟩ = some (.int .i64 (Y : Int)) ∧ t.cell? ⟨u.heap.size + 1, 2, none⟩ = some (.int .i64 (w : Int)) ∧ t.cell? ⟨u.heap.size + 1, 3, none⟩ = some (.int .i64 (ht : Int)) ∧ V.heap.size ≤ t.heap.size)) := fun t ht' =>
    ⟨by rw [newCell ht' _ _ (by omega), newCell hb _ _ (by omega)]; exact d0, by rw [newCell ht' _ _ (by omega), newCell hb _ _ (by omega)]; exact d2, by rw [newCell ht' _ _ (by omega), newCell hb _ _ (by omega)]; exact d3, by rw [newCell ht' _ _ (by omega), newCell hb _ _ (by omega)]; exact d4, by rw [newCell ht' _ _ (by omega), newCell hb _ _ (by omega)]; exact d5, by rw [newCell ht' _ _ (by omega), newCell hb _ _ (by omega)]; exact d6, ht'.size⟩
  clear hb HB d0 d1 d2 d3 d4 d5 d6
  obtain ⟨p0, p2, r0, r1, r2, r3, _⟩ := HF.out V (Below.refl _ _)
  go_wp2_with fail
  clear p0 p2 r0 r1 r2 r3
  go_loopw [6, 7] (fun ov yv wr => CuO V L w Y ht ov yv wr) (fun _ yv _ => Y + ht - (intOf yv).toNat)
  case atStart => exact ⟨0, 0, none, 0, by omega, (Nat.zero_mul _).symm, rfl, rfl, fun h => by omega, World.ownsRow_nil _ _ _ _, Below.refl _ _⟩
  case round =>
    obtain ⟨k, n, a1, c1, hk, hn, rfl, rfl, hg, ho, hb⟩ := hrel
    have HA : Hid _ := hg
    clear hg
    have HO : Hid _ := ho
    have HB : Hid _ := hb
    have HN : Hid (n = k * w) := hn
    obtain ⟨p0, p2, r0, r1, r2, r3, hsz⟩ := HF.out _ hb
    clear ho hb hn
    generalize hq : Y + k = q at *
    by_cases hlt : k < ht
    · have l1 : (q : Int) < (Y : Int) + (ht : Int) := by omega
      have l2 : (q : Int) ≤ 512 := by omega
      go_wp2_with fail
      clear p0 p2 r0 r1 r2 r3
      go_loopw [6, 8] (fun ov xv wr => CuI V L n w X ov xv wr) (fun _ xv _ => X + w - (intOf xv).toNat)
      case atStart => exact ⟨0, n, a1, c1, by omega, rfl, rfl, rfl, HA.out, HO.out, HB.out⟩
      case round =>
        clear HO HB hsz HA
        obtain ⟨j, m, a2, c2, hj, hm, rfl, rfl, hg, ho, hb⟩ := hrel
        have HA : Hid _ := hg
        clear hg
        have HO : Hid _ := ho
        have HB : Hid _ := hb
        have HM : Hid (m = n + j) := hm
        obtain ⟨p0, p2, r0, r1, r2, r3, hsz⟩ := HF.out _ hb
        have hbu := HBV.out.trans (hb.mono (by omega))
        by_cases hj2 : j < w
        · obtain ⟨g1, g2, g3⟩ := HG.out k j hlt hj2
          have g4 := HCC.out _ hbu _ g3
          rw [← g2, hq, ← HN.out, ← hm] at g4
          rw [hq] at g3
          rw [← HN.out, ← hm] at g1
          have HST : Hid _ := take_step g1
          have hmB : m ≤ 262144 := by have := HLL.out; have := HWH.out; omega
          generalize hxj : X + j = xj at *
          generalize hz1 : q * x = z1 at *
          generalize hz2 : z1 + xj = z2 at *
          have hw1 : IntKind.i64.wrap ((q : Int) * (x : Int)) = (z1 : Int) := by rw [← Int.natCast_mul, hz1, IntKind.wrap_i64]; have := HCB.out; omega
          have hw2 : IntKind.i64.wrap ((z1 : Int) + (xj : Int)) = (z2 : Int) := by rw [← Int.natCast_add, hz2, IntKind.wrap_i64]; have := HCB.out; omega
          have b0 : (0 : Int) ≤ (z2 : Int) := by omega
          have b1 : (z2 : Int) < (C.length : Int) := by omega
          have b2 : (xj : Int) < (X : Int) + (w : Int) := by omega
          have b3 : (xj : Int) ≤ 512 := by omega
          generalize L.getD m 0 = val at *
          have HXJ : Hid _ := hxj
          clear ho hb hm g1 g2 g3 hz1 hz2 hbu hxj
          go_wp2_with (at_builtin; refine wpList_append_u8 _ (by rfl) _ _ (by rfl) V.heap.size m (L.take m) (.slice a2 m c2) _ val rfl HO.out hsz (by omega) (by rfl) (by rfl) ?_; intro g cap w' how' hgr')
          go_roundw
          case rel => exact ⟨j + 1, m + 1, _, cap, by omega, by have := HM.out; omega, by have := HXJ.out; go_num, rfl, fun _ => ⟨g, rfl⟩, by rw [← HST.out]; exact how', HB.out.trans hgr'⟩
          case measure => have := HXJ.out; simp [intOf]; omega
        · generalize hxj : X + j = xj at *
          have b2 : ¬ (xj : Int) < (X : Int) + (w : Int) := by omega
          clear ho hb
          go_wp2_with fail
          go_roundw
          case rel => exact ⟨k + 1, m, a2, c2, by omega, by rw [hm, HN.out, Nat.add_mul, Nat.one_mul]; omega, by have := hq; go_num, rfl, HA.out, HO.out, HB.out⟩
          case measure => simp [intOf]; omega
    · have l1 : ¬ (q : Int) < (Y : Int) + (ht : Int) := by omega
      go_wp2_with fail
      obtain rfl : k = ht := by omega
      obtain rfl : n = w * k := by rw [HN.out, Nat.mul_comm]
      refine bodyPost_ret (v := .tuple #[.slice a1 (w * k) c1, .int .i64 0]) (by simp [results, Try.results24, go_sem]) rfl ?_
      have h0 : 0 < w * k := Nat.mul_pos hw hh
      have hta : L.take (w * k) = L := List.take_of_length_le (by rw [HLL.out]; exact Nat.le_refl _)
      have ho := HO.out
      rw [hta] at ho
      refine ⟨a1, ⟨c1, rfl⟩, ?_, HBV.out.trans (HB.out.mono (by omega))⟩
      rw [← HCL.out]
      exact own_sl HLL.out.symm h0 ho (HA.out h0)

end Go.Proofs.Ytlgfkkegehpllaa
