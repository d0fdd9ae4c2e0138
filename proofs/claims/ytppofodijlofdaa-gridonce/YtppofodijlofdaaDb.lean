/- DERIVED. The document's grid: At. -/
import Derived.Test.YtppofodijlofdaaDa
namespace Go.Proofs.Ytppofodijlofdaa
open Go.RowKit

theorem find_at (p : Bl → Bool) : ∀ (L : List Bl) (k : Nat), (∀ j, j < k → p (L.getD j bz) = false) → k < L.length → p (L.getD k bz) = true → L.find? p = some (L.getD k bz)
  | [], k, _, h, _ => by simp at h
  | b :: L, 0, _, _, h => by
    have h' : p b = true := h
    show (b :: L).find? p = some b
    rw [List.find?_cons, h']
  | b :: L, k + 1, h0, hk, h => by
    have h1 : p b = false := h0 0 (by omega)
    rw [List.find?_cons, h1]
    exact find_at p L k (fun j hj => h0 (j + 1) (by omega)) (by simpa using hk) h
theorem find_no (p : Bl → Bool) (L : List Bl) (h : ∀ j, j < L.length → p (L.getD j bz) = false) : L.find? p = none := by
  rw [List.find?_eq_none]
  intro b hb
  obtain ⟨j, hj, rfl⟩ := List.mem_iff_getElem.1 hb
  have := h j hj
  rw [List.getD_eq_getElem?_getD, List.getElem?_eq_getElem hj] at this
  simpa using this
theorem getD_mem3 {L : List Bl} {k : Nat} (h : k < L.length) : L.getD k bz ∈ L := by
  rw [List.getD_eq_getElem?_getD, List.getElem?_eq_getElem h]; exact List.getElem_mem h
set_option maxRecDepth 100000 in
set_option maxHeartbeats 2000000 in
theorem rat_any {w : World} {p : Nat} {T : Rc} {v : Value} {L : List Bl} {X Y : Int} (hg : Rd w p T v L) (hL : L.length ≤ 1000000) :
    Calls Try.prog 29 #[.pointer (some ⟨p, 0, none⟩), .int .i64 X, .int .i64 Y] w fun e w' => Aq w w' e (atB L X Y) (atK L X Y) := by
  have HB0 : Hid (Below w.heap.size w (w.alloc (.cells #[.int .i64 0, .int .i64 0, .int .i64 0, .int .i64 0, .bool false, .bool false, .int .i64 0, .int .i64 0, .int .i64 0, .int .i64 0, .int .i64 0, .int .i64 0, .int .i64 0, .bool false, .int .i64 0, .int .i64 0, .int .i64 0, .int .i64 0, .int .i64 0, .int .i64 0, .int .i64 0, .int .i64 0, .bool false] 40))) := from_alloc _ _
  have HO0 : Hid (Ob (w.alloc (.cells #[.int .i64 0, .int .i64 0, .int .i64 0, .int .i64 0, .bool false, .bool false, .int .i64 0, .int .i64 0, .int .i64 0, .int .i64 0, .int .i64 0, .int .i64 0, .int .i64 0, .bool false, .int .i64 0, .int .i64 0, .int .i64 0, .int .i64 0, .int .i64 0, .int .i64 0, .int .i64 0, .int .i64 0, .bool false] 40)) w.heap.size bz) := Ob.new w bz rfl
  have HG : Hid (∀ u, Below w.heap.size w u → Rd u p T v L) := fun u hb => hg.to hb
  have HFi : Hid (∀ b ∈ L, Fit T b) := hg.fit
  have HTb : Hid ((0 ≤ T.1 ∧ T.1 + T.2.2.1 ≤ 256) ∧ (0 ≤ T.2.1 ∧ T.2.1 + T.2.2.2 ≤ 256)) := tile_b hg.tok
  have HFa : Hid (∀ k, (∀ j, j < k → inB (L.getD j bz) X Y = false) → k < L.length → inB (L.getD k bz) X Y = true → at? L X Y = some (L.getD k bz)) := fun k h1 h2 h3 => find_at (fun b => inB b X Y) L k h1 h2 h3
  have HFn : Hid ((∀ j, j < L.length → inB (L.getD j bz) X Y = false) → at? L X Y = none) := fun h => find_no (fun b => inB b X Y) L h
  unfold atB atK
  generalize at? L X Y = o at *
  have nb : (L.length : Int) ≤ 1000000 := by omega
  clear hg hL
  generalize hP : w.heap.size = z at *
  have HP : Hid (w.heap.size = z) := hP
  clear hP
  go_enter Try.func29, Try.ntmps29
  go_upto_region 1 with fail
  generalize hV : (w.alloc (.cells #[.int .i64 0, .int .i64 0, .int .i64 0, .int .i64 0, .bool false, .bool false, .int .i64 0, .int .i64 0, .int .i64 0, .int .i64 0, .int .i64 0, .int .i64 0, .int .i64 0, .bool false, .int .i64 0, .int .i64 0, .int .i64 0, .int .i64 0, .int .i64 0, .int .i64 0, .int .i64 0, .int .i64 0, .bool false] 40)) = V at *
  clear hV
  rw [HP.out]
  have HZ0 : Hid (z < V.heap.size) := HO0.out.lt
  go_wp2_with fail
  go_loopw [8] (fun i wr => ∃ k : Nat, k ≤ L.length ∧ i = .int .i64 (k : Int) ∧ Below z w wr ∧ Ob wr z bz ∧ Hid (∀ j, j < k → inB (L.getD j bz) X Y = false)) (fun i _ => L.length - (intOf i).toNat)
  case atStart => exact ⟨0, by omega, by simp, HB0.out, HO0.out, fun j hj => by omega⟩
  case round =>
    obtain ⟨k, hk, rfl, hbw, hob, HJ⟩ := hrel
    have HBw : Hid (Below z w wr) := hbw
    have HOb : Hid (Ob wr z bz) := hob
    have hgd := HG.out wr hbw
    obtain ⟨va, vc, hvv, hvc, hsb, -⟩ := hgd.row.form
    have c4 : wr.cell? ⟨p, 4, none⟩ = some (.slice va L.length vc) := by rw [← hvv]; exact hgd.c4
    clear hbw hob
    by_cases hlt : k < L.length
    · obtain ⟨g, o', rfl, hgl, hgc⟩ := hsb.form (by omega)
      have HBi : Hid (Bc wr g (o' + k * 23) (L.getD k bz)) := hgc k hlt
      have hfit := HFi.out _ (getD_mem3 hlt)
      obtain ⟨l, hl⟩ : ∃ l, L.getD k bz = l := ⟨_, rfl⟩
      have HLk : Hid (L.getD k bz = l) := hl
      rw [hl] at HBi hfit
      have htb := HTb.out
      have hws := hfit.ws
      have hhs := hfit.hs
      have x0 := hfit.x0
      have x1 := hfit.x1
      have y0 := hfit.y0
      have y1 := hfit.y1
      have bx : 0 ≤ l.x ∧ l.x ≤ 256 ∧ 0 ≤ l.y ∧ l.y ≤ 256 ∧ 8 ≤ l.w ∧ l.w ≤ 64 ∧ 8 ≤ l.h ∧ l.h ≤ 64 := by omega
      obtain ⟨bx0, bx1, by0, by1, bw0, bw1, bh0, bh1⟩ := bx
      clear hfit htb hws hhs x0 x1 y0 y1 hl hgd hvv hvc hsb hgl hgc
      have k0 : (0 : Int) ≤ (k : Int) := by omega
      have k1 : (k : Int) < (L.length : Int) := by omega
      have HK : Hid (k < L.length) := hlt
      clear hlt hk
      have HOn : Hid (Ob (wr.alloc (.cells bz.cs.toArray 40)) wr.heap.size bz) := Ob.new wr bz rfl
      have HBn : Hid (Below wr.heap.size wr (wr.alloc (.cells bz.cs.toArray 40))) := from_alloc _ _
      go_upto_region 5 with (first | (refine wpList_load_block (by rfl) _ (by rfl) g (o' + k * 23) (by rfl) l HBi.out ?_) | (refine wpList_store_block (by rfl) _ _ (by rfl) wr.heap.size bz l HOn.out (by rfl) (by rfl) ?_; intro w2 hob hsw; have HO2 : Hid (Ob w2 wr.heap.size l) := hob; have HB2 : Hid (Below wr.heap.size wr w2) := hsw.below HBn.out (Nat.le_refl _); clear hob hsw))
      have HB3 : Hid (Below z w w2) := HBw.out.trans (HB2.out.mono (Nat.le_of_lt HOb.out.lt))
      have HO3 : Hid (Ob w2 z bz) := HOb.out.to HB2.out
      clear HOn HBn HB2 HBi c4
      generalize wr.heap.size = zb at *
      have e0 : w2.cell? ⟨zb, 0, none⟩ = some (.int .i64 l.x) := HO2.out.c 0 _ rfl
      have e1 : w2.cell? ⟨zb, 1, none⟩ = some (.int .i64 l.y) := HO2.out.c 1 _ rfl
      have e2 : w2.cell? ⟨zb, 2, none⟩ = some (.int .i64 l.w) := HO2.out.c 2 _ rfl
      have e3 : w2.cell? ⟨zb, 3, none⟩ = some (.int .i64 l.h) := HO2.out.c 3 _ rfl
      by_cases i0 : l.x ≤ X
      · by_cases i1 : X < l.x + l.w
        · by_cases i2 : l.y ≤ Y
          · by_cases i3 : Y < l.y + l.h
            · have HR : Hid (o = some l) := by
                show _ = _
                rw [← HLk.out]
                exact HFa.out k HJ.out HK.out (by rw [HLk.out]; exact decide_eq_true ⟨i0, i1, i2, i3⟩)
              go_wp2_with (first | (refine wpList_load_block (by rfl) _ (by rfl) zb 0 (by rfl) l HO2.out.bc ?_) | (refine wpList_store_block (by rfl) _ _ (by rfl) z bz l HO3.out (by rfl) (by rfl) ?_; intro w4 hob hsw; have HO4 : Hid _ := hob; have HW4 : Hid _ := hsw; clear hob hsw))
              have hres := load_res (by simpa using HO4.out.bc.rng)
              refine bodyPost_ret (v := .tuple #[.agg l.cs.toArray, .bool true]) (by rw [results_cell_tmp Try.results29]; show ((asAddr (.pointer (some ⟨z, 0, none⟩))).run Try.prog w4).andThen _ = _; rw [show (asAddr (.pointer (some ⟨z, 0, none⟩))).run Try.prog w4 = .ok ⟨z, 0, none⟩ w4 from rfl]; simp only [Result.andThen_ok, hres]; rfl) rfl ?_
              exact ⟨by rw [HR.out]; rfl, by rw [HP.out]; exact HW4.out.below HB3.out (Nat.le_refl _)⟩
            · have HIn : Hid (inB (L.getD k bz) X Y = false) := by show _ = _; rw [HLk.out]; exact decide_eq_false (by omega)
              have fin : Hid (∀ j, j < k + 1 → inB (L.getD j bz) X Y = false) := fun j hj => by
                by_cases e : j = k
                · rw [e]; exact HIn.out
                · exact HJ.out j (by omega)
              go_wp2_with fail
              go_roundw
              case rel => exact ⟨k + 1, by have := HK.out; omega, by go_num, HB3.out, HO3.out, fin⟩
              case measure => have := HK.out; simp [intOf]; omega
          · have HIn : Hid (inB (L.getD k bz) X Y = false) := by show _ = _; rw [HLk.out]; exact decide_eq_false (by omega)
            have fin : Hid (∀ j, j < k + 1 → inB (L.getD j bz) X Y = false) := fun j hj => by
              by_cases e : j = k
              · rw [e]; exact HIn.out
              · exact HJ.out j (by omega)
            go_wp2_with fail
            go_roundw
            case rel => exact ⟨k + 1, by have := HK.out; omega, by go_num, HB3.out, HO3.out, fin⟩
            case measure => have := HK.out; simp [intOf]; omega
        · have HIn : Hid (inB (L.getD k bz) X Y = false) := by show _ = _; rw [HLk.out]; exact decide_eq_false (by omega)
          have fin : Hid (∀ j, j < k + 1 → inB (L.getD j bz) X Y = false) := fun j hj => by
            by_cases e : j = k
            · rw [e]; exact HIn.out
            · exact HJ.out j (by omega)
          go_wp2_with fail
          go_roundw
          case rel => exact ⟨k + 1, by have := HK.out; omega, by go_num, HB3.out, HO3.out, fin⟩
          case measure => have := HK.out; simp [intOf]; omega
      · have HIn : Hid (inB (L.getD k bz) X Y = false) := by show _ = _; rw [HLk.out]; exact decide_eq_false (by omega)
        have fin : Hid (∀ j, j < k + 1 → inB (L.getD j bz) X Y = false) := fun j hj => by
          by_cases e : j = k
          · rw [e]; exact HIn.out
          · exact HJ.out j (by omega)
        go_wp2_with fail
        go_roundw
        case rel => exact ⟨k + 1, by have := HK.out; omega, by go_num, HB3.out, HO3.out, fin⟩
        case measure => have := HK.out; simp [intOf]; omega
    · obtain rfl : k = L.length := by omega
      have HR : Hid (o = none) := HFn.out HJ.out
      clear hlt hk hgd hvv hvc hsb
      go_wp2_with (refine wpList_store_block (by rfl) _ _ (by rfl) z bz bz HOb.out (by rfl) (by rfl) ?_; intro w4 hob hsw; have HO4 : Hid _ := hob; have HW4 : Hid _ := hsw; clear hob hsw)
      have hres := load_res (by simpa using HO4.out.bc.rng)
      refine bodyPost_ret (v := .tuple #[.agg bz.cs.toArray, .bool false]) (by rw [results_cell_tmp Try.results29]; show ((asAddr (.pointer (some ⟨z, 0, none⟩))).run Try.prog w4).andThen _ = _; rw [show (asAddr (.pointer (some ⟨z, 0, none⟩))).run Try.prog w4 = .ok ⟨z, 0, none⟩ w4 from rfl]; simp only [Result.andThen_ok, hres]; rfl) rfl ?_
      exact ⟨by rw [HR.out]; rfl, by rw [HP.out]; exact HW4.out.below HBw.out (Nat.le_refl _)⟩
end Go.Proofs.Ytppofodijlofdaa
