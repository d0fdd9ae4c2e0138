/- DERIVED. The document's tree: a leaf of 8. -/
import Derived.Test.YtjijgeeejhijhaaDd
namespace Go.Proofs.Ytjijgeeejhijhaa
open Go.RowKit

set_option maxRecDepth 100000 in
set_option maxHeartbeats 8000000 in
theorem go_leaf8 {A : Td} {Z : Nat → Prop} {w : World} {L : List Rc} {u : Nat} {x y sk : Int} {mo mi : Bool} (hz : Tz A Z) (h : Ts A Z w L u) (ha : ArOk A.ar) (hrb : Rb x y sk sk) (hm : meet (x, y, sk, sk) A.ar = mo) (hi : wthn (x, y, sk, sk) A.ar = mi) (h0 : mo = true) (h1 : mi = true) (h8 : sk = 8) (hL : L.length ≤ 300) :
    Calls Try.prog 35 #[.pointer (some ⟨A.pt, 0, none⟩), .agg #[.int .i64 x, .int .i64 y, .int .i64 sk, .int .i64 sk]] w fun e w' => Tq A Z w w' e L ([(x, y, sk, sk)], u) := by
  have HL : Hid (L.length ≤ 300) := hL
  have hn8 : (sk == 8) = true := by rw [beq_iff_eq]; exact h8
  have HA0 : Hid (Tz A (Za Z w.heap.size)) := (h.more hz (from_alloc w (.cells #[] 23)) (Nat.le_refl _) (by simp)).1
  have hs0 : Ts A (Za Z w.heap.size) (w.alloc (.cells #[.int .i64 x, .int .i64 y, .int .i64 sk, .int .i64 sk] 23)) L u := (h.more hz (from_alloc w _) (Nat.le_refl _) (by simp)).2
  have HA1 : Hid (Tz A (Za (Za Z w.heap.size) (w.heap.size + 1))) := (hs0.more HA0.out (from_alloc _ (.cells #[] 23)) (by simp) (by simp)).1
  have HS0 : Hid (Ts A (Za (Za Z w.heap.size) (w.heap.size + 1)) ((w.alloc (.cells #[.int .i64 x, .int .i64 y, .int .i64 sk, .int .i64 sk] 23)).alloc (.cells #[.int .i64 A.ar.1, .int .i64 A.ar.2.1, .int .i64 A.ar.2.2.1, .int .i64 A.ar.2.2.2] 23)) L u) := (hs0.more HA0.out (from_alloc _ _) (by simp) (by simp)).2
  have HK0 : Hid (Kz Z w ((w.alloc (.cells #[.int .i64 x, .int .i64 y, .int .i64 sk, .int .i64 sk] 23)).alloc (.cells #[.int .i64 A.ar.1, .int .i64 A.ar.2.1, .int .i64 A.ar.2.2.1, .int .i64 A.ar.2.2.2] 23))) := Kz.ofBelow h.zlt (to_alloc (from_alloc _ _) _)
  have HF0 : Hid (Fr ((w.alloc (.cells #[.int .i64 x, .int .i64 y, .int .i64 sk, .int .i64 sk] 23)).alloc (.cells #[.int .i64 A.ar.1, .int .i64 A.ar.2.1, .int .i64 A.ar.2.2.1, .int .i64 A.ar.2.2.2] 23)) w.heap.size x y sk sk) := ⟨by simp [go_sem], by simp [go_sem], by simp [go_sem], by simp [go_sem]⟩
  have HG0 : Hid (Fr ((w.alloc (.cells #[.int .i64 x, .int .i64 y, .int .i64 sk, .int .i64 sk] 23)).alloc (.cells #[.int .i64 A.ar.1, .int .i64 A.ar.2.1, .int .i64 A.ar.2.2.1, .int .i64 A.ar.2.2.2] 23)) (w.heap.size + 1) A.ar.1 A.ar.2.1 A.ar.2.2.1 A.ar.2.2.2) := ⟨by simp [go_sem], by simp [go_sem], by simp [go_sem], by simp [go_sem]⟩
  have HZP : Hid (Za (Za Z w.heap.size) (w.heap.size + 1) w.heap.size) := Or.inl (Or.inr rfl)
  have HSub : Hid (∀ i, Z i → Za (Za Z w.heap.size) (w.heap.size + 1) i) := fun _ q => Or.inl (Or.inl q)
  obtain ⟨⟨x0, x1⟩, ⟨y0, y1⟩, ⟨s0, s1⟩, -⟩ := hrb
  obtain ⟨⟨X0, X1⟩, ⟨Y0, Y1⟩, ⟨A0, A1⟩, ⟨B0, B1⟩⟩ := ha
  have f0 := h.area.r0
  have f1 := h.area.r1
  have f2 := h.area.r2
  have f3 := h.area.r3
  have f4 : (w.alloc (.cells #[.int .i64 x, .int .i64 y, .int .i64 sk, .int .i64 sk] 23)).cell? ⟨A.pt, 0, none⟩ = some (.int .i64 A.ar.1) := hs0.area.r0
  have f5 : (w.alloc (.cells #[.int .i64 x, .int .i64 y, .int .i64 sk, .int .i64 sk] 23)).cell? ⟨A.pt, 1, none⟩ = some (.int .i64 A.ar.2.1) := hs0.area.r1
  have f6 : (w.alloc (.cells #[.int .i64 x, .int .i64 y, .int .i64 sk, .int .i64 sk] 23)).cell? ⟨A.pt, 2, none⟩ = some (.int .i64 A.ar.2.2.1) := hs0.area.r2
  have f7 : (w.alloc (.cells #[.int .i64 x, .int .i64 y, .int .i64 sk, .int .i64 sk] 23)).cell? ⟨A.pt, 3, none⟩ = some (.int .i64 A.ar.2.2.2) := hs0.area.r3
  have HM : Hid (meet (x, y, sk, sk) A.ar = mo) := hm
  have HI : Hid (wthn (x, y, sk, sk) A.ar = mi) := hi
  have H0 : Hid (mo = true) := h0
  have H1 : Hid (mi = true) := h1
  clear h hz hs0 hm hi HA0 h0 h1 hL h8
  unfold Tq
  go_enter Try.func35, Try.ntmps35
  go_upto_region 2 with fail
  generalize ((w.alloc (.cells #[.int .i64 x, .int .i64 y, .int .i64 sk, .int .i64 sk] 23)).alloc (.cells #[.int .i64 A.ar.1, .int .i64 A.ar.2.1, .int .i64 A.ar.2.2.1, .int .i64 A.ar.2.2.2] 23)) = w0 at *
  generalize w.heap.size + 1 = pa at *
  generalize w.heap.size = pr at *
  generalize Za (Za Z pr) pa = Z1 at *
  clear f0 f1 f2 f3 f4 f5 f6 f7
  obtain ⟨r0, r1, r2, r3⟩ := HF0.out
  obtain ⟨a0, a1, a2, a3⟩ := HG0.out
  unfold meet at HM
  unfold wthn at HI
  generalize A.ar.1 = ax at *
  generalize A.ar.2.1 = ay at *
  generalize A.ar.2.2.1 = aw at *
  generalize A.ar.2.2.2 = ah at *
  go_cut [5] (fun s T => s = .bool (!mo) ∧ w0 = T)
  case first =>
    go_wp2_with fail
    all_goals
      go_meet
      exact ⟨by rw [← HM.out, Value.bool.injEq, Bool.eq_iff_iff]; simp <;> omega, rfl⟩
  obtain ⟨rfl, rfl⟩ := hcut
  go_upto_region 3 with fail
  go_cut [6] (fun s T => s = .bool mi ∧ w0 = T)
  case first =>
    go_wp2_with fail
    all_goals
      go_meet
      exact ⟨by rw [← HI.out, Value.bool.injEq, Bool.eq_iff_iff]; simp <;> omega, rfl⟩
  obtain ⟨rfl, rfl⟩ := hcut
  clear HM HI a0 a1 a2 a3 HG0 x0 x1 y0 y1 s0 s1 X0 X1 Y0 Y1 A0 A1 B0 B1
  obtain rfl := H0.out
  obtain rfl := H1.out
  obtain ⟨v, l0, HO, _⟩ := HS0.out.leaf
  have HV : Hid (w0.cell? ⟨A.pt, 6, none⟩ = some v) := l0
  have HOw : Hid (Or4 w0 0 v L) := HO
  have lf0 := HS0.out.fz 6
  clear HO
  have HZs : Hid (Z1 pr) := HZP.out
  have hsl := HS0.out.to HA1.out (from_alloc w0 (.cells #[.int .i64 x, .int .i64 y, .int .i64 sk, .int .i64 sk] 23))
  have HV1 : Hid ((w0.alloc (.cells #[.int .i64 x, .int .i64 y, .int .i64 sk, .int .i64 sk] 23)).cell? ⟨A.pt, 6, none⟩ = some v) := by show _ = _; rw [newCell (from_alloc w0 _) _ _ HS0.out.lt]; exact HV.out
  have HOa : Hid (Or4 (w0.alloc (.cells #[.int .i64 x, .int .i64 y, .int .i64 sk, .int .i64 sk] 23)) 0 v L) := HOw.out.to (from_alloc _ _)
  have HKl : Hid (Kz Z1 w0 (w0.alloc (.cells #[.int .i64 x, .int .i64 y, .int .i64 sk, .int .i64 sk] 23))) := Kz.ofBelow HS0.out.zlt (from_alloc _ _)
  have HG : Hid (∀ w5 g n cap, Or4 w5 0 (.slice (some ⟨g, 0, none⟩) n cap) (L ++ [(x, y, sk, sk)]) → (w0.alloc (.cells #[.int .i64 x, .int .i64 y, .int .i64 sk, .int .i64 sk] 23)).grownBy w5 v.ownBlock → (v.ownBlock = some g ∨ g = w0.heap.size + 1) → g < w5.heap.size → (Ts A Z1 (w5.setCell ⟨A.pt, 6, none⟩ (.slice (some ⟨g, 0, none⟩) n cap)) (L ++ [(x, y, sk, sk)]) u ∧ Kz Z1 w0 (w5.setCell ⟨A.pt, 6, none⟩ (.slice (some ⟨g, 0, none⟩) n cap))) ∧ w5.cell? ⟨A.pt, 6, none⟩ = some v ∧ w5.frozen? ⟨A.pt, 6, none⟩ = false) := fun w5 g n cap h1 h2 h3 h4 => by
    obtain ⟨⟨q1, q2⟩, q3, q4⟩ := hsl.grown HA1.out HV1.out HOa.out h1 h2 (by rcases h3 with h3 | h3; exact Or.inl h3; exact Or.inr (by rw [h3]; simp)) h4
    exact ⟨⟨q1, HKl.out.trans q2⟩, q3, q4⟩
  obtain ⟨i, hi, hz0, hz1, hz2⟩ := info_parts Try.infoR
  have hnews : ∀ j u, (rs [(x, y, sk, sk)])[j]? = some u → (w0.alloc (.cells #[.int .i64 x, .int .i64 y, .int .i64 sk, .int .i64 sk] 23)).cell? ((⟨w0.heap.size, 0, none⟩ : Addr).add j) = some u := by
    rw [rs_sing]
    exact World.news_of_block (cs := #[.int .i64 x, .int .i64 y, .int .i64 sk, .int .i64 sk]) (heap_alloc_new w0 _)
  have hownA : (w0.alloc (.cells #[.int .i64 x, .int .i64 y, .int .i64 sk, .int .i64 sk] 23)).ownsRow 0 23 4 v L.length (rs L) := HOa.out.own
  have hLn : L.length ≤ 300 := HL.out
  have f6 := HV1.out
  clear hsl HOa
  go_wp2_with fail
  go_region_law ((refine step_append_lies _ (by rfl) _ _ _ (by rfl) 0 23 i (.agg #[.int .i64 0, .int .i64 0, .int .i64 0, .int .i64 0]) 4 32 Try.underlying27 hi hz0 hz1 hz2 rfl (by omega) v L.length (rs L) (by rfl) hownA ⟨w0.heap.size, 0, none⟩ 1 1 (rs [(x, y, sk, sk)]) (by rfl) (by rfl) hnews (rs_one _) (by omega) (by unfold maxLen; omega) (by omega) (by simp) (w0.heap.size + 1) (by simp) ?_; intro g cap w5 hown1 hgrow hat hlt; have hgr := undrew hgrow; obtain ⟨⟨q1, q2⟩, q3, q4⟩ := HG.out w5 g (L.length + 1) cap ⟨by rw [rs_append, List.length_append]; exact hown1⟩ hgr hat hlt; have Q1 : Hid _ := q1; have Q2 : Hid _ := q2; clear q1 q2 hgr hgrow))
  all_goals
    go_wp2_with fail
    go_end0
    exact ⟨rfl, Q1.out.sub HSub.out, HK0.out.trans (Q2.out.mono HSub.out)⟩
end Go.Proofs.Ytjijgeeejhijhaa
