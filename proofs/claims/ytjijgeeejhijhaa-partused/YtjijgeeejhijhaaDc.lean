/- DERIVED. The document's tree, gone through. -/
import Derived.Test.YtjijgeeejhijhaaDb
namespace Go.Proofs.Ytjijgeeejhijhaa
open Go.RowKit

/-- what a call of Go does -/
def Tq (A : Td) (Z : Nat → Prop) (w w' : World) (e : Ending) (L : List Rc) (p : List Rc × Nat) : Prop := e = .returned (.tuple #[]) ∧ Ts A Z w' (L ++ p.1) p.2 ∧ Kz Z w w'
def Tk (k : Nat) : Prop := ∀ (A : Td) (Z : Nat → Prop) (w : World) (L : List Rc) (u : Nat) (x y : Int), Tz A Z → Ts A Z w L u → ArOk A.ar → rgn x y (sd k) (sd k) = true → x + sd k ≤ 2048 → y + sd k ≤ 2048 → A.C.length ≤ 140737488355328 → L.length + lf k ≤ 300 →
  Calls Try.prog 35 #[.pointer (some ⟨A.pt, 0, none⟩), .agg #[.int .i64 x, .int .i64 y, .int .i64 (sd k), .int .i64 (sd k)]] w fun e w' => Tq A Z w w' e L (tree A.ar A.C k x y u)

set_option maxRecDepth 100000 in
set_option maxHeartbeats 4000000 in
theorem go_off {A : Td} {Z : Nat → Prop} {w : World} {L : List Rc} {u : Nat} {x y sk : Int} {mo mi : Bool} (hz : Tz A Z) (h : Ts A Z w L u) (ha : ArOk A.ar) (hrb : Rb x y sk sk) (hm : meet (x, y, sk, sk) A.ar = mo) (hi : wthn (x, y, sk, sk) A.ar = mi) (h0 : mo = false) :
    Calls Try.prog 35 #[.pointer (some ⟨A.pt, 0, none⟩), .agg #[.int .i64 x, .int .i64 y, .int .i64 sk, .int .i64 sk]] w fun e w' => Tq A Z w w' e L ([], u) := by
  have HA0 : Hid (Tz A (Za Z w.heap.size)) := (h.more hz (from_alloc w (.cells #[] 23)) (Nat.le_refl _) (by simp)).1
  have hs0 : Ts A (Za Z w.heap.size) (w.alloc (.cells #[.int .i64 x, .int .i64 y, .int .i64 sk, .int .i64 sk] 23)) L u := (h.more hz (from_alloc w _) (Nat.le_refl _) (by simp)).2
  have HA1 : Hid (Tz A (Za (Za Z w.heap.size) (w.heap.size + 1))) := (hs0.more HA0.out (from_alloc _ (.cells #[] 23)) (by simp) (by simp)).1
  have HS0 : Hid (Ts A (Za (Za Z w.heap.size) (w.heap.size + 1)) ((w.alloc (.cells #[.int .i64 x, .int .i64 y, .int .i64 sk, .int .i64 sk] 23)).alloc (.cells #[.int .i64 A.ar.1, .int .i64 A.ar.2.1, .int .i64 A.ar.2.2.1, .int .i64 A.ar.2.2.2] 23)) L u) := (hs0.more HA0.out (from_alloc _ _) (by simp) (by simp)).2
  have HK0 : Hid (Kz Z w ((w.alloc (.cells #[.int .i64 x, .int .i64 y, .int .i64 sk, .int .i64 sk] 23)).alloc (.cells #[.int .i64 A.ar.1, .int .i64 A.ar.2.1, .int .i64 A.ar.2.2.1, .int .i64 A.ar.2.2.2] 23))) := Kz.ofBelow h.zlt (to_alloc (from_alloc _ _) _)
  have HF0 : Hid (Fr ((w.alloc (.cells #[.int .i64 x, .int .i64 y, .int .i64 sk, .int .i64 sk] 23)).alloc (.cells #[.int .i64 A.ar.1, .int .i64 A.ar.2.1, .int .i64 A.ar.2.2.1, .int .i64 A.ar.2.2.2] 23)) w.heap.size x y sk sk) := ⟨by simp [go_sem], by simp [go_sem], by simp [go_sem], by simp [go_sem]⟩
  have HG0 : Hid (Fr ((w.alloc (.cells #[.int .i64 x, .int .i64 y, .int .i64 sk, .int .i64 sk] 23)).alloc (.cells #[.int .i64 A.ar.1, .int .i64 A.ar.2.1, .int .i64 A.ar.2.2.1, .int .i64 A.ar.2.2.2] 23)) (w.heap.size + 1) A.ar.1 A.ar.2.1 A.ar.2.2.1 A.ar.2.2.2) := ⟨by simp [go_sem], by simp [go_sem], by simp [go_sem], by simp [go_sem]⟩
  have HZP : Hid (Za (Za Z w.heap.size) (w.heap.size + 1) w.heap.size) := Or.inl (Or.inr rfl)
  have HSub : Hid (∀ i, Z i → Za (Za Z w.heap.size) (w.heap.size + 1) i) := fun _ q => Or.inl (Or.inl q)
  obtain ⟨⟨x0, x1⟩, ⟨y0, y1⟩, ⟨s0, s1⟩, -⟩ := hrb
  obtain ⟨⟨X0, X1⟩, ⟨Y0, Y1⟩, ⟨A0, A1⟩, ⟨B0, B1⟩⟩ := ha
  have f0 := h.area.r0
  have f1 := h.area.r1
  have f2 := h.area.r2
  have f3 := h.area.r3
  have f4 : (w.alloc (.cells #[.int .i64 x, .int .i64 y, .int .i64 sk, .int .i64 sk] 23)).cell? ⟨A.pt, 0, none⟩ = some (.int .i64 A.ar.1) := hs0.area.r0
  have f5 : (w.alloc (.cells #[.int .i64 x, .int .i64 y, .int .i64 sk, .int .i64 sk] 23)).cell? ⟨A.pt, 1, none⟩ = some (.int .i64 A.ar.2.1) := hs0.area.r1
  have f6 : (w.alloc (.cells #[.int .i64 x, .int .i64 y, .int .i64 sk, .int .i64 sk] 23)).cell? ⟨A.pt, 2, none⟩ = some (.int .i64 A.ar.2.2.1) := hs0.area.r2
  have f7 : (w.alloc (.cells #[.int .i64 x, .int .i64 y, .int .i64 sk, .int .i64 sk] 23)).cell? ⟨A.pt, 3, none⟩ = some (.int .i64 A.ar.2.2.2) := hs0.area.r3
  have HM : Hid (meet (x, y, sk, sk) A.ar = mo) := hm
  have HI : Hid (wthn (x, y, sk, sk) A.ar = mi) := hi
  have H0 : Hid (mo = false) := h0
  clear h hz hs0 hm hi HA0 h0
  unfold Tq
  go_enter Try.func35, Try.ntmps35
  go_upto_region 2 with fail
  generalize ((w.alloc (.cells #[.int .i64 x, .int .i64 y, .int .i64 sk, .int .i64 sk] 23)).alloc (.cells #[.int .i64 A.ar.1, .int .i64 A.ar.2.1, .int .i64 A.ar.2.2.1, .int .i64 A.ar.2.2.2] 23)) = w0 at *
  generalize w.heap.size + 1 = pa at *
  generalize w.heap.size = pr at *
  generalize Za (Za Z pr) pa = Z1 at *
  clear f0 f1 f2 f3 f4 f5 f6 f7
  obtain ⟨r0, r1, r2, r3⟩ := HF0.out
  obtain ⟨a0, a1, a2, a3⟩ := HG0.out
  unfold meet at HM
  unfold wthn at HI
  generalize A.ar.1 = ax at *
  generalize A.ar.2.1 = ay at *
  generalize A.ar.2.2.1 = aw at *
  generalize A.ar.2.2.2 = ah at *
  go_cut [5] (fun s T => s = .bool (!mo) ∧ w0 = T)
  case first =>
    go_wp2_with fail
    all_goals
      go_meet
      exact ⟨by rw [← HM.out, Value.bool.injEq, Bool.eq_iff_iff]; simp <;> omega, rfl⟩
  obtain ⟨rfl, rfl⟩ := hcut
  go_upto_region 3 with fail
  go_cut [6] (fun s T => s = .bool mi ∧ w0 = T)
  case first =>
    go_wp2_with fail
    all_goals
      go_meet
      exact ⟨by rw [← HI.out, Value.bool.injEq, Bool.eq_iff_iff]; simp <;> omega, rfl⟩
  obtain ⟨rfl, rfl⟩ := hcut
  clear HM HI a0 a1 a2 a3 HG0 x0 x1 y0 y1 s0 s1 X0 X1 Y0 Y1 A0 A1 B0 B1
  have h0 := H0.out
  subst h0
  go_wp2_with fail
  go_end0
  exact ⟨rfl, by first | exact HS0.out.sub HSub.out | (rw [List.append_nil]; exact HS0.out.sub HSub.out), HK0.out⟩
end Go.Proofs.Ytjijgeeejhijhaa
