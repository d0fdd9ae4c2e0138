/- DERIVED. The document's two. -/
import Derived.Test.YtppofodijlofdaaDd
import Derived.Test.YtppofodijlofdaaDg
namespace Go.Proofs.Ytppofodijlofdaa
open Go.RowKit

/-- the two neighbours that are known -/
def nb1 (L : List Bl) (X Y : Int) : List Bl := if atK L X Y = true then [atB L X Y] else []
/-- a slice of blocks and no error are answered -/
def Tq (w w' : World) (e : Ending) (L : List Bl) : Prop := ∃ v, e = .returned (.tuple #[v, .int .i64 0]) ∧ Or w' w.heap.size v L ∧ Below w.heap.size w w'
theorem below_own {B : Nat} {w a b : World} {v : Value} {L : List Bl} (h : Below B w a) (k : a.grownBy b v.ownBlock) (hs : B ≤ a.heap.size) (ho : Or a B v L) : Below B w b :=
  ⟨k.os.trans h.os, k.tape.trans h.tape, k.output.trans h.output, Nat.le_trans h.size k.size, fun i hi => (k.block i (by omega) (by first | exact fun e => by have := (ho.lt e).1; omega | exact fun e => by have := (ho.lt e.symm).1; omega)).trans (h.block i hi)⟩
set_option maxRecDepth 100000 in
set_option maxHeartbeats 8000000 in
theorem two_ok {w : World} {p : Nat} {T : Rc} {v : Value} {L : List Bl} {X Y : Int} (hg : Rd w p T v L) (ha : ask T X Y 8 = true) (hL : L.length ≤ 1000000) :
    Calls Try.prog 49 #[.pointer (some ⟨p, 0, none⟩), .int .i64 X, .int .i64 Y] w fun e w' => Tq w w' e (nb1 L (X - 1) Y ++ nb1 L X (Y - 1)) := by
  obtain ⟨x0, x1, y0, y1, hx, hy⟩ := ask_in hg.tok ha
  have hh : hasT T X Y = true := by unfold ask at ha; simp only [Bool.and_eq_true] at ha; exact ha.2.2
  have HI : Hid (Calls Try.prog 28 #[.pointer (some ⟨p, 0, none⟩), .int .i64 X, .int .i64 Y] w fun e w' => e = .returned (.bool true) ∧ Below w.heap.size w w') := by rw [← hh]; exact inn_any hg.cl hg.tok
  have HA1 : Hid (∀ u, Below w.heap.size w u → Calls Try.prog 29 #[.pointer (some ⟨p, 0, none⟩), .int .i64 (X - 1), .int .i64 Y] u fun e w' => Aq u w' e (atB L (X - 1) Y) (atK L (X - 1) Y)) := fun u hb => rat_any (hg.to hb) hL
  have HA2 : Hid (∀ u, Below w.heap.size w u → Calls Try.prog 29 #[.pointer (some ⟨p, 0, none⟩), .int .i64 X, .int .i64 (Y - 1)] u fun e w' => Aq u w' e (atB L X (Y - 1)) (atK L X (Y - 1))) := fun u hb => rat_any (hg.to hb) hL
  have tx := tmod_yes hx
  have ty := tmod_yes hy
  unfold nb1
  clear hg ha hh hL
  generalize atB L (X - 1) Y = b1 at *
  generalize atK L (X - 1) Y = k1 at *
  generalize atB L X (Y - 1) = b2 at *
  generalize atK L X (Y - 1) = k2 at *
  go_enter Try.func49, Try.ntmps49
  go_wp2_with fail
  refine HI.out.mono ?_
  rintro e w0 ⟨rfl, hb⟩
  have HB0 : Hid (Below w.heap.size w w0) := hb
  clear hb HI
  go_wp2_with fail
  refine (HA1.out _ HB0.out).mono ?_
  rintro e w1 ⟨rfl, hb⟩
  have HBx : Hid (∀ o, Below w.heap.size w (w1.alloc o)) := fun o => below_alloc (below_to HB0.out hb) (Nat.le_refl _) o
  have HSz : Hid (w.heap.size ≤ w1.heap.size) := Nat.le_trans HB0.out.size hb.size
  clear hb HB0 HA1
  have HOx : Hid (Ob (w1.alloc (.cells bz.cs.toArray 40)) w1.heap.size bz) := Ob.new w1 bz rfl
  go_upto_region 5 with (refine wpList_store_block (by rfl) _ _ (by rfl) w1.heap.size bz b1 HOx.out (by rfl) (by rfl) ?_; intro w2 hob hsw; have HO2 : Hid (Ob w2 w1.heap.size b1) := hob; have HB2 : Hid (Below w.heap.size w w2) := hsw.below (HBx.out _) HSz.out; clear hob hsw)
  clear HOx HBx HSz
  generalize w1.heap.size = z1 at *
  cases k1
  · have HR3 : Hid (Or w2 w.heap.size (.slice none 0 0) []) := Or.nil _ _
    have HB3 : Hid (Below w.heap.size w w2) := HB2.out
    clear HB2 HO2
    go_wp2_with fail
    refine (HA2.out _ HB3.out).mono ?_
    rintro e w4 ⟨rfl, hb⟩
    have HR4 : Hid (Or w4 w.heap.size (.slice none 0 0) []) := HR3.out.to hb
    have HBx : Hid (∀ o, Below w.heap.size w (w4.alloc o)) := fun o => below_alloc (below_to HB3.out hb) (Nat.le_refl _) o
    have HRx : Hid (∀ o, Or (w4.alloc o) w.heap.size (.slice none 0 0) []) := fun o => HR4.out.to (from_alloc _ o)
    have HSz : Hid (w.heap.size ≤ w4.heap.size) := Nat.le_trans HB3.out.size hb.size
    have HR4l : Hid (∀ g, Value.ownBlock (.slice none 0 0) = some g → g < w4.heap.size) := fun g hg => (HR4.out.lt hg).2
    clear hb HB3 HA2 HR3 HR4
    have HOx : Hid (Ob (w4.alloc (.cells bz.cs.toArray 40)) w4.heap.size bz) := Ob.new w4 bz rfl
    go_upto_region 8 with (refine wpList_store_block (by rfl) _ _ (by rfl) w4.heap.size bz b2 HOx.out (by rfl) (by rfl) ?_; intro w5 hob hsw; have HO5 : Hid (Ob w5 w4.heap.size b2) := hob; have HB5 : Hid (Below w.heap.size w w5) := hsw.below (HBx.out _) HSz.out; have HR5 : Hid (Or w5 w.heap.size (.slice none 0 0) []) := (HRx.out (.cells bz.cs.toArray 40)).carry (fun g hg => hsw.block g (by have := HR4l.out g hg; omega)); clear hob hsw)
    clear HOx HBx HSz HRx HR4l
    generalize w4.heap.size = z4 at *
    cases k2
    · go_wp2_with fail
      go_ret2
      exact ⟨_, rfl, by simpa using HR5.out, HB5.out⟩
    · go_wp2_with (first | (refine wpList_load_block (by rfl) _ (by rfl) z4 0 (by rfl) b2 HO5.out.bc ?_) | (refine wpList_build_block (by rfl) _ (by rfl) b2 (by rfl) ?_) | (at_builtin; refine wpList_append_blocks _ (by rfl) _ _ (by rfl) w.heap.size (.slice none 0 0) [] [b2] w5.heap.size 0 1 (HR5.out.to (from_alloc _ _)) (by have := HB5.out.size; simp; omega) (fun k hk => by obtain rfl : k = 0 := (by simpa using hk); exact Bc.box w5 b2) (by simp) (by simp) (by simp) (by rfl) (by rfl) ?_; intro v6 w6 h1 h2 h3; have HR6 : Hid (Or w6 w.heap.size v6 ([] ++ [b2])) := h1; have HB6 : Hid (Below w.heap.size w w6) := below_own (HB5.out.trans ((from_alloc _ _).mono HB5.out.size)) h2 (by have := HB5.out.size; simp; omega) (HR5.out.to (from_alloc _ _)); clear h1 h2 h3))
      go_ret2
      exact ⟨_, rfl, by simpa using HR6.out, HB6.out⟩
  · go_wp2_with (first | (refine wpList_load_block (by rfl) _ (by rfl) z1 0 (by rfl) b1 HO2.out.bc ?_) | (refine wpList_build_block (by rfl) _ (by rfl) b1 (by rfl) ?_) | (at_builtin; refine wpList_append_blocks _ (by rfl) _ _ (by rfl) w.heap.size (.slice none 0 0) [] [b1] w2.heap.size 0 1 (Or.nil _ _) (by have := HB2.out.size; simp; omega) (fun k hk => by obtain rfl : k = 0 := (by simpa using hk); exact Bc.box w2 b1) (by simp) (by simp) (by simp) (by rfl) (by rfl) ?_; intro v3 w3 h1 h2 h3; have HR3 : Hid (Or w3 w.heap.size v3 [b1]) := h1; have HB3 : Hid (Below w.heap.size w w3) := below_own (HB2.out.trans ((from_alloc _ _).mono HB2.out.size)) h2 (by have := HB2.out.size; simp; omega) (Or.nil _ _); clear h1 h2 h3))
    clear HB2 HO2
    refine (HA2.out _ HB3.out).mono ?_
    rintro e w4 ⟨rfl, hb⟩
    have HR4 : Hid (Or w4 w.heap.size v3 [b1]) := HR3.out.to hb
    have HBx : Hid (∀ o, Below w.heap.size w (w4.alloc o)) := fun o => below_alloc (below_to HB3.out hb) (Nat.le_refl _) o
    have HRx : Hid (∀ o, Or (w4.alloc o) w.heap.size v3 [b1]) := fun o => HR4.out.to (from_alloc _ o)
    have HSz : Hid (w.heap.size ≤ w4.heap.size) := Nat.le_trans HB3.out.size hb.size
    have HR4l : Hid (∀ g, Value.ownBlock v3 = some g → g < w4.heap.size) := fun g hg => (HR4.out.lt hg).2
    clear hb HB3 HA2 HR3 HR4
    have HOx : Hid (Ob (w4.alloc (.cells bz.cs.toArray 40)) w4.heap.size bz) := Ob.new w4 bz rfl
    go_upto_region 8 with (refine wpList_store_block (by rfl) _ _ (by rfl) w4.heap.size bz b2 HOx.out (by rfl) (by rfl) ?_; intro w5 hob hsw; have HO5 : Hid (Ob w5 w4.heap.size b2) := hob; have HB5 : Hid (Below w.heap.size w w5) := hsw.below (HBx.out _) HSz.out; have HR5 : Hid (Or w5 w.heap.size v3 [b1]) := (HRx.out (.cells bz.cs.toArray 40)).carry (fun g hg => hsw.block g (by have := HR4l.out g hg; omega)); clear hob hsw)
    clear HOx HBx HSz HRx HR4l
    generalize w4.heap.size = z4 at *
    cases k2
    · go_wp2_with fail
      go_ret2
      exact ⟨_, rfl, by simpa using HR5.out, HB5.out⟩
    · go_wp2_with (first | (refine wpList_load_block (by rfl) _ (by rfl) z4 0 (by rfl) b2 HO5.out.bc ?_) | (refine wpList_build_block (by rfl) _ (by rfl) b2 (by rfl) ?_) | (at_builtin; refine wpList_append_blocks _ (by rfl) _ _ (by rfl) w.heap.size v3 [b1] [b2] w5.heap.size 0 1 (HR5.out.to (from_alloc _ _)) (by have := HB5.out.size; simp; omega) (fun k hk => by obtain rfl : k = 0 := (by simpa using hk); exact Bc.box w5 b2) (by simp) (by simp) (by simp) (by rfl) (by rfl) ?_; intro v6 w6 h1 h2 h3; have HR6 : Hid (Or w6 w.heap.size v6 ([b1] ++ [b2])) := h1; have HB6 : Hid (Below w.heap.size w w6) := below_own (HB5.out.trans ((from_alloc _ _).mono HB5.out.size)) h2 (by have := HB5.out.size; simp; omega) (HR5.out.to (from_alloc _ _)); clear h1 h2 h3))
      go_ret2
      exact ⟨_, rfl, by simpa using HR6.out, HB6.out⟩
end Go.Proofs.Ytppofodijlofdaa
