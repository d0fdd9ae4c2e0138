/- DERIVED. The walk of PlaneKnown: its first stretch. -/
import Derived.Test.YtlgfkkegehpllabKb
import Derived.Test.YtlgfkkegehpllabRd
import Derived.Test.YtlgfkkegehpllabRc
import Derived.Test.YtlgfkkegehpllabLa
import Derived.Test.YtlgfkkegehpllabQc
import Derived.Deep.DeepCutAuto
import Derived.Deep.Light
namespace Go.Proofs.Ytlgfkkegehpllab
open Go.RowKit

theorem at_four {w : World} {g c : Nat} {i j : Int} {v : Nat} (hs : Sl w .u8 (some ⟨g, 0, none⟩) [1, 2, 3, 4]) (hv : [1, 2, 3, 4].getD (nr j 2 * 2 + nr i 2) 0 = v) :
    Calls Try.prog 5 #[.agg #[.int .i64 2, .int .i64 2, .slice (some ⟨g, 0, none⟩) 4 c], .int .i64 i, .int .i64 j] w fun e w' => e = .returned (.int .u8 (v : Int)) ∧ Below w.heap.size w w' := by
  have := at_ok (c := c) (x := 2) (y := 2) (i := i) (j := j) hs (by omega) (by omega) (by omega) (by omega) rfl
  rw [hv] at this
  exact this

theorem nf {W H : Int} {C : List Nat} (h : W < 1 ∨ 512 < W ∨ H < 1 ∨ 512 < H ∨ (C.length : Int) ≠ W * H) : ¬ POk W H C := fun k => by
  obtain ⟨x, y, rfl, rfl, _, _, _, _, hl⟩ := k.nat
  rw [hl] at h
  simp at h
  omega
theorem bad_at {t : World} {gb : Nat} {q1 q2 q3 q4 : Option Addr} (h : t.heap[gb]? = some (.cells #[.int .i64 0, .int .i64 0, .slice none 0 0, .int .i64 2, .int .i64 2, .slice q1 3 3, .int .i64 513, .int .i64 1, .slice q2 513 513, .int .i64 0, .int .i64 5, .slice none 0 0, .int .i64 (-1), .int .i64 (-1), .slice q3 1 1, .int .i64 4294967296, .int .i64 4294967296, .slice none 0 0, .int .i64 1, .int .i64 513, .slice q4 513 513] 24 (0, 0))) (k : Nat) (hk : k < 7) : ∃ (W H : Int) (a : Option Addr) (c : Nat) (C : List Nat), t.cell? ⟨gb, k * 3, none⟩ = some (.int .i64 W) ∧ t.cell? ⟨gb, k * 3 + 1, none⟩ = some (.int .i64 H) ∧ t.cell? ⟨gb, k * 3 + 2, none⟩ = some (.slice a C.length c) ∧ ¬ POk W H C := by
  have hc : ∀ j, t.cell? ⟨gb, j, none⟩ = (#[.int .i64 0, .int .i64 0, .slice none 0 0, .int .i64 2, .int .i64 2, .slice q1 3 3, .int .i64 513, .int .i64 1, .slice q2 513 513, .int .i64 0, .int .i64 5, .slice none 0 0, .int .i64 (-1), .int .i64 (-1), .slice q3 1 1, .int .i64 4294967296, .int .i64 4294967296, .slice none 0 0, .int .i64 1, .int .i64 513, .slice q4 513 513] : Array Value)[j]? := fun j => by simp [World.cell?, h]
  simp only [hc]
  match k, hk with
  | 0, _ => exact ⟨0, 0, none, 0, List.replicate 0 0, rfl, rfl, by rw [List.length_replicate]; rfl, nf (by simp)⟩
  | 1, _ => exact ⟨2, 2, q1, 3, List.replicate 3 0, rfl, rfl, by rw [List.length_replicate]; rfl, nf (by simp)⟩
  | 2, _ => exact ⟨513, 1, q2, 513, List.replicate 513 0, rfl, rfl, by rw [List.length_replicate]; rfl, nf (by omega)⟩
  | 3, _ => exact ⟨0, 5, none, 0, List.replicate 0 0, rfl, rfl, by rw [List.length_replicate]; rfl, nf (by simp)⟩
  | 4, _ => exact ⟨(-1), (-1), q3, 1, List.replicate 1 0, rfl, rfl, by rw [List.length_replicate]; rfl, nf (by simp)⟩
  | 5, _ => exact ⟨4294967296, 4294967296, none, 0, List.replicate 0 0, rfl, rfl, by rw [List.length_replicate]; rfl, nf (by simp)⟩
  | 6, _ => exact ⟨1, 513, q4, 513, List.replicate 513 0, rfl, rfl, by rw [List.length_replicate]; rfl, nf (by omega)⟩
theorem rect_at {t : World} {gr : Nat} (h : t.heap[gr]? = some (.cells #[.int .i64 1, .int .i64 0, .int .i64 2, .int .i64 1, .int .i64 0, .int .i64 0, .int .i64 0, .int .i64 1, .int .i64 0, .int .i64 0, .int .i64 1, .int .i64 0, .int .i64 (-1), .int .i64 0, .int .i64 1, .int .i64 1, .int .i64 0, .int .i64 2, .int .i64 1, .int .i64 1, .int .i64 9223372036854775807, .int .i64 0, .int .i64 9223372036854775807, .int .i64 1, .int .i64 0, .int .i64 1, .int .i64 1, .int .i64 2, .int .i64 1, .int .i64 1, .int .i64 0, .int .i64 0] 32 (0, 0))) (k : Nat) (hk : k < 8) : ∃ X Y w h : Int, t.cell? ⟨gr, k * 4, none⟩ = some (.int .i64 X) ∧ t.cell? ⟨gr, k * 4 + 1, none⟩ = some (.int .i64 Y) ∧ t.cell? ⟨gr, k * 4 + 2, none⟩ = some (.int .i64 w) ∧ t.cell? ⟨gr, k * 4 + 3, none⟩ = some (.int .i64 h) ∧ ¬ Win 2 2 X Y w h ∧ X ≤ 9223372036854775807 ∧ Y ≤ 9223372036854775807 := by
  have hc : ∀ j, t.cell? ⟨gr, j, none⟩ = (#[.int .i64 1, .int .i64 0, .int .i64 2, .int .i64 1, .int .i64 0, .int .i64 0, .int .i64 0, .int .i64 1, .int .i64 0, .int .i64 0, .int .i64 1, .int .i64 0, .int .i64 (-1), .int .i64 0, .int .i64 1, .int .i64 1, .int .i64 0, .int .i64 2, .int .i64 1, .int .i64 1, .int .i64 9223372036854775807, .int .i64 0, .int .i64 9223372036854775807, .int .i64 1, .int .i64 0, .int .i64 1, .int .i64 1, .int .i64 2, .int .i64 1, .int .i64 1, .int .i64 0, .int .i64 0] : Array Value)[j]? := fun j => by simp [World.cell?, h]
  simp only [hc]
  match k, hk with
  | 0, _ => exact ⟨1, 0, 2, 1, rfl, rfl, rfl, rfl, fun q => by have := q.w0; have := q.h0; have := q.x0; have := q.wx; have := q.hy; omega, by omega, by omega⟩
  | 1, _ => exact ⟨0, 0, 0, 1, rfl, rfl, rfl, rfl, fun q => by have := q.w0; have := q.h0; have := q.x0; have := q.wx; have := q.hy; omega, by omega, by omega⟩
  | 2, _ => exact ⟨0, 0, 1, 0, rfl, rfl, rfl, rfl, fun q => by have := q.w0; have := q.h0; have := q.x0; have := q.wx; have := q.hy; omega, by omega, by omega⟩
  | 3, _ => exact ⟨(-1), 0, 1, 1, rfl, rfl, rfl, rfl, fun q => by have := q.w0; have := q.h0; have := q.x0; have := q.wx; have := q.hy; omega, by omega, by omega⟩
  | 4, _ => exact ⟨0, 2, 1, 1, rfl, rfl, rfl, rfl, fun q => by have := q.w0; have := q.h0; have := q.x0; have := q.wx; have := q.hy; omega, by omega, by omega⟩
  | 5, _ => exact ⟨9223372036854775807, 0, 9223372036854775807, 1, rfl, rfl, rfl, rfl, fun q => by have := q.w0; have := q.h0; have := q.x0; have := q.wx; have := q.hy; omega, by omega, by omega⟩
  | 6, _ => exact ⟨0, 1, 1, 2, rfl, rfl, rfl, rfl, fun q => by have := q.w0; have := q.h0; have := q.x0; have := q.wx; have := q.hy; omega, by omega, by omega⟩
  | 7, _ => exact ⟨1, 1, 0, 0, rfl, rfl, rfl, rfl, fun q => by have := q.w0; have := q.h0; have := q.x0; have := q.wx; have := q.hy; omega, by omega, by omega⟩
theorem cells_of {t : World} {g ty : Nat} {A : Array Value} (h : t.heap[g]? = some (.cells A ty (0, 0))) (j : Nat) : t.cell? ⟨g, j, none⟩ = A[j]? := by simp [World.cell?, h]
theorem row_set {t : World} {g : Nat} {h0 h1 h2 : Nat} (h : t.heap[g]? = some (.cells #[.int .i64 16, .int .i64 16, .slice (some ⟨h0, 0, none⟩) 256 256, .int .i64 8, .int .i64 8, .slice (some ⟨h1, 0, none⟩) 64 64, .int .i64 8, .int .i64 8, .slice (some ⟨h2, 0, none⟩) 64 64] 48 (0, 0))) : (t.setCell ⟨g, 6, none⟩ (.int .i64 4)).heap[g]? = some (.cells #[.int .i64 16, .int .i64 16, .slice (some ⟨h0, 0, none⟩) 256 256, .int .i64 8, .int .i64 8, .slice (some ⟨h1, 0, none⟩) 64 64, .int .i64 4, .int .i64 8, .slice (some ⟨h2, 0, none⟩) 64 64] 48 (0, 0)) := by
  rw [setCell_eq_setRow t g 6 _ _ _ _ h, setRow_heap t g _ _ _ _ h]
  rfl
theorem size_at {t : World} {gs : Nat} (h : t.heap[gs]? = some (.cells #[.int .i64 15, .int .i64 16, .int .i64 16, .int .i64 14, .int .i64 258, .int .i64 16, .int .i64 16, .int .i64 257, .int .i64 17, .int .i64 16, .int .i64 0, .int .i64 0, .int .i64 (-16), .int .i64 16] 44 (0, 0))) (k : Nat) (hk : k < 7) : ∃ w h : Int, t.cell? ⟨gs, k * 2, none⟩ = some (.int .i64 w) ∧ t.cell? ⟨gs, k * 2 + 1, none⟩ = some (.int .i64 h) ∧ ¬ (Vs w ∧ Vs h) := by
  have hc : ∀ j, t.cell? ⟨gs, j, none⟩ = (#[.int .i64 15, .int .i64 16, .int .i64 16, .int .i64 14, .int .i64 258, .int .i64 16, .int .i64 16, .int .i64 257, .int .i64 17, .int .i64 16, .int .i64 0, .int .i64 0, .int .i64 (-16), .int .i64 16] : Array Value)[j]? := fun j => by simp [World.cell?, h]
  simp only [hc]
  match k, hk with
  | 0, _ => exact ⟨15, 16, rfl, rfl, fun q => by have h1 := q.1.lo; have h2 := q.1.hi; have h3 := q.1.even; have h4 := q.2.lo; have h5 := q.2.hi; have h6 := q.2.even; omega⟩
  | 1, _ => exact ⟨16, 14, rfl, rfl, fun q => by have h1 := q.1.lo; have h2 := q.1.hi; have h3 := q.1.even; have h4 := q.2.lo; have h5 := q.2.hi; have h6 := q.2.even; omega⟩
  | 2, _ => exact ⟨258, 16, rfl, rfl, fun q => by have h1 := q.1.lo; have h2 := q.1.hi; have h3 := q.1.even; have h4 := q.2.lo; have h5 := q.2.hi; have h6 := q.2.even; omega⟩
  | 3, _ => exact ⟨16, 257, rfl, rfl, fun q => by have h1 := q.1.lo; have h2 := q.1.hi; have h3 := q.1.even; have h4 := q.2.lo; have h5 := q.2.hi; have h6 := q.2.even; omega⟩
  | 4, _ => exact ⟨17, 16, rfl, rfl, fun q => by have h1 := q.1.lo; have h2 := q.1.hi; have h3 := q.1.even; have h4 := q.2.lo; have h5 := q.2.hi; have h6 := q.2.even; omega⟩
  | 5, _ => exact ⟨0, 0, rfl, rfl, fun q => by have h1 := q.1.lo; have h2 := q.1.hi; have h3 := q.1.even; have h4 := q.2.lo; have h5 := q.2.hi; have h6 := q.2.even; omega⟩
  | 6, _ => exact ⟨(-16), 16, rfl, rfl, fun q => by have h1 := q.1.lo; have h2 := q.1.hi; have h3 := q.1.even; have h4 := q.2.lo; have h5 := q.2.hi; have h6 := q.2.even; omega⟩
set_option maxRecDepth 100000 in
set_option maxHeartbeats 4000000 in
theorem known_walk {u : World} : Calls Try.prog 3 #[] u fun e w' => e = .returned (.bool true) ∧ Below u.heap.size u w' := by
  go_enter Try.func3, Try.ntmps3
  go_wp2_with fail
  refine four_ok.mono ?_
  rintro e w1 ⟨g, rfl, hg, hr, hb⟩
  have HV : Hid (Below u.heap.size u (w1.alloc (.cells #[.int .i64 2, .int .i64 2, .slice (some ⟨g, 0, none⟩) 4 4] 24))) := to_alloc hb _
  have HS : Hid (Sl (w1.alloc (.cells #[.int .i64 2, .int .i64 2, .slice (some ⟨g, 0, none⟩) 4 4] 24)) .u8 (some ⟨g, 0, none⟩) [1, 2, 3, 4]) := hr.sl.to (from_alloc _ _)
  have HZ : Hid (w1.heap.size < (w1.alloc (.cells #[.int .i64 2, .int .i64 2, .slice (some ⟨g, 0, none⟩) 4 4] 24)).heap.size) := by show _ < _; simp
  have p0 : (w1.alloc (.cells #[.int .i64 2, .int .i64 2, .slice (some ⟨g, 0, none⟩) 4 4] 24)).cell? ⟨w1.heap.size, 0, none⟩ = some (.int .i64 2) := by simp
  have p1 : (w1.alloc (.cells #[.int .i64 2, .int .i64 2, .slice (some ⟨g, 0, none⟩) 4 4] 24)).cell? ⟨w1.heap.size, 1, none⟩ = some (.int .i64 2) := by simp
  have p2 : (w1.alloc (.cells #[.int .i64 2, .int .i64 2, .slice (some ⟨g, 0, none⟩) 4 4] 24)).cell? ⟨w1.heap.size, 2, none⟩ = some (.slice (some ⟨g, 0, none⟩) 4 4) := by simp
  clear hg hr hb
  go_wp2_with fail
  generalize w1.heap.size = pb at *
  generalize (w1.alloc (.cells #[.int .i64 2, .int .i64 2, .slice (some ⟨g, 0, none⟩) 4 4] 24)) = V at *
  have HK : Hid (∀ t : World, Below V.heap.size V t → t.cell? ⟨pb, 0, none⟩ = some (.int .i64 2) ∧ t.cell? ⟨pb, 1, none⟩ = some (.int .i64 2) ∧ t.cell? ⟨pb, 2, none⟩ = some (.slice (some ⟨g, 0, none⟩) 4 4) ∧ Sl t .u8 (some ⟨g, 0, none⟩) [1, 2, 3, 4]) := fun t ht => by
    have hz := HZ.out
    refine ⟨?_, ?_, ?_, HS.out.to ht⟩
    all_goals rw [newCell ht _ _ hz]
    all_goals assumption
  clear p0 p1 p2
  obtain ⟨p0, p1, p2, s0⟩ := HK.out V (Below.refl _ _)
  refine (at_four (v := 1) s0 (by decide)).mono ?_
  rintro e t0 ⟨rfl, hb0⟩
  have HB0 : Hid (Below V.heap.size V t0) := below_to (Below.refl _ _) hb0
  clear hb0 s0 p0 p1 p2
  obtain ⟨p0, p1, p2, s1⟩ := HK.out t0 HB0.out
  go_wp2_with fail
  refine (at_four (v := 2) s1 (by decide)).mono ?_
  rintro e t1 ⟨rfl, hb1⟩
  have HB1 : Hid (Below V.heap.size V t1) := below_to HB0.out hb1
  clear hb1 s1 p0 p1 p2
  obtain ⟨p0, p1, p2, s2⟩ := HK.out t1 HB1.out
  go_wp2_with fail
  refine (at_four (v := 3) s2 (by decide)).mono ?_
  rintro e t2 ⟨rfl, hb2⟩
  have HB2 : Hid (Below V.heap.size V t2) := below_to HB1.out hb2
  clear hb2 s2 p0 p1 p2
  obtain ⟨p0, p1, p2, s3⟩ := HK.out t2 HB2.out
  go_wp2_with fail
  refine (at_four (v := 3) s3 (by decide)).mono ?_
  rintro e t3 ⟨rfl, hb3⟩
  have HB3 : Hid (Below V.heap.size V t3) := below_to HB2.out hb3
  clear hb3 s3 p0 p1 p2
  go_wp2_with fail
  refine (at_no (C := []) (nf (by omega))).mono ?_
  rintro e t4 ⟨rfl, hb4⟩
  have HB4 : Hid (Below V.heap.size V t4) := below_to HB3.out hb4
  clear hb4 HB0 HB1 HB2 HB3
  go_wp2_with fail
  refine region3 (by rfl) (fun _ _ _ _ _ h => h) ?_
  intro gb q1 q2 q3 q4 t5 hb5 hlo5 hrow5
  have HB5 : Hid (Below V.heap.size V t5) := HB4.out.trans (hb5.mono HB4.out.size)
  have HR5 : Hid (t5.heap[gb]? = some (.cells #[.int .i64 0, .int .i64 0, .slice none 0 0, .int .i64 2, .int .i64 2, .slice q1 3 3, .int .i64 513, .int .i64 1, .slice q2 513 513, .int .i64 0, .int .i64 5, .slice none 0 0, .int .i64 (-1), .int .i64 (-1), .slice q3 1 1, .int .i64 4294967296, .int .i64 4294967296, .slice none 0 0, .int .i64 1, .int .i64 513, .slice q4 513 513] 24 (0, 0))) := hrow5
  clear hb5 hlo5 hrow5 HB4
  simp only [Act.put, List.setIfInBounds_toArray, List.set_cons_zero, List.set_cons_succ]
  go_wp2_with fail
  go_loopw [4] (fun i wr => ∃ k : Nat, k ≤ 7 ∧ i = .int .i64 k ∧ Hid (Below t5.heap.size t5 wr)) (fun i _ => 7 - (intOf i).toNat)
  case atStart => exact ⟨0, by omega, rfl, Below.refl _ _⟩
  case round =>
    obtain ⟨k, hk, rfl, H⟩ := hrel
    rename_i wr
    by_cases hlt : k < 7
    · have c0 : 0 ≤ (k : Int) := by omega
      have c1 : (k : Int) < 7 := by omega
      have hgb : gb < t5.heap.size := (Array.getElem?_eq_some_iff.1 HR5.out).1
      obtain ⟨W, Hh, qa, qc, C, p0, p1, p2, hn⟩ := bad_at HR5.out k hlt
      have HN : Hid (¬ POk W Hh C) := hn
      have HP : Hid (∀ x : World, Below t5.heap.size t5 x → x.cell? ⟨gb, k * 3, none⟩ = some (.int .i64 W) ∧ x.cell? ⟨gb, k * 3 + 1, none⟩ = some (.int .i64 Hh) ∧ x.cell? ⟨gb, k * 3 + 2, none⟩ = some (.slice qa C.length qc) ∧ Below t5.heap.size t5 x) := fun x hx => by
        refine ⟨?_, ?_, ?_, hx⟩
        all_goals rw [newCell hx _ _ hgb]
        all_goals assumption
      clear p0 p1 p2 hn hgb
      obtain ⟨p0, p1, p2, -⟩ := HP.out wr H.out
      go_wp2_with fail
      refine (cut_bad HN.out).mono ?_
      rintro e x1 ⟨rfl, hb⟩
      have HX1 : Hid (Below t5.heap.size t5 x1) := below_to H.out hb
      clear hb p0 p1 p2
      obtain ⟨p0, p1, p2, -⟩ := HP.out x1 HX1.out
      go_wp2_with fail
      refine (pad_bad HN.out).mono ?_
      rintro e x2 ⟨rfl, hb⟩
      have HX2 : Hid (Below t5.heap.size t5 (x2.alloc (.cells #[.int .i64 0, .int .i64 0, .slice none 0 0] 24))) := to_alloc (below_to HX1.out hb) _
      clear hb p0 p1 p2
      go_wp2_with fail
      generalize x2.alloc (.cells #[.int .i64 0, .int .i64 0, .slice none 0 0] 24) = x3 at *
      have KA : Hid (∀ x : World, Below t5.heap.size t5 x → Calls Try.prog 8 #[.agg #[.int .i64 W, .int .i64 Hh, .slice qa C.length qc], .agg #[.int .i64 W, .int .i64 Hh, .slice qa C.length qc]] x fun e w' => e = .returned (.tuple #[.int .u64 0, .int .i64 2]) ∧ Below t5.heap.size t5 w') := fun x hx => (apart_bad HN.out).mono fun e w' ⟨h1, h2⟩ => ⟨h1, below_to hx h2⟩
      have hx3 : Below t5.heap.size t5 x3.drew := below_drew HX2.out
      go_region_held3 (fun x => x.cell? ⟨gb, k * 3, none⟩ = some (.int .i64 W) ∧ x.cell? ⟨gb, k * 3 + 1, none⟩ = some (.int .i64 Hh) ∧ x.cell? ⟨gb, k * 3 + 2, none⟩ = some (.slice qa C.length qc) ∧ Below t5.heap.size t5 x)
        ((exact HP.out _ (by with_reducible assumption)))
        ((first | (go_at_call 8; with_reducible refine (KA.out _ ?_).mono ?_; (with_reducible assumption); rintro e x4 ⟨rfl, hx4⟩)))
      have HX4 : Hid (Below t5.heap.size t5 x4) := hx4
      clear hx4 hx3 KA
      obtain ⟨p0, p1, p2, -⟩ := HP.out x4 HX4.out
      have hck : ck W Hh C = 2 := ck_no HN.out
      go_wp2_with fail
      refine check_any.mono ?_
      rintro e x5 ⟨rfl, hb⟩
      have HX5 : Hid (Below t5.heap.size t5 x5) := below_to HX4.out hb
      rw [hck]
      clear hb p0 p1 p2 hck
      go_wp2_with fail
      go_roundw
      case rel => exact ⟨k + 1, by omega, by go_num, HX5⟩
      case measure => simp [intOf]; omega
    · have HB6 : Hid (Below V.heap.size V wr) := HB5.out.trans (H.out.mono HB5.out.size)
      clear HB5 HR5 H
      have HR6 : Hid ((wr.alloc (.cells #[.int .i64 1, .int .i64 0, .int .i64 2, .int .i64 1, .int .i64 0, .int .i64 0, .int .i64 0, .int .i64 1, .int .i64 0, .int .i64 0, .int .i64 1, .int .i64 0, .int .i64 (-1), .int .i64 0, .int .i64 1, .int .i64 1, .int .i64 0, .int .i64 2, .int .i64 1, .int .i64 1, .int .i64 9223372036854775807, .int .i64 0, .int .i64 9223372036854775807, .int .i64 1, .int .i64 0, .int .i64 1, .int .i64 1, .int .i64 2, .int .i64 1, .int .i64 1, .int .i64 0, .int .i64 0] 32)).heap[wr.heap.size]? = some (.cells #[.int .i64 1, .int .i64 0, .int .i64 2, .int .i64 1, .int .i64 0, .int .i64 0, .int .i64 0, .int .i64 1, .int .i64 0, .int .i64 0, .int .i64 1, .int .i64 0, .int .i64 (-1), .int .i64 0, .int .i64 1, .int .i64 1, .int .i64 0, .int .i64 2, .int .i64 1, .int .i64 1, .int .i64 9223372036854775807, .int .i64 0, .int .i64 9223372036854775807, .int .i64 1, .int .i64 0, .int .i64 1, .int .i64 1, .int .i64 2, .int .i64 1, .int .i64 1, .int .i64 0, .int .i64 0] 32 (0, 0))) := heap_alloc_new wr _
      have HB7 : Hid (Below V.heap.size V (wr.alloc (.cells #[.int .i64 1, .int .i64 0, .int .i64 2, .int .i64 1, .int .i64 0, .int .i64 0, .int .i64 0, .int .i64 1, .int .i64 0, .int .i64 0, .int .i64 1, .int .i64 0, .int .i64 (-1), .int .i64 0, .int .i64 1, .int .i64 1, .int .i64 0, .int .i64 2, .int .i64 1, .int .i64 1, .int .i64 9223372036854775807, .int .i64 0, .int .i64 9223372036854775807, .int .i64 1, .int .i64 0, .int .i64 1, .int .i64 1, .int .i64 2, .int .i64 1, .int .i64 1, .int .i64 0, .int .i64 0] 32))) := to_alloc HB6.out _
      clear HB6
      go_wp2_with fail
      generalize wr.alloc (.cells #[.int .i64 1, .int .i64 0, .int .i64 2, .int .i64 1, .int .i64 0, .int .i64 0, .int .i64 0, .int .i64 1, .int .i64 0, .int .i64 0, .int .i64 1, .int .i64 0, .int .i64 (-1), .int .i64 0, .int .i64 1, .int .i64 1, .int .i64 0, .int .i64 2, .int .i64 1, .int .i64 1, .int .i64 9223372036854775807, .int .i64 0, .int .i64 9223372036854775807, .int .i64 1, .int .i64 0, .int .i64 1, .int .i64 1, .int .i64 2, .int .i64 1, .int .i64 1, .int .i64 0, .int .i64 0] 32) = t6 at *
      generalize wr.heap.size = gr at *
      clear hlt hk
      go_loopw [12] (fun i wr => ∃ k : Nat, k ≤ 8 ∧ i = .int .i64 k ∧ Hid (Below t6.heap.size t6 wr)) (fun i _ => 8 - (intOf i).toNat)
      case atStart => exact ⟨0, by omega, rfl, Below.refl _ _⟩
      case round =>
        obtain ⟨k, hk, rfl, H⟩ := hrel
        by_cases hlt : k < 8
        · have c0 : 0 ≤ (k : Int) := by omega
          have c1 : (k : Int) < 8 := by omega
          have hgr : gr < t6.heap.size := (Array.getElem?_eq_some_iff.1 HR6.out).1
          obtain ⟨X, Y, rw, rh, p0, p1, p2, p3, hn, bX, bY⟩ := rect_at HR6.out k hlt
          have HN : Hid (¬ Win 2 2 X Y rw rh ∧ X ≤ 9223372036854775807 ∧ Y ≤ 9223372036854775807) := ⟨hn, bX, bY⟩
          have HP : Hid (∀ x : World, Below t6.heap.size t6 x → x.cell? ⟨pb, 0, none⟩ = some (.int .i64 2) ∧ x.cell? ⟨pb, 1, none⟩ = some (.int .i64 2) ∧ x.cell? ⟨pb, 2, none⟩ = some (.slice (some ⟨g, 0, none⟩) 4 4) ∧ x.cell? ⟨gr, k * 4, none⟩ = some (.int .i64 X) ∧ x.cell? ⟨gr, k * 4 + 1, none⟩ = some (.int .i64 Y) ∧ x.cell? ⟨gr, k * 4 + 2, none⟩ = some (.int .i64 rw) ∧ x.cell? ⟨gr, k * 4 + 3, none⟩ = some (.int .i64 rh) ∧ Below t6.heap.size t6 x) := fun x hx => by
            obtain ⟨y0, y1, y2, -⟩ := HK.out x (HB7.out.trans (hx.mono HB7.out.size))
            refine ⟨y0, y1, y2, ?_, ?_, ?_, ?_, hx⟩
            all_goals rw [newCell hx _ _ hgr]
            all_goals assumption
          clear p0 p1 p2 p3 hn bX bY hgr
          have KC : Hid (∀ x : World, Below t6.heap.size t6 x → Calls Try.prog 6 #[.agg #[.int .i64 2, .int .i64 2, .slice (some ⟨g, 0, none⟩) 4 4], .agg #[.int .i64 X, .int .i64 Y, .int .i64 rw, .int .i64 rh]] x fun e w' => e = .returned (.tuple #[.slice none 0 0, .int .i64 2]) ∧ Below t6.heap.size t6 w') := fun x hx => (cut_out (C := [1, 2, 3, 4]) pok4 HN.out.1 HN.out.2.1 HN.out.2.2).mono fun e w' ⟨h1, h2⟩ => ⟨h1, below_to hx h2⟩
          have KL : Hid (∀ x : World, Below t6.heap.size t6 x → Calls Try.prog 10 #[.agg #[.int .i64 2, .int .i64 2, .slice (some ⟨g, 0, none⟩) 4 4], .agg #[.int .i64 X, .int .i64 Y, .int .i64 rw, .int .i64 rh], .slice none 0 0] x fun e w' => e = .returned (.tuple #[.agg #[.int .i64 0, .int .i64 0, .slice none 0 0], .int .i64 2]) ∧ Below t6.heap.size t6 w' ∧ Below x.heap.size x w') := fun x hx => (lay_out (C := [1, 2, 3, 4]) pok4 HN.out.1 HN.out.2.1 HN.out.2.2).mono fun e w' ⟨h1, h2⟩ => ⟨h1, below_to hx h2, h2⟩
          go_wp2_with fail
          have hx0 : Below t6.heap.size t6 wr.drew := below_drew H.out
          go_region_held3 (fun x => x.cell? ⟨pb, 0, none⟩ = some (.int .i64 2) ∧ x.cell? ⟨pb, 1, none⟩ = some (.int .i64 2) ∧ x.cell? ⟨pb, 2, none⟩ = some (.slice (some ⟨g, 0, none⟩) 4 4) ∧ x.cell? ⟨gr, k * 4, none⟩ = some (.int .i64 X) ∧ x.cell? ⟨gr, k * 4 + 1, none⟩ = some (.int .i64 Y) ∧ x.cell? ⟨gr, k * 4 + 2, none⟩ = some (.int .i64 rw) ∧ x.cell? ⟨gr, k * 4 + 3, none⟩ = some (.int .i64 rh) ∧ Below t6.heap.size t6 x)
            ((exact HP.out _ (by with_reducible assumption)))
            ((first | (go_at_call 6; with_reducible refine (KC.out _ ?_).mono ?_; (with_reducible assumption); rintro e x4 ⟨rfl, hx4⟩)))
          have HX4 : Hid (Below t6.heap.size t6 x4) := hx4
          clear hx4 hx0 KC H
          go_wp2_with fail
          have hx4 : Below t6.heap.size t6 x4.drew := below_drew HX4.out
          have hs4 : t6.heap.size ≤ x4.heap.size := HX4.out.size
          have h4p : Below t6.heap.size t6 x4 := HX4.out
          go_region_held3 (fun x => x.cell? ⟨pb, 0, none⟩ = some (.int .i64 2) ∧ x.cell? ⟨pb, 1, none⟩ = some (.int .i64 2) ∧ x.cell? ⟨pb, 2, none⟩ = some (.slice (some ⟨g, 0, none⟩) 4 4) ∧ x.cell? ⟨gr, k * 4, none⟩ = some (.int .i64 X) ∧ x.cell? ⟨gr, k * 4 + 1, none⟩ = some (.int .i64 Y) ∧ x.cell? ⟨gr, k * 4 + 2, none⟩ = some (.int .i64 rw) ∧ x.cell? ⟨gr, k * 4 + 3, none⟩ = some (.int .i64 rh) ∧ Below t6.heap.size t6 x)
            ((exact HP.out _ (by solve | (repeat (first | with_reducible assumption | with_reducible refine to_alloc ?_ _ | with_reducible refine below_set ?_ ?_ _ | with_reducible refine below_drew ?_ | with_reducible exact Below.refl _ _ | (dsimp only; omega))))))
            ((first | (go_at_call 10; with_reducible refine (KL.out _ ?_).mono ?_; (focus (first | with_reducible assumption | exact below_drew (to_alloc h4p _) | exact to_alloc hx4 _)); rintro e xA ⟨rfl, hbA, hcA⟩; have hsA := hbA.size; have hkA := newCell hcA; have hfA := newFrozen hcA)))
          all_goals
            go_wp2_with fail
            go_roundw
            case rel => exact ⟨k + 1, by omega, by go_num, by first | exact to_alloc hbA _ | exact below_set (below_set (below_set hbA (by dsimp only; omega) _) (by dsimp only; omega) _) (by dsimp only; omega) _⟩
            case measure => simp [intOf]; omega
        · have HB8 : Hid (Below V.heap.size V wr) := HB7.out.trans (H.out.mono HB7.out.size)
          clear HB7 HR6 H
          obtain ⟨p0, p1, p2, s⟩ := HK.out wr HB8.out
          go_wp2_with fail
          refine (pad_five s).mono ?_
          rintro e x1 ⟨gw, rfl, hrw, hb⟩
          have HB9 : Hid (Below V.heap.size V (x1.alloc (.cells #[.int .i64 5, .int .i64 2, .slice (some ⟨gw, 0, none⟩) 10 10] 24))) := to_alloc (below_to HB8.out hb) _
          have HZ9 : Hid (x1.heap.size < (x1.alloc (.cells #[.int .i64 5, .int .i64 2, .slice (some ⟨gw, 0, none⟩) 10 10] 24)).heap.size) := by show _ < _; simp
          have HC9 : Hid ((x1.alloc (.cells #[.int .i64 5, .int .i64 2, .slice (some ⟨gw, 0, none⟩) 10 10] 24)).cell? ⟨x1.heap.size, 2, none⟩ = some (.slice (some ⟨gw, 0, none⟩) 10 10)) := by show _ = _; simp
          have HS9 : Hid (Sl (x1.alloc (.cells #[.int .i64 5, .int .i64 2, .slice (some ⟨gw, 0, none⟩) 10 10] 24)) .u8 (some ⟨gw, 0, none⟩) dw) := hrw.sl.to (from_alloc _ _)
          clear hb hrw p0 p1 p2 s HB8
          obtain ⟨p0, p1, p2, -⟩ := HK.out _ HB9.out
          have HB10 : Hid (Below V.heap.size V ((x1.alloc (.cells #[.int .i64 5, .int .i64 2, .slice (some ⟨gw, 0, none⟩) 10 10] 24)).alloc (.cells #[.int .u8 7, .int .u8 8] 5))) := to_alloc HB9.out _
          go_wp2_with fail
          generalize x1.alloc (.cells #[.int .i64 5, .int .i64 2, .slice (some ⟨gw, 0, none⟩) 10 10] 24) = t7 at *
          generalize x1.heap.size = wb at *
          have HW : Hid (∀ x : World, Below t7.heap.size t7 x → x.cell? ⟨wb, 2, none⟩ = some (.slice (some ⟨gw, 0, none⟩) 10 10) ∧ Sl x .u8 (some ⟨gw, 0, none⟩) dw) := fun x hx => ⟨by rw [newCell hx _ _ HZ9.out]; exact HC9.out, HS9.out.to hx⟩
          clear p0 p1 p2 HZ9 HC9 HS9 HB10
          refine lay_one.mono ?_
          rintro e x2 ⟨rfl, hb⟩
          have HE1 : Hid (Below t7.heap.size t7 (x2.alloc (.cells #[.int .i64 0, .int .i64 0, .slice none 0 0] 24))) := to_alloc ((from_alloc t7 _).trans (hb.mono (from_alloc t7 _).size)) _
          clear hb
          go_wp2_with fail
          generalize x2.alloc (.cells #[.int .i64 0, .int .i64 0, .slice none 0 0] 24) = y1 at *
          refine apart_two.mono ?_
          rintro e x3 ⟨rfl, hb⟩
          have HE2 : Hid (Below t7.heap.size t7 x3) := below_to (to_alloc (to_alloc HE1.out _) _) hb
          clear hb HE1
          obtain ⟨sa, sb⟩ := two_rows x3
          have HSA : Hid _ := sa
          have HSB : Hid _ := sb
          clear sa sb
          go_wp2_with fail
          refine (same_two HSA.out HSB.out).mono ?_
          rintro e x4 ⟨rfl, hb⟩
          have HE3 : Hid (Below t7.heap.size t7 x4) := below_to (to_alloc (to_alloc HE2.out _) _) hb
          clear hb HSA HSB HE2
          obtain ⟨pw, sw⟩ := HW.out x4 HE3.out
          have HSW : Hid (Sl x4 .u8 (some ⟨gw, 0, none⟩) dw) := sw
          clear sw
          go_wp2_with fail
          refine (eq_ten (HSW.out.to (from_alloc _ _)) (Rw.ofAlloc (C := dw) rfl rfl).sl).mono ?_
          rintro e x5 ⟨rfl, hb⟩
          have HE4 : Hid (Below t7.heap.size t7 x5) := below_to (to_alloc HE3.out _) hb
          have HB11 : Hid (Below V.heap.size V x5) := HB9.out.trans (HE4.out.mono HB9.out.size)
          clear hb HE3 HSW pw HW HE4 HB9
          obtain ⟨p0, p1, p2, -⟩ := HK.out x5 HB11.out
          go_wp2_with fail
          refine lay_two.mono ?_
          rintro e x6 ⟨rfl, hb⟩
          have HB12 : Hid (Below V.heap.size V (x6.alloc (.cells #[.int .i64 0, .int .i64 0, .slice none 0 0] 24))) := to_alloc (below_to (to_alloc HB11.out _) hb) _
          clear hb HB11 p0 p1 p2
          obtain ⟨p0, p1, p2, -⟩ := HK.out _ HB12.out
          go_wp2_with fail
          generalize x6.alloc (.cells #[.int .i64 0, .int .i64 0, .slice none 0 0] 24) = y2 at *
          clear p0 p1 p2
          refine pad_no1.mono ?_
          rintro e x7 ⟨rfl, hb⟩
          have HB13 : Hid (Below V.heap.size V (x7.alloc (.cells #[.int .i64 0, .int .i64 0, .slice none 0 0] 24))) := to_alloc (below_to HB12.out hb) _
          clear hb HB12
          obtain ⟨p0, p1, p2, -⟩ := HK.out _ HB13.out
          go_wp2_with fail
          generalize x7.alloc (.cells #[.int .i64 0, .int .i64 0, .slice none 0 0] 24) = y3 at *
          clear p0 p1 p2
          refine pad_no2.mono ?_
          rintro e x8 ⟨rfl, hb⟩
          have HB14 : Hid (Below V.heap.size V (x8.alloc (.cells #[.int .i64 0, .int .i64 0, .slice none 0 0] 24))) := to_alloc (below_to HB13.out hb) _
          clear hb HB13
          go_wp2_with fail
          generalize x8.alloc (.cells #[.int .i64 0, .int .i64 0, .slice none 0 0] 24) = y4 at *
          refine new_no1.mono ?_
          rintro e x9 ⟨rfl, hb⟩
          have HB15 : Hid (Below V.heap.size V (x9.alloc (.cells #[.int .i64 0, .int .i64 0, .slice none 0 0] 24))) := to_alloc (below_to HB14.out hb) _
          clear hb HB14
          go_wp2_with fail
          generalize x9.alloc (.cells #[.int .i64 0, .int .i64 0, .slice none 0 0] 24) = y5 at *
          refine new_no2.mono ?_
          rintro e x10 ⟨rfl, hb⟩
          have HB16 : Hid (Below V.heap.size V (x10.alloc (.cells #[.int .i64 0, .int .i64 0, .slice none 0 0] 24))) := to_alloc (below_to HB15.out hb) _
          clear hb HB15
          go_wp2_with fail
          generalize x10.alloc (.cells #[.int .i64 0, .int .i64 0, .slice none 0 0] 24) = y6 at *
          refine new_one.mono ?_
          rintro e x11 ⟨go, D, rfl, hDl, hDg, hrw, hb⟩
          have HD : Hid (D.length = 512 ∧ D.getD 511 0 = 6) := ⟨hDl, hDg⟩
          have HB17 : Hid (Below V.heap.size V (x11.alloc (.cells #[.int .i64 512, .int .i64 1, .slice (some ⟨go, 0, none⟩) 512 512] 24))) := to_alloc (below_to HB16.out hb) _
          have HS17 : Hid (Sl (x11.alloc (.cells #[.int .i64 512, .int .i64 1, .slice (some ⟨go, 0, none⟩) 512 512] 24)) .u8 (some ⟨go, 0, none⟩) D) := hrw.sl.to (from_alloc _ _)
          have o0 : (x11.alloc (.cells #[.int .i64 512, .int .i64 1, .slice (some ⟨go, 0, none⟩) 512 512] 24)).cell? ⟨x11.heap.size, 0, none⟩ = some (.int .i64 512) := by simp
          have o1 : (x11.alloc (.cells #[.int .i64 512, .int .i64 1, .slice (some ⟨go, 0, none⟩) 512 512] 24)).cell? ⟨x11.heap.size, 1, none⟩ = some (.int .i64 1) := by simp
          have o2 : (x11.alloc (.cells #[.int .i64 512, .int .i64 1, .slice (some ⟨go, 0, none⟩) 512 512] 24)).cell? ⟨x11.heap.size, 2, none⟩ = some (.slice (some ⟨go, 0, none⟩) 512 512) := by simp
          clear hb hrw hDl hDg HB16
          go_wp2_with fail
          generalize x11.alloc (.cells #[.int .i64 512, .int .i64 1, .slice (some ⟨go, 0, none⟩) 512 512] 24) = y7 at *
          clear o0 o1 o2
          refine (at_one HS17.out HD.out.1 HD.out.2).mono ?_
          rintro e x12 ⟨rfl, hb⟩
          have HB18 : Hid (Below V.heap.size V x12) := below_to HB17.out hb
          have HB19 : Hid (Below V.heap.size V (x12.alloc (.cells #[.int .i64 15, .int .i64 16, .int .i64 16, .int .i64 14, .int .i64 258, .int .i64 16, .int .i64 16, .int .i64 257, .int .i64 17, .int .i64 16, .int .i64 0, .int .i64 0, .int .i64 (-16), .int .i64 16] 44))) := to_alloc HB18.out _
          have HR19 : Hid ((x12.alloc (.cells #[.int .i64 15, .int .i64 16, .int .i64 16, .int .i64 14, .int .i64 258, .int .i64 16, .int .i64 16, .int .i64 257, .int .i64 17, .int .i64 16, .int .i64 0, .int .i64 0, .int .i64 (-16), .int .i64 16] 44)).heap[x12.heap.size]? = some (.cells #[.int .i64 15, .int .i64 16, .int .i64 16, .int .i64 14, .int .i64 258, .int .i64 16, .int .i64 16, .int .i64 257, .int .i64 17, .int .i64 16, .int .i64 0, .int .i64 0, .int .i64 (-16), .int .i64 16] 44 (0, 0))) := heap_alloc_new x12 _
          clear hb HB17 HS17 HD HB18
          go_wp2_with fail
          generalize x12.alloc (.cells #[.int .i64 15, .int .i64 16, .int .i64 16, .int .i64 14, .int .i64 258, .int .i64 16, .int .i64 16, .int .i64 257, .int .i64 17, .int .i64 16, .int .i64 0, .int .i64 0, .int .i64 (-16), .int .i64 16] 44) = t8 at *
          generalize x12.heap.size = gs at *
          clear hlt hk
          go_loopw [293] (fun i wr => ∃ k : Nat, k ≤ 7 ∧ i = .int .i64 k ∧ Hid (Below t8.heap.size t8 wr)) (fun i _ => 7 - (intOf i).toNat)
          case atStart => exact ⟨0, by omega, rfl, Below.refl _ _⟩
          case round =>
            obtain ⟨k, hk, rfl, H⟩ := hrel
            by_cases hlt : k < 7
            · have c0 : 0 ≤ (k : Int) := by omega
              have c1 : (k : Int) < 7 := by omega
              have hgs : gs < t8.heap.size := (Array.getElem?_eq_some_iff.1 HR19.out).1
              obtain ⟨sw, sh, p0, p1, hn⟩ := size_at HR19.out k hlt
              have HN : Hid (¬ (Vs sw ∧ Vs sh)) := hn
              have q0 : wr.cell? ⟨gs, k * 2, none⟩ = some (.int .i64 sw) := by rw [newCell H.out _ _ hgs]; exact p0
              have q1 : wr.cell? ⟨gs, k * 2 + 1, none⟩ = some (.int .i64 sh) := by rw [newCell H.out _ _ hgs]; exact p1
              have HA : Hid (Below t8.heap.size t8 (wr.alloc (.cells #[.int .i64 sw, .int .i64 sh] 44))) := to_alloc H.out _
              have r0 : (wr.alloc (.cells #[.int .i64 sw, .int .i64 sh] 44)).cell? ⟨wr.heap.size, 0, none⟩ = some (.int .i64 sw) := by simp
              have r1 : (wr.alloc (.cells #[.int .i64 sw, .int .i64 sh] 44)).cell? ⟨wr.heap.size, 1, none⟩ = some (.int .i64 sh) := by simp
              clear p0 p1 hn hgs
              go_wp2_with fail
              generalize wr.alloc (.cells #[.int .i64 sw, .int .i64 sh] 44) = z1 at *
              clear q0 q1 r0 r1
              refine (frame_no (v := 1) HN.out).mono ?_
              rintro e z2 ⟨rfl, hb⟩
              have HA2 : Hid (Below t8.heap.size t8 (z2.alloc (.cells #[.int .i64 0, .int .i64 0, .slice none 0 0, .int .i64 0, .int .i64 0, .slice none 0 0, .int .i64 0, .int .i64 0, .slice none 0 0] 48))) := to_alloc (below_to HA.out hb) _
              clear hb HA HN
              go_wp2_with fail
              go_roundw
              case rel => exact ⟨k + 1, by omega, by go_num, HA2⟩
              case measure => simp [intOf]; omega
            · have HC1 : Hid (Below V.heap.size V wr) := HB19.out.trans (H.out.mono HB19.out.size)
              clear HB19 HR19 H
              go_wp2_with fail
              refine frame_big.mono ?_
              rintro e z1 ⟨g0, g1, g2, D0, D1, D2, rfl, hbg, hb⟩
              have HC2 : Hid (Below V.heap.size V (z1.alloc (.cells #[.int .i64 256, .int .i64 256, .slice (some ⟨g0, 0, none⟩) 65536 65536, .int .i64 128, .int .i64 128, .slice (some ⟨g1, 0, none⟩) 16384 16384, .int .i64 128, .int .i64 128, .slice (some ⟨g2, 0, none⟩) 16384 16384] 48))) := to_alloc (below_to HC1.out hb) _
              have HG2 : Hid (Bg (z1.alloc (.cells #[.int .i64 256, .int .i64 256, .slice (some ⟨g0, 0, none⟩) 65536 65536, .int .i64 128, .int .i64 128, .slice (some ⟨g1, 0, none⟩) 16384 16384, .int .i64 128, .int .i64 128, .slice (some ⟨g2, 0, none⟩) 16384 16384] 48)) 256 128 g0 g1 g2 65536 16384 D0 D1 D2) := hbg.to (from_alloc _ _)
              have HX2 : Hid ((z1.alloc (.cells #[.int .i64 256, .int .i64 256, .slice (some ⟨g0, 0, none⟩) 65536 65536, .int .i64 128, .int .i64 128, .slice (some ⟨g1, 0, none⟩) 16384 16384, .int .i64 128, .int .i64 128, .slice (some ⟨g2, 0, none⟩) 16384 16384] 48)).heap[z1.heap.size]? = some (.cells #[.int .i64 256, .int .i64 256, .slice (some ⟨g0, 0, none⟩) 65536 65536, .int .i64 128, .int .i64 128, .slice (some ⟨g1, 0, none⟩) 16384 16384, .int .i64 128, .int .i64 128, .slice (some ⟨g2, 0, none⟩) 16384 16384] 48 (0, 0))) := heap_alloc_new z1 _
              have HF2 : Hid (∀ j, (z1.alloc (.cells #[.int .i64 256, .int .i64 256, .slice (some ⟨g0, 0, none⟩) 65536 65536, .int .i64 128, .int .i64 128, .slice (some ⟨g1, 0, none⟩) 16384 16384, .int .i64 128, .int .i64 128, .slice (some ⟨g2, 0, none⟩) 16384 16384] 48)).cell? ⟨z1.heap.size, j, none⟩ = (#[.int .i64 256, .int .i64 256, .slice (some ⟨g0, 0, none⟩) 65536 65536, .int .i64 128, .int .i64 128, .slice (some ⟨g1, 0, none⟩) 16384 16384, .int .i64 128, .int .i64 128, .slice (some ⟨g2, 0, none⟩) 16384 16384] : Array Value)[j]?) := fun j => cells_of HX2.out j
              have b0 : (z1.alloc (.cells #[.int .i64 256, .int .i64 256, .slice (some ⟨g0, 0, none⟩) 65536 65536, .int .i64 128, .int .i64 128, .slice (some ⟨g1, 0, none⟩) 16384 16384, .int .i64 128, .int .i64 128, .slice (some ⟨g2, 0, none⟩) 16384 16384] 48)).cell? ⟨z1.heap.size, 0, none⟩ = some (.int .i64 256) := HF2.out 0
              have b1 : (z1.alloc (.cells #[.int .i64 256, .int .i64 256, .slice (some ⟨g0, 0, none⟩) 65536 65536, .int .i64 128, .int .i64 128, .slice (some ⟨g1, 0, none⟩) 16384 16384, .int .i64 128, .int .i64 128, .slice (some ⟨g2, 0, none⟩) 16384 16384] 48)).cell? ⟨z1.heap.size, 1, none⟩ = some (.int .i64 256) := HF2.out 1
              have b2 : (z1.alloc (.cells #[.int .i64 256, .int .i64 256, .slice (some ⟨g0, 0, none⟩) 65536 65536, .int .i64 128, .int .i64 128, .slice (some ⟨g1, 0, none⟩) 16384 16384, .int .i64 128, .int .i64 128, .slice (some ⟨g2, 0, none⟩) 16384 16384] 48)).cell? ⟨z1.heap.size, 2, none⟩ = some (.slice (some ⟨g0, 0, none⟩) 65536 65536) := HF2.out 2
              have b3 : (z1.alloc (.cells #[.int .i64 256, .int .i64 256, .slice (some ⟨g0, 0, none⟩) 65536 65536, .int .i64 128, .int .i64 128, .slice (some ⟨g1, 0, none⟩) 16384 16384, .int .i64 128, .int .i64 128, .slice (some ⟨g2, 0, none⟩) 16384 16384] 48)).cell? ⟨z1.heap.size, 3, none⟩ = some (.int .i64 128) := HF2.out 3
              have b4 : (z1.alloc (.cells #[.int .i64 256, .int .i64 256, .slice (some ⟨g0, 0, none⟩) 65536 65536, .int .i64 128, .int .i64 128, .slice (some ⟨g1, 0, none⟩) 16384 16384, .int .i64 128, .int .i64 128, .slice (some ⟨g2, 0, none⟩) 16384 16384] 48)).cell? ⟨z1.heap.size, 4, none⟩ = some (.int .i64 128) := HF2.out 4
              have b5 : (z1.alloc (.cells #[.int .i64 256, .int .i64 256, .slice (some ⟨g0, 0, none⟩) 65536 65536, .int .i64 128, .int .i64 128, .slice (some ⟨g1, 0, none⟩) 16384 16384, .int .i64 128, .int .i64 128, .slice (some ⟨g2, 0, none⟩) 16384 16384] 48)).cell? ⟨z1.heap.size, 5, none⟩ = some (.slice (some ⟨g1, 0, none⟩) 16384 16384) := HF2.out 5
              have b6 : (z1.alloc (.cells #[.int .i64 256, .int .i64 256, .slice (some ⟨g0, 0, none⟩) 65536 65536, .int .i64 128, .int .i64 128, .slice (some ⟨g1, 0, none⟩) 16384 16384, .int .i64 128, .int .i64 128, .slice (some ⟨g2, 0, none⟩) 16384 16384] 48)).cell? ⟨z1.heap.size, 6, none⟩ = some (.int .i64 128) := HF2.out 6
              have b7 : (z1.alloc (.cells #[.int .i64 256, .int .i64 256, .slice (some ⟨g0, 0, none⟩) 65536 65536, .int .i64 128, .int .i64 128, .slice (some ⟨g1, 0, none⟩) 16384 16384, .int .i64 128, .int .i64 128, .slice (some ⟨g2, 0, none⟩) 16384 16384] 48)).cell? ⟨z1.heap.size, 7, none⟩ = some (.int .i64 128) := HF2.out 7
              have b8 : (z1.alloc (.cells #[.int .i64 256, .int .i64 256, .slice (some ⟨g0, 0, none⟩) 65536 65536, .int .i64 128, .int .i64 128, .slice (some ⟨g1, 0, none⟩) 16384 16384, .int .i64 128, .int .i64 128, .slice (some ⟨g2, 0, none⟩) 16384 16384] 48)).cell? ⟨z1.heap.size, 8, none⟩ = some (.slice (some ⟨g2, 0, none⟩) 16384 16384) := HF2.out 8
              clear hb hbg HC1
              go_wp2_with fail
              generalize z1.alloc (.cells #[.int .i64 256, .int .i64 256, .slice (some ⟨g0, 0, none⟩) 65536 65536, .int .i64 128, .int .i64 128, .slice (some ⟨g1, 0, none⟩) 16384 16384, .int .i64 128, .int .i64 128, .slice (some ⟨g2, 0, none⟩) 16384 16384] 48) = t9 at *
              generalize z1.heap.size = bb at *
              clear b0 b1 b2 b3 b4 b5 b6 b7 b8
              have hbb : bb < t9.heap.size := (Array.getElem?_eq_some_iff.1 HX2.out).1
              have HBB : Hid (∀ x : World, Below t9.heap.size t9 x → (∀ j, x.cell? ⟨bb, j, none⟩ = (#[.int .i64 256, .int .i64 256, .slice (some ⟨g0, 0, none⟩) 65536 65536, .int .i64 128, .int .i64 128, .slice (some ⟨g1, 0, none⟩) 16384 16384, .int .i64 128, .int .i64 128, .slice (some ⟨g2, 0, none⟩) 16384 16384] : Array Value)[j]?) ∧ Bg x 256 128 g0 g1 g2 65536 16384 D0 D1 D2) := fun x hx => ⟨fun j => by rw [newCell hx _ _ hbb]; exact HF2.out j, HG2.out.to hx⟩
              clear hbb HF2 HX2
              refine (crop_small HG2.out).mono ?_
              rintro e z2 ⟨h0, h1, h2, E0, E1, E2, rfl, hbg, hb⟩
              have HD2 : Hid (Below t9.heap.size t9 (z2.alloc (.cells #[.int .i64 16, .int .i64 16, .slice (some ⟨h0, 0, none⟩) 256 256, .int .i64 8, .int .i64 8, .slice (some ⟨h1, 0, none⟩) 64 64, .int .i64 8, .int .i64 8, .slice (some ⟨h2, 0, none⟩) 64 64] 48))) := to_alloc hb _
              have HG3 : Hid (Bg (z2.alloc (.cells #[.int .i64 16, .int .i64 16, .slice (some ⟨h0, 0, none⟩) 256 256, .int .i64 8, .int .i64 8, .slice (some ⟨h1, 0, none⟩) 64 64, .int .i64 8, .int .i64 8, .slice (some ⟨h2, 0, none⟩) 64 64] 48)) 16 8 h0 h1 h2 256 64 E0 E1 E2) := hbg.to (from_alloc _ _)
              have hsv : V.heap.size ≤ z2.heap.size := Nat.le_trans HC2.out.size hb.size
              have HX3 : Hid ((z2.alloc (.cells #[.int .i64 16, .int .i64 16, .slice (some ⟨h0, 0, none⟩) 256 256, .int .i64 8, .int .i64 8, .slice (some ⟨h1, 0, none⟩) 64 64, .int .i64 8, .int .i64 8, .slice (some ⟨h2, 0, none⟩) 64 64] 48)).heap[z2.heap.size]? = some (.cells #[.int .i64 16, .int .i64 16, .slice (some ⟨h0, 0, none⟩) 256 256, .int .i64 8, .int .i64 8, .slice (some ⟨h1, 0, none⟩) 64 64, .int .i64 8, .int .i64 8, .slice (some ⟨h2, 0, none⟩) 64 64] 48 (0, 0))) := heap_alloc_new z2 _
              obtain ⟨hf, -⟩ := HBB.out _ HD2.out
              have b0 : (z2.alloc (.cells #[.int .i64 16, .int .i64 16, .slice (some ⟨h0, 0, none⟩) 256 256, .int .i64 8, .int .i64 8, .slice (some ⟨h1, 0, none⟩) 64 64, .int .i64 8, .int .i64 8, .slice (some ⟨h2, 0, none⟩) 64 64] 48)).cell? ⟨bb, 0, none⟩ = some (.int .i64 256) := hf 0
              have b1 : (z2.alloc (.cells #[.int .i64 16, .int .i64 16, .slice (some ⟨h0, 0, none⟩) 256 256, .int .i64 8, .int .i64 8, .slice (some ⟨h1, 0, none⟩) 64 64, .int .i64 8, .int .i64 8, .slice (some ⟨h2, 0, none⟩) 64 64] 48)).cell? ⟨bb, 1, none⟩ = some (.int .i64 256) := hf 1
              have b2 : (z2.alloc (.cells #[.int .i64 16, .int .i64 16, .slice (some ⟨h0, 0, none⟩) 256 256, .int .i64 8, .int .i64 8, .slice (some ⟨h1, 0, none⟩) 64 64, .int .i64 8, .int .i64 8, .slice (some ⟨h2, 0, none⟩) 64 64] 48)).cell? ⟨bb, 2, none⟩ = some (.slice (some ⟨g0, 0, none⟩) 65536 65536) := hf 2
              have b3 : (z2.alloc (.cells #[.int .i64 16, .int .i64 16, .slice (some ⟨h0, 0, none⟩) 256 256, .int .i64 8, .int .i64 8, .slice (some ⟨h1, 0, none⟩) 64 64, .int .i64 8, .int .i64 8, .slice (some ⟨h2, 0, none⟩) 64 64] 48)).cell? ⟨bb, 3, none⟩ = some (.int .i64 128) := hf 3
              have b4 : (z2.alloc (.cells #[.int .i64 16, .int .i64 16, .slice (some ⟨h0, 0, none⟩) 256 256, .int .i64 8, .int .i64 8, .slice (some ⟨h1, 0, none⟩) 64 64, .int .i64 8, .int .i64 8, .slice (some ⟨h2, 0, none⟩) 64 64] 48)).cell? ⟨bb, 4, none⟩ = some (.int .i64 128) := hf 4
              have b5 : (z2.alloc (.cells #[.int .i64 16, .int .i64 16, .slice (some ⟨h0, 0, none⟩) 256 256, .int .i64 8, .int .i64 8, .slice (some ⟨h1, 0, none⟩) 64 64, .int .i64 8, .int .i64 8, .slice (some ⟨h2, 0, none⟩) 64 64] 48)).cell? ⟨bb, 5, none⟩ = some (.slice (some ⟨g1, 0, none⟩) 16384 16384) := hf 5
              have b6 : (z2.alloc (.cells #[.int .i64 16, .int .i64 16, .slice (some ⟨h0, 0, none⟩) 256 256, .int .i64 8, .int .i64 8, .slice (some ⟨h1, 0, none⟩) 64 64, .int .i64 8, .int .i64 8, .slice (some ⟨h2, 0, none⟩) 64 64] 48)).cell? ⟨bb, 6, none⟩ = some (.int .i64 128) := hf 6
              have b7 : (z2.alloc (.cells #[.int .i64 16, .int .i64 16, .slice (some ⟨h0, 0, none⟩) 256 256, .int .i64 8, .int .i64 8, .slice (some ⟨h1, 0, none⟩) 64 64, .int .i64 8, .int .i64 8, .slice (some ⟨h2, 0, none⟩) 64 64] 48)).cell? ⟨bb, 7, none⟩ = some (.int .i64 128) := hf 7
              have b8 : (z2.alloc (.cells #[.int .i64 16, .int .i64 16, .slice (some ⟨h0, 0, none⟩) 256 256, .int .i64 8, .int .i64 8, .slice (some ⟨h1, 0, none⟩) 64 64, .int .i64 8, .int .i64 8, .slice (some ⟨h2, 0, none⟩) 64 64] 48)).cell? ⟨bb, 8, none⟩ = some (.slice (some ⟨g2, 0, none⟩) 16384 16384) := hf 8
              clear hb hbg HG2 hf
              go_wp2_with fail
              generalize z2.alloc (.cells #[.int .i64 16, .int .i64 16, .slice (some ⟨h0, 0, none⟩) 256 256, .int .i64 8, .int .i64 8, .slice (some ⟨h1, 0, none⟩) 64 64, .int .i64 8, .int .i64 8, .slice (some ⟨h2, 0, none⟩) 64 64] 48) = t10 at *
              generalize z2.heap.size = sb at *
              clear b0 b1 b2 b3 b4 b5 b6 b7 b8
              have HSV : Hid (V.heap.size ≤ sb) := hsv
              clear hsv
              have HSB : Hid (∀ x : World, Below t10.heap.size t10 x → x.heap[sb]? = some (.cells #[.int .i64 16, .int .i64 16, .slice (some ⟨h0, 0, none⟩) 256 256, .int .i64 8, .int .i64 8, .slice (some ⟨h1, 0, none⟩) 64 64, .int .i64 8, .int .i64 8, .slice (some ⟨h2, 0, none⟩) 64 64] 48 (0, 0)) ∧ Bg x 16 8 h0 h1 h2 256 64 E0 E1 E2) := fun x hx => ⟨by rw [hx.block sb ((Array.getElem?_eq_some_iff.1 HX3.out).1)]; exact HX3.out, HG3.out.to hx⟩
              refine (crop_no1 (x := 256) (x2 := 128) (HBB.out _ HD2.out).2 (fun q => by have := q.1.lo; omega)).mono ?_
              rintro e z3 ⟨rfl, hb⟩
              have HJ3 : Hid (Below t10.heap.size t10 (z3.alloc (.cells #[.int .i64 0, .int .i64 0, .slice none 0 0, .int .i64 0, .int .i64 0, .slice none 0 0, .int .i64 0, .int .i64 0, .slice none 0 0] 48))) := to_alloc hb _
              have HD3 : Hid (Below t9.heap.size t9 (z3.alloc (.cells #[.int .i64 0, .int .i64 0, .slice none 0 0, .int .i64 0, .int .i64 0, .slice none 0 0, .int .i64 0, .int .i64 0, .slice none 0 0] 48))) := HD2.out.trans (HJ3.out.mono HD2.out.size)
              obtain ⟨hf, -⟩ := HBB.out _ HD3.out
              have b0 : (z3.alloc (.cells #[.int .i64 0, .int .i64 0, .slice none 0 0, .int .i64 0, .int .i64 0, .slice none 0 0, .int .i64 0, .int .i64 0, .slice none 0 0] 48)).cell? ⟨bb, 0, none⟩ = some (.int .i64 256) := hf 0
              have b1 : (z3.alloc (.cells #[.int .i64 0, .int .i64 0, .slice none 0 0, .int .i64 0, .int .i64 0, .slice none 0 0, .int .i64 0, .int .i64 0, .slice none 0 0] 48)).cell? ⟨bb, 1, none⟩ = some (.int .i64 256) := hf 1
              have b2 : (z3.alloc (.cells #[.int .i64 0, .int .i64 0, .slice none 0 0, .int .i64 0, .int .i64 0, .slice none 0 0, .int .i64 0, .int .i64 0, .slice none 0 0] 48)).cell? ⟨bb, 2, none⟩ = some (.slice (some ⟨g0, 0, none⟩) 65536 65536) := hf 2
              have b3 : (z3.alloc (.cells #[.int .i64 0, .int .i64 0, .slice none 0 0, .int .i64 0, .int .i64 0, .slice none 0 0, .int .i64 0, .int .i64 0, .slice none 0 0] 48)).cell? ⟨bb, 3, none⟩ = some (.int .i64 128) := hf 3
              have b4 : (z3.alloc (.cells #[.int .i64 0, .int .i64 0, .slice none 0 0, .int .i64 0, .int .i64 0, .slice none 0 0, .int .i64 0, .int .i64 0, .slice none 0 0] 48)).cell? ⟨bb, 4, none⟩ = some (.int .i64 128) := hf 4
              have b5 : (z3.alloc (.cells #[.int .i64 0, .int .i64 0, .slice none 0 0, .int .i64 0, .int .i64 0, .slice none 0 0, .int .i64 0, .int .i64 0, .slice none 0 0] 48)).cell? ⟨bb, 5, none⟩ = some (.slice (some ⟨g1, 0, none⟩) 16384 16384) := hf 5
              have b6 : (z3.alloc (.cells #[.int .i64 0, .int .i64 0, .slice none 0 0, .int .i64 0, .int .i64 0, .slice none 0 0, .int .i64 0, .int .i64 0, .slice none 0 0] 48)).cell? ⟨bb, 6, none⟩ = some (.int .i64 128) := hf 6
              have b7 : (z3.alloc (.cells #[.int .i64 0, .int .i64 0, .slice none 0 0, .int .i64 0, .int .i64 0, .slice none 0 0, .int .i64 0, .int .i64 0, .slice none 0 0] 48)).cell? ⟨bb, 7, none⟩ = some (.int .i64 128) := hf 7
              have b8 : (z3.alloc (.cells #[.int .i64 0, .int .i64 0, .slice none 0 0, .int .i64 0, .int .i64 0, .slice none 0 0, .int .i64 0, .int .i64 0, .slice none 0 0] 48)).cell? ⟨bb, 8, none⟩ = some (.slice (some ⟨g2, 0, none⟩) 16384 16384) := hf 8
              clear hb hf
              go_wp2_with fail
              generalize z3.alloc (.cells #[.int .i64 0, .int .i64 0, .slice none 0 0, .int .i64 0, .int .i64 0, .slice none 0 0, .int .i64 0, .int .i64 0, .slice none 0 0] 48) = y8 at *
              clear b0 b1 b2 b3 b4 b5 b6 b7 b8
              refine (crop_no1 (x := 256) (x2 := 128) (HBB.out _ HD3.out).2 (fun q => by have := q.2.1.even; omega)).mono ?_
              rintro e z4 ⟨rfl, hb⟩
              have HJ4 : Hid (Below t10.heap.size t10 (z4.alloc (.cells #[.int .i64 0, .int .i64 0, .slice none 0 0, .int .i64 0, .int .i64 0, .slice none 0 0, .int .i64 0, .int .i64 0, .slice none 0 0] 48))) := to_alloc (below_to HJ3.out hb) _
              have hf : ∀ j, (z4.alloc (.cells #[.int .i64 0, .int .i64 0, .slice none 0 0, .int .i64 0, .int .i64 0, .slice none 0 0, .int .i64 0, .int .i64 0, .slice none 0 0] 48)).cell? ⟨sb, j, none⟩ = (#[.int .i64 16, .int .i64 16, .slice (some ⟨h0, 0, none⟩) 256 256, .int .i64 8, .int .i64 8, .slice (some ⟨h1, 0, none⟩) 64 64, .int .i64 8, .int .i64 8, .slice (some ⟨h2, 0, none⟩) 64 64] : Array Value)[j]? := fun j => cells_of (HSB.out _ HJ4.out).1 j
              have b0 : (z4.alloc (.cells #[.int .i64 0, .int .i64 0, .slice none 0 0, .int .i64 0, .int .i64 0, .slice none 0 0, .int .i64 0, .int .i64 0, .slice none 0 0] 48)).cell? ⟨sb, 0, none⟩ = some (.int .i64 16) := hf 0
              have b1 : (z4.alloc (.cells #[.int .i64 0, .int .i64 0, .slice none 0 0, .int .i64 0, .int .i64 0, .slice none 0 0, .int .i64 0, .int .i64 0, .slice none 0 0] 48)).cell? ⟨sb, 1, none⟩ = some (.int .i64 16) := hf 1
              have b2 : (z4.alloc (.cells #[.int .i64 0, .int .i64 0, .slice none 0 0, .int .i64 0, .int .i64 0, .slice none 0 0, .int .i64 0, .int .i64 0, .slice none 0 0] 48)).cell? ⟨sb, 2, none⟩ = some (.slice (some ⟨h0, 0, none⟩) 256 256) := hf 2
              have b3 : (z4.alloc (.cells #[.int .i64 0, .int .i64 0, .slice none 0 0, .int .i64 0, .int .i64 0, .slice none 0 0, .int .i64 0, .int .i64 0, .slice none 0 0] 48)).cell? ⟨sb, 3, none⟩ = some (.int .i64 8) := hf 3
              have b4 : (z4.alloc (.cells #[.int .i64 0, .int .i64 0, .slice none 0 0, .int .i64 0, .int .i64 0, .slice none 0 0, .int .i64 0, .int .i64 0, .slice none 0 0] 48)).cell? ⟨sb, 4, none⟩ = some (.int .i64 8) := hf 4
              have b5 : (z4.alloc (.cells #[.int .i64 0, .int .i64 0, .slice none 0 0, .int .i64 0, .int .i64 0, .slice none 0 0, .int .i64 0, .int .i64 0, .slice none 0 0] 48)).cell? ⟨sb, 5, none⟩ = some (.slice (some ⟨h1, 0, none⟩) 64 64) := hf 5
              have b6 : (z4.alloc (.cells #[.int .i64 0, .int .i64 0, .slice none 0 0, .int .i64 0, .int .i64 0, .slice none 0 0, .int .i64 0, .int .i64 0, .slice none 0 0] 48)).cell? ⟨sb, 6, none⟩ = some (.int .i64 8) := hf 6
              have b7 : (z4.alloc (.cells #[.int .i64 0, .int .i64 0, .slice none 0 0, .int .i64 0, .int .i64 0, .slice none 0 0, .int .i64 0, .int .i64 0, .slice none 0 0] 48)).cell? ⟨sb, 7, none⟩ = some (.int .i64 8) := hf 7
              have b8 : (z4.alloc (.cells #[.int .i64 0, .int .i64 0, .slice none 0 0, .int .i64 0, .int .i64 0, .slice none 0 0, .int .i64 0, .int .i64 0, .slice none 0 0] 48)).cell? ⟨sb, 8, none⟩ = some (.slice (some ⟨h2, 0, none⟩) 64 64) := hf 8
              clear hb hf HJ3 HD3 HBB
              go_wp2_with fail
              generalize z4.alloc (.cells #[.int .i64 0, .int .i64 0, .slice none 0 0, .int .i64 0, .int .i64 0, .slice none 0 0, .int .i64 0, .int .i64 0, .slice none 0 0] 48) = y9 at *
              clear b0 b1 b2 b3 b4 b5 b6 b7 b8
              refine (crop_no1 (x := 16) (x2 := 8) (HSB.out _ HJ4.out).2 (fun q => by have := q.2.2.1; omega)).mono ?_
              rintro e z5 ⟨rfl, hb⟩
              have HJ5 : Hid (Below t10.heap.size t10 (z5.alloc (.cells #[.int .i64 0, .int .i64 0, .slice none 0 0, .int .i64 0, .int .i64 0, .slice none 0 0, .int .i64 0, .int .i64 0, .slice none 0 0] 48))) := to_alloc (below_to HJ4.out hb) _
              have HR5 : Hid ((z5.alloc (.cells #[.int .i64 0, .int .i64 0, .slice none 0 0, .int .i64 0, .int .i64 0, .slice none 0 0, .int .i64 0, .int .i64 0, .slice none 0 0] 48)).heap[sb]? = some (.cells #[.int .i64 16, .int .i64 16, .slice (some ⟨h0, 0, none⟩) 256 256, .int .i64 8, .int .i64 8, .slice (some ⟨h1, 0, none⟩) 64 64, .int .i64 8, .int .i64 8, .slice (some ⟨h2, 0, none⟩) 64 64] 48 (0, 0))) := (HSB.out _ HJ5.out).1
              have HLE : Hid (E0.length = 256 ∧ E1.length = 64 ∧ E2.length = 64) := ⟨HG3.out.l0, HG3.out.l1, HG3.out.l2⟩
              have HC5 : Hid (Below V.heap.size V (z5.alloc (.cells #[.int .i64 0, .int .i64 0, .slice none 0 0, .int .i64 0, .int .i64 0, .slice none 0 0, .int .i64 0, .int .i64 0, .slice none 0 0] 48))) := HC2.out.trans ((HD2.out.trans (HJ5.out.mono HD2.out.size)).mono HC2.out.size)
              clear hb HJ4 HJ5 HD2 HC2 HSB HG3 HX3
              have w6 : (z5.alloc (.cells #[.int .i64 0, .int .i64 0, .slice none 0 0, .int .i64 0, .int .i64 0, .slice none 0 0, .int .i64 0, .int .i64 0, .slice none 0 0] 48)).cell? ⟨sb, 6, none⟩ = some (.int .i64 8) := by have h := HR5.out; simp [World.cell?, h]
              have f6 : (z5.alloc (.cells #[.int .i64 0, .int .i64 0, .slice none 0 0, .int .i64 0, .int .i64 0, .slice none 0 0, .int .i64 0, .int .i64 0, .slice none 0 0] 48)).frozen? ⟨sb, 6, none⟩ = false := by have h := HR5.out; simp [World.frozen?, h]
              have hsb : V.heap.size ≤ sb := HSV.out
              have HY : Hid (Below V.heap.size V ((z5.alloc (.cells #[.int .i64 0, .int .i64 0, .slice none 0 0, .int .i64 0, .int .i64 0, .slice none 0 0, .int .i64 0, .int .i64 0, .slice none 0 0] 48)).setCell ⟨sb, 6, none⟩ (.int .i64 4))) := below_set HC5.out hsb _
              have HYR : Hid (((z5.alloc (.cells #[.int .i64 0, .int .i64 0, .slice none 0 0, .int .i64 0, .int .i64 0, .slice none 0 0, .int .i64 0, .int .i64 0, .slice none 0 0] 48)).setCell ⟨sb, 6, none⟩ (.int .i64 4)).heap[sb]? = some (.cells #[.int .i64 16, .int .i64 16, .slice (some ⟨h0, 0, none⟩) 256 256, .int .i64 8, .int .i64 8, .slice (some ⟨h1, 0, none⟩) 64 64, .int .i64 4, .int .i64 8, .slice (some ⟨h2, 0, none⟩) 64 64] 48 (0, 0))) := row_set HR5.out
              clear HC5 HR5
              go_wp2_with fail
              generalize (z5.alloc (.cells #[.int .i64 0, .int .i64 0, .slice none 0 0, .int .i64 0, .int .i64 0, .slice none 0 0, .int .i64 0, .int .i64 0, .slice none 0 0] 48)).setCell ⟨sb, 6, none⟩ (.int .i64 4) = y10 at *
              clear w6 f6 hsb
              refine works_true.mono ?_
              rintro e z6 ⟨rfl, hb⟩
              have HY2 : Hid (Below V.heap.size V z6) := below_to HY.out hb
              have hf : ∀ j, z6.cell? ⟨sb, j, none⟩ = (#[.int .i64 16, .int .i64 16, .slice (some ⟨h0, 0, none⟩) 256 256, .int .i64 8, .int .i64 8, .slice (some ⟨h1, 0, none⟩) 64 64, .int .i64 4, .int .i64 8, .slice (some ⟨h2, 0, none⟩) 64 64] : Array Value)[j]? := fun j => cells_of (by rw [hb.block sb ((Array.getElem?_eq_some_iff.1 HYR.out).1)]; exact HYR.out) j
              have b0 : (z6).cell? ⟨sb, 0, none⟩ = some (.int .i64 16) := hf 0
              have b1 : (z6).cell? ⟨sb, 1, none⟩ = some (.int .i64 16) := hf 1
              have b2 : (z6).cell? ⟨sb, 2, none⟩ = some (.slice (some ⟨h0, 0, none⟩) 256 256) := hf 2
              have b3 : (z6).cell? ⟨sb, 3, none⟩ = some (.int .i64 8) := hf 3
              have b4 : (z6).cell? ⟨sb, 4, none⟩ = some (.int .i64 8) := hf 4
              have b5 : (z6).cell? ⟨sb, 5, none⟩ = some (.slice (some ⟨h1, 0, none⟩) 64 64) := hf 5
              have b6 : (z6).cell? ⟨sb, 6, none⟩ = some (.int .i64 4) := hf 6
              have b7 : (z6).cell? ⟨sb, 7, none⟩ = some (.int .i64 8) := hf 7
              have b8 : (z6).cell? ⟨sb, 8, none⟩ = some (.slice (some ⟨h2, 0, none⟩) 64 64) := hf 8
              clear hb hf HY HYR
              go_wp2_with fail
              refine (whole_spoilt HLE.out.1 HLE.out.2.1 HLE.out.2.2).mono ?_
              rintro e z7 ⟨rfl, hb⟩
              have HY3 : Hid (Below V.heap.size V z7) := below_to HY2.out hb
              clear hb HY2 b0 b1 b2 b3 b4 b5 b6 b7 b8
              go_wp2_with fail
              refine whole_none.mono ?_
              rintro e z8 ⟨rfl, hb⟩
              have HY4 : Hid (Below V.heap.size V z8) := below_to HY3.out hb
              clear hb HY3
              go_wp2_with fail
              go_ret
              exact ⟨rfl, HV.out.trans (HY4.out.mono HV.out.size)⟩

end Go.Proofs.Ytlgfkkegehpllab
