/- DERIVED. The arguments of GridPlays and GridOnce opened: a tile, blocks, places. -/
import Derived.Test.YtppofodijlofdaaOp
import Derived.Test.YtppofodijlofdaaEb
namespace Go.Proofs.Ytppofodijlofdaa
open Go.ChangeShapes Go.WideShapes Go.ChangeAt Go.RowKit

theorem Try.cells23 : Try.prog.cellsOf 23 = 4 := by kernel_rfl
theorem Try.cells42 : Try.prog.cellsOf 42 = 5 := by kernel_rfl
theorem i64_of {n : Int} (h : (Lit.int .i64 n).wf = true) : I64 n := by
  have h1 : IntKind.i64.min = -9223372036854775808 := rfl
  have h2 : IntKind.i64.max = 9223372036854775807 := rfl
  simp only [Lit.wf, Bool.and_eq_true, decide_eq_true_eq] at h
  unfold I64
  omega
theorem four_cells {cs : Array Value} (h : cs.size = 4) : ∃ y0 y1 y2 y3, cs = #[y0, y1, y2, y3] := by
  obtain ⟨l⟩ := cs
  match l, h with
  | [y0, y1, y2, y3], _ => exact ⟨y0, y1, y2, y3, rfl⟩
section
variable {H : Type} {enc : TypeId × Value → H} {W : World} {base : Nat} {sp : Nat → Bool} {held : Bool} {fuel : Nat}
theorem open_iw {c : Value} {x : DataW H × List MemPlace} (h : DataW.trod enc Try.prog W base sp held fuel 3 [c] = some x) : ∃ n, c = .int .i64 n ∧ I64 n := by
  obtain ⟨k, e, _, w⟩ := DataW.trod_int Try.underlying3 h
  exact ⟨k, by simpa using e, i64_of w⟩
/-- a rectangle's four cells -/
theorem open_rect {v0 v1 v2 v3 : Value} {x : DataW H × List MemPlace} (h : DataW.trod enc Try.prog W base sp held fuel 23 [v0, v1, v2, v3] = some x) :
    ∃ X Y w ht, v0 = .int .i64 X ∧ v1 = .int .i64 Y ∧ v2 = .int .i64 w ∧ v3 = .int .i64 ht ∧ I64 X ∧ I64 Y ∧ I64 w ∧ I64 ht := by
  obtain ⟨y0, y1, y2, y3, m, hx, _, g0, g1, g2, g3⟩ := Joins.trod_struct4 Try.underlying23 h
  simp only [Try.cells3] at g0 g1 g2 g3
  simp at g0 g1 g2 g3
  obtain ⟨k0, rfl, w0⟩ := open_iw g0
  obtain ⟨k1, rfl, w1⟩ := open_iw g1
  obtain ⟨k2, rfl, w2⟩ := open_iw g2
  obtain ⟨k3, rfl, w3⟩ := open_iw g3
  exact ⟨k0, k1, k2, k3, rfl, rfl, rfl, rfl, w0, w1, w2, w3⟩
/-- a block whose first numbers are numbers of 64 bits -/
theorem open_block_w {cs : List Value} {x : DataW H × List MemPlace} (h : DataW.trod enc Try.prog W base sp held fuel 40 cs = some x) : ∃ b : Bl, cs = b.cs ∧ I64 b.x ∧ I64 b.y ∧ I64 b.w ∧ I64 b.h := by
  obtain ⟨b, rfl⟩ := open_block h
  refine ⟨b, rfl, ?_⟩
  obtain ⟨xs, n, _, _, hl, hlen, hf⟩ := DataW.trod_struct Try.underlying40 h
  have hs : ∀ i, i < 19 → ∃ y, xs[i]? = some y := fun i hi => ⟨xs[i]'(by rw [hlen]; exact hi), List.getElem?_eq_getElem _⟩
  have g0 := hf 0 _ rfl
  obtain ⟨y0, e0⟩ := hs 0 (by omega)
  rw [e0] at g0
  have g1 := hf 1 _ rfl
  obtain ⟨y1, e1⟩ := hs 1 (by omega)
  rw [e1] at g1
  have g2 := hf 2 _ rfl
  obtain ⟨y2, e2⟩ := hs 2 (by omega)
  rw [e2] at g2
  have g3 := hf 3 _ rfl
  obtain ⟨y3, e3⟩ := hs 3 (by omega)
  rw [e3] at g3
  obtain ⟨n0, q0, w0⟩ := open_iw (c := .int .i64 b.x) (by first | exact g0 | simpa [Try.cells3, Bl.cs] using g0)
  obtain ⟨n1, q1, w1⟩ := open_iw (c := .int .i64 b.y) (by first | exact g1 | simpa [Try.cells3, Bl.cs] using g1)
  obtain ⟨n2, q2, w2⟩ := open_iw (c := .int .i64 b.w) (by first | exact g2 | simpa [Try.cells3, Bl.cs] using g2)
  obtain ⟨n3, q3, w3⟩ := open_iw (c := .int .i64 b.h) (by first | exact g3 | simpa [Try.cells3, Bl.cs] using g3)
  cases q0; cases q1; cases q2; cases q3
  exact ⟨w0, w1, w2, w3⟩
def BWk (C : List Bl) : Prop := ∀ k, k < C.length → I64 (C.getD k bz).x ∧ I64 (C.getD k bz).y ∧ I64 (C.getD k bz).w ∧ I64 (C.getD k bz).h
theorem BWk.ok {C : List Bl} (h : BWk C) : BOk C := fun k hk => (h k hk).2.1
instance : Inhabited Bl := ⟨bz⟩
/-- a slice of blocks -/
theorem open_blocks {v : Value} {x : DataW H × List MemPlace} (h : DataW.trod enc Try.prog W base (fun _ => true) held fuel 24 [v] = some x) :
    ∃ a c C, v = .slice a C.length c ∧ Sb W a C ∧ BWk C := by
  rcases Deep.open_slice Try.underlying24 h with ⟨hcs, hx⟩ | ⟨a, l, c, m, n, D, Pl, hcs, _, hl, hm, hmm, hx, hel⟩
  · simp at hcs
    subst hcs
    exact ⟨none, 0, [], rfl, Or.inl rfl, fun k hk => by simp at hk⟩
  · simp at hcs
    subst hcs
    simp at hmm
    have each : ∀ i, i < l → ∃ b : Bl, (∀ j u, b.cs[j]? = some u → W.cell? (a.add (i * 23 + j)) = some u) ∧ I64 b.x ∧ I64 b.y ∧ I64 b.w ∧ I64 b.h := by
      intro i hi
      obtain ⟨cs', h1, h2⟩ := hel i (by omega)
      rw [Try.cells40] at h1
      obtain ⟨_, hlen, hcell⟩ := World.cells?_some h1
      obtain ⟨b, rfl, hb⟩ := open_block_w h2
      refine ⟨b, fun j u hu => ?_, hb⟩
      have hj : j < 23 := by have := (List.getElem?_eq_some_iff.1 hu).1; rwa [Bl.cs_length] at this
      have := hcell j hj
      rw [Deep.add_add] at this
      rw [this, hu]
    obtain ⟨q, hq⟩ := Deep.choose_lt each
    have hget : ∀ j, j < l → ((List.range l).map q).getD j bz = q j := fun j hj => by
      rw [List.getD_eq_getElem?_getD, List.getElem?_map, List.getElem?_range hj]; rfl
    refine ⟨some a, c, (List.range l).map q, by simp, ?_, fun k hk => ?_⟩
    · by_cases h0 : l = 0
      · subst h0; exact Or.inl (by simp)
      · have hq0 := (hq 0 (by omega)).1 0 _ rfl
        obtain ⟨b, off, spot⟩ := a
        have hspot : spot = none := by simpa [Addr.add] using World.cell?_spot hq0
        subst hspot
        have hbl := World.block_lt_of_cell? W _ hq0
        rw [addr_add] at hbl
        refine Or.inr ⟨b, off, rfl, hbl, fun j hj => ⟨fun i u hu => ?_⟩⟩
        simp at hj
        rw [hget j hj] at hu
        have := (hq j hj).1 i u hu
        rw [addr_add, ← Nat.add_assoc] at this
        exact this
    · simp at hk
      rw [hget k hk]
      exact (hq k hk).2
/-- a slice of places -/
theorem open_asks {v : Value} {x : DataW H × List MemPlace} (h : DataW.trod enc Try.prog W base (fun _ => true) held fuel 25 [v] = some x) :
    ∃ a c C, v = .slice a C.length c ∧ Sa W a C ∧ AOk C := by
  rcases Deep.open_slice Try.underlying25 h with ⟨hcs, hx⟩ | ⟨a, l, c, m, n, D, Pl, hcs, _, hl, hm, hmm, hx, hel⟩
  · simp at hcs
    subst hcs
    exact ⟨none, 0, [], rfl, Or.inl rfl, fun k hk => by simp at hk⟩
  · simp at hcs
    subst hcs
    simp at hmm
    have each : ∀ i, i < l → ∃ b : List Int, (W.cell? (a.add (i * 5)) = some (.int .i64 (b.getD 0 0)) ∧ W.cell? (a.add (i * 5 + 1)) = some (.int .i64 (b.getD 1 0)) ∧ W.cell? (a.add (i * 5 + 2)) = some (.int .i64 (b.getD 2 0)) ∧ W.cell? (a.add (i * 5 + 3)) = some (.int .i64 (b.getD 3 0)) ∧ W.cell? (a.add (i * 5 + 4)) = some (.int .i64 (b.getD 4 0))) ∧ I64 (b.getD 0 0) ∧ I64 (b.getD 1 0) := by
      intro i hi
      obtain ⟨cs', h1, h2⟩ := hel i (by omega)
      rw [Try.cells42] at h1
      obtain ⟨_, hlen, hcell⟩ := World.cells?_some h1
      obtain ⟨xs, n', _, _, hl', hxs, hf⟩ := DataW.trod_struct Try.underlying42 h2
      have hs : ∀ i, i < 5 → ∃ y, xs[i]? = some y := fun i hi => ⟨xs[i]'(by rw [hxs]; exact hi), List.getElem?_eq_getElem _⟩
      match cs', hlen with
      | [v0, v1, v2, v3, v4], _ =>
        have g0 := hf 0 _ rfl
        obtain ⟨y0, e0⟩ := hs 0 (by omega)
        rw [e0] at g0
        have g1 := hf 1 _ rfl
        obtain ⟨y1, e1⟩ := hs 1 (by omega)
        rw [e1] at g1
        have g2 := hf 2 _ rfl
        obtain ⟨y2, e2⟩ := hs 2 (by omega)
        rw [e2] at g2
        have g3 := hf 3 _ rfl
        obtain ⟨y3, e3⟩ := hs 3 (by omega)
        rw [e3] at g3
        have g4 := hf 4 _ rfl
        obtain ⟨y4, e4⟩ := hs 4 (by omega)
        rw [e4] at g4
        obtain ⟨n0, rfl, w0⟩ := open_iw (c := v0) (by first | exact g0 | simpa [Try.cells3] using g0)
        obtain ⟨n1, rfl, w1⟩ := open_iw (c := v1) (by first | exact g1 | simpa [Try.cells3] using g1)
        obtain ⟨n2, rfl, w2⟩ := open_iw (c := v2) (by first | exact g2 | simpa [Try.cells3] using g2)
        obtain ⟨n3, rfl, w3⟩ := open_iw (c := v3) (by first | exact g3 | simpa [Try.cells3] using g3)
        obtain ⟨n4, rfl, w4⟩ := open_iw (c := v4) (by first | exact g4 | simpa [Try.cells3] using g4)
        have c0 := hcell 0 (by omega)
        have c1 := hcell 1 (by omega)
        have c2 := hcell 2 (by omega)
        have c3 := hcell 3 (by omega)
        have c4 := hcell 4 (by omega)
        rw [Deep.add_add] at c0 c1 c2 c3 c4
        exact ⟨[n0, n1, n2, n3, n4], ⟨by simpa using c0, by simpa using c1, by simpa using c2, by simpa using c3, by simpa using c4⟩, by simpa using w0, by simpa using w1⟩
    obtain ⟨q, hq⟩ := Deep.choose_lt each
    have hget : ∀ j, j < l → ((List.range l).map q).getD j [] = q j := fun j hj => by
      rw [List.getD_eq_getElem?_getD, List.getElem?_map, List.getElem?_range hj]; rfl
    refine ⟨some a, c, (List.range l).map q, by simp, ?_, fun k hk => ?_⟩
    · by_cases h0 : l = 0
      · subst h0; exact Or.inl (by simp)
      · have hq0 := (hq 0 (by omega)).1.1
        obtain ⟨b, off, spot⟩ := a
        have hspot : spot = none := by simpa [Addr.add] using World.cell?_spot hq0
        subst hspot
        have hbl := World.block_lt_of_cell? W _ hq0
        rw [addr_add] at hbl
        refine Or.inr ⟨b, off, rfl, hbl, fun j hj => ?_⟩
        simp at hj
        rw [hget j hj]
        obtain ⟨c0, c1, c2, c3, c4⟩ := (hq j hj).1
        rw [addr_add] at c0 c1 c2 c3 c4
        exact ⟨c0, c1, c2, c3, c4⟩
    · simp at hk
      rw [hget k hk]
      exact (hq k hk).2
end
end Go.Proofs.Ytppofodijlofdaa
