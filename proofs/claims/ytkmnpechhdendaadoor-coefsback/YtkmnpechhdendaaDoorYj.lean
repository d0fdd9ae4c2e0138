/- DERIVED. Writers and readers that begin; how much a writer counts; the walk of may. -/
import Derived.Test.YtkmnpechhdendaaDoorYi
import Derived.Test.YtkmnpechhdendaaDoorL2LwA
namespace Go.Proofs.YtkmnpechhdendaaDoor
open Go.RowKit L3

/-- a coder's numbers at its beginning -/
def wS (ad : Bool) : Cs := ⟨true, ad, dS, 0, [], 0, 4294967295, 0⟩
def rS (ad : Bool) (zs : List Nat) : Cs := ⟨false, ad, dS, 0, zs, 4, L2.dFirst zs, 4294967295⟩
theorem writer_cd {w : World} {lo bt : Nat} {B : Nat → Prop} {ad : Bool} (hsh : Sh w) (hs : Hs w lo bt B dS) :
    Calls Tryd.prog 7 #[.agg #[.slice (some ⟨bt, 0, none⟩) 32 32], .bool ad] w fun e w' => ∃ x O, e = .returned (.tuple #[.pointer (some ⟨x, 0, none⟩), .int .i64 0]) ∧ Cd w' w.heap.size x O (wS ad) ∧ (∀ y, O y → w.heap.size ≤ y) ∧ Below w.heap.size w w' := by
  refine (writer_wc hsh hs).mono ?_
  rintro e w' ⟨x, O, rfl, h1, h2⟩
  exact ⟨x, O, rfl, ⟨fun _ => h1, fun e => (by cases e), fun _ => Nat.le_refl _⟩, fun y hy => h1.ge hy, h2⟩
theorem reader_cd {w : World} {lo bt : Nat} {B : Nat → Prop} {ad : Bool} {vb : Value} {zs : List Nat} (hsh : Sh w) (hs : Hs w lo bt B dS) (hv : L2.SrcOf w vb zs) (hz : ∀ i, zs.getD i 0 < 256) (hl : zs.length ≤ 140737488355328) :
    Calls Tryd.prog 13 #[vb, .agg #[.slice (some ⟨bt, 0, none⟩) 32 32], .bool ad] w fun e w' => ∃ x O, e = .returned (.tuple #[.pointer (some ⟨x, 0, none⟩), .int .i64 0]) ∧ Cd w' w.heap.size x O (rS ad zs) ∧ (∀ y, O y → y = 0 ∨ w.heap.size ≤ y) ∧ Below w.heap.size w w' := by
  refine (reader_rc hsh hsh.low hs hv hz hl).mono ?_
  rintro e w' ⟨x, O, rfl, h1, h2, h3⟩
  exact ⟨x, O, rfl, ⟨fun e => (by cases e), fun _ => h1, fun e => (by cases e)⟩, h2, h3⟩
theorem bytes_cd {w : World} {lo x : Nat} {O : Nat → Prop} {s : Cs} (h : Cd w lo x O s) (hW : s.W = true) (hn : s.n ≤ 1000000000) :
    Calls Tryd.prog 12 #[.pointer (some ⟨x, 0, none⟩)] w fun e w' => ∃ v, e = .returned (.tuple #[v, .int .i64 0]) ∧ ∃ zs, L2.SrcOf w' v zs ∧ (∀ i, zs.getD i 0 < 256) ∧ zs.length ≤ 140737488355328 ∧ L2.pre zs (s.c + 4) = s.a ∧ Below w.heap.size w w' := by
  obtain ⟨bt, K, xe, d, hc, _⟩ := h.wc hW
  have hk := h.kb hW
  refine (bytes_w hc (by omega)).mono ?_
  rintro e w' ⟨v, rfl, b, zs, hby, _, hb⟩
  exact ⟨v, rfl, zs, hby.src, hby.byt, by have := hby.len; omega, hby.val, hb⟩
namespace Prg
/-- how much a writer counts -/
def wc {α : Type} : Prg α → Nat
  | .ret _ => 0
  | .stop => 0
  | .sym _ _ z k => 1 + (k z.toNat).wc
  | .bits n z k => n + (k z.toNat).wc
theorem run_wc {α : Type} (p : Prg α) : ∀ s, s.W = true → (p.run s).2.n = s.n + p.wc := by
  induction p with
  | ret a => intro s _; rfl
  | stop => intro s _; rfl
  | sym kk cx z k ih =>
    intro s hW
    have e : syA s kk cx z = z.toNat := by unfold syA; rw [if_pos hW]
    show ((k (syA s kk cx z)).run (syN s kk cx (syA s kk cx z))).2.n = s.n + (1 + (k z.toNat).wc)
    rw [e, ih _ _ (by rw [(syN_W s kk cx _).1]; exact hW), (syN_W s kk cx _).2.2.2.1]
    omega
  | bits n z k ih =>
    intro s hW
    have e : biA s n z = z.toNat := by unfold biA; rw [if_pos hW]
    show ((k (biA s n z)).run (biN s n (biA s n z))).2.n = s.n + (n + (k z.toNat).wc)
    rw [e, ih _ _ (by rw [(biN_W s n _).1]; exact hW), (biN_W s n _).2.2.2.1]
    omega
end Prg
/-- a block that is written, and read -/
def cw (z : Int) (n col sg : Nat) (L : List Int) : Prg (List Int) := codP z n col sg L (endN n L (n * n))
def cr (z : Int) (n col sg : Nat) : Prg (List Int) := codP z n col sg (List.replicate (n * n) 0) (endN n (List.replicate (n * n) 0) (n * n))
theorem cw_tw {z : Int} {n col sg : Nat} (hz : L10.Sz z n) (hc : col ≤ 1) (hs : sg ≤ 2) {L : List Int} (hL : Lv n L) : (cw z n col sg L).Tw (cr z n col sg) :=
  Prg.Eqv.tw _ _ _ (cod_eqv z n col sg L _ _ _) (cod_good hz hc hs L _) (cod_wr hz hL)
theorem cw_ran {s : Cs} (h : SOk s) (hn : s.n ≤ 900000000) {z : Int} {n col sg : Nat} (hz : L10.Sz z n) (hc : col ≤ 1) (hs : sg ≤ 2) {L : List Int} (hL : s.W = true → Lv n L) : Ran (Kn n) (fun K => K = L) (12 + 47 * (n * n)) s (cw z n col sg L) := cod_ran h hn hz hc hs hL
theorem syn_first {ad : Bool} {zs : List Nat} {T' g' k' : Nat} (hz : ∀ i, zs.getD i 0 < 256) (hI : L2.Inc 0 4294967295 0 T' g' k') (hg : 0 < g') (hp : L2.pre zs (k' + 4) = T') : Syn (wS ad) (rS ad zs) := ⟨rfl, rfl, rfl, rfl, rfl, Dw.first hz hI hg hp⟩
theorem okS_dS : OkS dS := by
  have h1 : ((List.range 32).map fun k => ((0 : Nat), List.replicate (sC k) (⟨none, 0, dfC k, 0⟩ : Tb))).length = 32 := by simp
  have h2 : ∀ (j : Nat) p, ((List.range 32).map fun k => ((0 : Nat), List.replicate (sC k) (⟨none, 0, dfC k, 0⟩ : Tb)))[j]? = some p → Dq j p := fun j p hp => by
    rw [List.getElem?_map] at hp
    by_cases hj : j < 32
    · rw [List.getElem?_range hj] at hp
      simp only [Option.map_some, Option.some.injEq] at hp
      subst hp
      refine ⟨by simp, fun t ht => ?_⟩
      obtain ⟨_, rfl⟩ := List.mem_replicate.1 ht
      exact ⟨rfl, rfl⟩
    · rw [List.getElem?_eq_none (by simp; omega)] at hp; cases hp
  have h := ab_okk (okk_default h1 h2)
  rw [ab_default h1 h2] at h
  exact h
theorem wS_ok (ad : Bool) : SOk (wS ad) := ⟨okS_dS, fun _ => ⟨L2.Ev.first, Nat.le_refl _⟩, fun e => (by cases e)⟩
theorem rS_ok (ad : Bool) {zs : List Nat} (hz : ∀ i, zs.getD i 0 < 256) : SOk (rS ad zs) := ⟨okS_dS, fun e => (by cases e), fun _ => ⟨L2.dFirst_ok, hz⟩⟩

/-! ### may -/
/-- levels as may brings them -/
def myL (L : List Int) (q i : Nat) : List Int := (List.range q).map fun j => if j < i then (L.getD j 0).tmod 1048576 else 0
theorem myL_len (L : List Int) (q i : Nat) : (myL L q i).length = q := by simp [myL]
theorem myL_zero (L : List Int) (q : Nat) : myL L q 0 = List.replicate q 0 := by
  refine L10.ext_getD (by simp [myL]) fun j hj => ?_
  rw [myL_len] at hj
  unfold myL
  have hr : (List.replicate q (0 : Int)).getD j 0 = 0 := by rw [List.getD_eq_getElem?_getD, List.getElem?_replicate, if_pos hj]; rfl
  rw [map_get _ hj, if_neg (by omega), hr]
theorem myL_set (L : List Int) {q i : Nat} (hi : i < q) : (myL L q i).set i ((L.getD i 0).tmod 1048576) = myL L q (i + 1) := by
  refine L10.ext_getD (by simp [myL]) fun j hj => ?_
  rw [List.length_set, myL_len] at hj
  rw [getD_setI, myL_len]
  unfold myL
  rw [map_get _ hj, map_get _ hj]
  by_cases e : i = j
  · subst e; rw [if_pos ⟨rfl, hi⟩, if_pos (by omega)]
  · rw [if_neg (by omega)]
    by_cases hl : j < i
    · rw [if_pos hl, if_pos (by omega)]
    · rw [if_neg hl, if_neg (by omega)]
theorem myL_end (L : List Int) {q i : Nat} (h : i = q ∨ i = L.length) (hi : i ≤ q) : myL L q i = myL L q q := by
  rcases h with rfl | h
  · rfl
  · unfold myL
    refine List.map_congr_left fun j hj => ?_
    have hjq : j < q := by simpa using hj
    by_cases hl : j < i
    · rw [if_pos hl, if_pos hjq]
    · rw [if_neg hl, if_pos hjq, List.getD_eq_getElem?_getD, List.getElem?_eq_none (by omega)]; rfl
theorem tmod_in (v : Int) : -1048576 ≤ v.tmod 1048576 ∧ v.tmod 1048576 ≤ 1048576 := by
  have h1 := Int.tmod_lt_of_pos v (b := 1048576) (by omega)
  have h2 := Int.lt_tmod_of_pos v (b := 1048576) (by omega)
  omega
theorem myL_lv (L : List Int) {n : Nat} : Lv n (myL L (n * n) (n * n)) := by
  refine ⟨myL_len _ _ _, fun p => ?_⟩
  by_cases hp : p < n * n
  · unfold myL
    rw [map_get _ hp, if_pos hp]
    exact tmod_in _
  · rw [List.getD_eq_getElem?_getD, List.getElem?_eq_none (by rw [myL_len]; omega)]
    simp
/-- a size out of any number -/
theorem size_of (a : Int) : ∃ (k n : Nat) (z : Int), a % 5 = (k : Int) ∧ k < 5 ∧ (4 : Int) * 2 ^ k = z ∧ L10.Sz z n ∧ min z 32 = (n : Int) := by
  have h0 := Int.emod_nonneg a (b := 5) (by omega)
  have h1 := Int.emod_lt_of_pos a (b := 5) (by omega)
  obtain ⟨k, hk⟩ : ∃ k : Nat, a % 5 = (k : Int) := ⟨(a % 5).toNat, by omega⟩
  have hk5 : k < 5 := by omega
  refine ⟨k, if k = 0 then 4 else if k = 1 then 8 else if k = 2 then 16 else 32, (4 : Int) * 2 ^ k, hk, hk5, rfl, ?_, ?_⟩
  · have : k = 0 ∨ k = 1 ∨ k = 2 ∨ k = 3 ∨ k = 4 := by omega
    rcases this with rfl | rfl | rfl | rfl | rfl <;> simp [L10.Sz]
  · have : k = 0 ∨ k = 1 ∨ k = 2 ∨ k = 3 ∨ k = 4 := by omega
    rcases this with rfl | rfl | rfl | rfl | rfl <;> decide
theorem three_of (a : Int) : ∃ k : Nat, a % 3 = (k : Int) ∧ k ≤ 2 := by
  have h0 := Int.emod_nonneg a (b := 3) (by omega)
  have h1 := Int.emod_lt_of_pos a (b := 3) (by omega)
  exact ⟨(a % 3).toNat, by omega, by omega⟩

end Go.Proofs.YtkmnpechhdendaaDoor
