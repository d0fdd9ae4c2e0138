/- DERIVED. A set that is read, as it was learnt or spoilt in one place. -/
import Derived.Test.YtppanogpeengnaaDoorZk
import Derived.Test.YtppanogpeengnaaDoorWH
namespace Go.Proofs.YtppanogpeengnaaDoor
open Go.RowKit L3

/-- what is read of a set: its rows, none too long, no table empty -/
structure Ry (w : World) (a : Option Addr) (n : Nat) (Y : List (List Px)) : Prop where
  gv : Gv w a Y
  len : Y.length = n
  sm : Sml Y
  ps : ∀ R ∈ Y, ∀ t ∈ R, 0 < t.1.length
theorem Ry.to {w w' : World} {a : Option Addr} {n : Nat} {Y : List (List Px)} (h : Ry w a n Y) (hb : Below w.heap.size w w') : Ry w' a n Y := ⟨h.gv.to hb, h.len, h.sm, h.ps⟩
/-- where a set's parts lie, to be read -/
structure Sw (w : World) (bt : Nat) (q : Nat → Nat) (K : List (Nat × List Tb)) : Prop where
  blt : bt < w.heap.size
  hd : ∀ (k : Nat) (p : Nat × List Tb), K[k]? = some p → w.cell? ⟨bt, k, none⟩ = some (.slice (some ⟨p.1, 0, none⟩) p.2.length (q k))
  lie : ∀ (k : Nat) (p : Nat × List Tb), K[k]? = some p → p.1 < w.heap.size
  tab : ∀ (k : Nat) (p : Nat × List Tb), K[k]? = some p → ∀ (c : Nat) (t : Tb), p.2[c]? = some t → w.cell? ⟨p.1, c * 2, none⟩ = some (.slice t.a t.C.length t.c) ∧ w.cell? ⟨p.1, c * 2 + 1, none⟩ = some (.int .i64 t.n) ∧ Sl w .u16 t.a t.C
theorem Su.sw {w : World} {lo bt : Nat} {q : Nat → Nat} {K : List (Nat × List Tb)} (h : Su w lo bt q K) : Sw w bt q K :=
  ⟨h.blt, h.hd, fun _ p hp => (h.lie p (List.mem_of_getElem? hp)).2.1, fun _ p hp c t ht => ⟨h.c0 p (List.mem_of_getElem? hp) c t ht, h.c1 p (List.mem_of_getElem? hp) c t ht, h.sl p (List.mem_of_getElem? hp) t (List.mem_of_getElem? ht)⟩⟩
/-- a set's rows of tables -/
def pX (K : List (Nat × List Tb)) : List (List Px) := K.map fun p => px p.2
theorem pX_get {K : List (Nat × List Tb)} {k : Nat} {p : Nat × List Tb} (h : K[k]? = some p) : (pX K)[k]? = some (px p.2) := by rw [pX, List.getElem?_map, h]; rfl
theorem Sw.gv {w : World} {bt : Nat} {q : Nat → Nat} {K : List (Nat × List Tb)} (h : Sw w bt q K) : Gv w (some ⟨bt, 0, none⟩) (pX K) := by
  refine Or.inr ⟨bt, rfl, h.blt, fun k R hR => ?_⟩
  rw [pX, List.getElem?_map] at hR
  obtain ⟨p, hp, rfl⟩ := Option.map_eq_some_iff.1 hR
  refine ⟨_, h.hd k p hp, some ⟨p.1, 0, none⟩, q k, by rw [px_length], Or.inr ⟨p.1, rfl, h.lie k p hp, fun j t ht => ?_⟩⟩
  rw [px, List.getElem?_map] at ht
  obtain ⟨s, hs, rfl⟩ := Option.map_eq_some_iff.1 ht
  obtain ⟨c0, c1, c2⟩ := h.tab k p hp j s hs
  exact ⟨_, _, c0, c1, _, _, rfl, rfl, c2⟩
/-- no row, no table is too long, no table empty -/
structure Smk (K : List (Nat × List Tb)) : Prop where
  n : K.length ≤ 32
  r : ∀ p ∈ K, p.2.length ≤ 16
  t : ∀ p ∈ K, ∀ s ∈ p.2, 0 < s.C.length ∧ s.C.length ≤ 16
theorem Sw.ry {w : World} {bt n : Nat} {q : Nat → Nat} {K : List (Nat × List Tb)} (h : Sw w bt q K) (hs : Smk K) (hn : K.length = n) : Ry w (some ⟨bt, 0, none⟩) n (pX K) := by
  refine ⟨h.gv, by rw [pX, List.length_map]; exact hn, ⟨by rw [pX, List.length_map]; exact hs.n, fun R hR => ?_, fun R hR t ht => ?_⟩, fun R hR t ht => ?_⟩
  · obtain ⟨p, hp, rfl⟩ := List.mem_map.1 hR
    rw [px_length]; exact hs.r p hp
  · obtain ⟨p, hp, rfl⟩ := List.mem_map.1 hR
    obtain ⟨s, hs', rfl⟩ := List.mem_map.1 ht
    exact (hs.t p hp s hs').2
  · obtain ⟨p, hp, rfl⟩ := List.mem_map.1 hR
    obtain ⟨s, hs', rfl⟩ := List.mem_map.1 ht
    exact (hs.t p hp s hs').1
theorem okk_at {K : List (Nat × List Tb)} (h : Okk K) {p : Nat × List Tb} (hp : p ∈ K) : ∃ k, k < 32 ∧ K[k]? = some p ∧ Oq k p := by
  obtain ⟨k, hk⟩ := List.mem_iff_getElem?.1 hp
  exact ⟨k, by have := (List.getElem?_eq_some_iff.1 hk).1; have := h.1; omega, hk, h.2 k p hk⟩
theorem okk_smk {K : List (Nat × List Tb)} (h : Okk K) : Smk K := by
  refine ⟨by rw [h.1]; omega, fun p hp => ?_, fun p hp s hs => ?_⟩
  · obtain ⟨k, h1, _, h3⟩ := okk_at h hp
    have := sC_le k h1; rw [h3.1]; omega
  · obtain ⟨k, h1, _, h3⟩ := okk_at h hp
    have := sV_le k h1; rw [(h3.2 s hs).1]; omega
theorem okk_okx {K : List (Nat × List Tb)} (h : Okk K) : okX (pX K) := by
  refine ⟨by rw [pX, List.length_map]; exact h.1, fun k R hR => ?_⟩
  rw [pX, List.getElem?_map] at hR
  obtain ⟨p, hp, rfl⟩ := Option.map_eq_some_iff.1 hR
  obtain ⟨o1, o2⟩ := h.2 k p hp
  refine ⟨by rw [px_length]; exact o1, fun t ht => ?_⟩
  obtain ⟨s, hs, rfl⟩ := List.mem_map.1 ht
  exact o2 s hs
theorem okx_row {K : List (Nat × List Tb)} {k : Nat} {p : Nat × List Tb} (hk : K[k]? = some p) (hl : p.2.length ≠ sC k) : ¬ okX (pX K) := fun h => hl (by
  have := (h.2 k _ (pX_get hk)).1
  rwa [px_length] at this)
theorem okx_tab {K : List (Nat × List Tb)} {k c : Nat} {p : Nat × List Tb} {t : Tb} (hk : K[k]? = some p) (hc : p.2[c]? = some t) (hn : ¬ (t.C.length = sV k ∧ TOk t.C t.n)) : ¬ okX (pX K) := fun h =>
  hn ((h.2 k _ (pX_get hk)).2 (t.C, t.n) (List.mem_map.2 ⟨t, List.mem_of_getElem? hc, rfl⟩))
theorem get_set {K : List (Nat × List Tb)} {k j : Nat} {p' q' : Nat × List Tb} (h : (K.set k p')[j]? = some q') : (j = k ∧ q' = p') ∨ (j ≠ k ∧ K[j]? = some q') := by
  rw [List.getElem?_set] at h
  by_cases e : k = j
  · rw [if_pos e] at h
    split at h
    · exact Or.inl ⟨e.symm, (Option.some.inj h).symm⟩
    · cases h
  · rw [if_neg e] at h
    exact Or.inr ⟨fun e2 => e e2.symm, h⟩
theorem smk_set {K : List (Nat × List Tb)} (h : Smk K) (k : Nat) {p' : Nat × List Tb} (h1 : p'.2.length ≤ 16) (h2 : ∀ s ∈ p'.2, 0 < s.C.length ∧ s.C.length ≤ 16) : Smk (K.set k p') := by
  refine ⟨by rw [List.length_set]; exact h.n, fun p hp => ?_, fun p hp => ?_⟩
  · rcases List.mem_or_eq_of_mem_set hp with e | rfl
    · exact h.r p e
    · exact h1
  · rcases List.mem_or_eq_of_mem_set hp with e | rfl
    · exact h.t p e
    · exact h2
theorem cell_far {w : World} {b o y j : Nat} {v : Value} (h : y ≠ b ∨ j ≠ o) : (w.setCell ⟨b, o, none⟩ v).cell? ⟨y, j, none⟩ = w.cell? ⟨y, j, none⟩ := World.cell?_setCell_other _ _ _ _ (fun e => by
  simp only [Addr.mk.injEq, and_true] at e
  rcases h with h | h
  · exact h e.1.symm
  · exact h e.2.symm)
/-- a row is cut short -/
theorem Su.cut {w : World} {lo bt : Nat} {q : Nat → Nat} {K : List (Nat × List Tb)} (h : Su w lo bt q K) {k c : Nat} {p : Nat × List Tb} (hk : K[k]? = some p) (hc : c ≤ p.2.length) :
    Sw (w.setCell ⟨bt, k, none⟩ (.slice (some ⟨p.1, 0, none⟩) c (q k))) bt q (K.set k (p.1, p.2.take c)) := by
  have hpK := List.mem_of_getElem? hk
  refine ⟨by rw [setCell_size]; exact h.blt, fun j r hr => ?_, fun j r hr => ?_, fun j r hr i t ht => ?_⟩
  · rcases get_set hr with ⟨rfl, rfl⟩ | ⟨hj, hr⟩
    · rw [World.cell?_setCell_same _ _ _ (h.hd j p hk), List.length_take, Nat.min_eq_left hc]
    · rw [cell_far (Or.inr hj)]; exact h.hd j r hr
  · rw [setCell_size]
    rcases get_set hr with ⟨_, rfl⟩ | ⟨_, hr⟩
    · exact (h.lie p hpK).2.1
    · exact (h.lie r (List.mem_of_getElem? hr)).2.1
  · obtain ⟨r0, hr0, e1, hit⟩ : ∃ r0, r0 ∈ K ∧ r.1 = r0.1 ∧ r0.2[i]? = some t := by
      rcases get_set hr with ⟨_, rfl⟩ | ⟨_, hr⟩
      · refine ⟨p, hpK, rfl, ?_⟩
        rw [List.getElem?_take] at ht
        split at ht
        · exact ht
        · cases ht
      · exact ⟨r, List.mem_of_getElem? hr, rfl, ht⟩
    have hne := (h.lie r0 hr0).2.2
    rw [e1, cell_far (Or.inl hne), cell_far (Or.inl hne)]
    exact ⟨h.c0 r0 hr0 i t hit, h.c1 r0 hr0 i t hit, sl_far (h.sl r0 hr0 t (List.mem_of_getElem? hit)) (fun b o e hC => (h.ap r0 hr0 t (List.mem_of_getElem? hit) b o e hC).1)⟩
/-- one cell of a table's head is written -/
theorem Su.tab {w : World} {lo bt : Nat} {q : Nat → Nat} {K : List (Nat × List Tb)} (h : Su w lo bt q K) {k c j : Nat} {p : Nat × List Tb} {t t' : Tb} {v : Value} (hk : K[k]? = some p) (hc : p.2[c]? = some t) (hj : j = c * 2 ∨ j = c * 2 + 1)
    (h0 : (w.setCell ⟨p.1, j, none⟩ v).cell? ⟨p.1, c * 2, none⟩ = some (.slice t'.a t'.C.length t'.c)) (h1 : (w.setCell ⟨p.1, j, none⟩ v).cell? ⟨p.1, c * 2 + 1, none⟩ = some (.int .i64 t'.n)) (hs : Sl w .u16 t'.a t'.C) (ha : ∀ b o, t'.a = some ⟨b, o, none⟩ → t'.C ≠ [] → b ≠ p.1) :
    Sw (w.setCell ⟨p.1, j, none⟩ v) bt q (K.set k (p.1, p.2.set c t')) := by
  have hpK := List.mem_of_getElem? hk
  have hne := (h.lie p hpK).2.2
  refine ⟨by rw [setCell_size]; exact h.blt, fun j' r hr => ?_, fun j' r hr => ?_, fun j' r hr i s hi => ?_⟩
  · rw [cell_far (Or.inl (Ne.symm hne))]
    rcases get_set hr with ⟨rfl, rfl⟩ | ⟨_, hr⟩
    · rw [List.length_set]; exact h.hd j' p hk
    · exact h.hd j' r hr
  · rw [setCell_size]
    rcases get_set hr with ⟨_, rfl⟩ | ⟨_, hr⟩
    · exact (h.lie p hpK).2.1
    · exact (h.lie r (List.mem_of_getElem? hr)).2.1
  · rcases get_set hr with ⟨_, rfl⟩ | ⟨hjk, hr⟩
    · by_cases e : i = c
      · subst e
        rw [List.getElem?_set_self (List.getElem?_eq_some_iff.1 hc).1] at hi
        obtain rfl := Option.some.inj hi
        exact ⟨h0, h1, sl_far hs ha⟩
      · rw [List.getElem?_set_ne (Ne.symm e)] at hi
        rw [cell_far (Or.inr (by omega)), cell_far (Or.inr (by omega))]
        exact ⟨h.c0 p hpK i s hi, h.c1 p hpK i s hi, sl_far (h.sl p hpK s (List.mem_of_getElem? hi)) (fun b o e hC => (h.ap p hpK s (List.mem_of_getElem? hi) b o e hC).2 p hpK)⟩
    · have hrK := List.mem_of_getElem? hr
      have hrp : r.1 ≠ p.1 := fun e => hjk (h.inj j' k r p hr hk e)
      rw [cell_far (Or.inl hrp), cell_far (Or.inl hrp)]
      exact ⟨h.c0 r hrK i s hi, h.c1 r hrK i s hi, sl_far (h.sl r hrK s (List.mem_of_getElem? hi)) (fun b o e hC => (h.ap r hrK s (List.mem_of_getElem? hi) b o e hC).2 p hpK)⟩
/-- a table's numbers where the one at an address was written -/
def nC (b o : Nat) (s : Tb) : List Nat := (List.range s.C.length).map fun j => if s.a.map (fun x => (x.block, x.off + j)) = some (b, o) then 32769 else s.C.getD j 0
def nT (b o : Nat) (s : Tb) : Tb := ⟨s.a, s.c, nC b o s, s.n⟩
theorem nC_len (b o : Nat) (s : Tb) : (nC b o s).length = s.C.length := by simp [nC]
theorem nC_get (b o : Nat) (s : Tb) {j : Nat} (hj : j < s.C.length) : (nC b o s).getD j 0 = if s.a.map (fun x => (x.block, x.off + j)) = some (b, o) then 32769 else s.C.getD j 0 := by
  rw [nC, List.getD_eq_getElem?_getD, List.getElem?_map, List.getElem?_range hj]; rfl
theorem nC_sl {w : World} {b o : Nat} {old : Value} (hold : w.cell? ⟨b, o, none⟩ = some old) {s : Tb} (hs : Sl w .u16 s.a s.C) : Sl (w.setCell ⟨b, o, none⟩ (.int .u16 32769)) .u16 s.a (nC b o s) := by
  rcases hs with e | ⟨b', o', ha, hl, hc⟩
  · exact Or.inl (List.eq_nil_of_length_eq_zero (by rw [nC_len, e]; rfl))
  · refine Or.inr ⟨b', o', ha, by rw [setCell_size]; exact hl, fun j hj => ?_⟩
    rw [nC_len] at hj
    rw [nC_get b o s hj, ha]
    by_cases e : b' = b ∧ o' + j = o
    · obtain ⟨rfl, rfl⟩ := e
      rw [World.cell?_setCell_same _ _ _ hold, if_pos (by rfl)]
      rfl
    · rw [cell_far (by omega), if_neg (fun e2 => e (by simpa using e2))]
      exact hc j hj
/-- one of a set's numbers is written -/
theorem Su.num {w : World} {lo bt : Nat} {q : Nat → Nat} {K : List (Nat × List Tb)} (h : Su w lo bt q K) {b o : Nat} {old : Value} (hold : w.cell? ⟨b, o, none⟩ = some old) (hb : b ≠ bt) (hr : ∀ p ∈ K, b ≠ p.1) :
    Sw (w.setCell ⟨b, o, none⟩ (.int .u16 32769)) bt q (K.map fun p => (p.1, p.2.map (nT b o))) := by
  refine ⟨by rw [setCell_size]; exact h.blt, fun j r hr' => ?_, fun j r hr' => ?_, fun j r hr' i t ht => ?_⟩
  · rw [List.getElem?_map] at hr'
    obtain ⟨p, hp, rfl⟩ := Option.map_eq_some_iff.1 hr'
    rw [cell_far (Or.inl (Ne.symm hb)), List.length_map]
    exact h.hd j p hp
  · rw [List.getElem?_map] at hr'
    obtain ⟨p, hp, rfl⟩ := Option.map_eq_some_iff.1 hr'
    rw [setCell_size]
    exact (h.lie p (List.mem_of_getElem? hp)).2.1
  · rw [List.getElem?_map] at hr'
    obtain ⟨p, hp, rfl⟩ := Option.map_eq_some_iff.1 hr'
    have hpK := List.mem_of_getElem? hp
    rw [List.getElem?_map] at ht
    obtain ⟨s, hs, rfl⟩ := Option.map_eq_some_iff.1 ht
    rw [cell_far (Or.inl (Ne.symm (hr p hpK))), cell_far (Or.inl (Ne.symm (hr p hpK)))]
    refine ⟨?_, h.c1 p hpK i s hs, nC_sl hold (h.sl p hpK s (List.mem_of_getElem? hs))⟩
    show _ = some (Value.slice s.a (nC b o s).length s.c)
    rw [nC_len]
    exact h.c0 p hpK i s hs
theorem smk_num {K : List (Nat × List Tb)} (h : Smk K) (b o : Nat) : Smk (K.map fun p => (p.1, p.2.map (nT b o))) := by
  refine ⟨by rw [List.length_map]; exact h.n, fun r hr => ?_, fun r hr s hs => ?_⟩
  · obtain ⟨p, hp, rfl⟩ := List.mem_map.1 hr
    rw [List.length_map]; exact h.r p hp
  · obtain ⟨p, hp, rfl⟩ := List.mem_map.1 hr
    obtain ⟨t, ht, rfl⟩ := List.mem_map.1 hs
    show 0 < (nC b o t).length ∧ (nC b o t).length ≤ 16
    rw [nC_len]
    exact h.t p hp t ht
theorem tok_le {C : List Nat} {n : Int} (h : TOk C n) : C.getD 0 0 ≤ 32768 := by
  have := h.mono (C.length - 1) 0 (by have := h.lo; omega)
  rw [Nat.zero_add, h.last] at this
  exact this

end Go.Proofs.YtppanogpeengnaaDoor
