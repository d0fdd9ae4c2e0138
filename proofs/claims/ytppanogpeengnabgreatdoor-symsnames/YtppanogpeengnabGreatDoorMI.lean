/- DERIVED. Several texts in one: A set that is spoilt: only its own blocks turn. The program's Copy and Set: what they answer may be written. What the program's coder that writes refuses. A step of both writers: the program's and the document's. The walk of set: tables learnt by the document's writer. The walk of SymsWrites. -/
import Derived.Test.YtppanogpeengnabGreatDoorMF
import Derived.Test.YtppanogpeengnabGreatDoorMK
import Derived.BigRegion
import Derived.Test.YtppanogpeengnabGreatDoorSw
import Derived.Test.YtppanogpeengnabGreatDoorMG
import Derived.Test.YtppanogpeengnabGreatDoorUa
import Derived.Deep.DeepCutAuto
import Derived.Deep.RegionHeld3
namespace Go.Proofs.YtppanogpeengnabGreatDoor
open Go.RowKit L3

/-- a set of which the lists are known, the numbers not -/
structure Sd (w : World) (bt : Nat) (q : Nat → Nat) (K : List (Nat × List Tb)) : Prop where
  lt : ∀ b, Bs bt K b → b < w.heap.size
  hd : ∀ (k : Nat) (p : Nat × List Tb), K[k]? = some p → w.cell? ⟨bt, k, none⟩ = some (.slice (some ⟨p.1, 0, none⟩) p.2.length (q k))
  ne : ∀ p ∈ K, p.1 ≠ bt
  th : ∀ p ∈ K, ∀ j, w.frozen? ⟨p.1, j, none⟩ = false
  c0 : ∀ p ∈ K, ∀ (c : Nat) (t : Tb), p.2[c]? = some t → w.cell? ⟨p.1, c * 2, none⟩ = some (.slice t.a t.C.length t.c)
  c1 : ∀ p ∈ K, ∀ (c : Nat) (t : Tb), p.2[c]? = some t → ∃ n : Int, w.cell? ⟨p.1, c * 2 + 1, none⟩ = some (.int .i64 n)
  nu : ∀ p ∈ K, ∀ t ∈ p.2, ∀ i, i < t.C.length → ∃ (b o : Nat) (z : Int), t.a = some ⟨b, o, none⟩ ∧ w.cell? ⟨b, o + i, none⟩ = some (.int .u16 z)
  tz : ∀ p ∈ K, ∀ t ∈ p.2, ∀ b, Tbk t b → ∀ j, w.frozen? ⟨b, j, none⟩ = false
  ap : ∀ p ∈ K, ∀ t ∈ p.2, ∀ b, Tbk t b → b ≠ bt ∧ ∀ q ∈ K, b ≠ q.1
theorem Sd.of {w : World} {lo bt : Nat} {q : Nat → Nat} {K : List (Nat × List Tb)} (h : Su w lo bt q K) (hz : Thz w K) : Sd w bt q K := by
  refine ⟨fun b hb => h.low hb, h.hd, fun p hp => (h.lie p hp).2.2, h.th, h.c0, fun p hp c t ht => ⟨_, h.c1 p hp c t ht⟩, fun p hp t ht i hi => ?_, hz, fun p hp t ht b hb => ?_⟩
  · rcases h.sl p hp t ht with e | ⟨b, o, h1, _, h3⟩
    · rw [e] at hi; simp at hi
    · exact ⟨b, o, _, h1, h3 i hi⟩
  · obtain ⟨e1, o, e2⟩ := hb
    exact h.ap p hp t ht b o e2 e1
theorem Sd.to {w w' : World} {bt : Nat} {q : Nat → Nat} {K : List (Nat × List Tb)} (h : Sd w bt q K) (hb : Below w.heap.size w w') : Sd w' bt q K := by
  have hrow : ∀ p ∈ K, p.1 < w.heap.size := fun p hp => h.lt _ (Or.inr ⟨p, hp, Or.inl rfl⟩)
  refine ⟨fun b hb' => Nat.lt_of_lt_of_le (h.lt b hb') hb.size, fun k p hp => by rw [newCell hb _ _ (h.lt _ (Or.inl rfl))]; exact h.hd k p hp, h.ne, fun p hp j => by rw [newFrozen hb _ _ (hrow p hp)]; exact h.th p hp j, fun p hp c t ht => by rw [newCell hb _ _ (hrow p hp)]; exact h.c0 p hp c t ht, fun p hp c t ht => ?_, fun p hp t ht i hi => ?_, fun p hp t ht b hb' j => ?_, h.ap⟩
  · obtain ⟨n, e⟩ := h.c1 p hp c t ht
    exact ⟨n, by rw [newCell hb _ _ (hrow p hp)]; exact e⟩
  · obtain ⟨b, o, z, e1, e2⟩ := h.nu p hp t ht i hi
    have hl : b < w.heap.size := h.lt b (Or.inr ⟨p, hp, Or.inr ⟨t, ht, fun e => by rw [e] at hi; simp at hi, o, e1⟩⟩)
    exact ⟨b, o, z, e1, by rw [newCell hb _ _ hl]; exact e2⟩
  · rw [newFrozen hb _ _ (h.lt b (Or.inr ⟨p, hp, Or.inr ⟨t, ht, hb'⟩⟩))]
    exact h.tz p hp t ht b hb' j
theorem Sd.num {w : World} {bt : Nat} {q : Nat → Nat} {K : List (Nat × List Tb)} (h : Sd w bt q K) {p : Nat × List Tb} (hp : p ∈ K) {t : Tb} (ht : t ∈ p.2) {b o i : Nat} (ha : t.a = some ⟨b, o, none⟩) (hi : i < t.C.length) (x : Int) : Sd (w.setCell ⟨b, o + i, none⟩ (.int .u16 x)) bt q K := by
  have hne : t.C ≠ [] := fun e => by rw [e] at hi; simp at hi
  obtain ⟨a1, a2⟩ := h.ap p hp t ht b ⟨hne, o, ha⟩
  have old : ∃ z : Int, w.cell? ⟨b, o + i, none⟩ = some (.int .u16 z) := by
    obtain ⟨b', o', z, e1, e2⟩ := h.nu p hp t ht i hi
    rw [ha] at e1
    simp only [Option.some.injEq, Addr.mk.injEq, and_true] at e1
    obtain ⟨rfl, rfl⟩ := e1
    exact ⟨z, e2⟩
  refine ⟨fun b' hb' => by rw [setCell_size]; exact h.lt b' hb', fun k p' hp' => by rw [World.cell?_setCell_other _ _ _ _ (fun e => a1 (congrArg Addr.block e))]; exact h.hd k p' hp', h.ne, fun p' hp' j => by rw [World.frozen?_setCell]; exact h.th p' hp' j, fun p' hp' c t' ht' => by rw [World.cell?_setCell_other _ _ _ _ (fun e => a2 p' hp' (congrArg Addr.block e))]; exact h.c0 p' hp' c t' ht', fun p' hp' c t' ht' => ?_, fun p' hp' t' ht' i' hi' => ?_, fun p' hp' t' ht' b' hb' j => by rw [World.frozen?_setCell]; exact h.tz p' hp' t' ht' b' hb' j, h.ap⟩
  · obtain ⟨n, e⟩ := h.c1 p' hp' c t' ht'
    exact ⟨n, by rw [World.cell?_setCell_other _ _ _ _ (fun e => a2 p' hp' (congrArg Addr.block e))]; exact e⟩
  · obtain ⟨b', o', z, e1, e2⟩ := h.nu p' hp' t' ht' i' hi'
    by_cases he : (⟨b, o + i, none⟩ : Addr) = ⟨b', o' + i', none⟩
    · obtain ⟨z0, hz0⟩ := old
      exact ⟨b', o', x, e1, by rw [← he]; exact World.cell?_setCell_same _ _ _ hz0⟩
    · exact ⟨b', o', z, e1, by rw [World.cell?_setCell_other _ _ _ _ he]; exact e2⟩
theorem Sd.count {w : World} {bt : Nat} {q : Nat → Nat} {K : List (Nat × List Tb)} (h : Sd w bt q K) {p : Nat × List Tb} (hp : p ∈ K) {c : Nat} {t : Tb} (_ht : p.2[c]? = some t) (x : Int) : Sd (w.setCell ⟨p.1, c * 2 + 1, none⟩ (.int .i64 x)) bt q K := by
  refine ⟨fun b' hb' => by rw [setCell_size]; exact h.lt b' hb', fun k p' hp' => by rw [World.cell?_setCell_other _ _ _ _ (fun e => h.ne p hp (congrArg Addr.block e))]; exact h.hd k p' hp', h.ne, fun p' hp' j => by rw [World.frozen?_setCell]; exact h.th p' hp' j, fun p' hp' c' t' ht' => by rw [World.cell?_setCell_other _ _ _ _ (fun e => by have := congrArg Addr.off e; simp only at this; omega)]; exact h.c0 p' hp' c' t' ht', fun p' hp' c' t' ht' => ?_, fun p' hp' t' ht' i' hi' => ?_, fun p' hp' t' ht' b' hb' j => by rw [World.frozen?_setCell]; exact h.tz p' hp' t' ht' b' hb' j, h.ap⟩
  · obtain ⟨n, e⟩ := h.c1 p' hp' c' t' ht'
    by_cases he : (⟨p.1, c * 2 + 1, none⟩ : Addr) = ⟨p'.1, c' * 2 + 1, none⟩
    · exact ⟨x, by rw [← he]; exact World.cell?_setCell_same _ _ _ (by rw [he]; exact e)⟩
    · exact ⟨n, by rw [World.cell?_setCell_other _ _ _ _ he]; exact e⟩
  · obtain ⟨b', o', z, e1, e2⟩ := h.nu p' hp' t' ht' i' hi'
    have := (h.ap p' hp' t' ht' b' ⟨fun e => by rw [e] at hi'; simp at hi', o', e1⟩).2 p hp
    exact ⟨b', o', z, e1, by rw [World.cell?_setCell_other _ _ _ _ (fun e => this (congrArg Addr.block e).symm)]; exact e2⟩
theorem ke_one (w : World) (b o : Nat) (v : Value) : Ke (fun y => y = b) w (w.setCell ⟨b, o, none⟩ v) := Ke.set _ _ _ _ rfl
theorem ke_oned (w : World) (b o : Nat) (v : Value) : Ke (fun y => y = b) w (w.drew.setCell ⟨b, o, none⟩ v) := Ke.trans (P := fun y => y = b) (Q := fun y => y = b) (ke_drew _ _) (Ke.set _ _ _ _ rfl) (fun _ e => e) (fun _ _ e => e)
/-- the number that a cell holds -/
def cv (b j : Nat) (v : World) : Int := match v.cell? ⟨b, j, none⟩ with
  | some (.int _ z) => z
  | _ => 0
theorem cv_is {b j : Nat} {v : World} {z : Int} (h : v.cell? ⟨b, j, none⟩ = some (.int .u16 z)) : v.cell? ⟨b, j, none⟩ = some (.int .u16 (cv b j v)) := by unfold cv; rw [h]
/-- what spoil's loops keep -/
structure SpI (W : World) (bt : Nat) (q : Nat → Nat) (K : List (Nat × List Tb)) (wr : World) : Prop where
  sd : Sd wr bt q K
  ke : Ke (Bs bt K) W wr
theorem SpI.drew {W : World} {bt : Nat} {q : Nat → Nat} {K : List (Nat × List Tb)} {wr : World} (h : SpI W bt q K wr) : SpI W bt q K wr.drew := ⟨h.sd.to (below_drew (Below.refl _ _)), Ke.trans h.ke (ke_drew (Bs bt K) _) (fun _ e => e) (fun _ _ e => e)⟩

set_option maxRecDepth 100000 in
set_option maxHeartbeats 4000000 in
theorem spoil_any {w : World} {lo bt cT : Nat} {q : Nat → Nat} {K : List (Nat × List Tb)} {by' : Int} (h : Su w lo bt q K) (hz : Thz w K) (hok : Okk K) :
    Calls Tryz.prog 36 #[.agg #[.slice (some ⟨bt, 0, none⟩) 32 cT], .int .u16 by'] w fun e w' => e = .returned (.tuple #[]) ∧ Ke (Bs bt K) w w' := by
  have HKl : Hid (K.length = 32) := hok.1
  have HOk : Hid (Okk K) := hok
  have HB0 : Hid (Below w.heap.size w (w.alloc (.cells #[.slice (some ⟨bt, 0, none⟩) 32 cT] 29))) := from_alloc _ _
  have HX0 : Hid (∀ v, Ke (Bs bt K) (w.alloc (.cells #[.slice (some ⟨bt, 0, none⟩) 32 cT] 29)) v → v.cell? ⟨w.heap.size, 0, none⟩ = some (.slice (some ⟨bt, 0, none⟩) 32 cT)) := fun v hv => by
    rw [hv.cell _ _ (by simp) (fun e => Nat.lt_irrefl _ (h.low e))]; simp [go_sem]
  have HI0 : Hid (SpI (w.alloc (.cells #[.slice (some ⟨bt, 0, none⟩) 32 cT] 29)) bt q K (w.alloc (.cells #[.slice (some ⟨bt, 0, none⟩) 32 cT] 29))) := ⟨(Sd.of h hz).to HB0.out, Ke.refl _ _⟩
  have HEnd : Hid (∀ v, Ke (Bs bt K) (w.alloc (.cells #[.slice (some ⟨bt, 0, none⟩) 32 cT] 29)) v → Ke (Bs bt K) w v) := fun v hv => Ke.trans (Ke.of (P := Bs bt K) HB0.out) hv (fun _ e => e) (fun _ _ e => e)
  have HXn : Hid (¬ Bs bt K w.heap.size) := fun e => Nat.lt_irrefl _ (h.low e)
  have HXl : Hid (∀ v, SpI (w.alloc (.cells #[.slice (some ⟨bt, 0, none⟩) 32 cT] 29)) bt q K v → w.heap.size < v.heap.size) := fun v hv => Nat.lt_of_lt_of_le (by simp) hv.ke.size
  clear h hz hok HB0
  go_enter Tryz.func36, Tryz.ntmps36
  go_wp2_with fail
  generalize w.alloc (.cells #[.slice (some ⟨bt, 0, none⟩) 32 cT] 29) = W at *
  generalize w.heap.size = xv at *
  go_loopw [4] (fun iv wr => ∃ k : Nat, k ≤ 32 ∧ iv = .int .i64 k ∧ SpI W bt q K wr) (fun iv _ => 32 - (intOf iv).toNat)
  case atStart => exact ⟨0, by omega, rfl, HI0.out⟩
  case round =>
    clear HI0
    obtain ⟨k, hk, rfl, hi⟩ := hrel
    have HI : Hid (SpI W bt q K wr) := hi
    clear hi
    have x0 := HX0.out _ HI.out.ke
    have b0 : 0 ≤ (k : Int) := by omega
    by_cases hlt : k < 32
    · have b1 : (k : Int) < 32 := by omega
      have hkl : k < K.length := by rw [HKl.out]; exact hlt
      have hget := List.getElem?_eq_getElem hkl
      have hmem : K[k] ∈ K := List.getElem_mem _
      have HC0 : Hid (∀ v, SpI W bt q K v → v.cell? ⟨xv, 0, none⟩ = some (.slice (some ⟨bt, 0, none⟩) 32 cT) ∧ v.cell? ⟨bt, k, none⟩ = some (.slice (some ⟨K[k].1, 0, none⟩) K[k].2.length (q k))) := fun v hv => ⟨HX0.out v hv.ke, hv.sd.hd k _ hget⟩
      have HMem : Hid (K[k] ∈ K) := hmem
      have hoq := HOk.out.2 k _ hget
      have HPL : Hid (K[k].2.length ≤ 14) := by have := (sC_le k hlt).2; have := hoq.1; show _ ≤ _; omega
      have HTL : Hid (∀ t ∈ K[k].2, t.C.length ≤ 16) := fun t ht => by have := (sV_le k hlt).2; have := (hoq.2 t ht).1; omega
      clear hoq
      generalize K[k] = p at *
      obtain ⟨pb, pt⟩ := p
      simp only at HC0 HPL HTL
      have HK : Hid (k < 32) := hlt
      clear hget hmem hkl
      go_wp2_with fail
      go_loopw [5] (fun iv wr => ∃ c : Nat, c ≤ pt.length ∧ iv = .int .i64 c ∧ SpI W bt q K wr) (fun iv _ => pt.length - (intOf iv).toNat)
      case atStart => exact ⟨0, by omega, rfl, HI.out⟩
      case round =>
        obtain ⟨c, hc, rfl, hi⟩ := hrel
        clear HI x0
        rename World => wq
        have HI : Hid (SpI W bt q K wq) := hi
        clear hi
        obtain ⟨x0, x1⟩ := HC0.out _ HI.out
        have a0 : 0 ≤ (c : Int) := by omega
        by_cases hcl : c < pt.length
        · have a1 : (c : Int) < (pt.length : Int) := by omega
          have HCl : Hid (c < pt.length) := hcl
          have hgt := List.getElem?_eq_getElem hcl
          have HGt : Hid (pt[c]? = some pt[c]) := hgt
          have HTm : Hid (pt[c] ∈ pt) := List.getElem_mem hcl
          have HC1 : Hid (∀ v, SpI W bt q K v → v.cell? ⟨pb, c * 2, none⟩ = some (.slice pt[c].a pt[c].C.length pt[c].c)) := fun v hv => hv.sd.c0 _ HMem.out c _ hgt
          have HSL : Hid (pt[c].C.length ≤ 16) := HTL.out _ HTm.out
          generalize pt[c] = st at *
          obtain ⟨sa, sc, sC', sn⟩ := st
          simp only at HC1 HSL
          clear hgt
          go_wp2_with fail
          go_loopw [6] (fun iv wr => ∃ i : Nat, i ≤ sC'.length ∧ iv = .int .i64 i ∧ SpI W bt q K wr) (fun iv _ => sC'.length - (intOf iv).toNat)
          case atStart => exact ⟨0, by omega, rfl, HI.out⟩
          case round =>
            obtain ⟨i, hi1, rfl, hi⟩ := hrel
            clear HI x0 x1
            rename World => wu
            have HI : Hid (SpI W bt q K wu) := hi
            clear hi
            obtain ⟨x0, x1⟩ := HC0.out _ HI.out
            have x2 := HC1.out _ HI.out
            have d0 : 0 ≤ (i : Int) := by omega
            by_cases hil : i < sC'.length
            · have d1 : (i : Int) < (sC'.length : Int) := by omega
              have HIl : Hid (i < sC'.length) := hil
              obtain ⟨b, o, z, rfl, x3⟩ := HI.out.sd.nu _ HMem.out _ HTm.out i hil
              have hTb : Tbk ⟨some ⟨b, o, none⟩, sc, sC', sn⟩ b := ⟨fun e => by simp only at e; rw [e] at hil; simp at hil, o, rfl⟩
              have x4 : wu.frozen? ⟨b, o + i, none⟩ = false := HI.out.sd.tz _ HMem.out _ HTm.out b hTb _
              have HRel : Hid (∀ x : Int, SpI W bt q K (wu.setCell ⟨b, o + i, none⟩ (.int .u16 x))) := fun x => ⟨HI.out.sd.num HMem.out HTm.out rfl hil x, Ke.trans HI.out.ke (Ke.set (Bs bt K) _ _ _ (Or.inr ⟨_, HMem.out, Or.inr ⟨_, HTm.out, hTb⟩⟩)) (fun _ e => e) (fun _ _ e => e)⟩
              have HBt : Hid (b ≠ bt ∧ b ≠ pb ∧ b ≠ xv ∧ b < wu.heap.size) := by
                obtain ⟨e1, e2⟩ := HI.out.sd.ap _ HMem.out _ HTm.out b hTb
                exact ⟨e1, e2 _ HMem.out, fun e => HXn.out (by rw [← e]; exact Or.inr ⟨_, HMem.out, Or.inr ⟨_, HTm.out, hTb⟩⟩), HI.out.sd.lt b (Or.inr ⟨_, HMem.out, Or.inr ⟨_, HTm.out, hTb⟩⟩)⟩
              have HKq : Hid (∀ v, Ke (fun y => y = b) wu v → (∃ z : Int, v.cell? ⟨b, o + i, none⟩ = some (.int .u16 z)) → v.cell? ⟨xv, 0, none⟩ = some (.slice (some ⟨bt, 0, none⟩) 32 cT) ∧ v.cell? ⟨bt, k, none⟩ = some (.slice (some ⟨pb, 0, none⟩) pt.length (q k)) ∧ v.cell? ⟨pb, c * 2, none⟩ = some (.slice (some ⟨b, o, none⟩) sC'.length sc) ∧ v.cell? ⟨b, o + i, none⟩ = some (.int .u16 (cv b (o + i) v))) := fun v hv hz => by
                obtain ⟨z', hz⟩ := hz
                obtain ⟨e1, e2, e3, e4⟩ := HBt.out
                rw [hv.cell xv 0 (HXl.out _ HI.out) (fun e => e3 e.symm), hv.cell bt k (HI.out.sd.lt _ (Or.inl rfl)) (fun e => e1 e.symm), hv.cell pb _ (HI.out.sd.lt _ (Or.inr ⟨_, HMem.out, Or.inl rfl⟩)) (fun e => e2 e.symm)]
                exact ⟨x0, x1, x2, cv_is hz⟩
              have x5 : wu.drew.cell? ⟨b, o + i, none⟩ = some (.int .u16 z) := x3
              have x6 : wu.drew.frozen? ⟨b, o + i, none⟩ = false := x4
              clear hTb
              go_wp2_with fail
              go_region
              all_goals
                have hil := HIl.out
                have hsl := HSL.out
                go_wp2_with fail
                go_roundw
                case rel => exact ⟨i + 1, by omega, by go_num, SpI.drew (HRel.out _)⟩
                case measure => simp [intOf]; omega
            · have d1 : ¬ (i : Int) < (sC'.length : Int) := by omega
              obtain ⟨n, x3⟩ := HI.out.sd.c1 _ HMem.out c _ HGt.out
              have x4 : wu.frozen? ⟨pb, c * 2 + 1, none⟩ = false := HI.out.sd.th _ HMem.out _
              have HRel : Hid (SpI W bt q K (wu.setCell ⟨pb, c * 2 + 1, none⟩ (.int .i64 99))) := ⟨HI.out.sd.count HMem.out HGt.out 99, Ke.trans HI.out.ke (Ke.set (Bs bt K) _ _ _ (Or.inr ⟨_, HMem.out, Or.inl rfl⟩)) (fun _ e => e) (fun _ _ e => e)⟩
              have hcl := HCl.out
              have hpl := HPL.out
              go_wp2_with fail
              go_roundw
              case rel => exact ⟨c + 1, by omega, by go_num, HRel.out⟩
              case measure => simp [intOf]; omega
        · have a1 : ¬ (c : Int) < (pt.length : Int) := by omega
          go_wp2_with fail
          have hlt := HK.out
          go_roundw
          case rel => exact ⟨k + 1, by omega, by go_num, HI.out⟩
          case measure => simp [intOf]; omega
    · have b1 : ¬ (k : Int) < 32 := by omega
      have HF : Hid (Ke (Bs bt K) w wr) := HEnd.out _ HI.out.ke
      go_wp2_with fail
      exact bodyPost_end (v := .tuple #[]) (by simp [results, Tryz.results36, go_sem]) rfl ⟨rfl, HF.out⟩

end Go.Proofs.YtppanogpeengnabGreatDoor

namespace Go.Proofs.YtppanogpeengnabGreatDoor
open Go.RowKit L3

theorem thz_keep {w w' : World} {lo bt : Nat} {L : List (Nat × List Tb)} (hst : St w lo bt L) (hz : Thz w L) (hf : ∀ b j, b < w.heap.size → w'.frozen? ⟨b, j, none⟩ = w.frozen? ⟨b, j, none⟩) : Thz w' L := fun p hp t ht b hb j => by
  rw [hf b j (hst.low (Or.inr ⟨p, hp, Or.inr ⟨t, ht, hb⟩⟩))]
  exact hz p hp t ht b hb j
def Cszt (w w' : World) (e : Ending) (K : List (Nat × List Tb)) : Prop := ∃ bt L, e = .returned (.agg #[.slice (some ⟨bt, 0, none⟩) 32 32]) ∧ St w' w.heap.size bt L ∧ Als K L ∧ Dk w.heap.size L ∧ Below w.heap.size w w' ∧ Thz w' L
def CIz (W : World) (lo bt : Nat) (K : List (Nat × List Tb)) (iv : Value) (wr : World) : Prop :=
  ∃ (k : Nat) (L : List (Nat × List Tb)), k ≤ 32 ∧ iv = .int .i64 k ∧ L.length = k ∧ St wr lo bt L ∧ Dk W.heap.size L ∧ (∀ (j : Nat) p q, K[j]? = some p → L[j]? = some q → Alq p.2 q.2) ∧ Kr bt W wr ∧ Thz wr L
def CJz (W : World) (lo bt k : Nat) (K : List (Nat × List Tb)) (pt : List Tb) (iv : Value) (wr : World) : Prop :=
  ∃ (c : Nat) (L : List (Nat × List Tb)) (p : Nat × List Tb), c ≤ sC k ∧ iv = .int .i64 c ∧ L.length = k + 1 ∧ L[k]? = some p ∧ p.2.length = sC k ∧ St wr lo bt L ∧ Dk W.heap.size L ∧ (∀ (j : Nat) p q, j < k → K[j]? = some p → L[j]? = some q → Alq p.2 q.2) ∧ (∀ (i : Nat) s t, i < c → pt[i]? = some s → p.2[i]? = some t → t.C = s.C ∧ t.n = s.n) ∧ Kr bt W wr ∧ Thz wr L
def SetNz (w w' : World) (e : Ending) (K : List (Nat × List Tb)) : Prop := ∃ bt L, e = .returned (.tuple #[.agg #[.slice (some ⟨bt, 0, none⟩) 32 32], .int .i64 0]) ∧ St w' w.heap.size bt L ∧ Als K L ∧ Dk w.heap.size L ∧ Below w.heap.size w w' ∧ Thz w' L

set_option maxRecDepth 100000 in
set_option maxHeartbeats 8000000 in
theorem scopy_z {w : World} {lo bt cT : Nat} {q : Nat → Nat} {K : List (Nat × List Tb)} (hsh : Sh w) (h : Su w lo bt q K) (ho : Okk K) :
    Calls Tryz.prog 22 #[.agg #[.slice (some ⟨bt, 0, none⟩) 32 cT]] w fun e w' => Cszt w w' e K := by
  obtain ⟨i, hi, hz0, hz1, hz2⟩ := info_parts Tryz.inf60
  obtain ⟨i3, hi3, hy0, hy1, hy2⟩ := info_parts Tryz.inf63
  have hmk : ∀ u : World, (Instr.makeSlice 27 (.int .i64 32) (.int .i64 32)).run Tryz.prog u = .ok (.slice (some ⟨u.heap.size, 0, none⟩) 32 32) (u.alloc (.cells (madeCells #[.slice none 0 0] 32) 60)) := fun u => by
    have h := run_make (P := Tryz.prog) u 27 60 i (.slice none 0 0) Tryz.underlying27 hi hz0 .i64 .i64 32 32 (by omega) (Int.le_refl _) (by rw [hz2]; omega) (by omega)
    simpa [hz1, Value.cells] using h
  have HMK : Hid (∀ (n : Nat), n ≤ 14 → ∀ u : World, (Instr.makeSlice 60 (.int .i64 n) (.int .i64 n)).run Tryz.prog u = .ok (.slice (some ⟨u.heap.size, 0, none⟩) n n) (u.alloc (.cells (madeCells #[.slice none 0 0, .int .i64 0] (n * 2)) 59))) := fun n hn u => by
    have h := run_make (P := Tryz.prog) u 60 59 i3 (.agg #[.slice none 0 0, .int .i64 0]) Tryz.underlying60 hi3 hy0 .i64 .i64 n n (by omega) (Int.le_refl _) (by rw [hy2]; omega) (by omega)
    simpa [hy1, Value.cells] using h
  have HOK : Hid (Okk K) := ho
  have HSRC : Hid (Su w lo bt q K) := h
  have HS0 : Hid (St ((((w.alloc (.cells #[.slice (some ⟨bt, 0, none⟩) 32 cT] 29)).alloc (.cells #[.slice none 0 0] 29)).alloc (.cells (madeCells #[.slice none 0 0] 32) 60)).alloc (.cells #[.slice (some ⟨w.heap.size + 2, 0, none⟩) 32 32] 29)) w.heap.size (w.heap.size + 2) []) := by
    have h1 : ((w.alloc (.cells #[.slice (some ⟨bt, 0, none⟩) 32 cT] 29)).alloc (.cells #[.slice none 0 0] 29)).heap.size = w.heap.size + 2 := by simp
    have := (St.start (w := ((w.alloc (.cells #[.slice (some ⟨bt, 0, none⟩) 32 cT] 29)).alloc (.cells #[.slice none 0 0] 29))) (lo := w.heap.size) (by rw [h1]; omega)).to (from_alloc _ (.cells #[.slice (some ⟨w.heap.size + 2, 0, none⟩) 32 32] 29))
    rw [h1] at this
    exact this
  have HLO : Hid (0 < w.heap.size) := hsh.low
  have HWs : Hid (((((w.alloc (.cells #[.slice (some ⟨bt, 0, none⟩) 32 cT] 29)).alloc (.cells #[.slice none 0 0] 29)).alloc (.cells (madeCells #[.slice none 0 0] 32) 60)).alloc (.cells #[.slice (some ⟨w.heap.size + 2, 0, none⟩) 32 32] 29)).heap.size = w.heap.size + 4) := by unfold Hid; simp
  have HBW : Hid (Below w.heap.size w ((((w.alloc (.cells #[.slice (some ⟨bt, 0, none⟩) 32 cT] 29)).alloc (.cells #[.slice none 0 0] 29)).alloc (.cells (madeCells #[.slice none 0 0] 32) 60)).alloc (.cells #[.slice (some ⟨w.heap.size + 2, 0, none⟩) 32 32] 29))) := to_alloc (to_alloc (to_alloc (from_alloc _ _) _) _) _
  have HX3 : Hid (((((w.alloc (.cells #[.slice (some ⟨bt, 0, none⟩) 32 cT] 29)).alloc (.cells #[.slice none 0 0] 29)).alloc (.cells (madeCells #[.slice none 0 0] 32) 60)).alloc (.cells #[.slice (some ⟨w.heap.size + 2, 0, none⟩) 32 32] 29)).cell? ⟨w.heap.size + 3, 0, none⟩ = some (.slice (some ⟨w.heap.size + 2, 0, none⟩) 32 32)) := by
    have h1 : (((w.alloc (.cells #[.slice (some ⟨bt, 0, none⟩) 32 cT] 29)).alloc (.cells #[.slice none 0 0] 29)).alloc (.cells (madeCells #[.slice none 0 0] 32) 60)).heap.size = w.heap.size + 3 := by simp
    unfold Hid; rw [← h1, new_get]; rfl
  have HX2 : Hid (((((w.alloc (.cells #[.slice (some ⟨bt, 0, none⟩) 32 cT] 29)).alloc (.cells #[.slice none 0 0] 29)).alloc (.cells (madeCells #[.slice none 0 0] 32) 60)).alloc (.cells #[.slice (some ⟨w.heap.size + 2, 0, none⟩) 32 32] 29)).cell? ⟨w.heap.size + 1, 0, none⟩ = some (.slice none 0 0) ∧ ((((w.alloc (.cells #[.slice (some ⟨bt, 0, none⟩) 32 cT] 29)).alloc (.cells #[.slice none 0 0] 29)).alloc (.cells (madeCells #[.slice none 0 0] 32) 60)).alloc (.cells #[.slice (some ⟨w.heap.size + 2, 0, none⟩) 32 32] 29)).frozen? ⟨w.heap.size + 1, 0, none⟩ = false) := by
    have h0 : (w.alloc (.cells #[.slice (some ⟨bt, 0, none⟩) 32 cT] 29)).heap.size = w.heap.size + 1 := by simp
    have h1 : w.heap.size + 1 < ((w.alloc (.cells #[.slice (some ⟨bt, 0, none⟩) 32 cT] 29)).alloc (.cells #[.slice none 0 0] 29)).heap.size := by simp
    have hb : Below ((w.alloc (.cells #[.slice (some ⟨bt, 0, none⟩) 32 cT] 29)).alloc (.cells #[.slice none 0 0] 29)).heap.size ((w.alloc (.cells #[.slice (some ⟨bt, 0, none⟩) 32 cT] 29)).alloc (.cells #[.slice none 0 0] 29)) ((((w.alloc (.cells #[.slice (some ⟨bt, 0, none⟩) 32 cT] 29)).alloc (.cells #[.slice none 0 0] 29)).alloc (.cells (madeCells #[.slice none 0 0] 32) 60)).alloc (.cells #[.slice (some ⟨w.heap.size + 2, 0, none⟩) 32 32] 29)) := to_alloc (from_alloc _ _) _
    refine ⟨?_, ?_⟩
    · rw [newCell hb _ _ h1, ← h0, new_get]; rfl
    · rw [newFrozen hb _ _ h1, ← h0]; simp
  have s1 : ((((w.alloc (.cells #[.slice (some ⟨bt, 0, none⟩) 32 cT] 29)).alloc (.cells #[.slice none 0 0] 29)).alloc (.cells (madeCells #[.slice none 0 0] 32) 60)).alloc (.cells #[.slice (some ⟨w.heap.size + 2, 0, none⟩) 32 32] 29)).cell? ⟨w.heap.size, 0, none⟩ = some (.slice (some ⟨bt, 0, none⟩) 32 cT) := by
    have h1 : w.heap.size < (w.alloc (.cells #[.slice (some ⟨bt, 0, none⟩) 32 cT] 29)).heap.size := by simp
    have hb : Below (w.alloc (.cells #[.slice (some ⟨bt, 0, none⟩) 32 cT] 29)).heap.size (w.alloc (.cells #[.slice (some ⟨bt, 0, none⟩) 32 cT] 29)) ((((w.alloc (.cells #[.slice (some ⟨bt, 0, none⟩) 32 cT] 29)).alloc (.cells #[.slice none 0 0] 29)).alloc (.cells (madeCells #[.slice none 0 0] 32) 60)).alloc (.cells #[.slice (some ⟨w.heap.size + 2, 0, none⟩) 32 32] 29)) := to_alloc (to_alloc (from_alloc _ _) _) _
    rw [newCell hb _ _ h1]; simp
  clear h ho hsh
  go_enter Tryz.func22, Tryz.ntmps22
  go_wp2_with fail
  rw [show w.heap.size + 1 + 1 + 1 = w.heap.size + 3 from rfl, show w.heap.size + 1 + 1 = w.heap.size + 2 from rfl]
  generalize ((((w.alloc (.cells #[.slice (some ⟨bt, 0, none⟩) 32 cT] 29)).alloc (.cells #[.slice none 0 0] 29)).alloc (.cells (madeCells #[.slice none 0 0] 32) 60)).alloc (.cells #[.slice (some ⟨w.heap.size + 2, 0, none⟩) 32 32] 29)) = W at *
  clear s1
  go_loopw [16] (fun iv wr => CIz W w.heap.size (w.heap.size + 2) K iv wr) (fun iv _ => 32 - (intOf iv).toNat)
  case atStart => exact ⟨0, [], by omega, rfl, rfl, HS0.out, fun p hp => by simp at hp, fun j p q _ hq => by simp at hq, Kr.refl _ _, fun p hp => by simp at hp⟩
  case round =>
    obtain ⟨k, L, hk, rfl, hLl, hst, hdk, hal, hkr, htz⟩ := hrel
    clear HS0
    have HST : Hid _ := hst
    have HTZ : Hid (Thz wr L) := htz
    have HDK : Hid (Dk W.heap.size L) := hdk
    have HAL : Hid (∀ (j : Nat) p q, K[j]? = some p → L[j]? = some q → Alq p.2 q.2) := hal
    have HKR : Hid (Kr (w.heap.size + 2) W wr) := hkr
    have HLL : Hid (L.length = k) := hLl
    have hks := hkr.size
    rw [HWs.out] at hks
    have HBr : Hid (Below w.heap.size w wr) := HBW.out.trans (hkr.below (B := w.heap.size) (by omega) (by rw [HWs.out]; omega))
    have x3 : wr.cell? ⟨w.heap.size + 3, 0, none⟩ = some (.slice (some ⟨w.heap.size + 2, 0, none⟩) 32 32) := by rw [hkr.cell _ _ (by rw [HWs.out]; omega) (by omega)]; exact HX3.out
    have x2 : wr.cell? ⟨w.heap.size + 1, 0, none⟩ = some (.slice none 0 0) := by rw [hkr.cell _ _ (by rw [HWs.out]; omega) (by omega)]; exact HX2.out.1
    have x2f : wr.frozen? ⟨w.heap.size + 1, 0, none⟩ = false := by rw [hkr.frozen _ _ (by rw [HWs.out]; omega) (by omega)]; exact HX2.out.2
    clear hst hdk hal hkr hLl htz
    by_cases hlt : k < 32
    · have b0 : 0 ≤ (k : Int) := by omega
      have b1 : (k : Int) < 32 := by omega
      have hkl : k < K.length := by rw [HOK.out.1]; exact hlt
      have hget := List.getElem?_eq_getElem hkl
      have HGK : Hid (K[k]? = some K[k]) := hget
      have hoq := HOK.out.2 k _ hget
      have hmem : K[k] ∈ K := List.getElem_mem _
      have xb0 := HSRC.out.hd k _ hget
      have hlie := (HSRC.out.lie _ hmem).2.1
      have HC0 : Hid (∀ (c : Nat) t, K[k].2[c]? = some t → w.cell? ⟨K[k].1, c * 2, none⟩ = some (.slice t.a t.C.length t.c) ∧ w.cell? ⟨K[k].1, c * 2 + 1, none⟩ = some (.int .i64 t.n) ∧ Sl w .u16 t.a t.C) := fun c t ht => ⟨HSRC.out.c0 _ hmem c t ht, HSRC.out.c1 _ hmem c t ht, HSRC.out.sl _ hmem t (List.mem_of_getElem? ht)⟩
      generalize K[k] = sp at *
      obtain ⟨sb, st⟩ := sp
      simp only at xb0 hlie HC0
      have HPS : Hid (st.length = sC k) := hoq.1
      have HPT : Hid (∀ t ∈ st, t.C.length = sV k ∧ TOk t.C t.n) := hoq.2
      have xs : wr.cell? ⟨bt, k, none⟩ = some (.slice (some ⟨sb, 0, none⟩) (sC k) (q k)) := by rw [newCell HBr.out _ _ HSRC.out.blt]; rw [HPS.out] at xb0; exact xb0
      have tlk := HST.out.tl k (by rw [HLL.out]; exact Nat.le_refl _) hlt
      have thk := HST.out.bth k
      have mk := HMK.out (sC k) (sC_le k hlt).2
      have hc14 := (sC_le k hlt).2
      have hba : Below wr.heap.size wr (wr.alloc (.cells (madeCells #[.slice none 0 0, .int .i64 0] (sC k * 2)) 59)) := from_alloc _ _
      have y3 : (wr.alloc (.cells (madeCells #[.slice none 0 0, .int .i64 0] (sC k * 2)) 59)).cell? ⟨w.heap.size + 3, 0, none⟩ = some (.slice (some ⟨w.heap.size + 2, 0, none⟩) 32 32) := by rw [newCell hba _ _ (by omega)]; exact x3
      have ytl : (wr.alloc (.cells (madeCells #[.slice none 0 0, .int .i64 0] (sC k * 2)) 59)).cell? ⟨w.heap.size + 2, k, none⟩ = some (.slice none 0 0) := by rw [newCell hba _ _ (by omega)]; exact tlk
      have yth : (wr.alloc (.cells (madeCells #[.slice none 0 0, .int .i64 0] (sC k * 2)) 59)).frozen? ⟨w.heap.size + 2, k, none⟩ = false := by rw [newFrozen hba _ _ (by omega)]; exact thk
      clear x2 x2f hba hget hoq hmem xb0
      go_wp2_with fail
      go_region
      have HKR2 : Hid (Kr (w.heap.size + 2) W ((wr.alloc (.cells (madeCells #[.slice none 0 0, .int .i64 0] (sC k * 2)) 59)).setCell ⟨w.heap.size + 2, k, none⟩ (.slice (some ⟨wr.heap.size, 0, none⟩) (sC k) (sC k))).drew) := ((HKR.out.to (from_alloc wr (.cells (madeCells #[.slice none 0 0, .int .i64 0] (sC k * 2)) 59))).set ⟨w.heap.size + 2, k, none⟩ (.slice (some ⟨wr.heap.size, 0, none⟩) (sC k) (sC k)) (Or.inl rfl)).to (below_drew (Below.refl _ _))
      have HST2 : Hid (St ((wr.alloc (.cells (madeCells #[.slice none 0 0, .int .i64 0] (sC k * 2)) 59)).setCell ⟨w.heap.size + 2, k, none⟩ (.slice (some ⟨wr.heap.size, 0, none⟩) (sC k) (sC k))).drew w.heap.size (w.heap.size + 2) (L ++ [(wr.heap.size, List.replicate (sC k) zT)])) := by
        have := (HST.out.add (by omega) (by rw [HLL.out]; exact hlt) (sC k)).to (below_drew (Below.refl _ _))
        rw [HLL.out] at this
        exact this
      have HWR : Hid (W.heap.size ≤ wr.heap.size) := HKR.out.size
      have HTZ2 : Hid (Thz ((wr.alloc (.cells (madeCells #[.slice none 0 0, .int .i64 0] (sC k * 2)) 59)).setCell ⟨w.heap.size + 2, k, none⟩ (.slice (some ⟨wr.heap.size, 0, none⟩) (sC k) (sC k))).drew (L ++ [(wr.heap.size, List.replicate (sC k) zT)])) := by
        have h1 := thz_keep HST.out HTZ.out (w' := ((wr.alloc (.cells (madeCells #[.slice none 0 0, .int .i64 0] (sC k * 2)) 59)).setCell ⟨w.heap.size + 2, k, none⟩ (.slice (some ⟨wr.heap.size, 0, none⟩) (sC k) (sC k))).drew) (fun b j hb => by
          show (World.setCell _ _ _).frozen? ⟨b, j, none⟩ = _
          rw [World.frozen?_setCell]
          exact newFrozen (from_alloc _ _) b j hb)
        intro p hp
        rcases List.mem_append.1 hp with e | e
        · exact h1 p e
        · simp at e; subst e
          intro t ht b hb
          have : t = zT := List.eq_of_mem_replicate ht
          subst this; exact absurd rfl hb.1
      clear HTZ HKR HST x3 tlk thk mk y3 ytl yth HBr xs
      generalize ((wr.alloc (.cells (madeCells #[.slice none 0 0, .int .i64 0] (sC k * 2)) 59)).setCell ⟨w.heap.size + 2, k, none⟩ (.slice (some ⟨wr.heap.size, 0, none⟩) (sC k) (sC k))).drew = V at *
      go_wp2_with fail
      go_loopw [30] (fun iv wr => CJz W w.heap.size (w.heap.size + 2) k K st iv wr) (fun iv _ => sC k - (intOf iv).toNat)
      case atStart =>
        refine ⟨0, _, (wr.heap.size, List.replicate (sC k) zT), by omega, rfl, by rw [List.length_append, HLL.out]; rfl, by rw [List.getElem?_append_right (by rw [HLL.out]; exact Nat.le_refl _), HLL.out]; simp, by simp, HST2.out, fun p hp => ?_, fun j p q hj hp hq => ?_, fun i s t hi => by omega, HKR2.out, HTZ2.out⟩
        · rcases List.mem_append.1 hp with e | e
          · exact HDK.out p e
          · simp at e; subst e
            refine ⟨HWR.out, fun t ht b o h1 h2 => ?_⟩
            have : t = zT := List.eq_of_mem_replicate ht
            subst this; exact absurd rfl h2
        · rw [List.getElem?_append_left (by rw [HLL.out]; exact hj)] at hq
          exact HAL.out j p q hp hq
      case round =>
        clear HST2 HKR2 HDK HAL HLL HWR HTZ2
        generalize hwo : wr = wo at *
        clear hwo
        obtain ⟨c, L2, p, hc, rfl, hL2, hLk, hpl, hst, hdk, hal, hac, hkr, htz⟩ := hrel
        have HST : Hid _ := hst
        have HTZ : Hid (Thz wo L2) := htz
        have HDK : Hid (Dk W.heap.size L2) := hdk
        have HAL : Hid (∀ (j : Nat) p q, j < k → K[j]? = some p → L2[j]? = some q → Alq p.2 q.2) := hal
        have HAC : Hid (∀ (i : Nat) s t, i < c → st[i]? = some s → p.2[i]? = some t → t.C = s.C ∧ t.n = s.n) := hac
        have HKR : Hid _ := hkr
        have HLK : Hid (L2[k]? = some p) := hLk
        have HL2 : Hid (L2.length = k + 1) := hL2
        have HPL : Hid (p.2.length = sC k) := hpl
        clear hst hdk hal hac hkr hLk hL2 hpl htz
        by_cases hcl : c < sC k
        · have a0 : 0 ≤ (k : Int) := by omega
          have a1 : (k : Int) < 32 := by omega
          have a2 : 0 ≤ (c : Int) := by omega
          have a3 : (c : Int) < (sC k : Int) := by omega
          have hks := HKR.out.size
          rw [HWs.out] at hks
          have hpK : p ∈ L2 := List.mem_of_getElem? HLK.out
          have hpl2 := HST.out.lie p hpK
          have hbig := (HDK.out p hpK).1
          rw [HWs.out] at hbig
          have x3 : wo.cell? ⟨w.heap.size + 3, 0, none⟩ = some (.slice (some ⟨w.heap.size + 2, 0, none⟩) 32 32) := by rw [HKR.out.cell _ _ (by rw [HWs.out]; omega) (by omega)]; exact HX3.out
          have xb : wo.cell? ⟨w.heap.size + 2, k, none⟩ = some (.slice (some ⟨p.1, 0, none⟩) (sC k) (sC k)) := by have := HST.out.hd k p HLK.out; rw [HPL.out] at this; exact this
          obtain ⟨t0, ht0⟩ : ∃ t0, p.2[c]? = some t0 := ⟨p.2[c]'(by rw [HPL.out]; exact hcl), List.getElem?_eq_getElem _⟩
          have z0 := HST.out.c0 p hpK c t0 ht0
          have z1 := HST.out.c1 p hpK c t0 ht0
          have zf0 := HST.out.th p hpK (c * 2)
          have zf1 := HST.out.th p hpK (c * 2 + 1)
          have HBo : Hid (Below w.heap.size w wo) := HBW.out.trans (HKR.out.below (B := w.heap.size) (by omega) (by rw [HWs.out]; omega))
          have hcs : c < st.length := by rw [HPS.out]; exact hcl
          have hgs := List.getElem?_eq_getElem hcs
          have HGS : Hid (st[c]? = some st[c]) := hgs
          obtain ⟨g0, g1, gs⟩ := HC0.out c _ hgs
          have hok := HPT.out _ (List.getElem_mem hcs)
          generalize st[c] = sT at *
          obtain ⟨sa, sc, sC', sn⟩ := sT
          simp only at g0 g1 gs hok
          have HSN : Hid (sC'.length = sV k) := hok.1
          rw [HSN.out] at g0
          have u0 : wo.cell? ⟨sb, c * 2, none⟩ = some (.slice sa (sV k) sc) := by rw [newCell HBo.out _ _ hlie]; exact g0
          have u1 : wo.cell? ⟨sb, c * 2 + 1, none⟩ = some (.int .i64 sn) := by rw [newCell HBo.out _ _ hlie]; exact g1
          have HSL : Hid (Sl w .u16 sa sC') := gs
          have hv := sV_le k hlt
          have hv1 := hv.1
          have hv2 := hv.2
          obtain ⟨pb, pt⟩ := p
          simp only at hpl2 hbig xb z0 z1 zf0 zf1 HPL HAC
          clear g0 g1 gs hgs hok hv
          have HBa : Hid (Below wo.heap.size wo (wo.alloc (.cells #[.slice sa (sV k) sc, .int .i64 sn] 59))) := from_alloc _ _
          have e0 : (wo.alloc (.cells #[.slice sa (sV k) sc, .int .i64 sn] 59)).cell? ⟨wo.heap.size, 0, none⟩ = some (.slice sa (sV k) sc) := by simp
          have e1 : (wo.alloc (.cells #[.slice sa (sV k) sc, .int .i64 sn] 59)).cell? ⟨wo.heap.size, 1, none⟩ = some (.int .i64 sn) := by simp
          have hxw : wo.heap.size < (wo.alloc (.cells #[.slice sa (sV k) sc, .int .i64 sn] 59)).heap.size := by simp
          go_wp2_with fail
          have HSTa : Hid (St (wo.alloc (.cells #[.slice sa (sV k) sc, .int .i64 sn] 59)) w.heap.size (w.heap.size + 2) L2) := HST.out.to HBa.out
          have HTZa : Hid (Thz (wo.alloc (.cells #[.slice sa (sV k) sc, .int .i64 sn] 59)) L2) := thz_keep HST.out HTZ.out (fun b j hb => newFrozen HBa.out b j hb)
          have HKRa : Hid (Kr (w.heap.size + 2) W (wo.alloc (.cells #[.slice sa (sV k) sc, .int .i64 sn] 59))) := HKR.out.to HBa.out
          have HSLa : Hid (Sl (wo.alloc (.cells #[.slice sa (sV k) sc, .int .i64 sn] 59)) .u16 sa sC') := HSL.out.to (below_to HBo.out HBa.out)
          have v3 : (wo.alloc (.cells #[.slice sa (sV k) sc, .int .i64 sn] 59)).cell? ⟨w.heap.size + 3, 0, none⟩ = some (.slice (some ⟨w.heap.size + 2, 0, none⟩) 32 32) := by rw [newCell HBa.out _ _ (by omega)]; exact x3
          have vb : (wo.alloc (.cells #[.slice sa (sV k) sc, .int .i64 sn] 59)).cell? ⟨w.heap.size + 2, k, none⟩ = some (.slice (some ⟨pb, 0, none⟩) (sC k) (sC k)) := by rw [newCell HBa.out _ _ (by omega)]; exact xb
          have vz0 : (wo.alloc (.cells #[.slice sa (sV k) sc, .int .i64 sn] 59)).cell? ⟨pb, c * 2, none⟩ = some (.slice t0.a t0.C.length t0.c) := by rw [newCell HBa.out _ _ hpl2.2.1]; exact z0
          have vz1 : (wo.alloc (.cells #[.slice sa (sV k) sc, .int .i64 sn] 59)).cell? ⟨pb, c * 2 + 1, none⟩ = some (.int .i64 t0.n) := by rw [newCell HBa.out _ _ hpl2.2.1]; exact z1
          have vf0 : (wo.alloc (.cells #[.slice sa (sV k) sc, .int .i64 sn] 59)).frozen? ⟨pb, c * 2, none⟩ = false := by rw [newFrozen HBa.out _ _ hpl2.2.1]; exact zf0
          have vf1 : (wo.alloc (.cells #[.slice sa (sV k) sc, .int .i64 sn] 59)).frozen? ⟨pb, c * 2 + 1, none⟩ = false := by rw [newFrozen HBa.out _ _ hpl2.2.1]; exact zf1
          have hpx : wo.heap.size ≠ pb := by have := hpl2.2.1; omega
          have hplt : pb < (wo.alloc (.cells #[.slice sa (sV k) sc, .int .i64 sn] 59)).heap.size := by have := hpl2.2.1; omega
          clear x3 xb z0 z1 zf0 zf1 u0 u1 HTZ HST HKR HBo HBa
          generalize wo.alloc (.cells #[.slice sa (sV k) sc, .int .i64 sn] 59) = V2 at *
          generalize wo.heap.size = x7 at *
          have HCL : Hid (∀ u, Below V2.heap.size V2 u → Calls Tryz.prog 48 #[.slice sa (sV k) sc] u fun e u' => ∃ g c', e = .returned (.slice (some ⟨g, 0, none⟩) (sV k) c') ∧ Ow u' V2.heap.size g (sV k) c' sC' ∧ Below V2.heap.size V2 u' ∧ u'.cell? ⟨w.heap.size + 3, 0, none⟩ = some (.slice (some ⟨w.heap.size + 2, 0, none⟩) 32 32) ∧ u'.cell? ⟨w.heap.size + 2, k, none⟩ = some (.slice (some ⟨pb, 0, none⟩) (sC k) (sC k)) ∧ u'.cell? ⟨x7, 0, none⟩ = some (.slice sa (sV k) sc) ∧ u'.cell? ⟨x7, 1, none⟩ = some (.int .i64 sn) ∧ u'.cell? ⟨pb, c * 2, none⟩ = some (.slice t0.a t0.C.length t0.c) ∧ u'.cell? ⟨pb, c * 2 + 1, none⟩ = some (.int .i64 t0.n) ∧ u'.frozen? ⟨pb, c * 2, none⟩ = false ∧ u'.frozen? ⟨pb, c * 2 + 1, none⟩ = false) := fun u hu => by
            have h1 := clone_some (c := sc) (HSLa.out.to hu) (by rw [HSN.out]; omega) (by rw [HSN.out]; omega)
            rw [HSN.out] at h1
            refine h1.mono fun e u' h => ?_
            obtain ⟨g, c', h2, h3, h4⟩ := h
            have hb := below_to hu h4
            exact ⟨g, c', h2, h3.mono hu.size, hb, by rw [newCell hb _ _ (by omega)]; exact v3, by rw [newCell hb _ _ (by omega)]; exact vb, by rw [newCell hb _ _ hxw]; exact e0, by rw [newCell hb _ _ hxw]; exact e1, by rw [newCell hb _ _ hplt]; exact vz0, by rw [newCell hb _ _ hplt]; exact vz1, by rw [newFrozen hb _ _ hplt]; exact vf0, by rw [newFrozen hb _ _ hplt]; exact vf1⟩
          have hbd : Below V2.heap.size V2 V2.drew := below_drew (Below.refl _ _)
          have d3 : V2.drew.cell? ⟨w.heap.size + 3, 0, none⟩ = some (.slice (some ⟨w.heap.size + 2, 0, none⟩) 32 32) := v3
          have db : V2.drew.cell? ⟨w.heap.size + 2, k, none⟩ = some (.slice (some ⟨pb, 0, none⟩) (sC k) (sC k)) := vb
          have d7 : V2.drew.cell? ⟨x7, 0, none⟩ = some (.slice sa (sV k) sc) := e0
          have d8 : V2.drew.cell? ⟨x7, 1, none⟩ = some (.int .i64 sn) := e1
          have n1 : w.heap.size + 3 ≠ pb := by omega
          have n2 : w.heap.size + 2 ≠ pb := by omega
          clear v3 vb vz0 vz1 vf0 vf1 e0 e1
          go_region_held3 (fun u => u.cell? ⟨w.heap.size + 3, 0, none⟩ = some (.slice (some ⟨w.heap.size + 2, 0, none⟩) 32 32) ∧ u.cell? ⟨w.heap.size + 2, k, none⟩ = some (.slice (some ⟨pb, 0, none⟩) (sC k) (sC k)) ∧ u.cell? ⟨x7, 0, none⟩ = some (.slice sa (sV k) sc) ∧ u.cell? ⟨x7, 1, none⟩ = some (.int .i64 sn)) (((try dsimp only); first | assumption | (refine ⟨?_, ?_, ?_, ?_⟩ <;> first | assumption | go_keep) | go_keep)) ((go_at_call 48; refine (HCL.out _ (by (repeat (first | with_reducible assumption | with_reducible refine below_drew ?_ | with_reducible refine below_alloc ?_ ?_ _ | with_reducible refine below_set ?_ ?_ _ | exact Nat.le_refl _ | exact Below.size (by assumption))))).mono ?_; rintro e w3 ⟨g, c', rfl, ho, hbw, q3, qb, q7, q8, z0, z1, zf0, zf1⟩; have y3 : ((w3.setCell ⟨pb, c * 2, none⟩ (.slice (some ⟨g, 0, none⟩) (sV k) c')).setCell ⟨pb, c * 2 + 1, none⟩ (.int .i64 sn)).cell? ⟨w.heap.size + 3, 0, none⟩ = some (.slice (some ⟨w.heap.size + 2, 0, none⟩) 32 32) := far2 n1 q3; have yb : ((w3.setCell ⟨pb, c * 2, none⟩ (.slice (some ⟨g, 0, none⟩) (sV k) c')).setCell ⟨pb, c * 2 + 1, none⟩ (.int .i64 sn)).cell? ⟨w.heap.size + 2, k, none⟩ = some (.slice (some ⟨pb, 0, none⟩) (sC k) (sC k)) := far2 n2 qb; have y7 : ((w3.setCell ⟨pb, c * 2, none⟩ (.slice (some ⟨g, 0, none⟩) (sV k) c')).setCell ⟨pb, c * 2 + 1, none⟩ (.int .i64 sn)).cell? ⟨x7, 0, none⟩ = some (.slice sa (sV k) sc) := far2 hpx q7; have y8 : ((w3.setCell ⟨pb, c * 2, none⟩ (.slice (some ⟨g, 0, none⟩) (sV k) c')).setCell ⟨pb, c * 2 + 1, none⟩ (.int .i64 sn)).cell? ⟨x7, 1, none⟩ = some (.int .i64 sn) := far2 hpx q8))
          have hgl : V2.heap.size ≤ g := ho.lies.1
          have hgap : ∀ b o, (some ⟨g, 0, none⟩ : Option Addr) = some ⟨b, o, none⟩ → sC' ≠ [] → b ≠ w.heap.size + 2 ∧ ∀ q ∈ L2, b ≠ q.1 := fun b o h1 _ => by
            simp only [Option.some.injEq, Addr.mk.injEq, and_true] at h1
            exact ⟨by omega, fun q hq => by have := (HSTa.out.lie q hq).2.1; omega⟩
          have HPUT : Hid (St ((w3.setCell ⟨pb, c * 2, none⟩ (.slice (some ⟨g, 0, none⟩) (sV k) c')).setCell ⟨pb, c * 2 + 1, none⟩ (.int .i64 sn)) w.heap.size (w.heap.size + 2) (L2.set k (pb, pt.set c ⟨some ⟨g, 0, none⟩, c', sC', sn⟩))) := by
            have := (HSTa.out.to hbw).put HLK.out (by rw [HPL.out]; exact hcl) ⟨some ⟨g, 0, none⟩, c', sC', sn⟩ ho.sl hgap
            simp only [HSN.out] at this
            exact this
          have HTZ3 : Hid (Thz ((w3.setCell ⟨pb, c * 2, none⟩ (.slice (some ⟨g, 0, none⟩) (sV k) c')).setCell ⟨pb, c * 2 + 1, none⟩ (.int .i64 sn)) (L2.set k (pb, pt.set c ⟨some ⟨g, 0, none⟩, c', sC', sn⟩))) := by
            have h1 := thz_keep HSTa.out HTZa.out (w' := (w3.setCell ⟨pb, c * 2, none⟩ (.slice (some ⟨g, 0, none⟩) (sV k) c')).setCell ⟨pb, c * 2 + 1, none⟩ (.int .i64 sn)) (fun b j hb => ((World.frozen?_setCell _ _ _ _).trans (World.frozen?_setCell _ _ _ _)).trans (newFrozen hbw b j hb))
            intro r hr
            rcases St.mem_set HLK.out hr with e | e
            · subst e
              intro t ht b hb j
              rcases List.mem_or_eq_of_mem_set ht with e2 | e2
              · exact h1 _ hpK t e2 b hb j
              · subst e2
                exact tbk_thaw (fun j => by rw [World.frozen?_setCell, World.frozen?_setCell]; exact ho.thaw j) b hb j
            · exact h1 r e
          have hWs : W.heap.size ≤ pb := by rw [HWs.out]; exact hbig
          have HKR3 : Hid (Kr (w.heap.size + 2) W ((w3.setCell ⟨pb, c * 2, none⟩ (.slice (some ⟨g, 0, none⟩) (sV k) c')).setCell ⟨pb, c * 2 + 1, none⟩ (.int .i64 sn))) := ((HKRa.out.to hbw).set ⟨pb, c * 2, none⟩ (.slice (some ⟨g, 0, none⟩) (sV k) c') (Or.inr hWs)).set ⟨pb, c * 2 + 1, none⟩ (.int .i64 sn) (Or.inr hWs)
          have HDK3 : Hid (Dk W.heap.size (L2.set k (pb, pt.set c ⟨some ⟨g, 0, none⟩, c', sC', sn⟩))) := fun r hr => by
            rcases St.mem_set HLK.out hr with e | e
            · subst e
              refine ⟨hWs, fun t ht b o h1 h2 => ?_⟩
              rcases List.mem_or_eq_of_mem_set ht with e2 | e2
              · exact (HDK.out _ hpK).2 t e2 b o h1 h2
              · subst e2
                simp only [Option.some.injEq, Addr.mk.injEq, and_true] at h1
                rw [HWs.out]; omega
            · exact HDK.out r e
          clear ho hbw q3 qb q7 q8 z0 z1 zf0 zf1 y3 yb y7 y8
          go_wp2_with fail
          go_roundw
          case rel =>
            refine ⟨c + 1, _, (pb, pt.set c ⟨some ⟨g, 0, none⟩, c', sC', sn⟩), by omega, by go_num, by rw [List.length_set]; exact HL2.out, by rw [List.getElem?_set_self (by rw [HL2.out]; omega)], by simp only [List.length_set]; exact HPL.out, HPUT.out, HDK3.out, fun j p q hj hp hq => ?_, fun m s t hm hs ht => ?_, HKR3.out, HTZ3.out⟩
            · rw [List.getElem?_set_ne (by omega)] at hq
              exact HAL.out j p q hj hp hq
            · simp only at ht
              rw [List.getElem?_set] at ht
              by_cases e : c = m
              · subst e
                rw [if_pos rfl, if_pos (by rw [HPL.out]; exact hcl)] at ht
                rw [HGS.out] at hs
                simp at ht hs; subst ht; subst hs; exact ⟨rfl, rfl⟩
              · rw [if_neg e] at ht
                exact HAC.out m s t (by omega) hs ht
          case measure => simp [intOf]; omega
        · have a3 : ¬ (c : Int) < (sC k : Int) := by omega
          have hcs : c = sC k := by omega
          go_wp2_with fail
          go_roundw
          case rel =>
            refine ⟨k + 1, L2, by omega, by go_num, HL2.out, HST.out, HDK.out, fun j p' q hp hq => ?_, HKR.out, HTZ.out⟩
            by_cases hj : j < k
            · exact HAL.out j p' q hj hp hq
            · have hjk : j = k := by
                have := (List.getElem?_eq_some_iff.1 hq).1
                rw [HL2.out] at this
                omega
              subst hjk
              rw [HLK.out] at hq
              rw [HGK.out] at hp
              simp only [Option.some.injEq] at hq hp
              subst hq hp
              refine ⟨by show p.2.length = st.length; rw [HPL.out, HPS.out], fun m s t hs ht => HAC.out m s t ?_ hs ht⟩
              have := (List.getElem?_eq_some_iff.1 ht).1
              rw [HPL.out] at this; omega
          case measure => simp [intOf]; omega
    · have hk' : k = 32 := by omega
      subst hk'
      have b1 : ¬ ((32 : Nat) : Int) < 32 := by omega
      go_wp2_with fail
      refine bodyPost_ret (v := .agg #[.slice (some ⟨w.heap.size + 2, 0, none⟩) 32 32]) (by simp [results, Tryz.results22, go_sem, x2]) rfl ⟨w.heap.size + 2, L, rfl, ?_, ⟨by rw [HLL.out, HOK.out.1], HAL.out⟩, HDK.out.mono (by rw [HWs.out]; omega), ?_, thz_keep HST.out HTZ.out (fun b j _ => World.frozen?_setCell _ _ _ _)⟩
      · refine HST.out.far _ _ (by simp) (fun p hp e => ?_) (fun p hp t ht b o h1 h2 e => ?_)
        · have := (HDK.out p hp).1; rw [HWs.out] at this; simp at e; omega
        · have := (HDK.out p hp).2 t ht b o h1 h2; rw [HWs.out] at this; simp at e; omega
      · exact below_set (HBW.out.trans (HKR.out.below (B := w.heap.size) (by omega) (by rw [HWs.out]; omega))) (by simp) _


variable {Z : Nat → Option Obj}
set_option maxRecDepth 100000 in
set_option maxHeartbeats 400000 in
theorem set_anyz {w : World} {lo x bt : Nat} {po pi : Value} {K : List (Nat × List Tb)} {ad : Bool} {cn : Int} {E : Nat → Prop} (h : Co Z w lo x po pi bt K ad cn E) (hsh : Sh w)
    (hno : ∀ u : World, Below w.heap.size w u → Calls Tryz.prog 19 #[.pointer (some ⟨x, 0, none⟩)] u fun e w' => e = .returned (.bool false) ∧ w' = u) :
    Calls Tryz.prog 6 #[.pointer (some ⟨x, 0, none⟩)] w fun e w' => SetNz w w' e K := by
  have HC : Hid (∀ v, Below w.heap.size w v → Co Z v lo x po pi bt K ad cn E) := fun v hv => h.to hv
  have HSh : Hid (∀ v, Below w.heap.size w v → Sh v) := fun v hv => hsh.to hv
  have HN : Hid (∀ u : World, Below w.heap.size w u → Calls Tryz.prog 19 #[.pointer (some ⟨x, 0, none⟩)] u fun e w' => e = .returned (.bool false) ∧ w' = u) := hno
  have HX : Hid (x < w.heap.size) := h.low
  clear h hsh hno
  go_enter Tryz.func6, Tryz.ntmps6
  go_wp2_with fail
  have HB1 : Hid (Below w.heap.size w (w.alloc (.cells #[.slice none 0 0] 29))) := (Below.refl _ _).alloc (Nat.le_refl _) _
  have HZ : Hid (w.heap.size < (w.alloc (.cells #[.slice none 0 0] 29)).heap.size) := by show _ < _; simp
  have c0 : (w.alloc (.cells #[.slice none 0 0] 29)).cell? ⟨w.heap.size, 0, none⟩ = some (.slice none 0 0) := by simp [go_sem]
  have c1 : (w.alloc (.cells #[.slice none 0 0] 29)).frozen? ⟨w.heap.size, 0, none⟩ = false := by simp [go_sem]
  generalize (w.alloc (.cells #[.slice none 0 0] 29)) = V at *
  refine (HN.out _ HB1.out).mono ?_
  rintro e w1 ⟨rfl, rfl⟩
  have q2 := (HC.out _ HB1.out).t
  go_wp2_with fail
  refine (scopy_z (cT := 32) (HSh.out _ HB1.out) (Su.of (HC.out _ HB1.out).st) (HC.out _ HB1.out).ok).mono ?_
  rintro e w2 ⟨b2, L2', rfl, hs2, ha2, hd2, hb2, hz2⟩
  have d0 : w2.cell? ⟨w.heap.size, 0, none⟩ = some (.slice none 0 0) := by rw [newCell hb2 _ _ HZ.out]; exact c0
  have d1 : w2.frozen? ⟨w.heap.size, 0, none⟩ = false := by rw [newFrozen hb2 _ _ HZ.out]; exact c1
  have HTZ : Hid (Thz (w2.setCell ⟨w.heap.size, 0, none⟩ (.slice (some ⟨b2, 0, none⟩) 32 32)) L2') := thz_keep hs2 hz2 (fun b j _ => World.frozen?_setCell _ _ _ _)
  have HW : Hid (w.heap.size < w1.heap.size) := HZ.out
  have HS2 : Hid (St w2 w1.heap.size b2 L2') := hs2
  have HA2 : Hid (Als K L2') := ha2
  have HD2 : Hid (Dk w1.heap.size L2') := hd2
  have HB2 : Hid (Below w.heap.size w w2) := HB1.out.trans (hb2.mono (Nat.le_of_lt HZ.out))
  clear hs2 ha2 hd2 hb2 hz2 c0 c1 q2
  go_wp2_with fail
  have HS3 : Hid (St (w2.setCell ⟨w.heap.size, 0, none⟩ (.slice (some ⟨b2, 0, none⟩) 32 32)) w.heap.size b2 L2') := by
    refine ((HS2.out.ke (P := fun b => b = w.heap.size) (Ke.set _ _ _ _ rfl) ?_).weak (Nat.le_of_lt HW.out))
    rintro b rfl hb
    rcases hb with e | ⟨p, hp, e | ⟨t, ht, h1, o, h2⟩⟩
    · have := HS2.out.blo; have := HW.out; omega
    · have := (HS2.out.lie p hp).1; have := HW.out; omega
    · have := (HD2.out p hp).2 t ht _ o h2 h1; have := HW.out; omega
  refine bodyPost_ret (v := .tuple #[.agg #[.slice (some ⟨b2, 0, none⟩) 32 32], .int .i64 0]) (by simp [results, Tryz.results6, go_sem, d0]) rfl ?_
  exact ⟨b2, L2', rfl, HS3.out, HA2.out, HD2.out.weak (Nat.le_of_lt HW.out), below_set HB2.out (by simp) _, HTZ.out⟩

/-- what a coder that writes tells of its set may be written -/
theorem set_wz {w : World} {lo x : Nat} {O : Nat → Prop} {S : Sx} {ad : Bool} {cn : Int} {T g k : Nat} (h : Wc w lo x O S ad cn T g k) (hsh : Sh w) :
    Calls Tryz.prog 6 #[.pointer (some ⟨x, 0, none⟩)] w fun e w' => ∃ bt B, e = .returned (.tuple #[.agg #[.slice (some ⟨bt, 0, none⟩) 32 32], .int .i64 0]) ∧ Hz w' w.heap.size bt B S ∧ Below w.heap.size w w' := by
  obtain ⟨bt, K, xe, d, h, rfl, _⟩ := h
  refine (set_anyz h.co hsh fun _ hu => none_w (h.co.to hu).o).mono ?_
  rintro e w' ⟨bt2, L, rfl, h1, h2, h3, h4, h5⟩
  exact ⟨bt2, _, rfl, ⟨_, L, Su.of h1, h2.okk h.co.ok, h3, als_ab h2, rfl, h5⟩, h4⟩

end Go.Proofs.YtppanogpeengnabGreatDoor

namespace Go.Proofs.YtppanogpeengnabGreatDoor
open Go.RowKit L3

set_option maxHeartbeats 1000000 in
theorem symbol_wkind {w : World} {x xd : Nat} {kk c v : Int} (h0 : w.cell? ⟨x, 0, none⟩ = some (.pointer (some ⟨xd, 0, none⟩))) (hk : kk < 0 ∨ 32 ≤ kk) : Calls Tryz.prog 4 #[.pointer (some ⟨x, 0, none⟩), .int .i64 kk, .int .i64 c, .int .i64 v] w fun e w' => e = .returned (.tuple #[.int .i64 0, .int .i64 41]) ∧ Below w.heap.size w w' := by
  go_enter Tryz.func4, Tryz.ntmps4
  go_wp2_with fail
  refine (none_w h0).mono ?_
  rintro e w1 ⟨rfl, rfl⟩
  go_wp2_with fail
  refine (shape_no hk).mono ?_
  rintro e w2 ⟨rfl, hb⟩
  have HB : Hid (Below w1.heap.size w1 w2) := hb
  clear hb
  go_wp2_with fail
  refine bodyPost_ret (v := .tuple #[.int .i64 0, .int .i64 41]) (by simp [results, Tryz.results4, go_sem]) rfl ⟨rfl, HB.out⟩
set_option maxHeartbeats 1000000 in
theorem symbol_wctx {w : World} {x xd : Nat} {kk : Nat} {c v : Int} (hsh : Sh w) (hlt : x < w.heap.size) (h0 : w.cell? ⟨x, 0, none⟩ = some (.pointer (some ⟨xd, 0, none⟩))) (hk : kk < 32) (h : c < 0 ∨ (sC kk : Int) ≤ c) : Calls Tryz.prog 4 #[.pointer (some ⟨x, 0, none⟩), .int .i64 kk, .int .i64 c, .int .i64 v] w fun e w' => e = .returned (.tuple #[.int .i64 0, .int .i64 2]) ∧ Below w.heap.size w w' := by
  by_cases hc : c < 0
  · go_enter Tryz.func4, Tryz.ntmps4
    go_wp2_with fail
    refine (none_w h0).mono ?_
    rintro e w1 ⟨rfl, rfl⟩
    go_wp2_with fail
    refine (shape_ok hsh hk).mono ?_
    rintro e w2 ⟨rfl, hb⟩
    have HB : Hid (Below w1.heap.size w1 w2) := hb
    clear hb
    go_wp2_with fail
    refine bodyPost_ret (v := .tuple #[.int .i64 0, .int .i64 2]) (by simp [results, Tryz.results4, go_sem]) rfl ⟨rfl, HB.out⟩
  · have h2 : (sC kk : Int) ≤ c := by omega
    go_enter Tryz.func4, Tryz.ntmps4
    go_wp2_with fail
    refine (none_w h0).mono ?_
    rintro e w1 ⟨rfl, rfl⟩
    go_wp2_with fail
    refine (shape_ok hsh hk).mono ?_
    rintro e w2 ⟨rfl, hb⟩
    have HB : Hid (Below w1.heap.size w1 w2) := hb
    clear hb
    go_wp2_with fail
    refine bodyPost_ret (v := .tuple #[.int .i64 0, .int .i64 2]) (by simp [results, Tryz.results4, go_sem]) rfl ⟨rfl, HB.out⟩
set_option maxHeartbeats 1000000 in
theorem bits_wctx {w : World} {x xd : Nat} {n v : Int} (h0 : w.cell? ⟨x, 0, none⟩ = some (.pointer (some ⟨xd, 0, none⟩))) (h : n < 0 ∨ 30 < n) : Calls Tryz.prog 5 #[.pointer (some ⟨x, 0, none⟩), .int .i64 n, .int .i64 v] w fun e w' => e = .returned (.tuple #[.int .i64 0, .int .i64 2]) ∧ w' = w := by
  by_cases hc : n < 0
  · go_enter Tryz.func5, Tryz.ntmps5
    go_wp2_with fail
    refine (none_w h0).mono ?_
    rintro e w1 ⟨rfl, rfl⟩
    go_wp2_with fail
    refine bodyPost_ret (v := .tuple #[.int .i64 0, .int .i64 2]) (by simp [results, Tryz.results5, go_sem]) rfl ⟨rfl, rfl⟩
  · have h2 : 30 < n := by omega
    go_enter Tryz.func5, Tryz.ntmps5
    go_wp2_with fail
    refine (none_w h0).mono ?_
    rintro e w1 ⟨rfl, rfl⟩
    go_wp2_with fail
    refine bodyPost_ret (v := .tuple #[.int .i64 0, .int .i64 2]) (by simp [results, Tryz.results5, go_sem]) rfl ⟨rfl, rfl⟩
set_option maxHeartbeats 2000000 in
theorem symbol_wval {w : World} {x xd : Nat} {kk c : Nat} {v : Int} (hsh : Sh w) (hlt : x < w.heap.size) (h0 : w.cell? ⟨x, 0, none⟩ = some (.pointer (some ⟨xd, 0, none⟩))) (hk : kk < 32) (hc : c < sC kk) (h : v < 0 ∨ (sV kk : Int) ≤ v) : Calls Tryz.prog 4 #[.pointer (some ⟨x, 0, none⟩), .int .i64 kk, .int .i64 c, .int .i64 v] w fun e w' => e = .returned (.tuple #[.int .i64 0, .int .i64 2]) ∧ Below w.heap.size w w' := by
  have b0 : ¬ (c : Int) < 0 := by omega
  have b1 : ¬ (sC kk : Int) ≤ (c : Int) := by omega
  by_cases hv : v < 0
  · go_enter Tryz.func4, Tryz.ntmps4
    go_wp2_with fail
    refine (none_w h0).mono ?_
    rintro e w1 ⟨rfl, rfl⟩
    go_wp2_with fail
    refine (shape_ok hsh hk).mono ?_
    rintro e w2 ⟨rfl, hb⟩
    have HB : Hid (Below w1.heap.size w1 w2) := hb
    have q0 : w2.cell? ⟨x, 0, none⟩ = some (.pointer (some ⟨xd, 0, none⟩)) := by rw [newCell hb _ _ hlt]; exact h0
    clear hb
    go_wp2_with fail
    refine (writes_w q0).mono ?_
    rintro e w3 ⟨rfl, rfl⟩
    go_wp2_with fail
    refine bodyPost_ret (v := .tuple #[.int .i64 0, .int .i64 2]) (by simp [results, Tryz.results4, go_sem]) rfl ⟨rfl, HB.out⟩
  · have h2 : (sV kk : Int) ≤ v := by omega
    go_enter Tryz.func4, Tryz.ntmps4
    go_wp2_with fail
    refine (none_w h0).mono ?_
    rintro e w1 ⟨rfl, rfl⟩
    go_wp2_with fail
    refine (shape_ok hsh hk).mono ?_
    rintro e w2 ⟨rfl, hb⟩
    have HB : Hid (Below w1.heap.size w1 w2) := hb
    have q0 : w2.cell? ⟨x, 0, none⟩ = some (.pointer (some ⟨xd, 0, none⟩)) := by rw [newCell hb _ _ hlt]; exact h0
    clear hb
    go_wp2_with fail
    refine (writes_w q0).mono ?_
    rintro e w3 ⟨rfl, rfl⟩
    go_wp2_with fail
    refine bodyPost_ret (v := .tuple #[.int .i64 0, .int .i64 2]) (by simp [results, Tryz.results4, go_sem]) rfl ⟨rfl, HB.out⟩
set_option maxHeartbeats 2000000 in
theorem bits_wval {w : World} {x xd n P : Nat} {v : Int} (h0 : w.cell? ⟨x, 0, none⟩ = some (.pointer (some ⟨xd, 0, none⟩))) (hn : n ≤ 30) (hP : P = 2 ^ n) (h : v < 0 ∨ (P : Int) ≤ v) : Calls Tryz.prog 5 #[.pointer (some ⟨x, 0, none⟩), .int .i64 n, .int .i64 v] w fun e w' => e = .returned (.tuple #[.int .i64 0, .int .i64 2]) ∧ w' = w := by
  have hp30 : P ≤ 2 ^ 30 := by rw [hP]; exact Nat.pow_le_pow_right (by omega) hn
  have hP1 : (1 : Int) * 2 ^ n = (P : Int) := by rw [hP]; simp
  have b0 : ¬ (n : Int) < 0 := by omega
  have b1 : ¬ (30 : Int) < (n : Int) := by omega
  have b4 : (n : Int) ≤ 30 := by omega
  have b5 : (P : Int) ≤ 1073741824 := by omega
  have b6 : (0 : Int) ≤ (P : Int) := by omega
  clear hp30 hP hn
  by_cases hv : v < 0
  · go_enter Tryz.func5, Tryz.ntmps5
    go_wp2_with fail
    refine (none_w h0).mono ?_
    rintro e w1 ⟨rfl, rfl⟩
    go_wp2_with fail
    refine (writes_w h0).mono ?_
    rintro e w2 ⟨rfl, rfl⟩
    go_wp2_with fail
    refine bodyPost_ret (v := .tuple #[.int .i64 0, .int .i64 2]) (by simp [results, Tryz.results5, go_sem]) rfl ⟨rfl, rfl⟩
  · have h2 : (P : Int) ≤ v := by omega
    go_enter Tryz.func5, Tryz.ntmps5
    go_wp2_with fail
    refine (none_w h0).mono ?_
    rintro e w1 ⟨rfl, rfl⟩
    go_wp2_with fail
    refine (writes_w h0).mono ?_
    rintro e w2 ⟨rfl, rfl⟩
    go_wp2_with fail
    refine bodyPost_ret (v := .tuple #[.int .i64 0, .int .i64 2]) (by simp [results, Tryz.results5, go_sem]) rfl ⟨rfl, rfl⟩

end Go.Proofs.YtppanogpeengnabGreatDoor

namespace Go.Proofs.YtppanogpeengnabGreatDoor
open Go.RowKit L3

theorem Wc.raw {w : World} {lo x : Nat} {O : Nat → Prop} {S : Sx} {ad : Bool} {n : Int} {p c g : Nat} (h : Wc w lo x O S ad n p c g) : ∃ xd, w.cell? ⟨x, 0, none⟩ = some (.pointer (some ⟨xd, 0, none⟩)) ∧ x < w.heap.size := by
  obtain ⟨bt, K, xe, d, h, _⟩ := h; exact ⟨xe, h.co.o, h.co.low⟩
theorem Fw.raw {w : World} {lo x : Nat} {O : Nat → Prop} {S : Sx} {ad : Bool} {n : Int} {p c g : Nat} (h : Fw w lo x O S ad n p c g) : ∃ xe, w.cell? ⟨x, 0, none⟩ = some (.pointer (some ⟨xe, 0, none⟩)) ∧ w.cell? ⟨x, 4, none⟩ = some (.int .i64 n) ∧ x < w.heap.size ∧ O x := by
  obtain ⟨bt, cT, B, xe, d, h, rfl⟩ := h; exact ⟨xe, h.c0, h.c4, h.low, Or.inl rfl⟩
/-- what one call leaves on both sides -/
structure Siw (w : World) (lo x : Nat) (O : Nat → Prop) (S : Sx) (ad : Bool) (n : Int) (p c g : Nat) (f f2 : Nat) (xs : List Value) (r er : Int) (S' : Sx) (n' : Int) (p' c' g' : Nat) : Prop where
  bn : n ≤ n' ∧ n' ≤ n + 30
  bp : g' ≤ g + 60
  prog : Calls Tryz.prog f (#[.pointer (some ⟨x, 0, none⟩)] ++ xs.toArray) w fun e w' => e = .returned (.tuple #[.int .i64 r, .int .i64 er]) ∧ ∃ O', Wc w' lo x O' S' ad n' p' c' g' ∧ Trn O O' w w' ∧ Below lo w w'
  doc : ∀ u lo2 x2 O2, Fw u lo2 x2 O2 S ad n p c g → Calls Tryz.prog f2 (#[.pointer (some ⟨x2, 0, none⟩)] ++ xs.toArray) u fun e w' => e = .returned (.tuple #[.int .i64 r, .int .i64 er]) ∧ StF u w' lo2 x2 O2 S' ad n' p' c' g'
theorem stf_of {u w' : World} {lo2 x2 : Nat} {O2 : Nat → Prop} {S : Sx} {ad : Bool} {n : Int} {p c g : Nat} (h : Fw u lo2 x2 O2 S ad n p c g) (hb : Below u.heap.size u w') : StF u w' lo2 x2 O2 S ad n p c g := ⟨O2, h.to hb, Trn.of hb⟩
theorem siw_symbol {w : World} {lo x : Nat} {O : Nat → Prop} {S : Sx} {ad : Bool} {n : Int} {p cd g : Nat} (h : Wc w lo x O S ad n p cd g) (hsh : Sh w) (hlo : lo ≤ w.heap.size) (hp : g ≤ 1000000000) (hn0 : 0 ≤ n) (hn1 : n ≤ 1000000000) (kk c v : Int) :
    ∃ r er S' n' p' c' g', Siw w lo x O S ad n p cd g 4 57 [.int .i64 kk, .int .i64 c, .int .i64 v] r er S' n' p' c' g' := by
  obtain ⟨xd, h0, hl⟩ := h.raw
  by_cases hk : kk < 0 ∨ 32 ≤ kk
  · refine ⟨0, 41, S, n, p, cd, g, ⟨by omega, by omega⟩, by omega, ?_, fun u lo2 x2 O2 hu => ?_⟩
    · refine (symbol_wkind h0 hk).mono ?_
      rintro e w' ⟨rfl, hb⟩
      exact ⟨rfl, O, h.to hb, Trn.of hb, hb.mono hlo⟩
    · refine (rsymbol_kind hk).mono ?_
      rintro e w' ⟨rfl, hb⟩
      exact ⟨rfl, stf_of hu hb⟩
  · obtain ⟨k, rfl⟩ : ∃ k : Nat, kk = (k : Int) := ⟨kk.toNat, by omega⟩
    have hk' : k < 32 := by omega
    by_cases hc : c < 0 ∨ (sC k : Int) ≤ c
    · refine ⟨0, 2, S, n, p, cd, g, ⟨by omega, by omega⟩, by omega, ?_, fun u lo2 x2 O2 hu => ?_⟩
      · refine (symbol_wctx hsh hl h0 hk' hc).mono ?_
        rintro e w' ⟨rfl, hb⟩
        exact ⟨rfl, O, h.to hb, Trn.of hb, hb.mono hlo⟩
      · obtain ⟨xe, u0, _, u2, _⟩ := hu.raw
        refine (rsymbol_arg u0 u2 hk' (by omega)).mono ?_
        rintro e w' ⟨rfl, hb⟩
        exact ⟨rfl, stf_of hu hb⟩
    · obtain ⟨cx, rfl⟩ : ∃ cx : Nat, c = (cx : Int) := ⟨c.toNat, by omega⟩
      have hc' : cx < sC k := by omega
      by_cases hv : v < 0 ∨ (sV k : Int) ≤ v
      · refine ⟨0, 2, S, n, p, cd, g, ⟨by omega, by omega⟩, by omega, ?_, fun u lo2 x2 O2 hu => ?_⟩
        · refine (symbol_wval hsh hl h0 hk' hc' hv).mono ?_
          rintro e w' ⟨rfl, hb⟩
          exact ⟨rfl, O, h.to hb, Trn.of hb, hb.mono hlo⟩
        · obtain ⟨xe, u0, _, u2, _⟩ := hu.raw
          refine (rsymbol_arg u0 u2 hk' (by omega)).mono ?_
          rintro e w' ⟨rfl, hb⟩
          exact ⟨rfl, stf_of hu hb⟩
      · obtain ⟨s, rfl⟩ : ∃ s : Nat, v = (s : Int) := ⟨v.toNat, by omega⟩
        have hs : s < sV k := by omega
        obtain ⟨t1, t2⟩ := h.ok.at hk' hc'
        have hsl : s < (tb S k cx).1.length := by rw [t1]; exact hs
        have hee := eb_ee t2 hsl
        have ok := (L2.ePut_ok h.ev (show eb (tb S k cx).1 s < ee (tb S k cx).1 s by omega) (ee_le t2 hsl)).2
        refine ⟨s, 0, upd S ad k cx s, n + 1, (L2.ePut p cd g (eb (tb S k cx).1 s) (ee (tb S k cx).1 s)).1, (L2.ePut p cd g (eb (tb S k cx).1 s) (ee (tb S k cx).1 s)).2.1, (L2.ePut p cd g (eb (tb S k cx).1 s) (ee (tb S k cx).1 s)).2.2, ⟨by omega, by omega⟩, by omega, ?_, fun u lo2 x2 O2 hu => ?_⟩
        · exact symbol_wc h hsh (by omega) hn0 (by omega) hk' hc' hs
        · exact rsymbol_f hu (by omega) hn0 (by omega) hk' hc' hs rfl rfl
theorem siw_bits {w : World} {lo x : Nat} {O : Nat → Prop} {S : Sx} {ad : Bool} {n : Int} {p cd g : Nat} (h : Wc w lo x O S ad n p cd g) (hlo : lo ≤ w.heap.size) (hp : g ≤ 1000000000) (hn0 : 0 ≤ n) (hn1 : n ≤ 1000000000) (m v : Int) :
    ∃ r er S' n' p' c' g', Siw w lo x O S ad n p cd g 5 60 [.int .i64 m, .int .i64 v] r er S' n' p' c' g' := by
  obtain ⟨xd, h0, hl⟩ := h.raw
  by_cases hm : m < 0 ∨ 30 < m
  · refine ⟨0, 2, S, n, p, cd, g, ⟨by omega, by omega⟩, by omega, ?_, fun u lo2 x2 O2 hu => ?_⟩
    · refine (bits_wctx h0 hm).mono ?_
      rintro e w' ⟨rfl, rfl⟩
      exact ⟨rfl, O, h, Trn.of (Below.refl _ _), Below.refl _ _⟩
    · obtain ⟨xe, u0, _⟩ := hu.raw
      refine (rbits_arg u0 (by omega)).mono ?_
      rintro e w' ⟨rfl, rfl⟩
      exact ⟨rfl, stf_of hu (Below.refl _ _)⟩
  · obtain ⟨j, rfl⟩ : ∃ j : Nat, m = (j : Int) := ⟨m.toNat, by omega⟩
    have hj : j ≤ 30 := by omega
    obtain ⟨P, hP⟩ : ∃ P, P = 2 ^ j := ⟨_, rfl⟩
    by_cases hv : v < 0 ∨ (P : Int) ≤ v
    · refine ⟨0, 2, S, n, p, cd, g, ⟨by omega, by omega⟩, by omega, ?_, fun u lo2 x2 O2 hu => ?_⟩
      · refine (bits_wval h0 hj hP hv).mono ?_
        rintro e w' ⟨rfl, rfl⟩
        exact ⟨rfl, O, h, Trn.of (Below.refl _ _), Below.refl _ _⟩
      · obtain ⟨xe, u0, _⟩ := hu.raw
        refine (rbits_arg u0 (by rw [Int.toNat_natCast, ← hP]; omega)).mono ?_
        rintro e w' ⟨rfl, rfl⟩
        exact ⟨rfl, stf_of hu (Below.refl _ _)⟩
    · obtain ⟨s, rfl⟩ : ∃ s : Nat, v = (s : Int) := ⟨v.toNat, by omega⟩
      have hs : s < P := by omega
      have ok := (eBs_ok h.ev s j j).2
      refine ⟨s, 0, S, n + j, (eBs p cd g s j j).1, (eBs p cd g s j j).2.1, (eBs p cd g s j j).2.2, ⟨by omega, by omega⟩, by omega, ?_, fun u lo2 x2 O2 hu => ?_⟩
      · exact bits_wc h (by omega) hn0 (by omega) hj hP hs
      · exact rbits_f hu (by omega) hn0 (by omega) hj hP hs

/-- both writers, side by side -/
structure Bw (w : World) (lo x lo2 x2 : Nat) (ad : Bool) (i : Nat) (S : Sx) : Prop where
  ex : ∃ (O O2 : Nat → Prop) (n : Int) (p c g : Nat), Wc w lo x O S ad n p c g ∧ Fw w lo2 x2 O2 S ad n p c g ∧ (∀ y, O y → ¬ O2 y) ∧ 0 ≤ n ∧ n ≤ 30 * i ∧ g ≤ 60 * i ∧ lo ≤ lo2 ∧ lo ≤ w.heap.size
def StW (w w' : World) (lo x lo2 x2 : Nat) (ad : Bool) (i : Nat) : Prop := ∃ S, Bw w' lo x lo2 x2 ad i S ∧ Below lo w w'

set_option maxRecDepth 100000 in
set_option maxHeartbeats 4000000 in
theorem step_w {w : World} {lo x lo2 x2 : Nat} {ad : Bool} {i : Nat} {S : Sx} (h : Bw w lo x lo2 x2 ad i S) (hi : i < 1000) (hsh : ∀ v, Below lo w v → Sh v) (d : Dx) :
    Calls Tryz.prog 37 #[.pointer (some ⟨x, 0, none⟩), .pointer (some ⟨x2, 0, none⟩), .agg #[.bool d.b, .int .i64 d.n, .int .i64 d.k, .int .i64 d.c, .int .i64 d.v]] w fun e w' => e = .returned (.bool true) ∧ StW w w' lo x lo2 x2 ad (i + 1) := by
  obtain ⟨O, O2, n, p, c, g, hr, hf, hdj, hn0, hn1, hpb, hl2, hlw⟩ := h
  obtain ⟨db, dn, dk, dc, dv⟩ := d
  have HB0 : Hid (Below w.heap.size w (w.alloc (.cells #[.bool db, .int .i64 dn, .int .i64 dk, .int .i64 dc, .int .i64 dv] 49))) := from_alloc _ _
  have HL0 : Hid (w.heap.size < (w.alloc (.cells #[.bool db, .int .i64 dn, .int .i64 dk, .int .i64 dc, .int .i64 dv] 49)).heap.size) := by show _ < _; simp
  have HX : Hid (∀ v : World, v.heap[w.heap.size]? = (w.alloc (.cells #[.bool db, .int .i64 dn, .int .i64 dk, .int .i64 dc, .int .i64 dv] 49)).heap[w.heap.size]? → v.cell? ⟨w.heap.size, 0, none⟩ = some (.bool db) ∧ v.cell? ⟨w.heap.size, 1, none⟩ = some (.int .i64 dn) ∧ v.cell? ⟨w.heap.size, 2, none⟩ = some (.int .i64 dk) ∧ v.cell? ⟨w.heap.size, 3, none⟩ = some (.int .i64 dc) ∧ v.cell? ⟨w.heap.size, 4, none⟩ = some (.int .i64 dv)) := fun v hv => by
    rw [heap_new] at hv
    refine ⟨?_, ?_, ?_, ?_, ?_⟩ <;> (rw [cell_of hv]; rfl)
  obtain ⟨y0, y1, y2, y3, y4⟩ := HX.out _ rfl
  have HR : Hid (Wc (w.alloc (.cells #[.bool db, .int .i64 dn, .int .i64 dk, .int .i64 dc, .int .i64 dv] 49)) lo x O S ad n p c g) := hr.to HB0.out
  have HF : Hid (Fw (w.alloc (.cells #[.bool db, .int .i64 dn, .int .i64 dk, .int .i64 dc, .int .i64 dv] 49)) lo2 x2 O2 S ad n p c g) := hf.to HB0.out
  have HNO : Hid (¬ O w.heap.size ∧ ¬ O2 w.heap.size) := ⟨fun e => by have := hr.lt e; omega, fun e => by have := (hf.lt e).2; omega⟩
  have HDj : Hid (∀ y, O y → ¬ O2 y) := hdj
  have HNum : Hid (0 ≤ n ∧ n ≤ 30 * i ∧ g ≤ 60 * i ∧ lo ≤ lo2 ∧ lo ≤ w.heap.size ∧ i < 1000) := ⟨hn0, hn1, hpb, hl2, hlw, hi⟩
  have HSh : Hid (∀ v, Below lo w v → Sh v) := hsh
  clear hr hf hdj hn0 hn1 hpb hl2 hlw hsh hi
  have HLa : Hid (lo ≤ (w.alloc (.cells #[.bool db, .int .i64 dn, .int .i64 dk, .int .i64 dc, .int .i64 dv] 49)).heap.size) := Nat.le_trans HNum.out.2.2.2.2.1 HB0.out.size
  go_enter Tryz.func37, Tryz.ntmps37
  go_upto_region 1 with fail
  generalize w.alloc (.cells #[.bool db, .int .i64 dn, .int .i64 dk, .int .i64 dc, .int .i64 dv] 49) = V at *
  have HAft : Hid (∀ (r er : Int) (S' : Sx) (n' : Int) (p' c' g' : Nat) (w1 w2 : World) (O1 O3 : Nat → Prop), (n ≤ n' ∧ n' ≤ n + 30) → g' ≤ g + 60 → Wc w1 lo x O1 S' ad n' p' c' g' → Trn O O1 V w1 → Below lo V w1 → Fw w2 lo2 x2 O3 S' ad n' p' c' g' → Trn O2 O3 w1 w2 → Wc w2 lo x O1 S' ad n' p' c' g' ∧ StW w w2 lo x lo2 x2 ad (i + 1)) := fun r er S' n' p' c' g' w1 w2 O1 O3 i1 i2 i3 i4 i5 i6 i7 => by
    have hnum := HNum.out
    have hF1 : Fw w1 lo2 x2 O2 S ad n p c g := HF.out.ke i4.ke (fun y e => HDj.out y e)
    have hO1 : ∀ y, O1 y → ¬ O2 y := fun y e e2 => by
      rcases i4.new y e with e3 | e3
      · exact HDj.out y e3 e2
      · have := (HF.out.lt e2).2; omega
    have hR2 : Wc w2 lo x O1 S' ad n' p' c' g' := i3.ke i7.ke (fun y e e2 => hO1 y e2 e)
    have hb7 : Below lo w1 w2 := i7.ke.below (fun y e => Nat.le_trans hnum.2.2.2.1 (HF.out.lt e).1) (Nat.le_trans HLa.out i5.size)
    have hbw : Below lo w w2 := ((HB0.out.mono hnum.2.2.2.2.1).trans i5).trans hb7
    refine ⟨hR2, S', ⟨O1, O3, n', p', c', g', hR2, i6, fun y e e2 => ?_, by omega, by omega, by omega, hnum.2.2.2.1, Nat.le_trans hnum.2.2.2.2.1 hbw.size⟩, hbw⟩
    rcases i7.new y e2 with e3 | e3
    · exact hO1 y e e3
    · have := i3.lt e; omega
  have HSim1 : Hid (∃ r er S' n' p' c' g', Siw V lo x O S ad n p c g 5 60 [.int .i64 dn, .int .i64 dv] r er S' n' p' c' g') := by
    have hnum := HNum.out
    exact siw_bits HR.out HLa.out (by omega) (by omega) (by omega) dn dv
  have HSim2 : Hid (∃ r er S' n' p' c' g', Siw V lo x O S ad n p c g 4 57 [.int .i64 dk, .int .i64 dc, .int .i64 dv] r er S' n' p' c' g') := by
    have hnum := HNum.out
    exact siw_symbol HR.out (HSh.out _ (HB0.out.mono hnum.2.2.2.2.1)) HLa.out (by omega) (by omega) (by omega) dk dc dv
  have HFx : Hid (∀ w1 O1, Trn O O1 V w1 → Fw w1 lo2 x2 O2 S ad n p c g ∧ w1.heap[w.heap.size]? = V.heap[w.heap.size]?) := fun w1 O1 ht => ⟨HF.out.ke ht.ke (fun y e => HDj.out y e), ht.ke.block _ HL0.out HNO.out.1⟩
  have HFy : Hid (∀ w1 w2 O3, Trn O2 O3 w1 w2 → V.heap.size ≤ w1.heap.size → w2.heap[w.heap.size]? = w1.heap[w.heap.size]?) := fun w1 w2 O3 ht hz => ht.ke.block _ (Nat.lt_of_lt_of_le HL0.out hz) HNO.out.2
  cases db
  · obtain ⟨r, er, S', n', p', c', g', hs⟩ := HSim2.out
    have HS : Hid (Siw V lo x O S ad n p c g 4 57 [.int .i64 dk, .int .i64 dc, .int .i64 dv] r er S' n' p' c' g') := hs
    have HP : Hid (Calls Tryz.prog 4 #[.pointer (some ⟨x, 0, none⟩), .int .i64 dk, .int .i64 dc, .int .i64 dv] V fun e w' => e = .returned (.tuple #[.int .i64 r, .int .i64 er]) ∧ ∃ O', Wc w' lo x O' S' ad n' p' c' g' ∧ Trn O O' V w' ∧ Below lo V w') := hs.prog
    have HD : Hid (∀ u, Fw u lo2 x2 O2 S ad n p c g → Calls Tryz.prog 57 #[.pointer (some ⟨x2, 0, none⟩), .int .i64 dk, .int .i64 dc, .int .i64 dv] u fun e w' => e = .returned (.tuple #[.int .i64 r, .int .i64 er]) ∧ StF u w' lo2 x2 O2 S' ad n' p' c' g') := fun u hu => hs.doc u lo2 x2 O2 hu
    clear hs
    go_wp2_with fail
    refine HP.out.mono ?_
    rintro e w1 ⟨rfl, O1, hr1, ht1, hb1⟩
    obtain ⟨hf1, hx1⟩ := HFx.out w1 O1 ht1
    obtain ⟨-, -, z2, z3, z4⟩ := HX.out w1 hx1
    have HR1 : Hid (Wc w1 lo x O1 S' ad n' p' c' g') := hr1
    have HT1 : Hid (Trn O O1 V w1) := ht1
    have HB1 : Hid (Below lo V w1) := hb1
    have HF1 : Hid (Fw w1 lo2 x2 O2 S ad n p c g) := hf1
    clear hr1 ht1 hb1 hf1 hx1 y0 y1 y2 y3 y4
    go_wp2_with fail
    refine (HD.out _ HF1.out).mono ?_
    rintro e w2 ⟨rfl, O3, hf2, ht2⟩
    obtain ⟨hR2, hfin⟩ := HAft.out r er S' n' p' c' g' w1 w2 O1 O3 HS.out.bn HS.out.bp HR1.out HT1.out HB1.out hf2 ht2
    have HFin : Hid (StW w w2 lo x lo2 x2 ad (i + 1)) := hfin
    have HC : Hid (∀ u, Below w2.heap.size w2 u → Calls Tryz.prog 9 #[.pointer (some ⟨x, 0, none⟩)] u fun e w' => e = .returned (.int .i64 n') ∧ w' = u) := fun u hu => count_wc (hR2.to hu)
    have HKp : Hid (∀ u, Below w2.heap.size w2 u → u.cell? ⟨x2, 4, none⟩ = some (.int .i64 n')) := fun u hu => (by obtain ⟨_, _, e, _⟩ := (hf2.to hu).raw; exact e)
    have t1 : ((r : Int) == r) = true := by simp
    have t2 : ((er : Int) == er) = true := by simp
    have t3 : ((n' : Int) == n') = true := by simp
    have hbd : Below w2.heap.size w2 w2.drew := below_drew (Below.refl _ _)
    have HEnd : Hid (∀ u, u.heap = w2.heap → u.os = w2.os → u.tape = w2.tape → u.output = w2.output → StW w u lo x lo2 x2 ad (i + 1)) := fun u e1 e2 e3 e4 => by
      obtain ⟨S9, ⟨O9, O9b, n9, p9, c9, g9, k1, k2, k3, k4, k5, k6, k7, k8⟩, kb⟩ := HFin.out
      have hu : Below w2.heap.size w2 u := ⟨e2, e3, e4, by rw [e1]; exact Nat.le_refl _, fun k _ => by rw [e1]⟩
      exact ⟨S9, ⟨O9, O9b, n9, p9, c9, g9, k1.to hu, k2.to hu, k3, k4, k5, k6, k7, by rw [e1]; exact k8⟩, kb.trans (hu.mono k8)⟩
    clear hR2 hfin hf2 ht2 z2 z3 z4
    go_wp2_with fail
    go_region_held3 (fun u => u.cell? ⟨x2, 4, none⟩ = some (.int .i64 n'))
      ((exact HKp.out _ (by assumption)))
      ((go_at_call 9; refine (HC.out _ (by assumption)).mono ?_; rintro e wC ⟨rfl, hwC⟩; have hzC : Below w2.heap.size w2 wC := (by rw [hwC]; assumption)))
    all_goals
      go_wp2_with fail
      refine bodyPost_ret (v := .bool true) (by simp [results, Tryz.results37, go_sem]) rfl ⟨rfl, ?_⟩
      exact HEnd.out _ rfl rfl rfl rfl
  · obtain ⟨r, er, S', n', p', c', g', hs⟩ := HSim1.out
    have HS : Hid (Siw V lo x O S ad n p c g 5 60 [.int .i64 dn, .int .i64 dv] r er S' n' p' c' g') := hs
    have HP : Hid (Calls Tryz.prog 5 #[.pointer (some ⟨x, 0, none⟩), .int .i64 dn, .int .i64 dv] V fun e w' => e = .returned (.tuple #[.int .i64 r, .int .i64 er]) ∧ ∃ O', Wc w' lo x O' S' ad n' p' c' g' ∧ Trn O O' V w' ∧ Below lo V w') := hs.prog
    have HD : Hid (∀ u, Fw u lo2 x2 O2 S ad n p c g → Calls Tryz.prog 60 #[.pointer (some ⟨x2, 0, none⟩), .int .i64 dn, .int .i64 dv] u fun e w' => e = .returned (.tuple #[.int .i64 r, .int .i64 er]) ∧ StF u w' lo2 x2 O2 S' ad n' p' c' g') := fun u hu => hs.doc u lo2 x2 O2 hu
    clear hs
    go_wp2_with fail
    refine HP.out.mono ?_
    rintro e w1 ⟨rfl, O1, hr1, ht1, hb1⟩
    obtain ⟨hf1, hx1⟩ := HFx.out w1 O1 ht1
    obtain ⟨-, z1, -, -, z4⟩ := HX.out w1 hx1
    have HR1 : Hid (Wc w1 lo x O1 S' ad n' p' c' g') := hr1
    have HT1 : Hid (Trn O O1 V w1) := ht1
    have HB1 : Hid (Below lo V w1) := hb1
    have HF1 : Hid (Fw w1 lo2 x2 O2 S ad n p c g) := hf1
    clear hr1 ht1 hb1 hf1 hx1 y0 y1 y2 y3 y4
    go_wp2_with fail
    refine (HD.out _ HF1.out).mono ?_
    rintro e w2 ⟨rfl, O3, hf2, ht2⟩
    obtain ⟨hR2, hfin⟩ := HAft.out r er S' n' p' c' g' w1 w2 O1 O3 HS.out.bn HS.out.bp HR1.out HT1.out HB1.out hf2 ht2
    have HFin : Hid (StW w w2 lo x lo2 x2 ad (i + 1)) := hfin
    have HC : Hid (∀ u, Below w2.heap.size w2 u → Calls Tryz.prog 9 #[.pointer (some ⟨x, 0, none⟩)] u fun e w' => e = .returned (.int .i64 n') ∧ w' = u) := fun u hu => count_wc (hR2.to hu)
    have HKp : Hid (∀ u, Below w2.heap.size w2 u → u.cell? ⟨x2, 4, none⟩ = some (.int .i64 n')) := fun u hu => (by obtain ⟨_, _, e, _⟩ := (hf2.to hu).raw; exact e)
    have t1 : ((r : Int) == r) = true := by simp
    have t2 : ((er : Int) == er) = true := by simp
    have t3 : ((n' : Int) == n') = true := by simp
    have hbd : Below w2.heap.size w2 w2.drew := below_drew (Below.refl _ _)
    have HEnd : Hid (∀ u, u.heap = w2.heap → u.os = w2.os → u.tape = w2.tape → u.output = w2.output → StW w u lo x lo2 x2 ad (i + 1)) := fun u e1 e2 e3 e4 => by
      obtain ⟨S9, ⟨O9, O9b, n9, p9, c9, g9, k1, k2, k3, k4, k5, k6, k7, k8⟩, kb⟩ := HFin.out
      have hu : Below w2.heap.size w2 u := ⟨e2, e3, e4, by rw [e1]; exact Nat.le_refl _, fun k _ => by rw [e1]⟩
      exact ⟨S9, ⟨O9, O9b, n9, p9, c9, g9, k1.to hu, k2.to hu, k3, k4, k5, k6, k7, by rw [e1]; exact k8⟩, kb.trans (hu.mono k8)⟩
    clear hR2 hfin hf2 ht2 z1 z4
    go_wp2_with fail
    go_region_held3 (fun u => u.cell? ⟨x2, 4, none⟩ = some (.int .i64 n'))
      ((exact HKp.out _ (by assumption)))
      ((go_at_call 9; refine (HC.out _ (by assumption)).mono ?_; rintro e wC ⟨rfl, hwC⟩; have hzC : Below w2.heap.size w2 wC := (by rw [hwC]; assumption)))
    all_goals
      go_wp2_with fail
      refine bodyPost_ret (v := .bool true) (by simp [results, Tryz.results37, go_sem]) rfl ⟨rfl, ?_⟩
      exact HEnd.out _ rfl rfl rfl rfl

end Go.Proofs.YtppanogpeengnabGreatDoor

namespace Go.Proofs.YtppanogpeengnabGreatDoor
open Go.RowKit L3

theorem doc_symbol {w : World} {lo x : Nat} {O : Nat → Prop} {S : Sx} {ad : Bool} {n : Int} {p cd g : Nat} (h : Fw w lo x O S ad n p cd g) (hp : g ≤ 1000000000) (hn0 : 0 ≤ n) (hn1 : n ≤ 1000000000) (kk c v : Int) :
    ∃ (r er : Int) (S' : Sx) (n' : Int) (p' c' g' : Nat), (n ≤ n' ∧ n' ≤ n + 30) ∧ g' ≤ g + 60 ∧ ∀ u lo2 x2 O2, Fw u lo2 x2 O2 S ad n p cd g → Calls Tryz.prog 57 #[.pointer (some ⟨x2, 0, none⟩), .int .i64 kk, .int .i64 c, .int .i64 v] u fun e w' => e = .returned (.tuple #[.int .i64 r, .int .i64 er]) ∧ StF u w' lo2 x2 O2 S' ad n' p' c' g' := by
  by_cases hk : kk < 0 ∨ 32 ≤ kk
  · refine ⟨0, 41, S, n, p, cd, g, ⟨by omega, by omega⟩, by omega, fun u lo2 x2 O2 hu => ?_⟩
    refine (rsymbol_kind hk).mono ?_
    rintro e w' ⟨rfl, hb⟩
    exact ⟨rfl, stf_of hu hb⟩
  · obtain ⟨k, rfl⟩ : ∃ k : Nat, kk = (k : Int) := ⟨kk.toNat, by omega⟩
    have hk' : k < 32 := by omega
    by_cases hc : c < 0 ∨ (sC k : Int) ≤ c ∨ v < 0 ∨ (sV k : Int) ≤ v
    · refine ⟨0, 2, S, n, p, cd, g, ⟨by omega, by omega⟩, by omega, fun u lo2 x2 O2 hu => ?_⟩
      obtain ⟨xe, u0, _, u2, _⟩ := hu.raw
      refine (rsymbol_arg u0 u2 hk' hc).mono ?_
      rintro e w' ⟨rfl, hb⟩
      exact ⟨rfl, stf_of hu hb⟩
    · obtain ⟨cx, rfl⟩ : ∃ cx : Nat, c = (cx : Int) := ⟨c.toNat, by omega⟩
      have hc' : cx < sC k := by omega
      obtain ⟨s, rfl⟩ : ∃ s : Nat, v = (s : Int) := ⟨v.toNat, by omega⟩
      have hs : s < sV k := by omega
      obtain ⟨t1, t2⟩ := h.ok.at hk' hc'
      have hsl : s < (tb S k cx).1.length := by rw [t1]; exact hs
      have hee := eb_ee t2 hsl
      have ok := (L2.ePut_ok h.ev (show eb (tb S k cx).1 s < ee (tb S k cx).1 s by omega) (ee_le t2 hsl)).2
      exact ⟨s, 0, upd S ad k cx s, n + 1, (L2.ePut p cd g (eb (tb S k cx).1 s) (ee (tb S k cx).1 s)).1, (L2.ePut p cd g (eb (tb S k cx).1 s) (ee (tb S k cx).1 s)).2.1, (L2.ePut p cd g (eb (tb S k cx).1 s) (ee (tb S k cx).1 s)).2.2, ⟨by omega, by omega⟩, by omega, fun u lo2 x2 O2 hu => rsymbol_f hu (by omega) hn0 (by omega) hk' hc' hs rfl rfl⟩
/-- some set is answered -/
def HuA (w w' : World) (e : Ending) : Prop := ∃ bt cT B S, e = .returned (.agg #[.slice (some ⟨bt, 0, none⟩) 32 cT]) ∧ Hu w' w.heap.size bt B S ∧ Below w.heap.size w w'
structure SeI (W3 : World) (lo x len : Nat) (iv : Value) (wr : World) : Prop where
  ex : ∃ (i : Nat) (S : Sx) (O : Nat → Prop) (n : Int) (T g k : Nat), i ≤ len ∧ i ≤ 100 ∧ iv = .int .i64 i ∧ Fw wr lo x O S true n T g k ∧ 0 ≤ n ∧ n ≤ 30 * i ∧ k ≤ 60 * i ∧ Below lo W3 wr

set_option maxRecDepth 100000 in
set_option maxHeartbeats 8000000 in
theorem set_learnt (W : World) (a : Option Addr) (cp : Nat) (L : List Dx) (hL : DoAt W a L) (hLl : L.length ≤ 140737488355328) :
    Calls Tryz.prog 32 #[.slice a L.length cp] W fun e w' => HuA W w' e := by
  have HD : Hid (∀ j, j < L.length → ∃ b off, a = some ⟨b, off, none⟩ ∧
    ∀ v, Below W.heap.size W v → v.cell? ⟨b, off + j * 5, none⟩ = some (.bool (L.getD j dz).b) ∧ v.cell? ⟨b, off + j * 5 + 1, none⟩ = some (.int .i64 (L.getD j dz).n) ∧ v.cell? ⟨b, off + j * 5 + 2, none⟩ = some (.int .i64 (L.getD j dz).k) ∧ v.cell? ⟨b, off + j * 5 + 3, none⟩ = some (.int .i64 (L.getD j dz).c) ∧ v.cell? ⟨b, off + j * 5 + 4, none⟩ = some (.int .i64 (L.getD j dz).v)) := fun j hj => hL.cells hj
  have HB0 : Hid (Below W.heap.size W (W.alloc (.cells #[.slice none 0 0] 29))) := from_alloc _ _
  have HR0 : Hid (∀ v, Below (W.alloc (.cells #[.slice none 0 0] 29)).heap.size (W.alloc (.cells #[.slice none 0 0] 29)) v → v.cell? ⟨W.heap.size, 0, none⟩ = some (.slice none 0 0) ∧ v.frozen? ⟨W.heap.size, 0, none⟩ = false) := fun v hv => by
    rw [newCell hv _ _ (by simp), newFrozen hv _ _ (by simp)]; simp [go_sem]
  have HRl : Hid (W.heap.size < (W.alloc (.cells #[.slice none 0 0] 29)).heap.size) := by show _ < _; simp
  clear hL
  go_enter Tryz.func32, Tryz.ntmps32
  go_wp2_with fail
  generalize W.alloc (.cells #[.slice none 0 0] 29) = W1 at *
  refine rdefault_any.mono ?_
  rintro e w2 ⟨bt2, cT2, B2, rfl, hu2, hb2⟩
  have HU2 : Hid (Hu w2 W1.heap.size bt2 B2 dS) := hu2
  have HB2 : Hid (Below W1.heap.size W1 w2) := hb2
  clear hu2 hb2
  go_wp2_with fail
  refine (rwriter_u HU2.out).mono ?_
  rintro e w3 ⟨x, O, rfl, hf3, hb3⟩
  have HI0 : Hid (SeI w3 w2.heap.size x L.length (.int .i64 0) w3) := ⟨0, dS, O, 0, 0, 4294967295, 0, by omega, by omega, rfl, hf3, by omega, by omega, by omega, Below.refl _ _⟩
  have HB3 : Hid (Below W1.heap.size W1 w3) := below_to HB2.out hb3
  have HLo : Hid (W1.heap.size ≤ w2.heap.size ∧ w2.heap.size ≤ w3.heap.size) := ⟨HB2.out.size, hb3.size⟩
  clear hf3 hb3 HU2 HB2
  go_wp2_with fail
  generalize hlo : w2.heap.size = lo at *
  clear hlo
  go_loopw [5] (fun iv wr => SeI w3 lo x L.length iv wr) (fun iv _ => 100 - (intOf iv).toNat)
  case atStart => exact HI0.out
  case round =>
    clear HI0
    obtain ⟨j, S, O, n, T, g, k, hj1, hj2, rfl, hf, hn0, hn1, hk, hbl⟩ := hrel
    have HF : Hid (Fw wr lo x O S true n T g k) := hf
    have HBl : Hid (Below lo w3 wr) := hbl
    have HB1r : Hid (Below W1.heap.size W1 wr) := HB3.out.trans (hbl.mono HLo.out.1)
    have HWr : Hid (Below W.heap.size W wr) := below_to HB0.out HB1r.out
    have j0 : (0 : Int) ≤ (j : Int) := by omega
    clear hf hbl
    by_cases hlj : j < L.length ∧ j < 100
    · obtain ⟨hl1, hl2⟩ := hlj
      have j1 : (j : Int) < (L.length : Int) := by omega
      have j2 : (j : Int) < 100 := by omega
      obtain ⟨bd, off, ha, hcell⟩ := HD.out j hl1
      subst ha
      have HKp : Hid (∀ u, Below W.heap.size W u → u.cell? ⟨bd, off + j * 5 + 2, none⟩ = some (.int .i64 (L.getD j dz).k) ∧ u.cell? ⟨bd, off + j * 5 + 3, none⟩ = some (.int .i64 (L.getD j dz).c) ∧ u.cell? ⟨bd, off + j * 5 + 4, none⟩ = some (.int .i64 (L.getD j dz).v)) := fun u hu => (hcell u hu).2.2
      have HDs : Hid (∃ (r er : Int) (S' : Sx) (n' : Int) (p' c' g' : Nat), (n ≤ n' ∧ n' ≤ n + 30) ∧ g' ≤ k + 60 ∧ ∀ u lo2 x2 O2, Fw u lo2 x2 O2 S true n T g k → Calls Tryz.prog 57 #[.pointer (some ⟨x2, 0, none⟩), .int .i64 (L.getD j dz).k, .int .i64 (L.getD j dz).c, .int .i64 (L.getD j dz).v] u fun e w' => e = .returned (.tuple #[.int .i64 r, .int .i64 er]) ∧ StF u w' lo2 x2 O2 S' true n' p' c' g') := doc_symbol HF.out (by omega) (by omega) (by omega) _ _ _
      generalize L.getD j dz = dd at *
      obtain ⟨db, dn, dk, dc, dv⟩ := dd
      simp only at HKp HDs
      obtain ⟨r, er, S', n', p', c', g', hbn, hbp, hds⟩ := HDs.out
      have HCl : Hid (∀ u, Below wr.heap.size wr u → Calls Tryz.prog 57 #[.pointer (some ⟨x, 0, none⟩), .int .i64 dk, .int .i64 dc, .int .i64 dv] u fun e w' => e = .returned (.tuple #[.int .i64 r, .int .i64 er]) ∧ Below W.heap.size W w' ∧ SeI w3 lo x L.length (.int .i64 ((j : Int) + 1)) w') := fun u hu => by
        refine (hds u lo x O (HF.out.to hu)).mono ?_
        rintro e w' ⟨rfl, O', hf', ht'⟩
        have hb' : Below lo u w' := ht'.ke.below (fun y e => (HF.out.lt e).1) (Nat.le_trans (Nat.le_trans HLo.out.2 HBl.out.size) hu.size)
        have hbu : Below lo wr u := hu.mono (Nat.le_trans HLo.out.2 HBl.out.size)
        refine ⟨rfl, below_to HB0.out ((HB1r.out.trans (hbu.mono HLo.out.1)).trans (hb'.mono HLo.out.1)), j + 1, S', O', n', p', c', g', by omega, by omega, by go_num, hf', by omega, by omega, by omega, (HBl.out.trans hbu).trans hb'⟩
      have HJ : Hid (j < L.length ∧ j < 100) := ⟨hl1, hl2⟩
      obtain ⟨d2, d3, d4⟩ := HKp.out _ HWr.out
      have hbw : Below W.heap.size W wr.drew := below_drew HWr.out
      have hbd : Below wr.heap.size wr wr.drew := below_drew (Below.refl _ _)
      clear hcell hds HDs
      go_wp2_with fail
      go_region_held3 (fun u => u.cell? ⟨bd, off + j * 5 + 2, none⟩ = some (.int .i64 dk) ∧ u.cell? ⟨bd, off + j * 5 + 3, none⟩ = some (.int .i64 dc) ∧ u.cell? ⟨bd, off + j * 5 + 4, none⟩ = some (.int .i64 dv))
        ((first | exact HKp.out _ HWr.out | exact HKp.out _ (by assumption)))
        ((go_at_call 57; refine (HCl.out _ (by assumption)).mono ?_; rintro e wB ⟨rfl, hzB, hse⟩))
      all_goals
        have HSe : Hid (SeI w3 lo x L.length (.int .i64 ((j : Int) + 1)) wB) := hse
        clear hse hzB
        go_wp2_with fail
        have hlj := HJ.out
        go_roundw
        case rel => exact HSe.out
        case measure => simp [intOf]; omega
    · obtain ⟨bt, cT, B, xe, d, hfw, rfl⟩ := HF.out
      have x2 := hfw.c2
      obtain ⟨r0, r1⟩ := HR0.out _ HB1r.out
      have HFin : Hid (Hu (wr.setCell ⟨W.heap.size, 0, none⟩ (.slice (some ⟨bt, 0, none⟩) 32 cT)) W.heap.size bt B S ∧ Below W.heap.size W (wr.setCell ⟨W.heap.size, 0, none⟩ (.slice (some ⟨bt, 0, none⟩) 32 cT))) := by
        have h1 := HLo.out.1
        have h2 := HRl.out
        refine ⟨(hfw.hu.ke (P := fun y => y = W.heap.size) (Ke.set _ _ _ _ rfl) ?_).weak (by omega), below_set HWr.out (Nat.le_refl _) _⟩
        rintro b rfl hb
        have := hfw.hu.ge hb
        omega
      clear hfw HF HBl
      by_cases h1 : j < L.length
      · have j1 : (j : Int) < (L.length : Int) := by omega
        have j2 : ¬ (j : Int) < 100 := by omega
        go_wp2_with fail
        refine bodyPost_ret (v := .agg #[.slice (some ⟨bt, 0, none⟩) 32 cT]) (by simp [results, Tryz.results32, go_sem, r0]) rfl ?_
        exact ⟨bt, cT, B, S, rfl, HFin.out.1, HFin.out.2⟩
      · have j1 : ¬ (j : Int) < (L.length : Int) := by omega
        go_wp2_with fail
        refine bodyPost_ret (v := .agg #[.slice (some ⟨bt, 0, none⟩) 32 cT]) (by simp [results, Tryz.results32, go_sem, r0]) rfl ?_
        exact ⟨bt, cT, B, S, rfl, HFin.out.1, HFin.out.2⟩

end Go.Proofs.YtppanogpeengnabGreatDoor

namespace Go.Proofs.YtppanogpeengnabGreatDoor
open Go.RowKit L3

theorem rcopy_hz {w : World} {lo bt cT : Nat} {B : Nat → Prop} {S : Sx} (h : Hu w lo bt B S) : Calls Tryz.prog 33 #[.agg #[.slice (some ⟨bt, 0, none⟩) 32 cT]] w fun e w' => Hzn w w' e S := by
  obtain ⟨q, K, a1, a2, _, rfl, _⟩ := h
  exact rcopy_z a1 a2
theorem spoil_hz {w : World} {lo bt cT : Nat} {B : Nat → Prop} {S : Sx} {m : Int} (h : Hz w lo bt B S) : Calls Tryz.prog 36 #[.agg #[.slice (some ⟨bt, 0, none⟩) 32 cT], .int .u16 m] w fun e w' => e = .returned (.tuple #[]) ∧ Ke B w w' := by
  obtain ⟨q, K, a1, a2, _, _, rfl, a6⟩ := h
  exact spoil_any a1 a6 a2
def WcN (w w' : World) (e : Ending) (S : Sx) (ad : Bool) : Prop := ∃ x O, e = .returned (.tuple #[.pointer (some ⟨x, 0, none⟩), .int .i64 0]) ∧ Wc w' w.heap.size x O S ad 0 0 4294967295 0 ∧ Below w.heap.size w w'
theorem writer_hu {w : World} {lo bt cT : Nat} {B : Nat → Prop} {S : Sx} {ad : Bool} (hsh : Sh w) (h : Hu w lo bt B S) : Calls Tryz.prog 13 #[.agg #[.slice (some ⟨bt, 0, none⟩) 32 cT], .bool ad] w fun e w' => WcN w w' e S ad := by
  obtain ⟨q, K, a1, a2, _, rfl, _⟩ := h
  refine (writer_u hsh a1 a2).mono ?_
  rintro e w' ⟨x, bt2, L, xe, rfl, k1, k2, k3⟩
  exact ⟨x, _, rfl, by rw [← als_ab k2]; exact k1.wc, k3⟩
def SzN (w w' : World) (e : Ending) (S : Sx) : Prop := ∃ bt B, e = .returned (.tuple #[.agg #[.slice (some ⟨bt, 0, none⟩) 32 32], .int .i64 0]) ∧ Hz w' w.heap.size bt B S ∧ Below w.heap.size w w'
def ByA (w w' : World) (e : Ending) (T k : Nat) : Prop := ∃ v, e = .returned (.tuple #[v, .int .i64 0]) ∧ L2.ByNew w w' v T k
structure WrI (W2 : World) (lo x lo2 x2 : Nat) (ad : Bool) (len : Nat) (iv : Value) (wr : World) : Prop where
  ex : ∃ (i : Nat) (S : Sx), i ≤ len ∧ i ≤ 300 ∧ iv = .int .i64 i ∧ Bw wr lo x lo2 x2 ad i S ∧ Below lo W2 wr

set_option maxRecDepth 100000 in
set_option maxHeartbeats 16000000 in
theorem writes_walk (W : World) (a0 : Option Addr) (cp0 : Nat) (L0 : List Dx) (a : Option Addr) (cp : Nat) (L : List Dx) (ad : Bool) (hsh : Sh W) (hL0 : DoAt W a0 L0) (hLl0 : L0.length ≤ 140737488355328) (hL : DoAt W a L) (hLl : L.length ≤ 140737488355328) :
    Calls Tryz.prog 17 #[.slice a0 L0.length cp0, .slice a L.length cp, .bool ad] W fun e w' => e = .returned (.bool true) ∧ Below W.heap.size W w' := by
  have HSh : Hid (∀ v, Below W.heap.size W v → Sh v) := fun v hv => hsh.to hv
  have HD : Hid (∀ j, j < L.length → ∃ b off, a = some ⟨b, off, none⟩ ∧
    ∀ v, Below W.heap.size W v → v.cell? ⟨b, off + j * 5, none⟩ = some (.bool (L.getD j dz).b) ∧ v.cell? ⟨b, off + j * 5 + 1, none⟩ = some (.int .i64 (L.getD j dz).n) ∧ v.cell? ⟨b, off + j * 5 + 2, none⟩ = some (.int .i64 (L.getD j dz).k) ∧ v.cell? ⟨b, off + j * 5 + 3, none⟩ = some (.int .i64 (L.getD j dz).c) ∧ v.cell? ⟨b, off + j * 5 + 4, none⟩ = some (.int .i64 (L.getD j dz).v)) := fun j hj => hL.cells hj
  have HL0 : Hid (Calls Tryz.prog 32 #[.slice a0 L0.length cp0] W fun e w' => HuA W w' e) := set_learnt W a0 cp0 L0 hL0 hLl0
  clear hsh hL0 hLl0 hL
  go_enter Tryz.func17, Tryz.ntmps17
  go_wp2_with fail
  refine HL0.out.mono ?_
  rintro e w1 ⟨bt1, cT1, B1, S, rfl, hu1, hb1⟩
  have HB2 : Hid (Below W.heap.size W (w1.alloc (.cells #[.slice (some ⟨bt1, 0, none⟩) 32 cT1] 29))) := to_alloc hb1 _
  have HU2 : Hid (Hu (w1.alloc (.cells #[.slice (some ⟨bt1, 0, none⟩) 32 cT1] 29)) W.heap.size bt1 B1 S) := hu1.to (from_alloc _ _)
  have HV2 : Hid (∀ v, Below (w1.alloc (.cells #[.slice (some ⟨bt1, 0, none⟩) 32 cT1] 29)).heap.size (w1.alloc (.cells #[.slice (some ⟨bt1, 0, none⟩) 32 cT1] 29)) v → v.cell? ⟨w1.heap.size, 0, none⟩ = some (.slice (some ⟨bt1, 0, none⟩) 32 cT1)) := fun v hv => by rw [newCell hv _ _ (by simp)]; simp [go_sem]
  have HL2 : Hid (w1.heap.size < (w1.alloc (.cells #[.slice (some ⟨bt1, 0, none⟩) 32 cT1] 29)).heap.size) := by show _ < _; simp
  clear hu1 hb1 HL0
  go_wp2_with fail
  generalize w1.alloc (.cells #[.slice (some ⟨bt1, 0, none⟩) 32 cT1] 29) = w2 at *
  generalize w1.heap.size = s7 at *
  refine (rcopy_hz HU2.out).mono ?_
  rintro e w3 ⟨bt3, cT3, B3, rfl, hz3, hb3⟩
  have HB4 : Hid (Below w2.heap.size w2 (w3.alloc (.cells #[.slice (some ⟨bt3, 0, none⟩) 32 cT3] 29))) := to_alloc hb3 _
  have HZ4 : Hid (Hz (w3.alloc (.cells #[.slice (some ⟨bt3, 0, none⟩) 32 cT3] 29)) w2.heap.size bt3 B3 S) := hz3.to (from_alloc _ _)
  have HV4 : Hid (∀ v, Below (w3.alloc (.cells #[.slice (some ⟨bt3, 0, none⟩) 32 cT3] 29)).heap.size (w3.alloc (.cells #[.slice (some ⟨bt3, 0, none⟩) 32 cT3] 29)) v → v.cell? ⟨w3.heap.size, 0, none⟩ = some (.slice (some ⟨bt3, 0, none⟩) 32 cT3)) := fun v hv => by rw [newCell hv _ _ (by simp)]; simp [go_sem]
  have HL4 : Hid (w3.heap.size < (w3.alloc (.cells #[.slice (some ⟨bt3, 0, none⟩) 32 cT3] 29)).heap.size) := by show _ < _; simp
  clear hz3 hb3
  go_wp2_with fail
  generalize w3.alloc (.cells #[.slice (some ⟨bt3, 0, none⟩) 32 cT3] 29) = w4 at *
  generalize w3.heap.size = s8 at *
  have HB4W : Hid (Below W.heap.size W w4) := below_to HB2.out HB4.out
  refine (writer_hu (HSh.out _ HB4W.out) HZ4.out.hu).mono ?_
  rintro e w5 ⟨x, O, rfl, hw5, hb5⟩
  have HW5 : Hid (Wc w5 w4.heap.size x O S ad 0 0 4294967295 0) := hw5
  have HB5 : Hid (Below w4.heap.size w4 w5) := hb5
  have v7 : w5.cell? ⟨s7, 0, none⟩ = some (.slice (some ⟨bt1, 0, none⟩) 32 cT1) := HV2.out _ (below_to HB4.out hb5)
  have HU5 : Hid (Hu w5 W.heap.size bt1 B1 S) := HU2.out.to (below_to HB4.out hb5)
  clear hw5 hb5
  go_wp2_with fail
  refine (rwriter_u HU5.out).mono ?_
  rintro e w6 ⟨x2, O2, rfl, hf6, hb6⟩
  have HF6 : Hid (Fw w6 w5.heap.size x2 O2 S ad 0 0 4294967295 0) := hf6
  have HW6 : Hid (Wc w6 w4.heap.size x O S ad 0 0 4294967295 0) := HW5.out.to hb6
  have HB46 : Hid (Below w4.heap.size w4 w6) := below_to HB5.out hb6
  have HDj : Hid (∀ y, O y → ¬ O2 y) := fun y e e2 => by have := HW5.out.lt e; have := (hf6.lt e2).1; omega
  have v7' : w6.cell? ⟨s7, 0, none⟩ = some (.slice (some ⟨bt1, 0, none⟩) 32 cT1) := HV2.out _ (below_to HB4.out HB46.out)
  have v8 : w6.cell? ⟨s8, 0, none⟩ = some (.slice (some ⟨bt3, 0, none⟩) 32 cT3) := HV4.out _ HB46.out
  have HSm : Hid (∀ u, Below w6.heap.size w6 u → Calls Tryz.prog 35 #[.agg #[.slice (some ⟨bt3, 0, none⟩) 32 cT3], .agg #[.slice (some ⟨bt1, 0, none⟩) 32 cT1]] u fun e w' => e = .returned (.bool true) ∧ Below u.heap.size u w') := fun u hu => rsame_hu (HZ4.out.hu.to (below_to HB46.out hu)) (HU5.out.to (below_to hb6 hu))
  have HLo2 : Hid (w4.heap.size ≤ w5.heap.size) := HB5.out.size
  obtain ⟨xe, o0, _⟩ := HW6.out.raw
  clear hf6 hb6 v7 HU5 HU2 HW5 HB5
  go_wp2_with fail
  refine (writes_w o0).mono ?_
  rintro e w7 ⟨rfl, rfl⟩
  go_wp2_with fail
  refine (HSm.out _ (Below.refl _ _)).mono ?_
  rintro e w8 ⟨rfl, hb8⟩
  have HB8 : Hid (Below w4.heap.size w4 w8) := below_to HB46.out hb8
  have v8' : w8.cell? ⟨s8, 0, none⟩ = some (.slice (some ⟨bt3, 0, none⟩) 32 cT3) := HV4.out _ HB8.out
  have HZ8 : Hid (Hz w8 w2.heap.size bt3 B3 S) := HZ4.out.to HB8.out
  have HW8 : Hid (Wc w8 w4.heap.size x O S ad 0 0 4294967295 0) := HW6.out.to hb8
  have HF8 : Hid (Fw w8 w5.heap.size x2 O2 S ad 0 0 4294967295 0) := HF6.out.to hb8
  clear hb8 v7' v8 HSm HW6 HF6 HB46 o0
  go_wp2_with fail
  refine (spoil_hz HZ8.out).mono ?_
  rintro e w9 ⟨rfl, hk9⟩
  have HOl : Hid (∀ y, B3 y → W.heap.size ≤ y ∧ y < w4.heap.size) := fun y e => ⟨Nat.le_trans HB2.out.size (HZ4.out.hu.ge e), HZ4.out.hu.lt e⟩
  have HW9 : Hid (Wc w9 w4.heap.size x O S ad 0 0 4294967295 0) := HW8.out.ke hk9 (fun y e e2 => by have := (HOl.out y e).2; have := HW8.out.ge e2; omega)
  have HF9 : Hid (Fw w9 w5.heap.size x2 O2 S ad 0 0 4294967295 0) := HF8.out.ke hk9 (fun y e e2 => by have := (HOl.out y e).2; have := (HF8.out.lt e2).1; have := HLo2.out; omega)
  have HB9W : Hid (Below W.heap.size W w9) := (below_to HB4W.out HB8.out).trans (hk9.below (fun y e => (HOl.out y e).1) (below_to HB4W.out HB8.out).size)
  have HSz : Hid (Calls Tryz.prog 6 #[.pointer (some ⟨x, 0, none⟩)] w9 fun e w' => SzN w9 w' e S) := set_wz HW9.out (HSh.out _ HB9W.out)
  clear hk9 v8' HZ8 HW8 HF8 HB8 HOl HZ4 HV2 HV4 HL2 HL4 HB4 HB2
  go_wp2_with fail
  refine HSz.out.mono ?_
  rintro e w10 ⟨bt10, B10, rfl, hz10, hb10⟩
  have HZ11 : Hid (Hz (w10.alloc (.cells #[.slice (some ⟨bt10, 0, none⟩) 32 32] 29)) w9.heap.size bt10 B10 S) := hz10.to (from_alloc _ _)
  have HB11 : Hid (Below w9.heap.size w9 (w10.alloc (.cells #[.slice (some ⟨bt10, 0, none⟩) 32 32] 29))) := to_alloc hb10 _
  have v13 : (w10.alloc (.cells #[.slice (some ⟨bt10, 0, none⟩) 32 32] 29)).cell? ⟨w10.heap.size, 0, none⟩ = some (.slice (some ⟨bt10, 0, none⟩) 32 32) := by simp [go_sem]
  clear hz10 hb10 HSz
  go_wp2_with fail
  generalize w10.alloc (.cells #[.slice (some ⟨bt10, 0, none⟩) 32 32] 29) = w11 at *
  generalize w10.heap.size = s13 at *
  refine (spoil_hz HZ11.out).mono ?_
  rintro e w12 ⟨rfl, hk12⟩
  have HW12 : Hid (Wc w12 w4.heap.size x O S ad 0 0 4294967295 0) := (HW9.out.to HB11.out).ke hk12 (fun y e e2 => by have := HZ11.out.hu.ge e; have := HW9.out.lt e2; omega)
  have HF12 : Hid (Fw w12 w5.heap.size x2 O2 S ad 0 0 4294967295 0) := (HF9.out.to HB11.out).ke hk12 (fun y e e2 => by have := HZ11.out.hu.ge e; have := (HF9.out.lt e2).2; omega)
  have HB12 : Hid (Below W.heap.size W w12) := (below_to HB9W.out HB11.out).trans (hk12.below (fun y e => Nat.le_trans HB9W.out.size (HZ11.out.hu.ge e)) (below_to HB9W.out HB11.out).size)
  have HW4l : Hid (W.heap.size ≤ w4.heap.size) := HB4W.out.size
  have HJ0 : Hid (WrI w12 w4.heap.size x w5.heap.size x2 ad L.length (.int .i64 0) w12) := ⟨0, S, by omega, by omega, rfl, ⟨O, O2, 0, 0, 4294967295, 0, HW12.out, HF12.out, HDj.out, by omega, by omega, by omega, HLo2.out, by
    obtain ⟨_, _, h2⟩ := HW12.out.raw
    obtain ⟨_, _, _, _, h, _⟩ := HW12.out
    exact Nat.le_trans h.co.xlo (Nat.le_of_lt h2)⟩, Below.refl _ _⟩
  clear hk12 HZ11 HB11 v13 HW9 HF9 HB9W HB4W HW12 HF12
  go_wp2_with fail
  generalize hlo : w4.heap.size = lo at *
  generalize hlo2 : w5.heap.size = lo2 at *
  clear hlo hlo2
  go_loopw [15] (fun iv wr => WrI w12 lo x lo2 x2 ad L.length iv wr) (fun iv _ => 300 - (intOf iv).toNat)
  case atStart => exact HJ0.out
  case round =>
    clear HJ0
    obtain ⟨j, S, hj1, hj2, rfl, hbo, hbl⟩ := hrel
    have HBo : Hid (Bw wr lo x lo2 x2 ad j S) := hbo
    have HBl : Hid (Below lo w12 wr) := hbl
    have HWr : Hid (Below W.heap.size W wr) := HB12.out.trans (hbl.mono HW4l.out)
    have j0 : (0 : Int) ≤ (j : Int) := by omega
    clear hbo hbl
    by_cases hlj : j < L.length ∧ j < 300
    · obtain ⟨hl1, hl2⟩ := hlj
      have j1 : (j : Int) < (L.length : Int) := by omega
      have j2 : (j : Int) < 300 := by omega
      obtain ⟨bd, off, ha, hcell⟩ := HD.out j hl1
      subst ha
      obtain ⟨d0, d1, d2, d3, d4⟩ := hcell wr HWr.out
      have HSt : Hid (Calls Tryz.prog 37 #[.pointer (some ⟨x, 0, none⟩), .pointer (some ⟨x2, 0, none⟩), .agg #[.bool (L.getD j dz).b, .int .i64 (L.getD j dz).n, .int .i64 (L.getD j dz).k, .int .i64 (L.getD j dz).c, .int .i64 (L.getD j dz).v]] wr fun e w' => e = .returned (.bool true) ∧ StW wr w' lo x lo2 x2 ad (j + 1)) := step_w HBo.out (by omega) (fun v hv => HSh.out v (HWr.out.trans (hv.mono HW4l.out))) (L.getD j dz)
      generalize L.getD j dz = dd at *
      obtain ⟨db, dn, dk, dc, dv⟩ := dd
      simp only at d0 d1 d2 d3 d4 HSt
      clear hcell
      go_wp2_with fail
      refine HSt.out.mono ?_
      rintro e w7 ⟨rfl, S7, hbo7, hb7⟩
      have HB7 : Hid (Bw w7 lo x lo2 x2 ad (j + 1) S7) := hbo7
      have HL7 : Hid (Below lo w12 w7) := HBl.out.trans hb7
      have HJ : Hid (j < L.length ∧ j < 300) := ⟨hl1, hl2⟩
      clear hbo7 hb7 d0 d1 d2 d3 d4
      go_wp2_with fail
      have hlj := HJ.out
      go_roundw
      case rel => exact ⟨⟨j + 1, S7, by omega, by omega, by go_num, HB7.out, HL7.out⟩⟩
      case measure => simp [intOf]; omega
    · obtain ⟨O, O2, n, p, c, g, hr, hf, hdj, hn0, hn1, hgk, -⟩ := HBo.out
      have HR : Hid (Wc wr lo x O S ad n p c g) := hr
      have HF : Hid (Fw wr lo2 x2 O2 S ad n p c g) := hf
      have HGk : Hid (g ≤ 100000) := by show _ ≤ _; omega
      have HBy : Hid (Calls Tryz.prog 7 #[.pointer (some ⟨x, 0, none⟩)] wr fun e w' => ByA wr w' e p g) := by
        obtain ⟨_, _, _, _, h, _⟩ := hr
        exact bytes_w h (by omega)
      have HCy : Hid (∀ u, Below wr.heap.size wr u → Calls Tryz.prog 38 #[.pointer (some ⟨x2, 0, none⟩)] u fun e w' => ByA u w' e p g) := fun u hu => rbytes_f (HF.out.to hu) (by have := HGk.out; omega)
      have HSet : Hid (∀ u, Below wr.heap.size wr u → Calls Tryz.prog 6 #[.pointer (some ⟨x, 0, none⟩)] u fun e w' => SzN u w' e S) := fun u hu => set_wz (HR.out.to hu) (HSh.out _ (below_to HWr.out hu))
      clear hr hf hdj HBo HBl hgk hn0 hn1
      have hcs : (L.length : Int) ≤ (j : Int) ∨ ((j : Int) < (L.length : Int) ∧ ¬ (j : Int) < 300) := by omega
      rcases hcs with h1 | ⟨j1, j2⟩
      · have j1 : ¬ (j : Int) < (L.length : Int) := by omega
        clear h1
        go_wp2_with fail
        refine HBy.out.mono ?_
        rintro e w13 ⟨v13, rfl, b13, z13, hy13, hl13, hb13⟩
        have HY13 : Hid (L2.By w13 v13 b13 z13 p g) := hy13
        have HB13 : Hid (Below wr.heap.size wr w13) := hb13
        have HV13 : Hid (b13 < w13.heap.size) := hy13.lies
        clear hy13 hl13 hb13 HBy
        go_wp2_with fail
        refine (HCy.out _ HB13.out).mono ?_
        rintro e w14 ⟨v14, rfl, b14, z14, hy14, hl14, hb14⟩
        have HY14 : Hid (L2.By w14 v14 b14 z14 p g) := hy14
        have HZ14 : Hid (z13 = z14) := HY13.out.uniq hy14
        have HB14 : Hid (Below wr.heap.size wr w14) := below_to HB13.out hb14
        have HY13' : Hid (L2.By w14 v13 b13 z13 p g) := HY13.out.below hb14 HV13.out
        have HV14 : Hid (b14 < w14.heap.size ∧ b13 < w14.heap.size) := ⟨hy14.lies, Nat.lt_of_lt_of_le HV13.out hb14.size⟩
        clear hy14 hl14 hb14 HCy HY13 HV13
        go_wp2_with fail
        refine (HSet.out _ HB14.out).mono ?_
        rintro e w15 ⟨bt9, B9, rfl, hs9, hb9⟩
        have HBa : Hid (Below w14.heap.size w14 (w15.alloc (.cells #[.slice (some ⟨bt9, 0, none⟩) 32 32] 29))) := to_alloc hb9 _
        have HHa : Hid (Hu (w15.alloc (.cells #[.slice (some ⟨bt9, 0, none⟩) 32 32] 29)) w14.heap.size bt9 B9 S) := (hs9.to (from_alloc _ _)).hu
        have HCa : Hid ((w15.alloc (.cells #[.slice (some ⟨bt9, 0, none⟩) 32 32] 29)).cell? ⟨w15.heap.size, 0, none⟩ = some (.slice (some ⟨bt9, 0, none⟩) 32 32)) := by show _ = _; simp [go_sem]
        have HLa : Hid (w15.heap.size < (w15.alloc (.cells #[.slice (some ⟨bt9, 0, none⟩) 32 32] 29)).heap.size) := by show _ < _; simp
        clear hs9 hb9 HSet
        go_wp2_with fail
        generalize w15.alloc (.cells #[.slice (some ⟨bt9, 0, none⟩) 32 32] 29) = wa at *
        generalize w15.heap.size = sa at *
        have HBra : Hid (Below wr.heap.size wr wa) := below_to HB14.out HBa.out
        obtain ⟨btm, cTm, Bm, xem, dm, hfm, rfl⟩ := HF.out.to HBra.out
        have HM : Hid (FW wa lo2 x2 btm cTm Bm xem dm S ad n p c g) := hfm
        clear hfm
        have HEq : Hid (∀ u, Below wa.heap.size wa u → Calls Tryz.prog 39 #[v13, v14] u fun e w' => e = .returned (.bool true) ∧ Below u.heap.size u w') := fun u hu => by
          have hbu : Below w14.heap.size w14 u := below_to HBa.out hu
          have y1 := HY13'.out.below hbu HV14.out.2
          have y2 := HY14.out.below hbu HV14.out.1
          have := L2.eqBytes_rr y1.rr y2.rr (by have := y1.len; have := HGk.out; omega) y1.byt y2.byt
          rw [show decide (z13 = z14) = true from decide_eq_true HZ14.out] at this
          exact this
        have HKp : Hid (∀ u, Below wa.heap.size wa u → u.cell? ⟨sa, 0, none⟩ = some (.slice (some ⟨bt9, 0, none⟩) 32 32) ∧ u.cell? ⟨x2, 2, none⟩ = some (.slice (some ⟨btm, 0, none⟩) 32 cTm)) := fun u hu => ⟨by rw [newCell hu _ _ HLa.out]; exact HCa.out, (HM.out.to hu).c2⟩
        have HSm : Hid (∀ u, Below wa.heap.size wa u → Calls Tryz.prog 35 #[.agg #[.slice (some ⟨bt9, 0, none⟩) 32 32], .agg #[.slice (some ⟨btm, 0, none⟩) 32 cTm]] u fun e w' => e = .returned (.bool true) ∧ Below u.heap.size u w') := fun u hu => rsame_hu (HHa.out.to hu) (HM.out.to hu).hu
        have HAw : Hid (∀ u, Below wa.heap.size wa u → Calls Tryz.prog 14 #[] u fun e w' => e = .returned (.bool true) ∧ Below u.heap.size u w') := fun u hu => awake_ok (HSh.out _ (below_to (below_to HWr.out HBra.out) hu))
        have HEnd : Hid (∀ u, Below wa.heap.size wa u → Below W.heap.size W u) := fun u hu => below_to (below_to HWr.out HBra.out) hu
        have hbd : Below wa.heap.size wa wa.drew := below_drew (Below.refl _ _)
        clear HBa HY13' HY14 HZ14 HV14 HB14 HB13
        go_region_held3 (fun u => u.cell? ⟨sa, 0, none⟩ = some (.slice (some ⟨bt9, 0, none⟩) 32 32) ∧ u.cell? ⟨x2, 2, none⟩ = some (.slice (some ⟨btm, 0, none⟩) 32 cTm))
          ((exact HKp.out _ (by assumption)))
          (first
            | (go_at_call 39; refine (HEq.out _ (by assumption)).mono ?_; rintro e wE ⟨rfl, hbE⟩; have hzE := below_to (by assumption) hbE)
            | (go_at_call 35; refine (HSm.out _ (by assumption)).mono ?_; rintro e wA ⟨rfl, hbA⟩; have hzA := below_to (by assumption) hbA)
            | (go_at_call 14; refine (HAw.out _ (by assumption)).mono ?_; rintro e wB ⟨rfl, hbB⟩; have hzB := below_to (by assumption) hbB))
        all_goals
          have HZB : Hid (Below wa.heap.size wa wB) := hzB
          go_wp2_with fail
          exact bodyPost_ret (v := .bool true) (by simp [results, Tryz.results17, go_sem]) rfl ⟨rfl, HEnd.out _ HZB.out⟩
      · go_wp2_with fail
        refine HBy.out.mono ?_
        rintro e w13 ⟨v13, rfl, b13, z13, hy13, hl13, hb13⟩
        have HY13 : Hid (L2.By w13 v13 b13 z13 p g) := hy13
        have HB13 : Hid (Below wr.heap.size wr w13) := hb13
        have HV13 : Hid (b13 < w13.heap.size) := hy13.lies
        clear hy13 hl13 hb13 HBy
        go_wp2_with fail
        refine (HCy.out _ HB13.out).mono ?_
        rintro e w14 ⟨v14, rfl, b14, z14, hy14, hl14, hb14⟩
        have HY14 : Hid (L2.By w14 v14 b14 z14 p g) := hy14
        have HZ14 : Hid (z13 = z14) := HY13.out.uniq hy14
        have HB14 : Hid (Below wr.heap.size wr w14) := below_to HB13.out hb14
        have HY13' : Hid (L2.By w14 v13 b13 z13 p g) := HY13.out.below hb14 HV13.out
        have HV14 : Hid (b14 < w14.heap.size ∧ b13 < w14.heap.size) := ⟨hy14.lies, Nat.lt_of_lt_of_le HV13.out hb14.size⟩
        clear hy14 hl14 hb14 HCy HY13 HV13
        go_wp2_with fail
        refine (HSet.out _ HB14.out).mono ?_
        rintro e w15 ⟨bt9, B9, rfl, hs9, hb9⟩
        have HBa : Hid (Below w14.heap.size w14 (w15.alloc (.cells #[.slice (some ⟨bt9, 0, none⟩) 32 32] 29))) := to_alloc hb9 _
        have HHa : Hid (Hu (w15.alloc (.cells #[.slice (some ⟨bt9, 0, none⟩) 32 32] 29)) w14.heap.size bt9 B9 S) := (hs9.to (from_alloc _ _)).hu
        have HCa : Hid ((w15.alloc (.cells #[.slice (some ⟨bt9, 0, none⟩) 32 32] 29)).cell? ⟨w15.heap.size, 0, none⟩ = some (.slice (some ⟨bt9, 0, none⟩) 32 32)) := by show _ = _; simp [go_sem]
        have HLa : Hid (w15.heap.size < (w15.alloc (.cells #[.slice (some ⟨bt9, 0, none⟩) 32 32] 29)).heap.size) := by show _ < _; simp
        clear hs9 hb9 HSet
        go_wp2_with fail
        generalize w15.alloc (.cells #[.slice (some ⟨bt9, 0, none⟩) 32 32] 29) = wa at *
        generalize w15.heap.size = sa at *
        have HBra : Hid (Below wr.heap.size wr wa) := below_to HB14.out HBa.out
        obtain ⟨btm, cTm, Bm, xem, dm, hfm, rfl⟩ := HF.out.to HBra.out
        have HM : Hid (FW wa lo2 x2 btm cTm Bm xem dm S ad n p c g) := hfm
        clear hfm
        have HEq : Hid (∀ u, Below wa.heap.size wa u → Calls Tryz.prog 39 #[v13, v14] u fun e w' => e = .returned (.bool true) ∧ Below u.heap.size u w') := fun u hu => by
          have hbu : Below w14.heap.size w14 u := below_to HBa.out hu
          have y1 := HY13'.out.below hbu HV14.out.2
          have y2 := HY14.out.below hbu HV14.out.1
          have := L2.eqBytes_rr y1.rr y2.rr (by have := y1.len; have := HGk.out; omega) y1.byt y2.byt
          rw [show decide (z13 = z14) = true from decide_eq_true HZ14.out] at this
          exact this
        have HKp : Hid (∀ u, Below wa.heap.size wa u → u.cell? ⟨sa, 0, none⟩ = some (.slice (some ⟨bt9, 0, none⟩) 32 32) ∧ u.cell? ⟨x2, 2, none⟩ = some (.slice (some ⟨btm, 0, none⟩) 32 cTm)) := fun u hu => ⟨by rw [newCell hu _ _ HLa.out]; exact HCa.out, (HM.out.to hu).c2⟩
        have HSm : Hid (∀ u, Below wa.heap.size wa u → Calls Tryz.prog 35 #[.agg #[.slice (some ⟨bt9, 0, none⟩) 32 32], .agg #[.slice (some ⟨btm, 0, none⟩) 32 cTm]] u fun e w' => e = .returned (.bool true) ∧ Below u.heap.size u w') := fun u hu => rsame_hu (HHa.out.to hu) (HM.out.to hu).hu
        have HAw : Hid (∀ u, Below wa.heap.size wa u → Calls Tryz.prog 14 #[] u fun e w' => e = .returned (.bool true) ∧ Below u.heap.size u w') := fun u hu => awake_ok (HSh.out _ (below_to (below_to HWr.out HBra.out) hu))
        have HEnd : Hid (∀ u, Below wa.heap.size wa u → Below W.heap.size W u) := fun u hu => below_to (below_to HWr.out HBra.out) hu
        have hbd : Below wa.heap.size wa wa.drew := below_drew (Below.refl _ _)
        clear HBa HY13' HY14 HZ14 HV14 HB14 HB13
        go_region_held3 (fun u => u.cell? ⟨sa, 0, none⟩ = some (.slice (some ⟨bt9, 0, none⟩) 32 32) ∧ u.cell? ⟨x2, 2, none⟩ = some (.slice (some ⟨btm, 0, none⟩) 32 cTm))
          ((exact HKp.out _ (by assumption)))
          (first
            | (go_at_call 39; refine (HEq.out _ (by assumption)).mono ?_; rintro e wE ⟨rfl, hbE⟩; have hzE := below_to (by assumption) hbE)
            | (go_at_call 35; refine (HSm.out _ (by assumption)).mono ?_; rintro e wA ⟨rfl, hbA⟩; have hzA := below_to (by assumption) hbA)
            | (go_at_call 14; refine (HAw.out _ (by assumption)).mono ?_; rintro e wB ⟨rfl, hbB⟩; have hzB := below_to (by assumption) hbB))
        all_goals
          have HZB : Hid (Below wa.heap.size wa wB) := hzB
          go_wp2_with fail
          exact bodyPost_ret (v := .bool true) (by simp [results, Tryz.results17, go_sem]) rfl ⟨rfl, HEnd.out _ HZB.out⟩

end Go.Proofs.YtppanogpeengnabGreatDoor
