/- DERIVED. The walk of the document's Code. -/
import Derived.Test.YtkmnpechhdendaaGreatDoorF1
import Derived.Test.YtkmnpechhdendaaGreatDoorN0
import Derived.Test.YtkmnpechhdendaaGreatDoorY5
import Derived.Deep.Cut
import Derived.Deep.CutBlock
import Derived.Deep.Light
namespace Go.Proofs.YtkmnpechhdendaaGreatDoor
open Go.RowKit L3

/-- what is behind the end -/
def restP (n col sg : Nat) (L : List Int) (e : Nat) : Prg (List Int) := (ampL n col L e e (List.replicate (n * n) 0)).bind fun K => sgnL n col sg L e 0 K
/-- what is behind whether all are noughts -/
def behP (z : Int) (n col sg : Nat) (L : List Int) (E : Nat) : Prg (List Int) :=
  .sym (endK z) col (cls ((max E 1 : Nat) : Int)) fun c => .bits (c - 1) (L10.clE ((max E 1 : Nat) : Int) (cls ((max E 1 : Nat) : Int))) fun u => restP n col sg L (clLo c + u)
theorem codP_eq (z : Int) (n col sg : Nat) (L : List Int) (E : Nat) : codP z n col sg L E = .sym 22 (2 * col + if 8 < z then 1 else 0) (bt (E = 0)) fun v => if v = 1 then .ret (List.replicate (n * n) 0) else behP z n col sg L E := by
  unfold codP endP
  show Prg.sym _ _ _ _ = _
  congr 1
  funext v
  show (Prg.bind (if v = 1 then _ else _) _) = _
  split
  · show restP n col sg L 0 = _
    rfl
  · rfl
theorem endN_zero (n m : Nat) : ∀ e, endN n (List.replicate m 0) e = 0
  | 0 => rfl
  | e + 1 => by
    rw [endN, if_pos (by rw [List.getD_eq_getElem?_getD, List.getElem?_replicate]; split <;> simp), endN_zero n m e]
theorem end_le {z : Int} {n : Nat} (h : L10.Sz z n) {c u : Nat} (hc : c < sV (endK z)) (hu : u < 2 ^ (c - 1)) : clLo c + u ≤ n * n ∧ 1 ≤ clLo c + u := by
  obtain ⟨k1, k2, k3, k4, k5⟩ := endK_in h
  have h1 : 2 ^ c ≤ 2 ^ (sV (endK z) - 1) := Nat.pow_le_pow_right (by omega) (by omega)
  rw [k3] at h1
  unfold clLo
  split
  · next e2 => subst e2; simp at hu h1; omega
  · next e2 =>
    obtain ⟨d, rfl⟩ : ∃ d, c = d + 1 := ⟨c - 1, by omega⟩
    rw [Nat.pow_succ] at h1
    simp only [Nat.add_sub_cancel] at hu ⊢
    omega
/-- what the document's Code comes to -/
def Kf (w w' : World) (lo x : Nat) (O : Nat → Prop) (q : Nat) (r : Option (List Int) × Cs) (en : Ending) : Prop :=
  ∃ O', Fc w' lo x O' r.2 ∧ Trn O O' w w' ∧ (∀ K, r.1 = some K → ∃ g, en = .returned (.tuple #[.slice (some ⟨g, 0, none⟩) q q, .int .i64 0]) ∧ L10.Ri 3 w' g K ∧ w.heap.size ≤ g ∧ ¬ O' g) ∧ (r.1 = none → en = .returned (.tuple #[.slice none 0 0, .int .i64 4]))
theorem Sf.kf {m : Pf} {w : World} {O : Nat → Prop} {K : List Int} {s : Cs} {u : World} (h : Sf m w O K s u) : Kf w u m.lo m.x O m.q (some K, s) (.returned (.tuple #[.slice (some ⟨m.kb, 0, none⟩) m.q m.q, .int .i64 0])) := by
  obtain ⟨O', h1, h2, h3⟩ := h
  exact ⟨O', h1.fc, h2, fun K' e => (by cases e; exact ⟨m.kb, rfl, h1.kn, h3, h1.nk⟩), fun e => (by cases e)⟩
theorem Sf.kn {m : Pf} {w : World} {O : Nat → Prop} {K : List Int} {s : Cs} {u : World} (h : Sf m w O K s u) : Kf w u m.lo m.x O m.q (none, s) (.returned (.tuple #[.slice none 0 0, .int .i64 4])) := by
  obtain ⟨O', h1, h2, h3⟩ := h
  exact ⟨O', h1.fc, h2, fun K' e => (by cases e), fun _ => rfl⟩
theorem sf_new {w u : World} {lo x : Nat} {O : Nat → Prop} {s : Cs} (h : Fc w lo x O s) (hb : Below w.heap.size w u) {z : Int} {n q col sg : Nat} (hz : L10.Sz z n) (hq : n * n = q) (hc : col ≤ 1) (hs : sg ≤ 2) {ob oc kb lb lc : Nat} {L : List Int} (ho : L10.Oi u w.heap.size (some ⟨ob, 0, none⟩) q oc (L10.ord n)) (hk : L10.Ri 3 u kb (List.replicate q 0)) (hkw : w.heap.size ≤ kb) (hl : ∀ p, p < q → u.cell? ⟨lb, p, none⟩ = some (.int .i64 (L.getD p 0))) (hlw : w.heap.size ≤ lb) (hlt : lb < u.heap.size) (h1 : kb ≠ ob) (h2 : kb ≠ lb) : Sf ⟨lo, x, z, n, q, col, sg, ob, oc, kb, lb, lc, L⟩ w O (List.replicate q 0) s u := by
  have far : ∀ y, w.heap.size ≤ y → ¬ O y := fun y hy e => by have := (h.lt e).2; omega
  exact ⟨O, ⟨h.to hb, ho.lt.2, hlt, fun i hi => by rw [ho.cellAt i hi, (plc_at hz.sd (by rw [hq]; exact hi)).2.2], hk, by simp, hl, far _ ho.lt.1, far _ hkw, far _ hlw, ⟨h1, h2⟩, hz, hq.symm, hc, hs⟩, Trn.of hb, hkw⟩

/-- what the loop of the amounts keeps -/
structure A2 (m : Pf) (w : World) (O : Nat → Prop) (e : Nat) (r : Option (List Int) × Cs) (iv : Value) (wr : World) : Prop where
  ex : ∃ (i : Nat) (K : List Int) (s' : Cs), i ≤ e ∧ iv = .int .i64 ((i : Int) - 1) ∧ Kn m.n K ∧ Sf m w O K s' wr ∧ ((ampL m.n m.col m.L e i K).bind fun K => sgnL m.n m.col m.sg m.L e 0 K).Ok s' ∧ ((ampL m.n m.col m.L e i K).bind fun K => sgnL m.n m.col m.sg m.L e 0 K).run s' = r
/-- what the loop of the signs keeps -/
structure A3 (m : Pf) (w : World) (O : Nat → Prop) (e : Nat) (r : Option (List Int) × Cs) (iv : Value) (wr : World) : Prop where
  ex : ∃ (j : Nat) (K : List Int) (s' : Cs), j ≤ e ∧ iv = .int .i64 (j : Int) ∧ Kn m.n K ∧ Sf m w O K s' wr ∧ (sgnL m.n m.col m.sg m.L (e - j) j K).Ok s' ∧ (sgnL m.n m.col m.sg m.L (e - j) j K).run s' = r
/-- an amount, and what is behind it -/
def amB (n col sg : Nat) (L : List Int) (e k p more : Nat) (K : List Int) (a : Int) (v : Int) : Prg (List Int) := (amtL col more a 4 0 v).bind fun b => (ampL n col L e k (K.set p b)).bind fun K => sgnL n col sg L e 0 K
theorem amB_eq (n col sg : Nat) (L : List Int) (e k : Nat) (K : List Int) : ((ampL n col L e (k + 1) K).bind fun K => sgnL n col sg L e 0 K) = (fstP col (L10.bas K n (plc n k)).toNat (decide (k + 1 = e)) ((L.getD (plc n k) 0).natAbs : Int)).bind fun v => amB n col sg L e k (plc n k) (L10.mor K n (plc n k)).toNat K ((L.getD (plc n k) 0).natAbs : Int) v := by
  rw [ampL, Prg.bind_assoc]
  unfold amtP
  rw [Prg.bind_assoc]
  rfl
/-- a level's sign, and what is behind it -/
def sgB (n col sg : Nat) (L : List Int) (m j p : Nat) (K : List Int) (v : Nat) : Prg (List Int) := sgnL n col sg L m (j + 1) (if v = 1 then K.set p (-(K.getD p 0)) else K)
theorem sgn_zero {n col sg : Nat} {L : List Int} {m j : Nat} {K : List Int} (h : K.getD (plc n j) 0 = 0) : sgnL n col sg L (m + 1) j K = sgnL n col sg L m (j + 1) K := by rw [sgnL, if_pos h]
theorem sgn_dc {n col sg : Nat} {L : List Int} {m j : Nat} {K : List Int} (h : K.getD (plc n j) 0 ≠ 0) (hp : plc n j = 0) : sgnL n col sg L (m + 1) j K = .sym 30 (3 * col + sg) (bt (L.getD (plc n j) 0 < 0)) fun v => sgB n col sg L m j (plc n j) K v := by
  rw [sgnL, if_neg h]
  unfold blwP sgB
  rw [if_pos hp]
  show Prg.sym _ _ _ _ = _
  congr 1
  funext v
  show sgnL n col sg L m (j + 1) (if (v == 1) = true then _ else _) = _
  simp only [beq_iff_eq]
theorem sgn_ac {n col sg : Nat} {L : List Int} {m j : Nat} {K : List Int} (h : K.getD (plc n j) 0 ≠ 0) (hp : plc n j ≠ 0) : sgnL n col sg L (m + 1) j K = .bits 1 (bt (L.getD (plc n j) 0 < 0)) fun v => sgB n col sg L m j (plc n j) K v := by
  rw [sgnL, if_neg h]
  unfold blwP sgB
  rw [if_neg hp]
  show Prg.bits _ _ _ = _
  congr 1
  funext v
  show sgnL n col sg L m (j + 1) (if (v == 1) = true then _ else _) = _
  simp only [beq_iff_eq]

set_option maxRecDepth 100000 in
set_option maxHeartbeats 8000000 in
theorem rcode_any {w : World} {lo x : Nat} {O : Nat → Prop} {s : Cs} (h : Fc w lo x O s) (hn : s.n ≤ 900000000) {z : Int} {n : Nat} (hz : L10.Sz z n) {pl sg : Nat} (hp : pl ≤ 2) (hs : sg ≤ 2) {la : Option Addr} {len lc : Nat} {L : List Int} (hl : s.W = true → len = n * n ∧ Lv n L ∧ L10.Si w la L) (hr : s.W = false → L = List.replicate (n * n) 0) :
    Calls Tryz.prog 12 #[.pointer (some ⟨x, 0, none⟩), .int .i64 z, .int .i64 (pl : Int), .int .i64 (sg : Int), .slice la len lc] w fun en w' => Kf w w' lo x O (n * n) ((codP z n (min pl 1) sg L (endN n L (n * n))).run s) en := by
  have hq : n * n ≤ 1024 := hz.sd.sq
  have hn4 : 4 ≤ n := hz.sd.lo
  have hlv : ∀ p, -1048576 ≤ L.getD p 0 ∧ L.getD p 0 ≤ 1048576 := by
    cases hW : s.W
    · rw [hr hW]
      intro p
      rw [List.getD_eq_getElem?_getD, List.getElem?_replicate]
      split <;> simp
    · exact (hl hW).2.1.all
  have HLv : Hid (∀ p, -1048576 ≤ L.getD p 0 ∧ L.getD p 0 ≤ 1048576) := hlv
  have HR : Hid (Ran (Kn n) (fun K => K = L) (12 + 47 * (n * n)) s (codP z n (min pl 1) sg L (endN n L (n * n)))) := cod_ran h.so hn hz (by omega) hs (fun e => (hl e).2.1)
  have HZ : Hid (L10.Sz z n) := hz
  have HAs : Hid (Calls Tryz.prog 43 #[.pointer (some ⟨x, 0, none⟩), .int .i64 z, .int .i64 (pl : Int), .int .i64 (sg : Int), .slice la len lc] w fun e w' => e = .returned (.bool true) ∧ w' = w) := asked_yes h hz hp hs (fun e => by
    obtain ⟨h1, h2, h3⟩ := hl e
    obtain ⟨b, o, e1, e2, e3⟩ := h3.form (by rw [h2.len]; exact Nat.mul_pos (by omega) (by omega))
    exact ⟨h1, b, o, L, e1, fun p hp => e3 p (by rw [h2.len]; exact hp), h2.all⟩)
  have HSd : Hid (Calls Tryz.prog 44 #[.int .i64 z] w fun e w' => e = .returned (.int .i64 (n : Int)) ∧ w = w') := L10.side_yes hz
  have HOr : Hid (Calls Tryz.prog 45 #[.int .i64 z] w fun e w' => L10.On w w' e n) := L10.rorder_yes hz
  have HF : Hid (Fc w lo x O s) := h
  have HCp : Hid (s.W = true → len = n * n ∧ L.length = n * n ∧ ∀ u, Below w.heap.size w u → Calls Tryz.prog 10 #[.slice la len lc] u fun e w' => L10.Cp u w' e L) := fun e => by
    obtain ⟨h1, h2, h3⟩ := hl e
    refine ⟨h1, h2.len, fun u hu => ?_⟩
    have := L10.copy_any (c := lc) (h3.to hu) (by rw [h2.len]; omega)
    rw [h2.len] at this
    rw [h1]
    exact this
  have HRd : Hid (s.W = false → L = List.replicate (n * n) 0) := hr
  have HS2 : Hid (sg ≤ 2) := hs
  obtain ⟨col, hcol⟩ : ∃ col, min pl 1 = col := ⟨_, rfl⟩
  have hc1 : min (pl : Int) 1 = (col : Int) := by omega
  have HC1 : Hid (col ≤ 1) := by show _ ≤ _; omega
  rw [hcol] at HR ⊢
  obtain ⟨r, hr'⟩ : ∃ r, (codP z n col sg L (endN n L (n * n))).run s = r := ⟨_, rfl⟩
  rw [hr']
  have HRr : Hid ((codP z n col sg L (endN n L (n * n))).run s = r) := hr'
  obtain ⟨q, hqn⟩ : ∃ q, n * n = q := ⟨_, rfl⟩
  have HQ : Hid (n * n = q) := hqn
  have hqi : (n : Int) * (n : Int) = (q : Int) := by rw [← hqn]; simp
  have hwq := wrap_small (x := (q : Int)) (by omega) (by omega)
  have hq2 : (q : Int) ≤ 1024 := by omega
  have hq3 : (0 : Int) ≤ (q : Int) := by omega
  rw [hqn]
  have hmk := L10.mk_ints (n := q) (by omega)
  clear h hn hz hp hs hl hr hcol hr' hqn hq hn4 hlv
  go_enter Tryz.func12, Tryz.ntmps12
  go_wp2_with fail
  refine HAs.out.mono ?_
  rintro en w1 ⟨rfl, hw1⟩
  obtain rfl : w = w1 := hw1.symm
  clear hw1 HAs
  go_wp2_with fail
  refine HSd.out.mono ?_
  rintro en w1 ⟨rfl, rfl⟩
  clear HSd
  go_wp2_with fail
  refine HOr.out.mono ?_
  rintro en w2 ⟨ob, oc, rfl, ho2, hb2⟩
  rw [HQ.out] at ho2 ⊢
  have HO2 : Hid (L10.Oi w2 w.heap.size (some ⟨ob, 0, none⟩) q oc (L10.ord n)) := ho2
  have HB2 : Hid (Below w.heap.size w w2) := hb2
  clear ho2 hb2 HOr
  have HW2 : Hid (Below w.heap.size w ((w2.alloc (Obj.cells (madeCells #[Value.int IntKind.i64 0] q) 3)).alloc (Obj.cells (madeCells #[Value.int IntKind.i64 0] q) 3))) := L10.to_alloc (L10.to_alloc HB2.out _) _
  have HF2 : Hid (Fc ((w2.alloc (Obj.cells (madeCells #[Value.int IntKind.i64 0] q) 3)).alloc (Obj.cells (madeCells #[Value.int IntKind.i64 0] q) 3)) lo x O s) := HF.out.to HW2.out
  go_wp2_with fail
  refine (fwrites_fc HF2.out).mono ?_
  rintro en w3 ⟨rfl, hw3⟩
  have HK3 : Hid (L10.Ri 3 w3 w2.heap.size (List.replicate q 0) ∧ L10.Ri 3 w3 (w2.heap.size + 1) (List.replicate q 0) ∧ L10.Oi w3 w.heap.size (some ⟨ob, 0, none⟩) q oc (L10.ord n) ∧ Below w.heap.size w w3 ∧ ob < w2.heap.size ∧ w.heap.size ≤ w2.heap.size) := by
    rw [hw3]
    refine ⟨(L10.Ri.made 3 w2 q rfl).to (L10.from_alloc _ _), ?_, (HO2.out.to (L10.from_alloc _ _)).to (L10.from_alloc _ _), HW2.out, HO2.out.lt.2, HB2.out.size⟩
    exact L10.Ri.made 3 _ q (by simp)
  have HF3 : Hid (Fc w3 lo x O s) := by rw [hw3]; exact HF2.out
  generalize hkb : w2.heap.size = kb at *
  clear hw3 HF2 HW2 HO2 HB2 hkb
  obtain ⟨E, hE⟩ : ∃ E, endN n L q = E := ⟨_, rfl⟩
  have HE : Hid (endN n L q = E) := hE
  have hEq : E ≤ q := by rw [← hE]; exact endN_le n L q
  clear hE
  go_upto_if 64 with fail
  go_cut [17, 18, 19] (fun s17 s18 s19 T => ∃ lb lc', s17 = .slice (some ⟨lb, 0, none⟩) q lc' ∧ s18 = .int .i64 (E : Int) ∧ Sf ⟨lo, x, z, n, q, col, sg, ob, oc, kb, lb, lc', L⟩ w O (List.replicate q 0) s T)
  case first => as_aux_lemma =>
    cases hW : s.W
    · have HL0 : Hid (L = List.replicate q 0) := by have := HRd.out hW; rw [HQ.out] at this; exact this
      have HE0 : Hid (E = 0) := by have := HE.out; rw [HL0.out, endN_zero] at this; exact this.symm
      go_wp2_with fail
      go_meet
      obtain ⟨k1, k2, k3, k4, k5, k6⟩ := HK3.out
      refine ⟨kb + 1, q, rfl, by rw [HE0.out]; rfl, ?_⟩
      exact sf_new HF.out k4 HZ.out HQ.out HC1.out HS2.out k3 k1 (by omega) (fun p hp => by rw [HL0.out]; exact k2.cell p (by simpa using hp)) (by omega) k2.lt (by omega) (by omega)
    · obtain ⟨h1, h2, h3⟩ := HCp.out hW
      rw [HQ.out] at h1 h2
      subst h1
      obtain ⟨k1, k2, k3, k4, k5, k6⟩ := HK3.out
      have HCc : Hid (Calls Tryz.prog 10 #[.slice la len lc] w3 fun e w' => L10.Cp w3 w' e L) := h3 w3 k4
      clear h3 k1 k2 k3 k4 k5 k6
      go_wp2_with fail
      refine HCc.out.mono ?_
      rintro en w4 ⟨a4, c4, rfl, ho4, hb4⟩
      rw [h2] at ho4 ⊢
      have hq0 : 0 < len := by have h1 := HQ.out; have h4 := HZ.out.sd.lo; have h5 := Nat.mul_pos (show 0 < n by omega) (show 0 < n by omega); omega
      obtain ⟨lb, cap, hv4, _, _⟩ := ho4.own.form (by omega)
      simp only [Value.slice.injEq] at hv4
      obtain ⟨rfl, _, rfl⟩ := hv4
      obtain ⟨k1, k2, k3, k4, k5, k6⟩ := HK3.out
      have HS4 : Hid (Sf ⟨lo, x, z, n, len, col, sg, ob, oc, kb, lb, c4, L⟩ w O (List.replicate len 0) s w4) := sf_new HF.out (L10.below_to k4 hb4) HZ.out HQ.out HC1.out HS2.out (k3.to hb4) (k1.to hb4) (by omega) (fun p hp => ho4.cellAt p hp) (by have := ho4.lt.1; have := k4.size; omega) ho4.lt.2 (by omega) (by have := ho4.lt.1; have := k1.lt; omega)
      have HOd : Hid (∀ i, i < len → w4.cell? ⟨ob, i, none⟩ = some (.int .i64 ((plc n i : Nat) : Int)) ∧ plc n i < len) := fun i hi => by
        obtain ⟨O', g1, -, -⟩ := HS4.out
        exact ⟨g1.od i hi, by have := (plc_at HZ.out.sd (i := i) (by rw [HQ.out]; exact hi)).1; rw [HQ.out] at this; exact this⟩
      have HLc : Hid (∀ p, p < len → w4.cell? ⟨lb, p, none⟩ = some (.int .i64 (L.getD p 0))) := fun p hp => ho4.cellAt p hp
      have hcap : len ≤ c4 := ho4.cap
      clear k1 k2 k3 k4 k5 k6 ho4 hb4 h2 hW hq0 HCc
      go_wp2_with fail
      go_loopw [18, 19] (fun ev iv wr => ∃ i : Nat, i ≤ len ∧ iv = .int .i64 i ∧ ev = .int .i64 ((endN n L i : Nat) : Int) ∧ wr = w4) (fun _ i _ => len - (intOf i).toNat)
      case atStart => exact ⟨0, by omega, rfl, rfl, rfl⟩
      case round =>
        obtain ⟨i, hi, rfl, rfl, rfl⟩ := hrel
        by_cases hlt : i < len
        · obtain ⟨o1, o2⟩ := HOd.out i hlt
          have l1 := HLc.out _ o2
          have HEn : Hid (endN n L (i + 1) = if L.getD (plc n i) 0 = 0 then endN n L i else i + 1) := rfl
          have HI : Hid (i < len) := hlt
          have i0 : (0 : Int) ≤ (i : Int) := by omega
          have i1 : (i : Int) < (len : Int) := by omega
          generalize hpl : plc n i = p at *
          have p0 : (0 : Int) ≤ (p : Int) := by omega
          have p1 : (p : Int) < (len : Int) := by omega
          generalize L.getD p 0 = v at *
          clear hlt hi hpl o2
          by_cases hv : v = 0
          · have hv2 : (v == 0) = true := by rw [hv]; rfl
            have HEn2 : Hid (endN n L (i + 1) = endN n L i) := by have := HEn.out; rw [if_pos hv] at this; exact this
            clear hv HEn
            go_wp2_with fail
            have hlt := HI.out
            go_roundw
            case rel => exact ⟨i + 1, by omega, by go_num, by rw [HEn2.out], (by first | trivial | rfl)⟩
            case measure => simp [intOf]; omega
          · have hv2 : (v == 0) = false := by rw [beq_eq_false_iff_ne]; exact hv
            have HEn2 : Hid (endN n L (i + 1) = i + 1) := by have := HEn.out; rw [if_neg hv] at this; exact this
            clear hv HEn
            go_wp2_with fail
            have hlt := HI.out
            go_roundw
            case rel => exact ⟨i + 1, by omega, by go_num, by rw [HEn2.out]; go_num, (by first | trivial | rfl)⟩
            case measure => simp [intOf]; omega
        · obtain rfl : i = len := by omega
          have i1 : ¬ (i : Int) < (i : Int) := by omega
          go_wp2_with fail
          go_meet
          exact ⟨lb, c4, rfl, by rw [HE.out], HS4.out⟩
  case rest => as_aux_lemma =>
  obtain ⟨lb, lc', rfl, rfl, hS⟩ := hcut
  have HS : Hid (Sf (⟨lo, x, z, n, q, col, sg, ob, oc, kb, lb, lc', L⟩ : Pf) w O (List.replicate q 0) s wc) := hS
  obtain ⟨c2, hc2⟩ : ∃ c2 : Nat, 2 * col = c2 := ⟨_, rfl⟩
  obtain ⟨cx, hcx⟩ : ∃ cx : Nat, c2 + (if 8 < z then 1 else 0) = cx := ⟨_, rfl⟩
  have h2c : (2 : Int) * (col : Int) = (c2 : Int) := by omega
  have hc2b : c2 ≤ 2 := by have := HC1.out; omega
  have hw2 := wrap_small (x := (c2 : Int)) (by omega) (by omega)
  have hw21 := wrap_small (x := (c2 : Int) + 1) (by omega) (by omega)
  have HCx : Hid (c2 + (if 8 < z then 1 else 0) = cx) := hcx
  have HO1 : Hid ((Prg.sym 22 cx (bt (E = 0)) fun v => if v = 1 then .ret (List.replicate q 0) else behP z n col sg L E).Ok s) := by
    have := HR.out.ok
    rw [HQ.out, HE.out, codP_eq, hc2, hcx, HQ.out] at this
    exact this
  have HR1 : Hid ((Prg.sym 22 cx (bt (E = 0)) fun v => if v = 1 then .ret (List.replicate q 0) else behP z n col sg L E).run s = r) := by
    have := HRr.out
    rw [HQ.out, HE.out, codP_eq, hc2, hcx, HQ.out] at this
    exact this
  clear hS HCp HRd HK3 HF3 HF HR HRr hc2 hcx HE
  go_upto_if 84 with fail
  go_cut [20] (fun s20 T => s20 = .int .i64 (bt (E = 0)) ∧ T = wc)
  case first => as_aux_lemma =>
    by_cases e0 : E = 0
    · have HB : Hid (bt (E = 0) = 1) := bt_yes e0
      have hd : ((E : Int) == 0) = true := by rw [e0]; rfl
      clear e0
      go_wp2_with fail
      go_meet
      exact ⟨by rw [HB.out], rfl⟩
    · have HB : Hid (bt (E = 0) = 0) := bt_no e0
      have hd : ((E : Int) == 0) = false := by rw [beq_eq_false_iff_ne]; omega
      clear e0
      go_wp2_with fail
      go_meet
      exact ⟨by rw [HB.out], rfl⟩
  case rest => as_aux_lemma =>
  obtain ⟨rfl, hw⟩ := hcut
  subst hw
  go_upto_if 88 with fail
  go_cut [21] (fun s21 T => s21 = .int .i64 (cx : Int) ∧ T = wc)
  case first => as_aux_lemma =>
    by_cases e0 : 8 < z
    · have HB : Hid ((cx : Int) = (c2 : Int) + 1) := by show _ = _; have := HCx.out; rw [if_pos e0] at this; omega
      go_wp2_with fail
      go_meet
      exact ⟨by rw [HB.out], rfl⟩
    · have HB : Hid ((cx : Int) = (c2 : Int)) := by show _ = _; have := HCx.out; rw [if_neg e0] at this; omega
      go_wp2_with fail
      go_meet
      exact ⟨by rw [HB.out], rfl⟩
  case rest => as_aux_lemma =>
  obtain ⟨rfl, hw⟩ := hcut
  subst hw
  have hO1 := HO1.out
  have hv := hO1.1
  have HSy : Hid (Calls Tryz.prog 47 #[.pointer (some ⟨x, 0, none⟩), .int .i64 (22 : Nat), .int .i64 (cx : Nat), .int .i64 (bt (E = 0))] wc fun e w' => e = .returned (.tuple #[.int .i64 (syA s 22 cx (bt (E = 0)) : Nat), .int .i64 0]) ∧ Sf (⟨lo, x, z, n, q, col, sg, ob, oc, kb, lb, lc', L⟩ : Pf) w O (List.replicate q 0) (syN s 22 cx (syA s 22 cx (bt (E = 0)))) w') := sf_symbol HS.out hv (fun _ => rfl)
  have hO2 : (if syA s 22 cx (bt (E = 0)) = 1 then Prg.ret (List.replicate q 0) else behP z n col sg L E).Ok (syN s 22 cx (syA s 22 cx (bt (E = 0)))) := hO1.2
  have hR2 : (if syA s 22 cx (bt (E = 0)) = 1 then Prg.ret (List.replicate q 0) else behP z n col sg L E).run (syN s 22 cx (syA s 22 cx (bt (E = 0)))) = r := HR1.out
  generalize syA s 22 cx (bt (E = 0)) = v at *
  generalize syN s 22 cx v = s1 at *
  generalize bt (E = 0) = zz at *
  have HO2 : Hid _ := hO2
  have HR2 : Hid _ := hR2
  clear hO1 hv hO2 hR2 HO1 HR1 HCx
  go_wp2_with fail
  refine HSy.out.mono ?_
  rintro en w5 ⟨rfl, hS5⟩
  have HS5 : Hid (Sf (⟨lo, x, z, n, q, col, sg, ob, oc, kb, lb, lc', L⟩ : Pf) w O (List.replicate q 0) s1 w5) := hS5
  clear hS5 HSy HS
  by_cases hv1 : v = 1
  · have hd : ((v : Int) == 1) = true := by rw [hv1]; rfl
    have HRn : Hid (r = (some (List.replicate q 0), s1)) := by have := HR2.out; rw [if_pos hv1] at this; exact this.symm
    clear HR2 HO2 hv1
    go_wp2_with fail
    refine bodyPost_ret (v := .tuple #[.slice (some ⟨kb, 0, none⟩) q q, .int .i64 0]) (by simp [results, Tryz.results12, go_sem]) rfl ?_
    rw [HRn.out]
    exact HS5.out.kf
  have hd : ((v : Int) == 1) = false := by rw [beq_eq_false_iff_ne]; omega
  have HO3 : Hid ((behP z n col sg L E).Ok s1) := by have := HO2.out; rw [if_neg hv1] at this; exact this
  have HR3 : Hid ((behP z n col sg L E).run s1 = r) := by have := HR2.out; rw [if_neg hv1] at this; exact this
  clear HR2 HO2 hv1
  obtain ⟨E1, hE1⟩ : ∃ E1, max E 1 = E1 := ⟨_, rfl⟩
  have hmx : max (E : Int) 1 = (E1 : Int) := by omega
  unfold behP at HO3 HR3
  rw [hE1] at HO3 HR3
  have HCl : Hid (∀ u : World, Calls Tryz.prog 48 #[.int .i64 (E1 : Int)] u fun e w' => e = .returned (.tuple #[.int .i64 ((cls (E1 : Int) : Nat) : Int), .int .i64 (L10.clB (cls (E1 : Int))), .int .i64 (L10.clE (E1 : Int) (cls (E1 : Int))), .int .i64 0]) ∧ Below u.heap.size u w') := fun u => L10.rclass_yes (by omega) (by omega) (cls_cl (by omega))
  have HEd : Hid (∀ u : World, Calls Tryz.prog 49 #[.int .i64 z] u fun e w' => e = .returned (.int .i64 (endK z : Nat)) ∧ w' = u) := fun u => ends_any HZ.out
  generalize L10.clB (cls (E1 : Int)) = cB at *
  generalize L10.clE (E1 : Int) (cls (E1 : Int)) = cX at *
  generalize cls (E1 : Int) = cE at *
  have HK2 : Hid (∀ c u : Nat, c < sV (endK z) → u < 2 ^ (c - 1) → clLo c + u ≤ q ∧ 1 ≤ clLo c + u) := fun c u h1 h2 => by rw [← HQ.out]; exact end_le HZ.out h1 h2
  have HKb : Hid (sV (endK z) ≤ 11) := (endK_in HZ.out).2.2.2.2
  generalize endK z = kk at *
  clear hE1
  have hv := HO3.out.1
  have HSy : Hid (∀ u, Sf (⟨lo, x, z, n, q, col, sg, ob, oc, kb, lb, lc', L⟩ : Pf) w O (List.replicate q 0) s1 u → Calls Tryz.prog 47 #[.pointer (some ⟨x, 0, none⟩), .int .i64 (kk : Nat), .int .i64 (col : Nat), .int .i64 (cE : Nat)] u fun e w' => e = .returned (.tuple #[.int .i64 (syA s1 kk col (cE : Int) : Nat), .int .i64 0]) ∧ Sf (⟨lo, x, z, n, q, col, sg, ob, oc, kb, lb, lc', L⟩ : Pf) w O (List.replicate q 0) (syN s1 kk col (syA s1 kk col (cE : Int))) w') := fun u hu => sf_symbol hu hv (fun _ => rfl)
  have hlt : syA s1 kk col (cE : Int) < sV kk := by
    obtain ⟨O', g1, -, -⟩ := HS5.out
    exact sy_lt g1.fc.so hv.1 hv.2.1 hv.2.2.2
  have hO4 : (Prg.bits (syA s1 kk col (cE : Int) - 1) cX fun u => restP n col sg L (clLo (syA s1 kk col (cE : Int)) + u)).Ok (syN s1 kk col (syA s1 kk col (cE : Int))) := HO3.out.2
  have hR4 : (Prg.bits (syA s1 kk col (cE : Int) - 1) cX fun u => restP n col sg L (clLo (syA s1 kk col (cE : Int)) + u)).run (syN s1 kk col (syA s1 kk col (cE : Int))) = r := HR3.out
  generalize syA s1 kk col (cE : Int) = c at *
  generalize syN s1 kk col c = s2 at *
  have HO4 : Hid _ := hO4
  have HR4 : Hid _ := hR4
  have HLt : Hid (c < sV kk) := hlt
  clear hv hO4 hR4 HO3 HR3 hlt
  go_wp2_with fail
  refine (HCl.out _).mono ?_
  rintro en w6 ⟨rfl, hb6⟩
  have HS6 : Hid (Sf (⟨lo, x, z, n, q, col, sg, ob, oc, kb, lb, lc', L⟩ : Pf) w O (List.replicate q 0) s1 w6) := HS5.out.to hb6
  clear hb6 HS5 HCl
  go_wp2_with fail
  refine (HEd.out _).mono ?_
  rintro en w7 ⟨rfl, hw7⟩
  obtain rfl : w6 = w7 := hw7.symm
  clear hw7 HEd
  go_wp2_with fail
  refine (HSy.out _ HS6.out).mono ?_
  rintro en w8 ⟨rfl, hS8⟩
  have HS8 : Hid (Sf (⟨lo, x, z, n, q, col, sg, ob, oc, kb, lb, lc', L⟩ : Pf) w O (List.replicate q 0) s2 w8) := hS8
  clear hS8 HS6 HSy
  go_upto_if 119 with fail
  go_cut [18, 24] (fun s18 s24 T => ∃ (e : Nat) (s3 : Cs), s18 = .int .i64 (e : Int) ∧ e ≤ q ∧ 1 ≤ e ∧ Hid (Sf (⟨lo, x, z, n, q, col, sg, ob, oc, kb, lb, lc', L⟩ : Pf) w O (List.replicate q 0) s3 T) ∧ Hid ((restP n col sg L e).Ok s3) ∧ Hid ((restP n col sg L e).run s3 = r))
  case first => as_aux_lemma =>
    by_cases hc0 : c = 0
    · subst hc0
      have hd : ¬ (0 : Int) < ((0 : Nat) : Int) := by omega
      have hO := HO4.out.2
      have hR : (restP n col sg L (clLo 0 + biA s2 0 cX)).run (biN s2 0 (biA s2 0 cX)) = r := HR4.out
      have hb0 : biA s2 0 cX = 0 := by have := bi_lt (s := s2) (n := 0) (z := cX) HO4.out.1.2.2; simpa using this
      have hO' : (restP n col sg L (clLo 0 + biA s2 0 cX)).Ok (biN s2 0 (biA s2 0 cX)) := hO
      rw [biN_zero, hb0] at hO' hR
      have HO5 : Hid ((restP n col sg L 1).Ok s2) := hO'
      have HR5 : Hid ((restP n col sg L 1).run s2 = r) := hR
      have HQ1 : Hid (1 ≤ q) := by have := (HK2.out 0 0 HLt.out (by omega)).1; show 1 ≤ q; simpa [clLo] using this
      clear hO hR hb0 hO' HO4 HR4
      go_wp2_with fail
      go_meet
      exact ⟨1, s2, rfl, HQ1.out, by omega, HS8.out, HO5.out, HR5.out⟩
    · obtain ⟨d, rfl⟩ : ∃ d, c = d + 1 := ⟨c - 1, by omega⟩
      have hd : (0 : Int) < ((d + 1 : Nat) : Int) := by omega
      have hd1 : ((d + 1 : Nat) : Int) - 1 = (d : Int) := by omega
      have hdl : d ≤ 10 := by have h1 := HLt.out; have h2 := HKb.out; omega
      have hv := HO4.out.1
      simp only [Nat.add_sub_cancel] at hv
      have HSy : Hid (Calls Tryz.prog 50 #[.pointer (some ⟨x, 0, none⟩), .int .i64 (d : Nat), .int .i64 cX] w8 fun e w' => e = .returned (.tuple #[.int .i64 (biA s2 d cX : Nat), .int .i64 0]) ∧ Sf (⟨lo, x, z, n, q, col, sg, ob, oc, kb, lb, lc', L⟩ : Pf) w O (List.replicate q 0) (biN s2 d (biA s2 d cX)) w') := sf_bits HS8.out hv (fun _ => rfl)
      have hO : (restP n col sg L (clLo (d + 1) + biA s2 d cX)).Ok (biN s2 d (biA s2 d cX)) := HO4.out.2
      have hR : (restP n col sg L (clLo (d + 1) + biA s2 d cX)).run (biN s2 d (biA s2 d cX)) = r := HR4.out
      have hbl := bi_lt (s := s2) (n := d) (z := cX) hv.2.2
      have hK := HK2.out (d + 1) (biA s2 d cX) HLt.out hbl
      obtain ⟨P, hP⟩ : ∃ P : Nat, 2 ^ d = P := ⟨_, rfl⟩
      have hP2 : (1 : Int) * 2 ^ d = (P : Int) := by rw [← hP]; simp
      have hPm : P ≤ 2 ^ 10 := by rw [← hP]; exact Nat.pow_le_pow_right (by omega) hdl
      have hcl : clLo (d + 1) = P + 1 := by unfold clLo; rw [if_neg (by omega), ← hP]; simp
      rw [hcl] at hO hR hK
      rw [hP] at hbl
      have hwp := wrap_small (x := (P : Int)) (by omega) (by omega)
      have hwp1 := wrap_small (x := (P : Int) + 1) (by omega) (by omega)
      have hwp2 := wrap_small (x := (P : Int) + 1 + ((biA s2 d cX : Nat) : Int)) (by omega) (by omega)
      generalize biA s2 d cX = bu at *
      generalize biN s2 d bu = s3 at *
      have HO5 : Hid _ := hO
      have HR5 : Hid _ := hR
      have HK5 : Hid _ := hK
      have d0 : (0 : Int) ≤ (d : Int) := by omega
      have d1 : (d : Int) < 64 := by omega
      clear hO hR hK hv HO4 HR4 hc0 hP hcl HLt
      go_wp2_with fail
      refine HSy.out.mono ?_
      rintro en w9 ⟨rfl, hS9⟩
      have HS9 : Hid (Sf (⟨lo, x, z, n, q, col, sg, ob, oc, kb, lb, lc', L⟩ : Pf) w O (List.replicate q 0) s3 w9) := hS9
      clear hS9 HSy
      go_wp2_with fail
      go_meet
      exact ⟨P + 1 + bu, s3, by go_num, HK5.out.1, HK5.out.2, HS9.out, HO5.out, HR5.out⟩
  case rest => as_aux_lemma =>
  obtain ⟨e, s3, rfl, heq, he1, HS9, HO5, HR5⟩ := hcut
  have HA2 : Hid (A2 (⟨lo, x, z, n, q, col, sg, ob, oc, kb, lb, lc', L⟩ : Pf) w O e r (.int .i64 ((e : Int) - 1)) wc) := ⟨e, List.replicate q 0, s3, Nat.le_refl _, rfl, by rw [← HQ.out]; exact Kn.zero n, HS9.out, by have := HO5.out; unfold restP at this; rw [HQ.out] at this; exact this, by have := HR5.out; unfold restP at this; rw [HQ.out] at this; exact this⟩
  have HEq : Hid (e ≤ q) := heq
  have hwe := wrap_small (x := (e : Int) - 1) (by omega) (by omega)
  clear HS9 HO5 HR5 HO4 HR4 HS8 HK2 HKb HLt
  go_wp2_with fail
  go_loopw [26] (fun iv wr => A2 (⟨lo, x, z, n, q, col, sg, ob, oc, kb, lb, lc', L⟩ : Pf) w O e r iv wr) (fun i _ => (intOf i + 1).toNat)
  case atStart => exact HA2.out
  case round =>
    obtain ⟨i, K, s', hi, rfl, hKn, hS, hok, hrun⟩ := hrel
    simp only at hKn hok hrun
    have HS1 : Hid (Sf (⟨lo, x, z, n, q, col, sg, ob, oc, kb, lb, lc', L⟩ : Pf) w O K s' wr) := hS
    have HKn : Hid (Kn n K) := hKn
    clear HA2 hS hKn
    by_cases h0 : i = 0
    · subst h0
      have hd : ((0 : Nat) : Int) - 1 = -1 := by omega
      rw [hd]
      have HA3 : Hid (A3 (⟨lo, x, z, n, q, col, sg, ob, oc, kb, lb, lc', L⟩ : Pf) w O e r (.int .i64 0) wr) := ⟨0, K, s', by omega, rfl, HKn.out, HS1.out, hok, hrun⟩
      clear hok hrun hd HS1 HKn hi
      go_wp2_with fail
      go_loopw [36] (fun iv wr => A3 (⟨lo, x, z, n, q, col, sg, ob, oc, kb, lb, lc', L⟩ : Pf) w O e r iv wr) (fun i _ => (e - (intOf i).toNat))
      case atStart => exact HA3.out
      case round =>
        obtain ⟨j, K3, s3, hj, rfl, hKn, hS, hok, hrun⟩ := hrel
        simp only at hKn hok hrun
        have HS1 : Hid (Sf (⟨lo, x, z, n, q, col, sg, ob, oc, kb, lb, lc', L⟩ : Pf) w O K3 s3 wr) := hS
        have HKn : Hid (Kn n K3) := hKn
        clear HA3 hS
        by_cases hje : j = e
        · subst hje
          have hd : ¬ (j : Int) < (j : Int) := by omega
          have HRn : Hid (r = (some K3, s3)) := by have := hrun; rw [Nat.sub_self] at this; exact this.symm
          clear hok hrun hj hKn
          go_wp2_with fail
          refine bodyPost_ret (v := .tuple #[.slice (some ⟨kb, 0, none⟩) q q, .int .i64 0]) (by simp [results, Tryz.results12, go_sem]) rfl ?_
          rw [HRn.out]
          exact HS1.out.kf
        · have hlt : j < e := by omega
          have hjq : j < q := by omega
          have hd : (j : Int) < (e : Int) := by omega
          obtain ⟨mm, hmm⟩ : ∃ mm, e - j = mm + 1 := ⟨e - j - 1, by omega⟩
          rw [hmm] at hok hrun
          have HMm : Hid (e - (j + 1) = mm) := by show _ = _; omega
          have hpq : plc n j < q := by have := (plc_at HZ.out.sd (i := j) (by rw [HQ.out]; exact hjq)).1; rw [HQ.out] at this; exact this
          obtain ⟨o1, l1, t1, t2⟩ : wr.cell? ⟨ob, j, none⟩ = some (.int .i64 ((plc n j : Nat) : Int)) ∧ wr.cell? ⟨lb, plc n j, none⟩ = some (.int .i64 (L.getD (plc n j) 0)) ∧ wr.cell? ⟨kb, plc n j, none⟩ = some (.int .i64 (K3.getD (plc n j) 0)) ∧ wr.frozen? ⟨kb, plc n j, none⟩ = false := by
            obtain ⟨O', g1, -, -⟩ := HS1.out
            exact ⟨g1.od j hjq, g1.lv _ hpq, g1.kn.cell _ (by rw [g1.kl]; exact hpq), g1.kn.thaw _⟩
          have hkb := hKn.2 (plc n j)
          have j0 : (0 : Int) ≤ (j : Int) := by omega
          have j1 : (j : Int) < (q : Int) := by omega
          have p0 : (0 : Int) ≤ ((plc n j : Nat) : Int) := by omega
          have p1 : ((plc n j : Nat) : Int) < (q : Int) := by omega
          have HJ : Hid (j < e) := hlt
          have HPq : Hid (plc n j < q) := hpq
          clear hKn hj hje hlt hjq hmm
          by_cases hk0 : K3.getD (plc n j) 0 = 0
          · rw [sgn_zero hk0] at hok hrun
            rw [hk0] at t1
            have HOn : Hid ((sgnL n col sg L (e - (j + 1)) (j + 1) K3).Ok s3) := by show Prg.Ok _ _; rw [HMm.out]; exact hok
            have HRn : Hid ((sgnL n col sg L (e - (j + 1)) (j + 1) K3).run s3 = r) := by show _ = _; rw [HMm.out]; exact hrun
            clear hok hrun hkb hk0 HPq hpq
            generalize plc n j = p at *
            go_wp2_with fail
            have hJ := HJ.out
            go_roundw
            case rel => exact ⟨⟨j + 1, K3, s3, by omega, by go_num, HKn.out, HS1.out, HOn.out, HRn.out⟩⟩
            case measure => simp [intOf]; omega
          · have hkd : (K3.getD (plc n j) 0 == 0) = false := by rw [beq_eq_false_iff_ne]; exact hk0
            have hX : (plc n j = 0 → (Prg.sym 30 (3 * col + sg) (bt (L.getD (plc n j) 0 < 0)) fun v => sgB n col sg L mm j (plc n j) K3 v).Ok s3 ∧ (Prg.sym 30 (3 * col + sg) (bt (L.getD (plc n j) 0 < 0)) fun v => sgB n col sg L mm j (plc n j) K3 v).run s3 = r) ∧ (plc n j ≠ 0 → (Prg.bits 1 (bt (L.getD (plc n j) 0 < 0)) fun v => sgB n col sg L mm j (plc n j) K3 v).Ok s3 ∧ (Prg.bits 1 (bt (L.getD (plc n j) 0 < 0)) fun v => sgB n col sg L mm j (plc n j) K3 v).run s3 = r) := ⟨fun e1 => by rw [← sgn_dc hk0 e1]; exact ⟨hok, hrun⟩, fun e1 => by rw [← sgn_ac hk0 e1]; exact ⟨hok, hrun⟩⟩
            have HX : Hid _ := hX
            clear hok hrun hX hk0
            have HKp : Hid (∀ v : Nat, Kn n (if v = 1 then K3.set (plc n j) (-(K3.getD (plc n j) 0)) else K3)) := fun v => by
              split
              · exact HKn.out.set _ (by omega) (by omega)
              · exact HKn.out
            generalize hpl : plc n j = p at *
            generalize hvl : L.getD p 0 = vl at *
            obtain ⟨kv, hkv⟩ : ∃ kv, K3.getD p 0 = kv := ⟨_, rfl⟩
            have HKv : Hid (K3.getD p 0 = kv) := hkv
            rw [hkv] at t1 hkd hkb
            have hwk := wrap_small (x := -kv) (by omega) (by omega)
            clear hpl hvl hkv hpq hkb
            go_upto_if 226 with fail
            go_cut [38] (fun s38 T => s38 = .int .i64 (bt (vl < 0)) ∧ T = wr)
            case first => as_aux_lemma =>
              by_cases hn : vl < 0
              · have HB : Hid (bt (vl < 0) = 1) := bt_yes hn
                go_wp2_with fail
                go_meet
                exact ⟨by rw [HB.out], rfl⟩
              · have HB : Hid (bt (vl < 0) = 0) := bt_no hn
                go_wp2_with fail
                go_meet
                exact ⟨by rw [HB.out], rfl⟩
            case rest => as_aux_lemma =>
            obtain ⟨rfl, hw⟩ := hcut
            subst hw
            generalize bt (vl < 0) = zz at *
            go_upto_if 228 with fail
            go_cut [38] (fun s38 T => ∃ (v : Nat) (s4 : Cs), s38 = .int .i64 (v : Int) ∧ v < 2 ∧ Hid (Sf (⟨lo, x, z, n, q, col, sg, ob, oc, kb, lb, lc', L⟩ : Pf) w O K3 s4 T) ∧ Hid ((sgB n col sg L mm j p K3 v).Ok s4) ∧ Hid ((sgB n col sg L mm j p K3 v).run s4 = r))
            case first => as_aux_lemma =>
              by_cases hp0 : p = 0
              · have hpd : ((p : Int) == 0) = true := by rw [hp0]; rfl
                obtain ⟨hO, hR⟩ := HX.out.1 hp0
                obtain ⟨c, hc⟩ : ∃ c : Nat, 3 * col = c := ⟨_, rfl⟩
                obtain ⟨d, hd2⟩ : ∃ d : Nat, c + sg = d := ⟨_, rfl⟩
                rw [hc, hd2] at hO hR
                have hv := hO.1
                have HSy : Hid (Calls Tryz.prog 47 #[.pointer (some ⟨x, 0, none⟩), .int .i64 (30 : Nat), .int .i64 (d : Nat), .int .i64 zz] wc fun e w' => e = .returned (.tuple #[.int .i64 (syA s3 30 d zz : Nat), .int .i64 0]) ∧ Sf (⟨lo, x, z, n, q, col, sg, ob, oc, kb, lb, lc', L⟩ : Pf) w O K3 (syN s3 30 d (syA s3 30 d zz)) w') := sf_symbol HS1.out hv (fun _ => rfl)
                have hlt : syA s3 30 d zz < 2 := by
                  obtain ⟨O', g1, -, -⟩ := HS1.out
                  exact sy_lt g1.fc.so hv.1 hv.2.1 hv.2.2.2
                have hO3 : (sgB n col sg L mm j p K3 (syA s3 30 d zz)).Ok (syN s3 30 d (syA s3 30 d zz)) := hO.2
                have hR3 : (sgB n col sg L mm j p K3 (syA s3 30 d zz)).run (syN s3 30 d (syA s3 30 d zz)) = r := hR
                generalize syA s3 30 d zz = v at *
                generalize syN s3 30 d v = s4 at *
                have HO3 : Hid _ := hO3
                have HR3 : Hid _ := hR3
                have hc3 : (3 : Int) * (col : Int) = (c : Int) := by omega
                have hd3 : (c : Int) + (sg : Int) = (d : Int) := by omega
                have hcb : c ≤ 3 := by have := HC1.out; omega
                have hdb : d ≤ 5 := by have := HS2.out; omega
                have hw1 := wrap_small (x := (c : Int)) (by omega) (by omega)
                have hw2' := wrap_small (x := (d : Int)) (by omega) (by omega)
                have HLt : Hid (v < 2) := hlt
                clear hO hR hv hO3 hR3 hp0 hc hd2 hlt HX
                go_wp2_with fail
                refine HSy.out.mono ?_
                rintro en wD ⟨rfl, hSD⟩
                have HSD : Hid (Sf (⟨lo, x, z, n, q, col, sg, ob, oc, kb, lb, lc', L⟩ : Pf) w O K3 s4 wD) := hSD
                clear hSD HSy
                go_wp2_with fail
                go_meet
                exact ⟨v, s4, rfl, HLt.out, HSD.out, HO3.out, HR3.out⟩
              · have hpd : ((p : Int) == 0) = false := by rw [beq_eq_false_iff_ne]; omega
                obtain ⟨hO, hR⟩ := HX.out.2 hp0
                have hv := hO.1
                have HSy : Hid (Calls Tryz.prog 50 #[.pointer (some ⟨x, 0, none⟩), .int .i64 (1 : Nat), .int .i64 zz] wc fun e w' => e = .returned (.tuple #[.int .i64 (biA s3 1 zz : Nat), .int .i64 0]) ∧ Sf (⟨lo, x, z, n, q, col, sg, ob, oc, kb, lb, lc', L⟩ : Pf) w O K3 (biN s3 1 (biA s3 1 zz)) w') := sf_bits HS1.out hv (fun _ => rfl)
                have hlt : biA s3 1 zz < 2 := bi_lt (n := 1) hv.2.2
                have hO3 : (sgB n col sg L mm j p K3 (biA s3 1 zz)).Ok (biN s3 1 (biA s3 1 zz)) := hO.2
                have hR3 : (sgB n col sg L mm j p K3 (biA s3 1 zz)).run (biN s3 1 (biA s3 1 zz)) = r := hR
                generalize biA s3 1 zz = v at *
                generalize biN s3 1 v = s4 at *
                have HO3 : Hid _ := hO3
                have HR3 : Hid _ := hR3
                have HLt : Hid (v < 2) := hlt
                clear hO hR hv hO3 hR3 hp0 hlt HX
                go_wp2_with fail
                refine HSy.out.mono ?_
                rintro en wD ⟨rfl, hSD⟩
                have HSD : Hid (Sf (⟨lo, x, z, n, q, col, sg, ob, oc, kb, lb, lc', L⟩ : Pf) w O K3 s4 wD) := hSD
                clear hSD HSy
                go_wp2_with fail
                go_meet
                exact ⟨v, s4, rfl, HLt.out, HSD.out, HO3.out, HR3.out⟩
            case rest => as_aux_lemma =>
            obtain ⟨v, s4, rfl, hv2, HS4, HO4, HR4⟩ := hcut
            clear HX o1 l1 t1 t2 HS1
            obtain ⟨t1, t2⟩ : wc.cell? ⟨kb, p, none⟩ = some (.int .i64 kv) ∧ wc.frozen? ⟨kb, p, none⟩ = false := by
              obtain ⟨O', g1, -, -⟩ := HS4.out
              exact ⟨by rw [g1.kn.cell p (by rw [g1.kl]; exact HPq.out), HKv.out], g1.kn.thaw p⟩
            by_cases hv1 : v = 1
            · have hvd : ((v : Int) == 1) = true := by rw [hv1]; rfl
              have HOn : Hid ((sgnL n col sg L (e - (j + 1)) (j + 1) (K3.set p (-kv))).Ok s4) := by have := HO4.out; unfold sgB at this; rw [if_pos hv1, HKv.out] at this; show Prg.Ok _ _; rw [HMm.out]; exact this
              have HRn : Hid ((sgnL n col sg L (e - (j + 1)) (j + 1) (K3.set p (-kv))).run s4 = r) := by have := HR4.out; unfold sgB at this; rw [if_pos hv1, HKv.out] at this; show _ = _; rw [HMm.out]; exact this
              have HKs : Hid (Kn n (K3.set p (-kv))) := by have := HKp.out 1; rw [if_pos rfl, HKv.out] at this; exact this
              have HS5 : Hid (Sf (⟨lo, x, z, n, q, col, sg, ob, oc, kb, lb, lc', L⟩ : Pf) w O (K3.set p (-kv)) s4 (wc.setCell ⟨kb, p, none⟩ (.int .i64 (-kv)))) := HS4.out.put p (-kv)
              clear HO4 HR4 hv1 HS4 HKp hv2
              go_wp2_with fail
              have hJ := HJ.out
              go_roundw
              case rel => exact ⟨⟨j + 1, K3.set p (-kv), s4, by omega, by go_num, HKs.out, HS5.out, HOn.out, HRn.out⟩⟩
              case measure => simp [intOf]; omega
            · have hvd : ((v : Int) == 1) = false := by rw [beq_eq_false_iff_ne]; omega
              have HOn : Hid ((sgnL n col sg L (e - (j + 1)) (j + 1) K3).Ok s4) := by have := HO4.out; unfold sgB at this; rw [if_neg hv1] at this; show Prg.Ok _ _; rw [HMm.out]; exact this
              have HRn : Hid ((sgnL n col sg L (e - (j + 1)) (j + 1) K3).run s4 = r) := by have := HR4.out; unfold sgB at this; rw [if_neg hv1] at this; show _ = _; rw [HMm.out]; exact this
              clear HO4 HR4 hv1 HKp hv2
              go_wp2_with fail
              have hJ := HJ.out
              go_roundw
              case rel => exact ⟨⟨j + 1, K3, s4, by omega, by go_num, HKn.out, HS4.out, HOn.out, HRn.out⟩⟩
              case measure => simp [intOf]; omega
    · obtain ⟨k, rfl⟩ : ∃ k, i = k + 1 := ⟨i - 1, by omega⟩
      have e1 : ((k + 1 : Nat) : Int) - 1 = (k : Int) := by omega
      rw [e1]
      rw [amB_eq] at hok hrun
      have hkq : k < q := by omega
      have hpq : plc n k < q := by have := (plc_at HZ.out.sd (i := k) (by rw [HQ.out]; exact hkq)).1; rw [HQ.out] at this; exact this
      obtain ⟨o1, l1⟩ : wr.cell? ⟨ob, k, none⟩ = some (.int .i64 ((plc n k : Nat) : Int)) ∧ wr.cell? ⟨lb, plc n k, none⟩ = some (.int .i64 (L.getD (plc n k) 0)) := by
        obtain ⟨O', g1, -, -⟩ := HS1.out
        exact ⟨g1.od k hkq, g1.lv _ hpq⟩
      have hLp := HLv.out (plc n k)
      have hM := mor_le K n (plc n k)
      have hBs := bas_le K n (plc n k)
      have HBa : Hid (∀ u, Sf (⟨lo, x, z, n, q, col, sg, ob, oc, kb, lb, lc', L⟩ : Pf) w O K s' u → Calls Tryz.prog 52 #[.slice (some ⟨kb, 0, none⟩) q q, .int .i64 z, .int .i64 ((plc n k : Nat) : Int)] u fun e w' => e = .returned (.tuple #[.int .i64 (L10.bas K n (plc n k)), .int .i64 0]) ∧ Sf (⟨lo, x, z, n, q, col, sg, ob, oc, kb, lb, lc', L⟩ : Pf) w O K s' w') := fun u hu => sf_base hu hpq
      have HMo : Hid (∀ u, Sf (⟨lo, x, z, n, q, col, sg, ob, oc, kb, lb, lc', L⟩ : Pf) w O K s' u → Calls Tryz.prog 53 #[.slice (some ⟨kb, 0, none⟩) q q, .int .i64 z, .int .i64 ((plc n k : Nat) : Int)] u fun e w' => e = .returned (.tuple #[.int .i64 (L10.mor K n (plc n k)), .int .i64 0]) ∧ Sf (⟨lo, x, z, n, q, col, sg, ob, oc, kb, lb, lc', L⟩ : Pf) w O K s' w') := fun u hu => sf_more hu hpq
      have HI : Hid (k + 1 ≤ e) := hi
      have HPq : Hid (plc n k < q) := hpq
      generalize hbs : L10.bas K n (plc n k) = bs at *
      generalize hmr : L10.mor K n (plc n k) = mr at *
      generalize hpl : plc n k = p at *
      generalize hlvl : L.getD p 0 = vl at *
      have HAb : Hid (∀ u : World, Calls Tryz.prog 51 #[.int .i64 vl] u fun e w' => e = .returned (.int .i64 ((vl.natAbs : Nat) : Int)) ∧ w' = u) := fun u => abs_any (by omega) (by omega)
      obtain ⟨a, ha⟩ : ∃ a : Int, ((vl.natAbs : Nat) : Int) = a := ⟨_, rfl⟩
      have ha0 : 0 ≤ a := by omega
      have ha1 : a ≤ 1048576 := by omega
      rw [ha] at HAb hok hrun
      clear hbs hmr hpl hlvl ha h0 e1 hLp
      have HO2 : Hid _ := hok
      have HR2 : Hid _ := hrun
      clear hok hrun hi
      have k0 : (0 : Int) ≤ (k : Int) := by omega
      have k1 : (k : Int) < (q : Int) := by omega
      have p0 : (0 : Int) ≤ (p : Int) := by omega
      have p1 : (p : Int) < (q : Int) := by omega
      go_wp2_with fail
      refine (HAb.out _).mono ?_
      rintro en wA ⟨rfl, hwA⟩
      obtain rfl : wr = wA := hwA.symm
      clear hwA HAb
      go_wp2_with fail
      refine (HBa.out _ HS1.out).mono ?_
      rintro en wB ⟨rfl, hSB⟩
      have HSB : Hid (Sf (⟨lo, x, z, n, q, col, sg, ob, oc, kb, lb, lc', L⟩ : Pf) w O K s' wB) := hSB
      clear hSB HBa HS1 o1 l1
      go_wp2_with fail
      refine (HMo.out _ HSB.out).mono ?_
      rintro en wC ⟨rfl, hSC⟩
      have HSC : Hid (Sf (⟨lo, x, z, n, q, col, sg, ob, oc, kb, lb, lc', L⟩ : Pf) w O K s' wC) := hSC
      clear hSC HMo HSB
      have hwe1 := wrap_small (x := (e : Int) - 1) (by omega) (by omega)
      go_upto_if 166 with fail
      go_cut [33] (fun s33 T => ∃ (v : Nat) (s1 : Cs), s33 = .int .i64 (v : Int) ∧ v ≤ 3 ∧ Hid (s1.W = true → (v : Int) ≤ a) ∧ Hid (Sf (⟨lo, x, z, n, q, col, sg, ob, oc, kb, lb, lc', L⟩ : Pf) w O K s1 T) ∧ Hid ((amB n col sg L e k p mr.toNat K a (v : Int)).Ok s1) ∧ Hid ((amB n col sg L e k p mr.toNat K a (v : Int)).run s1 = r))
      case first => as_aux_lemma =>
        by_cases hla : k + 1 = e
        · have hd : ((k : Int) == (e : Int) - 1) = true := by rw [beq_iff_eq]; omega
          have hO := HO2.out
          have hR := HR2.out
          unfold fstP at hO hR
          rw [if_pos (by simpa using hla)] at hO hR
          have hv := hO.1
          have HSy : Hid (Calls Tryz.prog 47 #[.pointer (some ⟨x, 0, none⟩), .int .i64 (27 : Nat), .int .i64 (col : Nat), .int .i64 (max (min a 3 - 1) 0)] wC fun e w' => e = .returned (.tuple #[.int .i64 (syA s' 27 col (min 3 a - 1) : Nat), .int .i64 0]) ∧ Sf (⟨lo, x, z, n, q, col, sg, ob, oc, kb, lb, lc', L⟩ : Pf) w O K (syN s' 27 col (syA s' 27 col (min 3 a - 1))) w') := sf_symbol HSC.out hv (fun e => by have := (hv.2.2.2 e).1; omega)
          have hlt : syA s' 27 col (min 3 a - 1) < 3 := by
            obtain ⟨O', g1, -, -⟩ := HSC.out
            exact sy_lt g1.fc.so hv.1 hv.2.1 hv.2.2.2
          have HWv : Hid ((syN s' 27 col (syA s' 27 col (min 3 a - 1))).W = true → (((syA s' 27 col (min 3 a - 1)) + 1 : Nat) : Int) ≤ a) := fun e => by
            rw [(syN_W s' 27 col _).1] at e
            have h1 := (hv.2.2.2 e).1
            have h2 : syA s' 27 col (min 3 a - 1) = (min 3 a - 1).toNat := by unfold syA; rw [if_pos e]
            rw [h2]
            omega
          have hO3 : (amB n col sg L e k p mr.toNat K a (((syA s' 27 col (min 3 a - 1)) : Int) + 1)).Ok (syN s' 27 col (syA s' 27 col (min 3 a - 1))) := hO.2
          have hR3 : (amB n col sg L e k p mr.toNat K a (((syA s' 27 col (min 3 a - 1)) : Int) + 1)).run (syN s' 27 col (syA s' 27 col (min 3 a - 1))) = r := hR
          generalize syA s' 27 col (min 3 a - 1) = v at *
          generalize syN s' 27 col v = s1 at *
          have HO3 : Hid _ := hO3
          have HR3 : Hid _ := hR3
          have hwm := wrap_small (x := min a 3 - 1) (by omega) (by omega)
          have hwv := wrap_small (x := (v : Int) + 1) (by omega) (by omega)
          clear hO hR hv hO3 hR3 hla
          go_wp2_with fail
          refine HSy.out.mono ?_
          rintro en wD ⟨rfl, hSD⟩
          have HSD : Hid (Sf (⟨lo, x, z, n, q, col, sg, ob, oc, kb, lb, lc', L⟩ : Pf) w O K s1 wD) := hSD
          clear hSD HSy
          go_wp2_with fail
          go_meet
          refine ⟨v + 1, s1, by go_num, by omega, HWv.out, HSD.out, ?_, ?_⟩
          · have := HO3.out; rw [show ((v + 1 : Nat) : Int) = (v : Int) + 1 by omega]; exact this
          · have := HR3.out; rw [show ((v + 1 : Nat) : Int) = (v : Int) + 1 by omega]; exact this
        · have hd : ((k : Int) == (e : Int) - 1) = false := by rw [beq_eq_false_iff_ne]; omega
          have hO := HO2.out
          have hR := HR2.out
          unfold fstP at hO hR
          rw [if_neg (by simpa using hla)] at hO hR
          obtain ⟨c, d, f1, f2, f3', f4, f5, f6⟩ := ctx_name (k := 5) (M := 4) (by omega) HC1.out hBs.1 hBs.2 (by omega)
          have f3 : (5 : Int) * (col : Int) = (c : Int) := f3'
          clear f3'
          have hv := hO.1
          rw [f1, f2] at hv
          have HSy : Hid (Calls Tryz.prog 47 #[.pointer (some ⟨x, 0, none⟩), .int .i64 (28 : Nat), .int .i64 (d : Nat), .int .i64 (min a 3)] wC fun e w' => e = .returned (.tuple #[.int .i64 (syA s' 28 d (min 3 a) : Nat), .int .i64 0]) ∧ Sf (⟨lo, x, z, n, q, col, sg, ob, oc, kb, lb, lc', L⟩ : Pf) w O K (syN s' 28 d (syA s' 28 d (min 3 a))) w') := sf_symbol HSC.out hv (fun _ => by omega)
          have hlt : syA s' 28 d (min 3 a) < 4 := by
            obtain ⟨O', g1, -, -⟩ := HSC.out
            exact sy_lt g1.fc.so hv.1 hv.2.1 hv.2.2.2
          have HWv : Hid ((syN s' 28 d (syA s' 28 d (min 3 a))).W = true → ((syA s' 28 d (min 3 a) : Nat) : Int) ≤ a) := fun e => by
            rw [(syN_W s' 28 d _).1] at e
            have h2 : syA s' 28 d (min 3 a) = (min 3 a).toNat := by unfold syA; rw [if_pos e]
            rw [h2]
            omega
          have hO3 : (amB n col sg L e k p mr.toNat K a ((syA s' 28 d (min 3 a) : Nat) : Int)).Ok (syN s' 28 d (syA s' 28 d (min 3 a))) := by have := hO.2; rw [f1, f2] at this; exact this
          have hR3 : (amB n col sg L e k p mr.toNat K a ((syA s' 28 d (min 3 a) : Nat) : Int)).run (syN s' 28 d (syA s' 28 d (min 3 a))) = r := by have := hR; rw [f1, f2] at this; exact this
          generalize syA s' 28 d (min 3 a) = v at *
          generalize syN s' 28 d v = s1 at *
          have HO3 : Hid _ := hO3
          have HR3 : Hid _ := hR3
          have hw1 := wrap_small (x := (c : Int)) (by omega) (by omega)
          have hw2' := wrap_small (x := (d : Int)) (by omega) (by omega)
          clear hO hR hv hO3 hR3 hla f1 f2
          go_wp2_with fail
          refine HSy.out.mono ?_
          rintro en wD ⟨rfl, hSD⟩
          have HSD : Hid (Sf (⟨lo, x, z, n, q, col, sg, ob, oc, kb, lb, lc', L⟩ : Pf) w O K s1 wD) := hSD
          clear hSD HSy
          go_wp2_with fail
          go_meet
          exact ⟨v, s1, rfl, by omega, HWv.out, HSD.out, HO3.out, HR3.out⟩
      case rest => as_aux_lemma =>
        obtain ⟨v, s1, rfl, hv3, HWv, HSD, HO3, HR3⟩ := hcut
        clear HO2 HR2 HSC
        obtain ⟨c, d, f1, f2, f3', f4, f5, f6⟩ := ctx_name (k := 7) (M := 6) (by omega) HC1.out hM.1 hM.2 (by omega)
        have f3 : (7 : Int) * (col : Int) = (c : Int) := f3'
        clear f3'
        have hw1 := wrap_small (x := (c : Int)) (by omega) (by omega)
        have hw2' := wrap_small (x := (d : Int)) (by omega) (by omega)
        have hO := HO3.out
        have hR := HR3.out
        unfold amB at hO hR
        obtain ⟨ok1, ok2⟩ := Prg.ok_bind _ _ _ hO
        have HSm : Hid (Calls Tryz.prog 54 #[.pointer (some ⟨x, 0, none⟩), .int .i64 (v : Int), .int .i64 (d : Int), .int .i64 a] wc fun e w' => e = .returned (av ((amtL col mr.toNat a 4 0 v).run s1).1) ∧ Sf (⟨lo, x, z, n, q, col, sg, ob, oc, kb, lb, lc', L⟩ : Pf) w O K ((amtL col mr.toNat a 4 0 v).run s1).2 w') := sf_amount HSD.out ha0 ha1 hv3 (show d = 7 * col + mr.toNat by omega) HWv.out ok1
        have HGd : Hid (∀ b, ((amtL col mr.toNat a 4 0 v).run s1).1 = some b → Am b) := fun b hb => by
          obtain ⟨O', g1, -, -⟩ := HSD.out
          exact good_res _ _ _ (amt_good HC1.out (by omega) a 4 0 v (by omega) (by omega) (by omega) (by omega)) g1.fc.so ok1 b hb
        obtain ⟨qq, hqq⟩ : ∃ qq, (amtL col mr.toNat a 4 0 v).run s1 = qq := ⟨_, rfl⟩
        rw [hqq] at HSm HGd
        obtain ⟨ob', s2⟩ := qq
        cases ob' with
        | none =>
          have HRn : Hid (r = (none, s2)) := by have := hR; rw [Prg.run_none hqq] at this; exact this.symm
          clear hO hR ok1 ok2 hqq HGd HO3 HR3
          go_wp2_with fail
          refine HSm.out.mono ?_
          rintro en wE ⟨rfl, hSE⟩
          have HSE : Hid (Sf (⟨lo, x, z, n, q, col, sg, ob, oc, kb, lb, lc', L⟩ : Pf) w O K s2 wE) := hSE
          clear hSE HSm
          simp only [av]
          go_wp2_with fail
          refine bodyPost_ret (v := .tuple #[.slice none 0 0, .int .i64 4]) (by simp [results, Tryz.results12, go_sem]) rfl ?_
          rw [HRn.out]
          exact HSE.out.kn
        | some b =>
          have HOn : Hid (((ampL n col L e k (K.set p b)).bind fun K => sgnL n col sg L e 0 K).Ok s2) := ok2 b s2 hqq
          have HRn : Hid (((ampL n col L e k (K.set p b)).bind fun K => sgnL n col sg L e 0 K).run s2 = r) := by have := hR; rw [Prg.run_some hqq] at this; exact this
          have hAm : Am b := HGd.out b rfl
          have HKn2 : Hid (Kn n (K.set p b)) := HKn.out.set p (by have := hAm.1; omega) hAm.2
          clear hO hR ok1 ok2 hqq HGd HO3 HR3 hAm
          go_wp2_with fail
          refine HSm.out.mono ?_
          rintro en wE ⟨rfl, hSE⟩
          have HSE : Hid (Sf (⟨lo, x, z, n, q, col, sg, ob, oc, kb, lb, lc', L⟩ : Pf) w O (K.set p b) s2 (wE.setCell ⟨kb, p, none⟩ (.int .i64 b))) := hSE.put p b
          obtain ⟨t1, t2⟩ : wE.cell? ⟨kb, p, none⟩ = some (.int .i64 (K.getD p 0)) ∧ wE.frozen? ⟨kb, p, none⟩ = false := by
            obtain ⟨O', g1, -, -⟩ := hSE
            exact ⟨g1.kn.cell p (by rw [g1.kl]; exact HPq.out), g1.kn.thaw p⟩
          clear hSE HSm
          simp only [av]
          go_wp2_with fail
          have hI := HI.out
          go_roundw
          case rel => exact ⟨⟨k, K.set p b, s2, by omega, by go_num, HKn2.out, HSE.out, HOn.out, HRn.out⟩⟩
          case measure => simp [intOf]

end Go.Proofs.YtkmnpechhdendaaGreatDoor
