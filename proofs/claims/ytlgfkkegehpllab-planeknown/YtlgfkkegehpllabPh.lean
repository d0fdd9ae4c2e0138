/- DERIVED. The walk of Pad. -/
import Derived.Test.YtlgfkkegehpllabPg
namespace Go.Proofs.Ytlgfkkegehpllab
open Go.RowKit

def PadInv (v : World) (g x y : Nat) (C : List Nat) (wd hd : Nat) (iv : Value) (wr : World) : Prop := ∃ k : Nat, k ≤ hd ∧ iv = .int .i64 k ∧ Rw wr g (padP x y C wd hd k) ∧ Kf g v wr
/-- copy into a row, the number told by another name -/
theorem wpList_copy_rm {w : World} {ops : Array Oper} {rest : List Oper} {o : Oper} {a : Act} {Q : Exit → Act → World → Prop} (hgd : o.guard = none) (d s : Operand)
    (ho : o.op = .call { callee := .builtin .copy, args := #[d, s], argTypes := #[22, 22] })
    (dp sp : Option Addr) (dLen dCap sLen sCap : Nat) (hd : a.eval d = .slice dp dLen dCap) (hs : a.eval s = .slice sp sLen sCap)
    (g off : Nat) (C D : List Nat) (m : Nat) (hm : D.length = m) (hg : Rw w g C) (hn : m = Nat.min sLen dLen) (hdp : dp = some ⟨g, off, none⟩) (hsp : Sl w .u8 sp D) (hfit : off + m ≤ C.length)
    (h : ∀ w', Rw w' g (splice C off D) → Kb g w w' → wpList Try.prog ops Q rest (a.put o.dst (.int .i64 (m : Int))) w') :
    wpList Try.prog ops Q (o :: rest) a w := by
  subst hm
  exact wpList_copy_rw hgd d s ho dp sp dLen dCap sLen sCap hd hs g off C D hg hn hdp hsp hfit h

set_option maxRecDepth 100000 in
set_option maxHeartbeats 4000000 in
theorem pad_ok {u : World} {a : Option Addr} {c : Nat} {C : List Nat} {x y wd hd : Nat} (hs : Sl u .u8 a C) (hx0 : 1 ≤ x) (hx1 : x ≤ 512) (hy0 : 1 ≤ y) (hy1 : y ≤ 512) (hl : C.length = x * y) (hc : C.length ≤ c) (hw0 : x ≤ wd) (hw1 : wd ≤ 512) (hh0 : y ≤ hd) (hh1 : hd ≤ 512) :
    Calls Try.prog 7 #[.agg #[.int .i64 (x : Int), .int .i64 (y : Int), .slice a C.length c], .int .i64 (wd : Int), .int .i64 (hd : Int)] u fun e w' => Pn u w' e wd hd (padL x y C wd hd) := by
  have hck : ck (x : Int) (y : Int) C = 0 := ck_ok (POk.of hx0 hx1 hy0 hy1 hl)
  have hp := prod_le hx1 hy1
  have hp2 := prod_le hw1 hh1
  obtain ⟨n, hn⟩ : ∃ n, n = wd * hd := ⟨_, rfl⟩
  obtain ⟨b, o, rfl, hbl, hcell⟩ := hs.form (by rw [hl]; exact Nat.mul_pos hx0 hy0)
  have HSL : Hid (Sl u .u8 (some ⟨b, o, none⟩) C) := hs
  have HL : Hid (C.length = x * y) := hl
  have HN : Hid (n = wd * hd) := hn
  have hnb : n ≤ 262144 := by rw [hn]; exact hp2
  have HC : Hid (C.length ≤ c) := hc
  have i1 : (wd : Int) ≤ 512 := by omega
  have i2 : (hd : Int) ≤ 512 := by omega
  have i3 : (x : Int) ≤ (wd : Int) := by omega
  have i4 : (y : Int) ≤ (hd : Int) := by omega
  have i5 : (1 : Int) ≤ (wd : Int) := by omega
  have i6 : (1 : Int) ≤ (hd : Int) := by omega
  clear hs hl hcell hp hc hn
  go_enter Try.func7, Try.ntmps7
  go_wp2_with fail
  refine check_any.mono ?_
  rintro e w1 ⟨rfl, hb⟩
  rw [hck]
  have d0 : w1.cell? ⟨u.heap.size, 0, none⟩ = some (.int .i64 (x : Int)) := by rw [newCell hb _ _ (by simp <;> omega)]; simp [go_sem]
  have d1 : w1.cell? ⟨u.heap.size, 1, none⟩ = some (.int .i64 (y : Int)) := by rw [newCell hb _ _ (by simp <;> omega)]; simp [go_sem]
  have d2 : w1.cell? ⟨u.heap.size, 2, none⟩ = some (.slice (some ⟨b, o, none⟩) C.length c) := by rw [newCell hb _ _ (by simp <;> omega)]; simp [go_sem]
  have d3 : w1.cell? ⟨u.heap.size + 1, 0, none⟩ = some (.int .i64 0) := by rw [newCell hb _ _ (by simp <;> omega)]; simp [go_sem]
  have d4 : w1.cell? ⟨u.heap.size + 1, 1, none⟩ = some (.int .i64 0) := by rw [newCell hb _ _ (by simp <;> omega)]; simp [go_sem]
  have d5 : w1.cell? ⟨u.heap.size + 1, 2, none⟩ = some (.slice none 0 0) := by rw [newCell hb _ _ (by simp <;> omega)]; simp [go_sem]
  have f0 : w1.frozen? ⟨u.heap.size + 1, 0, none⟩ = false := by rw [newFrozen hb _ _ (by simp <;> omega)]; simp [go_sem]
  have f1 : w1.frozen? ⟨u.heap.size + 1, 1, none⟩ = false := by rw [newFrozen hb _ _ (by simp <;> omega)]; simp [go_sem]
  have f2 : w1.frozen? ⟨u.heap.size + 1, 2, none⟩ = false := by rw [newFrozen hb _ _ (by simp <;> omega)]; simp [go_sem]
  have hz1 : u.heap.size + 2 ≤ w1.heap.size := by have := hb.size; simp at this; omega
  have HB : Hid (Below u.heap.size u w1) := below_to (to_alloc (from_alloc u _) _) hb
  clear hb hck
  go_wp2_with (go_at_call 21; go_in)
  refine (blank_any hw1 hh1 HN.out).mono ?_
  rintro e w3 ⟨rfl, hsz, hrw, hb⟩
  have c0 : w3.cell? ⟨u.heap.size, 0, none⟩ = some (.int .i64 (x : Int)) := by rw [newCell hb _ _ (by omega)]; exact d0
  have c1 : w3.cell? ⟨u.heap.size, 1, none⟩ = some (.int .i64 (y : Int)) := by rw [newCell hb _ _ (by omega)]; exact d1
  have c2 : w3.cell? ⟨u.heap.size, 2, none⟩ = some (.slice (some ⟨b, o, none⟩) C.length c) := by rw [newCell hb _ _ (by omega)]; exact d2
  have c3 : w3.cell? ⟨u.heap.size + 1, 0, none⟩ = some (.int .i64 0) := by rw [newCell hb _ _ (by omega)]; exact d3
  have c4 : w3.cell? ⟨u.heap.size + 1, 1, none⟩ = some (.int .i64 0) := by rw [newCell hb _ _ (by omega)]; exact d4
  have c5 : w3.cell? ⟨u.heap.size + 1, 2, none⟩ = some (.slice none 0 0) := by rw [newCell hb _ _ (by omega)]; exact d5
  have g0 : w3.frozen? ⟨u.heap.size + 1, 0, none⟩ = false := by rw [newFrozen hb _ _ (by omega)]; exact f0
  have g1 : w3.frozen? ⟨u.heap.size + 1, 1, none⟩ = false := by rw [newFrozen hb _ _ (by omega)]; exact f1
  have g2 : w3.frozen? ⟨u.heap.size + 1, 2, none⟩ = false := by rw [newFrozen hb _ _ (by omega)]; exact f2
  have HB3 : Hid (Below u.heap.size u w3) := below_to HB.out hb
  have HSZ : Hid (w3.heap.size = w1.heap.size + 2) := hsz
  have HRW : Hid (Rw w3 (w1.heap.size + 1) (List.replicate n 0)) := hrw
  have hgz : u.heap.size + 2 < w1.heap.size + 1 := by omega
  clear hb d0 d1 d2 d3 d4 d5 f0 f1 f2 HB hsz hrw hz1
  generalize hg : w1.heap.size + 1 = g at *
  have hqg : w3.heap.size = g + 1 := by rw [HSZ.out]; omega
  clear HSZ
  have HA : Hid (Below w3.heap.size w3 (w3.alloc (.cells #[.int .i64 (wd : Int), .int .i64 (hd : Int), .slice (some ⟨g, 0, none⟩) n n] 24))) := from_alloc _ _
  have d0 : (w3.alloc (.cells #[.int .i64 (wd : Int), .int .i64 (hd : Int), .slice (some ⟨g, 0, none⟩) n n] 24)).cell? ⟨u.heap.size, 0, none⟩ = some (.int .i64 (x : Int)) := by rw [newCell HA.out _ _ (by omega)]; exact c0
  have d1 : (w3.alloc (.cells #[.int .i64 (wd : Int), .int .i64 (hd : Int), .slice (some ⟨g, 0, none⟩) n n] 24)).cell? ⟨u.heap.size, 1, none⟩ = some (.int .i64 (y : Int)) := by rw [newCell HA.out _ _ (by omega)]; exact c1
  have d2 : (w3.alloc (.cells #[.int .i64 (wd : Int), .int .i64 (hd : Int), .slice (some ⟨g, 0, none⟩) n n] 24)).cell? ⟨u.heap.size, 2, none⟩ = some (.slice (some ⟨b, o, none⟩) C.length c) := by rw [newCell HA.out _ _ (by omega)]; exact c2
  have d3 : (w3.alloc (.cells #[.int .i64 (wd : Int), .int .i64 (hd : Int), .slice (some ⟨g, 0, none⟩) n n] 24)).cell? ⟨u.heap.size + 1, 0, none⟩ = some (.int .i64 0) := by rw [newCell HA.out _ _ (by omega)]; exact c3
  have d4 : (w3.alloc (.cells #[.int .i64 (wd : Int), .int .i64 (hd : Int), .slice (some ⟨g, 0, none⟩) n n] 24)).cell? ⟨u.heap.size + 1, 1, none⟩ = some (.int .i64 0) := by rw [newCell HA.out _ _ (by omega)]; exact c4
  have d5 : (w3.alloc (.cells #[.int .i64 (wd : Int), .int .i64 (hd : Int), .slice (some ⟨g, 0, none⟩) n n] 24)).cell? ⟨u.heap.size + 1, 2, none⟩ = some (.slice none 0 0) := by rw [newCell HA.out _ _ (by omega)]; exact c5
  have f0 : (w3.alloc (.cells #[.int .i64 (wd : Int), .int .i64 (hd : Int), .slice (some ⟨g, 0, none⟩) n n] 24)).frozen? ⟨u.heap.size + 1, 0, none⟩ = false := by rw [newFrozen HA.out _ _ (by omega)]; exact g0
  have f1 : (w3.alloc (.cells #[.int .i64 (wd : Int), .int .i64 (hd : Int), .slice (some ⟨g, 0, none⟩) n n] 24)).frozen? ⟨u.heap.size + 1, 1, none⟩ = false := by rw [newFrozen HA.out _ _ (by omega)]; exact g1
  have f2 : (w3.alloc (.cells #[.int .i64 (wd : Int), .int .i64 (hd : Int), .slice (some ⟨g, 0, none⟩) n n] 24)).frozen? ⟨u.heap.size + 1, 2, none⟩ = false := by rw [newFrozen HA.out _ _ (by omega)]; exact g2
  have q0 : (w3.alloc (.cells #[.int .i64 (wd : Int), .int .i64 (hd : Int), .slice (some ⟨g, 0, none⟩) n n] 24)).cell? ⟨g + 1, 0, none⟩ = some (.int .i64 (wd : Int)) := by rw [← hqg]; simp
  have q1 : (w3.alloc (.cells #[.int .i64 (wd : Int), .int .i64 (hd : Int), .slice (some ⟨g, 0, none⟩) n n] 24)).cell? ⟨g + 1, 1, none⟩ = some (.int .i64 (hd : Int)) := by rw [← hqg]; simp
  have q2 : (w3.alloc (.cells #[.int .i64 (wd : Int), .int .i64 (hd : Int), .slice (some ⟨g, 0, none⟩) n n] 24)).cell? ⟨g + 1, 2, none⟩ = some (.slice (some ⟨g, 0, none⟩) n n) := by rw [← hqg]; simp
  have HZ4 : Hid ((w3.alloc (.cells #[.int .i64 (wd : Int), .int .i64 (hd : Int), .slice (some ⟨g, 0, none⟩) n n] 24)).heap.size = g + 2) := by unfold Hid; simp; omega
  have HR4 : Hid (Rw (w3.alloc (.cells #[.int .i64 (wd : Int), .int .i64 (hd : Int), .slice (some ⟨g, 0, none⟩) n n] 24)) g (List.replicate n 0)) := HRW.out.to HA.out
  have HB4 : Hid (Below u.heap.size u (w3.alloc (.cells #[.int .i64 (wd : Int), .int .i64 (hd : Int), .slice (some ⟨g, 0, none⟩) n n] 24))) := below_to HB3.out HA.out
  clear c0 c1 c2 c3 c4 c5 g0 g1 g2 HB3 HA HRW
  go_wp2_with fail
  generalize (w3.alloc (.cells #[.int .i64 (wd : Int), .int .i64 (hd : Int), .slice (some ⟨g, 0, none⟩) n n] 24)) = w4 at *
  have hgl : g < w4.heap.size := by have := HZ4.out; omega
  go_loopw [43] (fun i wr => PadInv w4 g x y C wd hd i wr) (fun i _ => hd - (intOf i).toNat)
  case atStart => exact ⟨0, Nat.zero_le _, rfl, by rw [padP_zero, ← HN.out]; exact HR4.out, Kf.refl _ _⟩
  case round =>
    obtain ⟨k, hk, rfl, hr, hb⟩ := hrel
    have HR : Hid (Rw wr g (padP x y C wd hd k)) := hr
    have HKr : Hid (Kf g w4 wr) := hb
    clear hr hb HR4
    by_cases hlt : k < hd
    · obtain ⟨kk, hkk⟩ : ∃ kk, kk = min k (y - 1) := ⟨_, rfl⟩
      obtain ⟨z1, hz1⟩ : ∃ z, z = kk * x := ⟨_, rfl⟩
      obtain ⟨z2, hz2⟩ : ∃ z, z = k * wd := ⟨_, rfl⟩
      obtain ⟨cp, hcp⟩ : ∃ z, z = n - z2 := ⟨_, rfl⟩
      have hz1n : z1 + x ≤ C.length := by rw [hz1, HL.out]; exact row_le (by omega)
      have hz1b : z1 + x ≤ 262144 := by have := prod_le hx1 hy1; have := HL.out; omega
      have hz2n : z2 + wd ≤ n := by rw [hz2, HN.out]; exact row_le hlt
      have hz2b : z2 + wd ≤ 262144 := by have := HN.out; omega
      have HNr : Hid (∀ v : World, Calls Try.prog 18 #[.int .i64 (k : Int), .int .i64 (y : Int)] v fun e w' => e = .returned (.int .i64 (kk : Int)) ∧ w' = v) := fun v => by
        have := nearest_any (w := v) (i := (k : Int)) hy0 hy1
        rw [nr_nat, ← hkk] at this
        exact this
      have HLp : Hid (∀ v : World, Calls Try.prog 20 #[.agg #[.int .i64 (x : Int), .int .i64 (y : Int), .slice (some ⟨b, o, none⟩) C.length c], .int .i64 0, .int .i64 (kk : Int), .int .i64 (x : Int)] v fun e w' => e = .returned (.slice (some ⟨b, o + z1, none⟩) x (c - z1)) ∧ Below v.heap.size v w') := fun v =>
        line_ok (u := v) (X := 0) (by rw [hz1]; rfl) hx0 (by have := HC.out; omega) (by omega)
      have HLq : Hid (∀ v : World, Calls Try.prog 20 #[.agg #[.int .i64 (wd : Int), .int .i64 (hd : Int), .slice (some ⟨g, 0, none⟩) n n], .int .i64 0, .int .i64 (k : Int), .int .i64 (wd : Int)] v fun e w' => e = .returned (.slice (some ⟨g, z2, none⟩) wd cp) ∧ Below v.heap.size v w') := fun v => by
        have := line_ok (u := v) (b := g) (o := 0) (n := n) (c := n) (H := (hd : Int)) (X := 0) (Y := k) (W := wd) (w := wd) (z := z2) (by rw [hz2]; rfl) (by omega) (by omega) (by omega)
        rwa [Nat.zero_add, ← hcp] at this
      have HK : Hid (∀ v : World, Kf g w4 v → (v.cell? ⟨u.heap.size, 0, none⟩ = some (.int .i64 (x : Int)) ∧ v.cell? ⟨u.heap.size, 1, none⟩ = some (.int .i64 (y : Int)) ∧ v.cell? ⟨u.heap.size, 2, none⟩ = some (.slice (some ⟨b, o, none⟩) C.length c) ∧ v.cell? ⟨g + 1, 0, none⟩ = some (.int .i64 (wd : Int)) ∧ v.cell? ⟨g + 1, 1, none⟩ = some (.int .i64 (hd : Int)) ∧ v.cell? ⟨g + 1, 2, none⟩ = some (.slice (some ⟨g, 0, none⟩) n n) ∧ Kf g w4 v)) := fun v hv =>
        ⟨by rw [hv.cell _ _ (by have := HZ4.out; omega) (by omega)]; exact d0, by rw [hv.cell _ _ (by have := HZ4.out; omega) (by omega)]; exact d1, by rw [hv.cell _ _ (by have := HZ4.out; omega) (by omega)]; exact d2, by rw [hv.cell _ _ (by have := HZ4.out; omega) (by omega)]; exact q0, by rw [hv.cell _ _ (by have := HZ4.out; omega) (by omega)]; exact q1, by rw [hv.cell _ _ (by have := HZ4.out; omega) (by omega)]; exact q2, hv⟩
      obtain ⟨xm, hxm⟩ : ∃ m, m = x - 1 := ⟨_, rfl⟩
      obtain ⟨last, hlast⟩ : ∃ l, l = C.getD (z1 + (x - 1)) 0 := ⟨_, rfl⟩
      have HK2 : Hid (∀ v : World, Kf g w4 v → (v.cell? ⟨b, o + z1 + xm, none⟩ = some (.int .u8 (last : Nat)) ∧ Kf g w4 v)) := fun v hv => by
        refine ⟨?_, hv⟩
        obtain ⟨b', o', e, _, hcc⟩ := (HSL.out.low HB4.out hv (by omega)).form (by omega)
        simp only [Option.some.injEq, Addr.mk.injEq] at e
        obtain ⟨rfl, rfl, _⟩ := e
        rw [hlast, Nat.add_assoc, hxm]; exact hcc _ (by omega)
      have HNN : Hid (x = Nat.min x wd) := (Nat.min_eq_left (by omega)).symm
      have HST : Hid (splice (splice (padP x y C wd hd k) z2 (seg C z1 x)) (z2 + x) (List.replicate (wd - x) last) = padP x y C wd hd (k + 1)) := by unfold Hid; rw [hlast, hz2, hz1, hkk]; exact padP_step hx0 hw0 hlt
      have HSS : Hid (∀ v : World, Kf g w4 v → Sl v .u8 (some ⟨b, o + z1, none⟩) (seg C z1 x)) := fun v hv => (HSL.out.low HB4.out hv (by omega)).seg z1 x (by omega)
      have HF : Hid (z2 + x ≤ (padP x y C wd hd k).length) := by unfold Hid; rw [padP_len, ← HN.out]; omega
      have HQ : Hid _ := hz1
      have HYK : Hid _ := hz2
      have HZ : Hid _ := hkk
      have HLS : Hid _ := hlast
      have hcpw : wd ≤ cp := by omega
      clear hcp
      have hlt' : (k : Int) < (hd : Int) := by omega
      clear hz1 hz2 hkk hlast d0 d1 d2 d3 d4 d5 f0 f1 f2 q0 q1 q2
      go_wp2_with fail
      go_region_held3 (fun v => v.cell? ⟨u.heap.size, 0, none⟩ = some (.int .i64 (x : Int)) ∧ v.cell? ⟨u.heap.size, 1, none⟩ = some (.int .i64 (y : Int)) ∧ v.cell? ⟨u.heap.size, 2, none⟩ = some (.slice (some ⟨b, o, none⟩) C.length c) ∧ v.cell? ⟨g + 1, 0, none⟩ = some (.int .i64 (wd : Int)) ∧ v.cell? ⟨g + 1, 1, none⟩ = some (.int .i64 (hd : Int)) ∧ v.cell? ⟨g + 1, 2, none⟩ = some (.slice (some ⟨g, 0, none⟩) n n) ∧ Kf g w4 v)
        ((exact HK.out _ (by first | exact HKr.out.drew | exact HKr.out.drew.step (by assumption) | exact (HKr.out.drew.step (by assumption)).step (by assumption))))
        (first | (go_at_call 18; refine (HNr.out _).mono ?_; rintro e w5 ⟨rfl, rfl⟩) | (go_at_call 20; with_reducible refine (HLp.out _).mono ?_; rintro e w6 ⟨rfl, hb6⟩) | (go_at_call 20; with_reducible refine (HLq.out _).mono ?_; rintro e w7 ⟨rfl, hb7⟩))
      have HK7 : Hid (Kf g w4 w7) := (HKr.out.drew.step hb6).step hb7
      have HR7 : Hid (Rw w7 g (padP x y C wd hd k)) := (HR.out.drew.to hb6).to hb7
      have e3 : IntKind.i64.wrap ((x : Int) - 1) = (xm : Int) := by rw [IntKind.wrap_i64]; omega
      have e5 : (0 : Int) ≤ (xm : Int) := by omega
      have e6 : (xm : Int) < (x : Int) := by omega
      have HXM : Hid _ := hxm
      clear hxm
      have e7 : (0 : Int) ≤ (x : Int) := by omega
      clear hb6 hb7 HR HKr HK
      by_cases hxw : x = wd
      · by_cases hcx : cp = x
        · replace hcx := hcx.symm
          subst hcx
          have HXW : Hid (x = wd) := hxw
          clear hxw
          go_wp2_with ((with_reducible (refine (?_ : wpList Try.prog _ _ ({ dst := _, op := Op.call { callee := Callee.builtin Builtin.copy, args := _, argTypes := _ }, type := _, pos := _, after := _, guard := _ } :: _) _ _))); refine wpList_copy_rm (by rfl) (.tmp 58) (.tmp 59) (by rfl) (some ⟨g, z2, none⟩) (some ⟨b, o + z1, none⟩) wd x x (c - z1) (by rfl) (by rfl) g z2 _ (seg C z1 x) x (seg_len _ _ _) HR7.out HNN.out rfl (HSS.out _ HK7.out) HF.out ?_; intro w8 hr8 hk8)
          have HK8 : Hid (Kf g w4 w8) := HK7.out.kb hk8
          have HR8 : Hid (Rw w8 g (splice (padP x y C wd hd k) z2 (seg C z1 x))) := hr8
          have HST2 : Hid (splice (padP x y C wd hd k) z2 (seg C z1 x) = padP x y C wd hd (k + 1)) := by
            unfold Hid; rw [← HST.out, show wd - x = 0 from by have := HXW.out; omega, splice_rep_zero]
          have l0 : wd - x = 0 := by have := HXW.out; omega
          clear hr8 hk8 HR7 HK7
          go_wp2_with fail
          go_region_held3 (fun v => v.cell? ⟨b, o + z1 + xm, none⟩ = some (.int .u8 (last : Nat)) ∧ Kf g w4 v)
            ((exact HK2.out _ (by first | exact HK8.out.drew)))
            ((go_at_call 23; refine fill_nil.mono ?_; rintro e w9 ⟨rfl, rfl⟩))
          all_goals
            go_wp2_with fail
            go_roundw
            case rel => exact ⟨k + 1, by omega, by go_num, by rw [← HST2.out]; exact HR8.out.drew, HK8.out.drew⟩
            case measure => simp [intOf]; omega
        · have HXW : Hid (x = wd) := hxw
          clear hxw
          go_wp2_with ((with_reducible (refine (?_ : wpList Try.prog _ _ ({ dst := _, op := Op.call { callee := Callee.builtin Builtin.copy, args := _, argTypes := _ }, type := _, pos := _, after := _, guard := _ } :: _) _ _))); refine wpList_copy_rm (by rfl) (.tmp 58) (.tmp 59) (by rfl) (some ⟨g, z2, none⟩) (some ⟨b, o + z1, none⟩) wd cp x (c - z1) (by rfl) (by rfl) g z2 _ (seg C z1 x) x (seg_len _ _ _) HR7.out HNN.out rfl (HSS.out _ HK7.out) HF.out ?_; intro w8 hr8 hk8)
          have HK8 : Hid (Kf g w4 w8) := HK7.out.kb hk8
          have HR8 : Hid (Rw w8 g (splice (padP x y C wd hd k) z2 (seg C z1 x))) := hr8
          have HST2 : Hid (splice (padP x y C wd hd k) z2 (seg C z1 x) = padP x y C wd hd (k + 1)) := by
            unfold Hid; rw [← HST.out, show wd - x = 0 from by have := HXW.out; omega, splice_rep_zero]
          have l0 : wd - x = 0 := by have := HXW.out; omega
          clear hr8 hk8 HR7 HK7
          go_wp2_with fail
          go_region_held3 (fun v => v.cell? ⟨b, o + z1 + xm, none⟩ = some (.int .u8 (last : Nat)) ∧ Kf g w4 v)
            ((exact HK2.out _ (by first | exact HK8.out.drew)))
            ((go_at_call 23; refine fill_nil.mono ?_; rintro e w9 ⟨rfl, rfl⟩))
          all_goals
            go_wp2_with fail
            go_roundw
            case rel => exact ⟨k + 1, by omega, by go_num, by rw [← HST2.out]; exact HR8.out.drew, HK8.out.drew⟩
            case measure => simp [intOf]; omega
      · have b2 : ¬ cp = x := by omega
        go_wp2_with ((with_reducible (refine (?_ : wpList Try.prog _ _ ({ dst := _, op := Op.call { callee := Callee.builtin Builtin.copy, args := _, argTypes := _ }, type := _, pos := _, after := _, guard := _ } :: _) _ _))); refine wpList_copy_rm (by rfl) (.tmp 58) (.tmp 59) (by rfl) (some ⟨g, z2, none⟩) (some ⟨b, o + z1, none⟩) wd cp x (c - z1) (by rfl) (by rfl) g z2 _ (seg C z1 x) x (seg_len _ _ _) HR7.out HNN.out rfl (HSS.out _ HK7.out) HF.out ?_; intro w8 hr8 hk8)
        have HK8 : Hid (Kf g w4 w8) := HK7.out.kb hk8
        have HFL : Hid (∀ cc : Nat, Calls Try.prog 23 #[.slice (some ⟨g, z2 + x, none⟩) (wd - x) cc, .int .u8 (last : Int)] w8.drew fun e w' => e = .returned (.tuple #[]) ∧ Rw w' g (splice (splice (padP x y C wd hd k) z2 (seg C z1 x)) (z2 + x) (List.replicate (wd - x) last)) ∧ Kb g w8.drew w') := by
          have hle : (splice (padP x y C wd hd k) z2 (seg C z1 x)).length = n := by rw [splice_len _ _ _ (by rw [seg_len]; exact HF.out), padP_len, HN.out]
          exact fun cc => fill_row hr8.drew (by rw [hle]; omega) (by rw [hle]; omega)
        clear hr8 hk8 HR7 HK7
        go_wp2_with fail
        go_region_held3 (fun v => v.cell? ⟨b, o + z1 + xm, none⟩ = some (.int .u8 (last : Nat)) ∧ Kf g w4 v)
          ((exact HK2.out _ (by first | exact HK8.out.drew | exact HK8.out.drew.kb (by assumption))))
          ((go_at_call 23; refine (HFL.out _).mono ?_; rintro e w9 ⟨rfl, hr9, hk9⟩))
        go_wp2_with fail
        go_roundw
        case rel => exact ⟨k + 1, by omega, by go_num, by rw [← HST.out]; exact hr9, HK8.out.drew.kb hk9⟩
        case measure => simp [intOf]; omega
    · have hk' : k = hd := by omega
      subst hk'
      have s0 : wr.cell? ⟨g + 1, 0, none⟩ = some (.int .i64 (wd : Int)) := by rw [HKr.out.cell _ _ (by have := HZ4.out; omega) (by omega)]; exact q0
      have s1 : wr.cell? ⟨g + 1, 1, none⟩ = some (.int .i64 (k : Int)) := by rw [HKr.out.cell _ _ (by have := HZ4.out; omega) (by omega)]; exact q1
      have s2 : wr.cell? ⟨g + 1, 2, none⟩ = some (.slice (some ⟨g, 0, none⟩) n n) := by rw [HKr.out.cell _ _ (by have := HZ4.out; omega) (by omega)]; exact q2
      have r7 : wr.cell? ⟨u.heap.size + 1, 0, none⟩ = some (.int .i64 0) := by rw [HKr.out.cell _ _ (by have := HZ4.out; omega) (by omega)]; exact d3
      have r8 : wr.cell? ⟨u.heap.size + 1, 1, none⟩ = some (.int .i64 0) := by rw [HKr.out.cell _ _ (by have := HZ4.out; omega) (by omega)]; exact d4
      have r9 : wr.cell? ⟨u.heap.size + 1, 2, none⟩ = some (.slice none 0 0) := by rw [HKr.out.cell _ _ (by have := HZ4.out; omega) (by omega)]; exact d5
      have t0 : wr.frozen? ⟨u.heap.size + 1, 0, none⟩ = false := by rw [HKr.out.frozen _ _ (by have := HZ4.out; omega) (by omega)]; exact f0
      have t1 : wr.frozen? ⟨u.heap.size + 1, 1, none⟩ = false := by rw [HKr.out.frozen _ _ (by have := HZ4.out; omega) (by omega)]; exact f1
      have t2 : wr.frozen? ⟨u.heap.size + 1, 2, none⟩ = false := by rw [HKr.out.frozen _ _ (by have := HZ4.out; omega) (by omega)]; exact f2
      clear d0 d1 d2 d3 d4 d5 f0 f1 f2 q0 q1 q2
      go_wp2_with fail
      refine bodyPost_ret (v := .tuple #[.agg #[.int .i64 (wd : Int), .int .i64 (k : Int), .slice (some ⟨g, 0, none⟩) n n], .int .i64 0]) (by simp [results, Try.results7, go_sem, r7, r8, r9]) rfl ?_
      refine ⟨g, ret_pl (by rw [padL_len, HN.out]), by omega, ?_, ?_⟩
      · rw [← padP_all]
        exact ((HR.out.far (a := ⟨u.heap.size + 1, 0, none⟩) (by simp; omega) _).far (a := ⟨u.heap.size + 1, 1, none⟩) (by simp; omega) _).far (a := ⟨u.heap.size + 1, 2, none⟩) (by simp; omega) _
      · exact below_set (below_set (below_set (HB4.out.trans (HKr.out.below (by omega) (by omega))) (by simp) _) (by simp) _) (by simp) _

end Go.Proofs.Ytlgfkkegehpllab
