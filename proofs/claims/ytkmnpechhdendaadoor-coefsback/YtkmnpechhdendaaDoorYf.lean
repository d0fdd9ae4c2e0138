/- DERIVED. The walks of amount and end. -/
import Derived.Test.YtkmnpechhdendaaDoorYe
namespace Go.Proofs.YtkmnpechhdendaaDoor
open Go.RowKit L3

theorem good_res {α : Type} {R : α → Prop} (p : Prg α) : ∀ m s, p.Good R m → SOk s → p.Ok s → ∀ a, (p.run s).1 = some a → R a := by
  induction p with
  | ret a => intro m s hg hs ho b e; simp only [Prg.run, Option.some.injEq] at e; subst e; exact hg
  | stop => intro m s hg hs ho b e; simp [Prg.run] at e
  | sym kk cx z k ih => intro m s hg hs ho b e; exact ih _ _ _ (hg.2.2.2 _ (sy_lt hs ho.1.1 ho.1.2.1 ho.1.2.2.2)) (sy_ok hs ho.1.1 ho.1.2.1 ho.1.2.2.2) ho.2 b e
  | bits n z k ih => intro m s hg hs ho b e; exact ih _ _ _ (hg.2.2 _ (bi_lt ho.1.2.2)) (bi_ok hs n z) ho.2 b e
/-- what the loop of amount keeps -/
structure AmG (m : Pm) (K : List Int) (O : Nat → Prop) (w : World) (more : Nat) (a : Int) (r : Option Int × Cs) (g : Nat) (sv pv : Value) (wr : World) : Prop where
  ex : ∃ (k : Nat) (sd pt : Int) (O' : Nat → Prop) (s' : Cs), k + 1 = g ∧ k ≤ 4 ∧ sd = 3 * (4 - (k : Int)) ∧ 0 ≤ pt ∧ pt ≤ 3 ∧ sv = .int .i64 sd ∧ pv = .int .i64 pt ∧ Gd m K O' s' wr ∧ Trn O O' w wr ∧ Below m.lo w wr ∧ (amtL m.col more a k sd pt).Ok s' ∧ (amtL m.col more a k sd pt).run s' = r

set_option maxRecDepth 100000 in
set_option maxHeartbeats 2000000 in
theorem amount_gd {m : Pm} {K : List Int} {O : Nat → Prop} {s : Cs} {w : World} (h : Gd m K O s w) {p : Nat} (hp : p < m.q) {last : Bool} {a : Int} (ha0 : 0 ≤ a) (ha1 : a ≤ 1048576) (hok : (amtP m.col (L10.bas K m.n p).toNat (L10.mor K m.n p).toNat last a).Ok s) :
    Calls Tryd.prog 41 #[.pointer (some ⟨m.b, 0, none⟩), .int .i64 (p : Int), .int .i64 a, .bool last] w fun e w' => Ans m K O w vi ((amtP m.col (L10.bas K m.n p).toNat (L10.mor K m.n p).toNat last a).run s) e w' := by
  unfold amtP at hok ⊢
  obtain ⟨ok1, ok2⟩ := Prg.ok_bind _ _ _ hok
  have HF : Hid (Calls Tryd.prog 58 #[.pointer (some ⟨m.b, 0, none⟩), .int .i64 (p : Int), .int .i64 a, .bool last] w fun e w' => Ans m K O w vi ((fstP m.col (L10.bas K m.n p).toNat last a).run s) e w') := fst_any h hp (by omega) ok1
  have HP : Hid (p < m.q) := hp
  obtain ⟨v, s1, hf⟩ : ∃ v s1, (fstP m.col (L10.bas K m.n p).toNat last a).run s = (some v, s1) := by
    unfold fstP
    cases last
    · exact ⟨_, _, rfl⟩
    · exact ⟨_, _, rfl⟩
  have hv : 0 ≤ v ∧ v ≤ 3 := by
    have hb := bas_le K m.n p
    unfold fstP at hf ok1
    cases last
    · rw [if_neg (by decide)] at hf ok1
      simp only [Prg.run, Prod.mk.injEq, Option.some.injEq] at hf
      have : syA s 28 (5 * m.col + (L10.bas K m.n p).toNat) (min 3 a) < 4 := sy_lt h.cd.so ok1.1.1 ok1.1.2.1 ok1.1.2.2.2
      omega
    · rw [if_pos rfl] at hf ok1
      simp only [Prg.run, Prod.mk.injEq, Option.some.injEq] at hf
      have : syA s 27 m.col (min 3 a - 1) < 3 := sy_lt h.cd.so ok1.1.1 ok1.1.2.1 ok1.1.2.2.2
      omega
  rw [Prg.run_some hf]
  have HO4 : Hid ((amtL m.col (L10.mor K m.n p).toNat a 4 0 v).Ok s1) := ok2 _ _ hf
  rw [hf] at HF
  have HMr : Hid (∀ O' s' u b, Gd m K O' s' u → (morP m.col (L10.mor K m.n p).toNat b).Ok s' → Calls Tryd.prog 60 #[.pointer (some ⟨m.b, 0, none⟩), .int .i64 (p : Int), .int .i64 b] u fun e w' => Ans m K O' u vi ((morP m.col (L10.mor K m.n p).toNat b).run s') e w') := fun O' s' u b hu hb => more_any hu HP.out hb
  generalize (L10.mor K m.n p).toNat = mm at *
  generalize hr : (amtL m.col mm a 4 0 v).run s1 = r at *
  have HR : Hid ((amtL m.col mm a 4 0 v).run s1 = r) := hr
  clear h hp hok ok1 ok2 hf hr
  go_enter Tryd.func41, Tryd.ntmps41
  go_wp2
  go_step3
  go_wp2_with fail
  refine HF.out.mono ?_
  rintro e w1 ⟨ht, hm⟩
  obtain rfl := ht.1 _ rfl
  simp only [vi]
  obtain ⟨O1, g1, t1, b1⟩ := hm
  have HS : Hid (AmG m K O w mm a r 5 (.int .i64 0) (.int .i64 v) w1) := ⟨4, 0, v, O1, s1, rfl, by omega, by omega, hv.1, hv.2, rfl, rfl, g1, t1, b1, HO4.out, HR.out⟩
  clear ht g1 t1 b1 HF HO4 HR hv
  go_wp2_with fail
  go_step3
  go_wp2_with fail
  go_loopg [9, 10] 5 (fun g sv pv wr => AmG m K O w mm a r g sv pv wr)
  case atStart => exact HS.out
  case round =>
    obtain ⟨k, sd, pt, O', s', hg, hk4, hsd, p0, p3, rfl, rfl, gd, ht, hb, hok, hrun⟩ := hrel
    have HG : Hid (Gd m K O' s' wr) := gd
    have HT : Hid (Trn O O' w wr) := ht
    have HB : Hid (Below m.lo w wr) := hb
    clear gd ht hb HS
    by_cases hlt : pt < 3
    · have HRn : Hid (r = (some (sd + pt), s')) := by
        show r = _
        cases k
        · rw [amtL, if_pos hlt] at hrun; exact hrun.symm
        · rw [amtL, if_pos hlt] at hrun; exact hrun.symm
      clear hok hrun
      have b0 : 0 ≤ sd + pt := by omega
      have b1 : sd + pt ≤ 15 := by omega
      clear hsd hk4 hg
      go_wp2_with fail
      go_ret
      show Ans m K O w vi r _ _
      rw [HRn.out]
      exact ⟨Tel.some, _, HG.out, HT.out, HB.out⟩
    · obtain rfl : pt = 3 := by omega
      cases k with
      | zero =>
        obtain rfl : sd = 12 := by omega
        rw [amtL, if_neg hlt] at hok hrun
        obtain ⟨ok1, -⟩ := Prg.ok_bind _ _ _ hok
        obtain ⟨X, hX⟩ : ∃ X, a - 15 + 1 = X := ⟨_, rfl⟩
        rw [show a - (12 + 3) + 1 = X by omega] at ok1 hrun
        have HL : Hid (Calls Tryd.prog 59 #[.pointer (some ⟨m.b, 0, none⟩), .int .i64 X] wr fun e w' => Ans m K O' wr vi ((lenP X).run s') e w') := length_any HG.out (by omega) (by omega) ok1
        have hres : ∀ l s2, (lenP X).run s' = (some l, s2) → 1 ≤ l ∧ l < 2097152 := fun l s2 e => good_res _ 41 _ (len_good X 21 0 rfl) HG.out.cd.so ok1 l (by rw [show lenL X 21 0 = lenP X from rfl, e])
        rcases hlr : (lenP X).run s' with ⟨l | l, s2⟩
        · rw [hlr] at HL
          have HRn : Hid (r = (none, s2)) := by show r = _; rw [← hrun]; exact Prg.run_none hlr
          clear hok hrun ok1 hlr hres hg hsd hlt p0 p3 hk4
          go_wp2_with fail
          refine HL.out.mono ?_
          rintro e w2 ⟨ht2, hm2⟩
          obtain rfl := ht2.2 rfl
          have HM : Hid (Mv m K O w w2 s2) := Mv.trans HT.out HB.out hm2
          clear ht2 hm2
          unfold stp4
          dsimp only
          go_wp2_with fail
          refine ⟨rfl, ?_⟩
          show Ans m K O w vi r stp4 _
          rw [HRn.out]
          exact ⟨Tel.none, HM.out⟩
        · rw [hlr] at HL
          obtain ⟨l0, l1⟩ := hres l s2 hlr
          have HRn : Hid (r = (some (12 + 3 + (l - 1)), s2)) := by show r = _; rw [← hrun]; exact Prg.run_some hlr
          clear hok hrun ok1 hlr hres hg hsd hlt p0 p3 hk4
          go_wp2_with fail
          refine HL.out.mono ?_
          rintro e w2 ⟨ht2, hm2⟩
          obtain rfl := ht2.1 _ rfl
          simp only [vi]
          have HM : Hid (Mv m K O w w2 s2) := Mv.trans HT.out HB.out hm2
          clear ht2 hm2
          go_wp2_with fail
          go_ret
          show Ans m K O w vi r _ _
          rw [HRn.out]
          exact ⟨Tel.some, HM.out⟩
      | succ k =>
        rw [amtL, if_neg hlt] at hok hrun
        obtain ⟨ok1, ok2⟩ := Prg.ok_bind _ _ _ hok
        obtain ⟨X, hX⟩ : ∃ X, a - (sd + 3) = X := ⟨_, rfl⟩
        rw [hX] at ok1 ok2 hrun
        have HL : Hid (Calls Tryd.prog 60 #[.pointer (some ⟨m.b, 0, none⟩), .int .i64 (p : Int), .int .i64 X] wr fun e w' => Ans m K O' wr vi ((morP m.col mm X).run s') e w') := HMr.out _ _ _ _ HG.out ok1
        have hpq : 0 ≤ ((syA s' 29 (7 * m.col + mm) (min 3 X) : Nat) : Int) ∧ ((syA s' 29 (7 * m.col + mm) (min 3 X) : Nat) : Int) ≤ 3 := by
          have : syA s' 29 (7 * m.col + mm) (min 3 X) < 4 := sy_lt HG.out.cd.so ok1.1.1 ok1.1.2.1 ok1.1.2.2.2
          omega
        obtain ⟨q, hq⟩ : ∃ q : Int, ((syA s' 29 (7 * m.col + mm) (min 3 X) : Nat) : Int) = q := ⟨_, rfl⟩
        obtain ⟨s2, hs2⟩ : ∃ s2, syN s' 29 (7 * m.col + mm) (syA s' 29 (7 * m.col + mm) (min 3 X)) = s2 := ⟨_, rfl⟩
        have hlr : (morP m.col mm X).run s' = (some q, s2) := by rw [← hq, ← hs2]; rfl
        rw [hq] at hpq
        rw [hlr] at HL
        have HRn : Hid ((amtL m.col mm a k (sd + 3) q).run s2 = r) := by show _ = r; rw [← hrun]; exact (Prg.run_some hlr).symm
        have HOn : Hid ((amtL m.col mm a k (sd + 3) q).Ok s2) := ok2 _ _ hlr
        have HK : Hid (k + 1 ≤ 4 ∧ sd = 3 * (4 - ((k + 1 : Nat) : Int)) ∧ k + 1 + 1 = gk) := ⟨hk4, hsd, hg⟩
        have b0 : 0 ≤ sd + 3 := by omega
        have b1 : sd + 3 ≤ 12 := by omega
        have b2 : ((sd + 3) == 15) = false := by rw [beq_eq_false_iff_ne]; omega
        clear hok hrun ok1 ok2 hlr hq hs2 hk4 hsd hlt p0 p3 hg
        go_wp2_with fail
        refine HL.out.mono ?_
        rintro e w2 ⟨ht2, hm2⟩
        obtain rfl := ht2.1 _ rfl
        simp only [vi]
        have HM : Hid (Mv m K O w w2 s2) := Mv.trans HT.out HB.out hm2
        clear ht2 hm2
        go_wp2_with fail
        obtain ⟨k1, k2, k3⟩ := HK.out
        obtain ⟨O2, g2, t2, bb2⟩ := HM.out
        go_roundg (k + 1)
        case rel => exact ⟨k, sd + 3, q, O2, s2, by omega, by omega, by omega, hpq.1, hpq.2, by go_num, rfl, g2, t2, bb2, HOn.out, HRn.out⟩
        case measure => omega

/-- what a class says of the ends that have it -/
theorem cls_two {c : Nat} (h : c ≤ 10) : cls ((2 ^ c : Nat) : Int) = c ∧ L10.Cl ((2 ^ c : Nat) : Int) c ∧ ((2 ^ c : Nat) : Int) ≤ 1024 ∧ 1 ≤ ((2 ^ c : Nat) : Int) ∧ L10.clB c = ((c - 1 : Nat) : Int) ∧ ((2 ^ c : Nat) : Int) - L10.clE ((2 ^ c : Nat) : Int) c = (clLo c : Int) ∧ 0 ≤ L10.clE ((2 ^ c : Nat) : Int) c ∧ L10.clE ((2 ^ c : Nat) : Int) c ≤ 1024 := by
  have e : ((2 ^ c : Nat) : Int) = 2 ^ c := by simp
  have hp := L10.pow_at h
  have hcl : L10.Cl ((2 ^ c : Nat) : Int) c := ⟨h, by rw [e]; exact Int.le_refl _, fun k hk => by
    rw [e]
    have h1 : 2 ^ k < 2 ^ c := Nat.pow_lt_pow_right (by omega) hk
    have e2 : (2 : Int) ^ k = ((2 ^ k : Nat) : Int) := by simp
    rw [e2, ← e]; omega⟩
  refine ⟨(cls_cl (by rw [e]; exact hp.2)).uniq hcl, hcl, by rw [e]; exact hp.2, by rw [e]; exact hp.1, ?_, ?_, ?_, ?_⟩
  · unfold L10.clB
    split
    · next e0 => subst e0; rfl
    · omega
  · unfold L10.clE clLo
    split
    · next e0 => subst e0; rfl
    · have e3 : ((2 ^ (c - 1) + 1 : Nat) : Int) = 2 ^ (c - 1) + 1 := by simp
      rw [e, e3]; omega
  · unfold L10.clE
    split
    · omega
    · next e0 =>
      obtain ⟨d, rfl⟩ : ∃ d, c = d + 1 := ⟨c - 1, by omega⟩
      rw [e, Int.pow_succ, Nat.add_sub_cancel]
      have : (0 : Int) < 2 ^ d := Int.pow_pos (by omega)
      omega
  · unfold L10.clE
    split
    · omega
    · have : (0 : Int) < 2 ^ (c - 1) := Int.pow_pos (by omega)
      rw [e]; omega
def vn (a : Nat) : Value := .int .i64 (a : Int)

set_option maxRecDepth 100000 in
set_option maxHeartbeats 2000000 in
theorem end_any {m : Pm} {K : List Int} {O : Nat → Prop} {s : Cs} {w : World} (h : Gd m K O s w) {e : Nat} (he : e ≤ m.q) (hok : (endP m.z m.col e).Ok s) :
    Calls Tryd.prog 39 #[.pointer (some ⟨m.b, 0, none⟩), .int .i64 (e : Int)] w fun en w' => Ans m K O w vn ((endP m.z m.col e).run s) en w' := by
  have hq : m.q ≤ 1024 := by rw [h.hq]; exact h.sz.sd.sq
  obtain ⟨c, hcx⟩ : ∃ c : Nat, 2 * m.col + (if 8 < m.z then 1 else 0) = c := ⟨_, rfl⟩
  have hcc : (c : Int) ≤ 3 := by have := h.hc; split at hcx <;> omega
  unfold endP at hok ⊢
  rw [hcx] at hok ⊢
  have hv := hok.1
  have hok2 := hok.2
  have HSy : Hid (∀ u, Gd m K O s u → Calls Tryd.prog 54 #[.pointer (some ⟨m.x, 0, none⟩), .int .i64 (22 : Nat), .int .i64 (c : Nat), .int .i64 (bt (e = 0))] u fun e' w' => e' = .returned (.tuple #[.int .i64 (syA s 22 c (bt (e = 0)) : Nat), .int .i64 0]) ∧ Mv m K O u w' (syN s 22 c (syA s 22 c (bt (e = 0))))) := fun u hu => symbol_gd hu hv
  have HBt : Hid (bt (((e : Int) == 0) = true) = bt (e = 0)) := by
    show bt _ = bt _
    unfold bt
    by_cases e0 : e = 0
    · subst e0; rfl
    · rw [if_neg e0, if_neg (by rw [beq_iff_eq]; omega)]
  obtain ⟨r, hr⟩ : ∃ r, ((Prg.sym 22 c (bt (e = 0)) fun v => if v = 1 then Prg.ret 0 else .sym (endK m.z) m.col (cls ((max e 1 : Nat) : Int)) fun cc => .bits (cc - 1) (L10.clE ((max e 1 : Nat) : Int) (cls ((max e 1 : Nat) : Int))) fun u => .ret (clLo cc + u)).run s) = r := ⟨_, rfl⟩
  rw [hr]
  have hrun : (if syA s 22 c (bt (e = 0)) = 1 then Prg.ret 0 else .sym (endK m.z) m.col (cls ((max e 1 : Nat) : Int)) fun cc => .bits (cc - 1) (L10.clE ((max e 1 : Nat) : Int) (cls ((max e 1 : Nat) : Int))) fun u => .ret (clLo cc + u)).run (syN s 22 c (syA s 22 c (bt (e = 0)))) = r := hr
  have hok3 : (if syA s 22 c (bt (e = 0)) = 1 then Prg.ret 0 else .sym (endK m.z) m.col (cls ((max e 1 : Nat) : Int)) fun cc => .bits (cc - 1) (L10.clE ((max e 1 : Nat) : Int) (cls ((max e 1 : Nat) : Int))) fun u => .ret (clLo cc + u)).Ok (syN s 22 c (syA s 22 c (bt (e = 0)))) := hok2
  obtain ⟨E, hE⟩ : ∃ E : Nat, max e 1 = E := ⟨_, rfl⟩
  rw [hE] at hrun hok3
  have hE2 : max (e : Int) 1 = (E : Int) := by omega
  have HCl : Hid (∀ u : World, Calls Tryd.prog 56 #[.int .i64 (E : Int)] u fun e w' => e = .returned (.tuple #[.int .i64 (cls (E : Int) : Int), .int .i64 (L10.clB (cls (E : Int))), .int .i64 (L10.clE (E : Int) (cls (E : Int))), .int .i64 0]) ∧ Below u.heap.size u w') := fun u => L10.class_yes (by omega) (by omega) (cls_cl (by omega))
  have HEk : Hid (∀ u : World, Calls Tryd.prog 57 #[.int .i64 m.z] u fun e w' => e = .returned (.int .i64 (endK m.z : Nat)) ∧ w' = u) := fun u => endKind_any h.sz
  obtain ⟨k1, k2, k3, k4, k5⟩ := endK_in h.sz
  have HC : Hid (∀ O' s' u, Gd m K O' s' u → (u.cell? ⟨m.b, 0, none⟩ = some (.pointer (some ⟨m.x, 0, none⟩)) ∧ u.cell? ⟨m.b, 1, none⟩ = some (.int .i64 m.z) ∧ u.cell? ⟨m.b, 2, none⟩ = some (.int .i64 (m.col : Int)))) := fun O' s' u hu => ⟨hu.bb.c0, hu.bb.c1, hu.bb.c2⟩
  have HLo : Hid (m.lo ≤ w.heap.size) := lo_le h
  have HG : Hid (Gd m K O s w.drew) := h.drew
  have HB : Hid (Below w.heap.size w w.drew) := L10.below_drew (Below.refl _ _)
  have HSo : Hid (SOk s) := h.cd.so
  obtain ⟨f0, f1, f2⟩ := HC.out _ _ _ h
  obtain ⟨g0, g1, g2⟩ := HC.out _ _ _ HG.out
  obtain ⟨c2, hc2⟩ : ∃ c2 : Nat, 2 * m.col = c2 := ⟨_, rfl⟩
  have hc3 : (2 : Int) * (m.col : Int) = (c2 : Int) := by omega
  have hc4 : (c2 : Int) ≤ 3 := by have := h.hc; omega
  have HK5 : Hid (endK m.z < 32 ∧ sC (endK m.z) = 2 ∧ sV (endK m.z) ≤ 11) := ⟨k1, k2, k5⟩
  have HR2 : Hid _ := hrun
  have HO2 : Hid _ := hok3
  clear hok hok2 hv hr hrun hok3 hE k1 k2 k3 k4 k5
  generalize syA s 22 c (bt (e = 0)) = v at *
  generalize bt (e = 0) = zz at *
  by_cases h8 : 8 < m.z
  · have hcc2 : (c2 : Int) + 1 = (c : Int) := by rw [if_pos h8] at hcx; omega
    clear hcx h hc2
    go_enter Tryd.func39, Tryd.ntmps39
    go_wp2_with fail
    go_region_held3 (fun u => u.cell? ⟨m.b, 0, none⟩ = some (.pointer (some ⟨m.x, 0, none⟩)))
      ((exact (HC.out _ _ _ (by assumption)).1))
      (first
        | (go_at_call 55; refine bit_any.mono ?_; rintro e wC ⟨rfl, rfl⟩; rw [HBt.out])
        | (go_at_call 54; refine (HSy.out _ HG.out).mono ?_; rintro e wA ⟨rfl, hmA⟩; have HM : Hid (Mv m K O w wA (syN s 22 c v)) := Mv.behind HLo.out HB.out hmA; obtain ⟨OA, gA, tA, bA⟩ := hmA)
        | (go_at_call 53; refine told_ok.mono ?_; rintro e wB ⟨rfl, rfl⟩))
    obtain ⟨O1, gd1, t1, b1⟩ := HM.out
    have HG1 : Hid (Gd m K O1 (syN s 22 c v) wB) := gd1
    have HT1 : Hid (Trn O O1 w wB) := t1
    have HB1 : Hid (Below m.lo w wB) := b1
    clear gd1 t1 b1 HSy
    by_cases hv1 : v = 1
    · have hvt : ((v : Int) == 1) = true := by rw [hv1]; rfl
      have HRn : Hid (r = (some 0, syN s 22 c v)) := by show r = _; rw [← HR2.out, if_pos hv1]; rfl
      clear HR2 HO2 hv1
      go_wp2_with fail
      go_ret
      show Ans m K O w vn r _ _
      rw [HRn.out]
      exact ⟨Tel.some, HM.out⟩
    · have hvf : ((v : Int) == 1) = false := by rw [beq_eq_false_iff_ne]; omega
      have hO3 := HO2.out
      have hR3 := HR2.out
      rw [if_neg hv1] at hO3 hR3
      have hv3 := hO3.1
      generalize syN s 22 c v = s1 at *
      generalize hcE : cls (E : Int) = cE at *
      have hlt : syA s1 (endK m.z) m.col (cE : Int) < sV (endK m.z) := sy_lt HG1.out.cd.so hv3.1 hv3.2.1 hv3.2.2.2
      have HS2 : Hid (∀ u, Gd m K O1 s1 u → Calls Tryd.prog 54 #[.pointer (some ⟨m.x, 0, none⟩), .int .i64 (endK m.z : Nat), .int .i64 (m.col : Nat), .int .i64 (cE : Int)] u fun e' w' => e' = .returned (.tuple #[.int .i64 (syA s1 (endK m.z) m.col (cE : Int) : Nat), .int .i64 0]) ∧ Mv m K O1 u w' (syN s1 (endK m.z) m.col (syA s1 (endK m.z) m.col (cE : Int)))) := fun u hu => symbol_gd hu hv3
      have hO4 := hO3.2
      have hR4 : (Prg.bits (syA s1 (endK m.z) m.col (cE : Int) - 1) (L10.clE (E : Int) cE) fun u => Prg.ret (clLo (syA s1 (endK m.z) m.col (cE : Int)) + u)).run (syN s1 (endK m.z) m.col (syA s1 (endK m.z) m.col (cE : Int))) = r := hR3
      have hO5 : (Prg.bits (syA s1 (endK m.z) m.col (cE : Int) - 1) (L10.clE (E : Int) cE) fun u => Prg.ret (clLo (syA s1 (endK m.z) m.col (cE : Int)) + u)).Ok (syN s1 (endK m.z) m.col (syA s1 (endK m.z) m.col (cE : Int))) := hO4
      have hc10 : syA s1 (endK m.z) m.col (cE : Int) ≤ 10 := by have := HK5.out.2.2; omega
      generalize syA s1 (endK m.z) m.col (cE : Int) = cc at *
      generalize L10.clE (E : Int) cE = xe at *
      generalize L10.clB cE = xb at *
      obtain ⟨-, q2, q3, q4, q5, q6, q7, q8⟩ := cls_two hc10
      have HC2 : Hid (∀ u : World, Calls Tryd.prog 56 #[.int .i64 ((2 ^ cc : Nat) : Int)] u fun e w' => e = .returned (.tuple #[.int .i64 (cc : Int), .int .i64 (L10.clB cc), .int .i64 (L10.clE ((2 ^ cc : Nat) : Int) cc), .int .i64 0]) ∧ Below u.heap.size u w') := fun u => L10.class_yes q4 q3 q2
      have hG1 : (1 : Int) * 2 ^ cc = ((2 ^ cc : Nat) : Int) := by simp
      have hcl5 : clLo cc ≤ 513 := by
        unfold clLo
        split
        · omega
        · have : 2 ^ (cc - 1) ≤ 2 ^ 9 := Nat.pow_le_pow_right (by omega) (by omega)
          omega
      generalize 2 ^ cc = G at *
      rw [q5] at HC2
      generalize L10.clE (G : Int) cc = oth at *
      have hv5 := hO5.1
      generalize hn : cc - 1 = nb at *
      have hn9 : nb ≤ 9 := by omega
      generalize clLo cc = cl at *
      generalize syN s1 (endK m.z) m.col cc = s2 at *
      have HS5 : Hid (∀ O' u, Gd m K O' s2 u → Calls Tryd.prog 24 #[.pointer (some ⟨m.x, 0, none⟩), .int .i64 (nb : Nat), .int .i64 xe] u fun e w' => e = .returned (.tuple #[.int .i64 (biA s2 nb xe : Nat), .int .i64 0]) ∧ Mv m K O' u w' (biN s2 nb (biA s2 nb xe))) := fun O' u hu => bits_gd hu hv5
      have hul : biA s2 nb xe < 2 ^ 9 := by
        have h1 := bi_lt (s := s2) (n := nb) (z := xe) hv5.2.2
        have h2 : 2 ^ nb ≤ 2 ^ 9 := Nat.pow_le_pow_right (by omega) hn9
        omega
      have HRn : Hid (r = (some (cl + biA s2 nb xe), biN s2 nb (biA s2 nb xe))) := hR4.symm
      generalize biA s2 nb xe = ub at *
      have hu1 : (ub : Int) ≤ 512 := by omega
      have hu0 : (0 : Int) ≤ (ub : Int) := by omega
      have hcc0 : (0 : Int) ≤ (cc : Int) := by omega
      have hcc1 : (cc : Int) < 64 := by omega
      have hcl6 : (cl : Int) ≤ 513 := by omega
      have hcl7 : (0 : Int) ≤ (cl : Int) := by omega
      clear HR2 HO2 hv1 hO3 hR3 hv3 hlt hO4 hR4 hO5 hv5 hc10 q2 q5 hcl5 hul hn hcE hn9
      go_wp2_with fail
      refine (HCl.out _).mono ?_
      rintro e w3 ⟨rfl, hb3⟩
      have HG3 : Hid (Gd m K O1 s1 w3.drew) := (HG1.out.to hb3).drew
      have HLo3 : Hid (m.lo ≤ wB.heap.size) := lo_le HG1.out
      have HB3 : Hid (Below wB.heap.size wB w3.drew) := L10.below_drew hb3
      clear hb3
      go_wp2_with fail
      obtain ⟨y0, y1, y2⟩ := HC.out _ _ _ HG3.out
      go_region_held3 (fun u => u.cell? ⟨m.b, 0, none⟩ = some (.pointer (some ⟨m.x, 0, none⟩)) ∧ u.cell? ⟨m.b, 1, none⟩ = some (.int .i64 m.z) ∧ u.cell? ⟨m.b, 2, none⟩ = some (.int .i64 (m.col : Int)))
        ((first | assumption | exact ⟨y0, y1, y2⟩ | exact HC.out _ _ _ (by assumption)))
        (first
          | (go_at_call 57; refine (HEk.out _).mono ?_; rintro e wC2 ⟨rfl, rfl⟩)
          | (go_at_call 54; refine (HS2.out _ HG3.out).mono ?_; rintro e wD ⟨rfl, hmD⟩; have HM2 : Hid (Mv m K O1 wB wD s2) := Mv.behind HLo3.out HB3.out hmD; obtain ⟨OD, gD, tD, bD⟩ := hmD)
          | (go_at_call 53; refine told_ok.mono ?_; rintro e wE ⟨rfl, rfl⟩))
      obtain ⟨O2, gd2, t2, b2⟩ := HM2.out
      have HG2 : Hid (Gd m K O2 s2 wE) := gd2
      have HT2 : Hid (Trn O O2 w wE) := HT1.out.trans t2
      have HB2 : Hid (Below m.lo w wE) := HB1.out.trans b2
      clear gd2 t2 b2 HM2 gD tD bD
      go_wp2_with fail
      refine (HC2.out _).mono ?_
      rintro e w5 ⟨rfl, hb5⟩
      have HG5 : Hid (Gd m K O2 s2 w5) := HG2.out.to hb5
      have HB5 : Hid (Below wE.heap.size wE w5) := hb5
      have HLo5 : Hid (m.lo ≤ wE.heap.size) := lo_le HG2.out
      obtain ⟨x0, -, -⟩ := HC.out _ _ _ HG5.out
      clear hb5
      go_wp2_with fail
      refine (HS5.out _ _ HG5.out).mono ?_
      rintro e w6 ⟨rfl, hm6⟩
      have HM6 : Hid (Mv m K O w w6 (biN s2 nb ub)) := Mv.trans HT2.out HB2.out (Mv.behind HLo5.out HB5.out hm6)
      clear hm6
      go_wp2_with fail
      refine told_ok.mono ?_
      rintro e w7 ⟨rfl, rfl⟩
      go_wp2_with fail
      go_ret
      show Ans m K O w vn r _ _
      rw [HRn.out]
      refine ⟨⟨fun a ea => ?_, fun ea => by cases ea⟩, HM6.out⟩
      simp only [Option.some.injEq] at ea
      subst ea
      show Ending.returned (.int .i64 _) = Ending.returned (.int .i64 _)
      congr 2
  · have hcc2 : (c2 : Int) = (c : Int) := by rw [if_neg h8] at hcx; omega
    clear hcx h hc2
    go_enter Tryd.func39, Tryd.ntmps39
    go_wp2_with fail
    go_region_held3 (fun u => u.cell? ⟨m.b, 0, none⟩ = some (.pointer (some ⟨m.x, 0, none⟩)))
      ((exact (HC.out _ _ _ (by assumption)).1))
      (first
        | (go_at_call 55; refine bit_any.mono ?_; rintro e wC ⟨rfl, rfl⟩; rw [HBt.out])
        | (go_at_call 54; refine (HSy.out _ HG.out).mono ?_; rintro e wA ⟨rfl, hmA⟩; have HM : Hid (Mv m K O w wA (syN s 22 c v)) := Mv.behind HLo.out HB.out hmA; obtain ⟨OA, gA, tA, bA⟩ := hmA)
        | (go_at_call 53; refine told_ok.mono ?_; rintro e wB ⟨rfl, rfl⟩))
    obtain ⟨O1, gd1, t1, b1⟩ := HM.out
    have HG1 : Hid (Gd m K O1 (syN s 22 c v) wB) := gd1
    have HT1 : Hid (Trn O O1 w wB) := t1
    have HB1 : Hid (Below m.lo w wB) := b1
    clear gd1 t1 b1 HSy
    by_cases hv1 : v = 1
    · have hvt : ((v : Int) == 1) = true := by rw [hv1]; rfl
      have HRn : Hid (r = (some 0, syN s 22 c v)) := by show r = _; rw [← HR2.out, if_pos hv1]; rfl
      clear HR2 HO2 hv1
      go_wp2_with fail
      go_ret
      show Ans m K O w vn r _ _
      rw [HRn.out]
      exact ⟨Tel.some, HM.out⟩
    · have hvf : ((v : Int) == 1) = false := by rw [beq_eq_false_iff_ne]; omega
      have hO3 := HO2.out
      have hR3 := HR2.out
      rw [if_neg hv1] at hO3 hR3
      have hv3 := hO3.1
      generalize syN s 22 c v = s1 at *
      generalize hcE : cls (E : Int) = cE at *
      have hlt : syA s1 (endK m.z) m.col (cE : Int) < sV (endK m.z) := sy_lt HG1.out.cd.so hv3.1 hv3.2.1 hv3.2.2.2
      have HS2 : Hid (∀ u, Gd m K O1 s1 u → Calls Tryd.prog 54 #[.pointer (some ⟨m.x, 0, none⟩), .int .i64 (endK m.z : Nat), .int .i64 (m.col : Nat), .int .i64 (cE : Int)] u fun e' w' => e' = .returned (.tuple #[.int .i64 (syA s1 (endK m.z) m.col (cE : Int) : Nat), .int .i64 0]) ∧ Mv m K O1 u w' (syN s1 (endK m.z) m.col (syA s1 (endK m.z) m.col (cE : Int)))) := fun u hu => symbol_gd hu hv3
      have hO4 := hO3.2
      have hR4 : (Prg.bits (syA s1 (endK m.z) m.col (cE : Int) - 1) (L10.clE (E : Int) cE) fun u => Prg.ret (clLo (syA s1 (endK m.z) m.col (cE : Int)) + u)).run (syN s1 (endK m.z) m.col (syA s1 (endK m.z) m.col (cE : Int))) = r := hR3
      have hO5 : (Prg.bits (syA s1 (endK m.z) m.col (cE : Int) - 1) (L10.clE (E : Int) cE) fun u => Prg.ret (clLo (syA s1 (endK m.z) m.col (cE : Int)) + u)).Ok (syN s1 (endK m.z) m.col (syA s1 (endK m.z) m.col (cE : Int))) := hO4
      have hc10 : syA s1 (endK m.z) m.col (cE : Int) ≤ 10 := by have := HK5.out.2.2; omega
      generalize syA s1 (endK m.z) m.col (cE : Int) = cc at *
      generalize L10.clE (E : Int) cE = xe at *
      generalize L10.clB cE = xb at *
      obtain ⟨-, q2, q3, q4, q5, q6, q7, q8⟩ := cls_two hc10
      have HC2 : Hid (∀ u : World, Calls Tryd.prog 56 #[.int .i64 ((2 ^ cc : Nat) : Int)] u fun e w' => e = .returned (.tuple #[.int .i64 (cc : Int), .int .i64 (L10.clB cc), .int .i64 (L10.clE ((2 ^ cc : Nat) : Int) cc), .int .i64 0]) ∧ Below u.heap.size u w') := fun u => L10.class_yes q4 q3 q2
      have hG1 : (1 : Int) * 2 ^ cc = ((2 ^ cc : Nat) : Int) := by simp
      have hcl5 : clLo cc ≤ 513 := by
        unfold clLo
        split
        · omega
        · have : 2 ^ (cc - 1) ≤ 2 ^ 9 := Nat.pow_le_pow_right (by omega) (by omega)
          omega
      generalize 2 ^ cc = G at *
      rw [q5] at HC2
      generalize L10.clE (G : Int) cc = oth at *
      have hv5 := hO5.1
      generalize hn : cc - 1 = nb at *
      have hn9 : nb ≤ 9 := by omega
      generalize clLo cc = cl at *
      generalize syN s1 (endK m.z) m.col cc = s2 at *
      have HS5 : Hid (∀ O' u, Gd m K O' s2 u → Calls Tryd.prog 24 #[.pointer (some ⟨m.x, 0, none⟩), .int .i64 (nb : Nat), .int .i64 xe] u fun e w' => e = .returned (.tuple #[.int .i64 (biA s2 nb xe : Nat), .int .i64 0]) ∧ Mv m K O' u w' (biN s2 nb (biA s2 nb xe))) := fun O' u hu => bits_gd hu hv5
      have hul : biA s2 nb xe < 2 ^ 9 := by
        have h1 := bi_lt (s := s2) (n := nb) (z := xe) hv5.2.2
        have h2 : 2 ^ nb ≤ 2 ^ 9 := Nat.pow_le_pow_right (by omega) hn9
        omega
      have HRn : Hid (r = (some (cl + biA s2 nb xe), biN s2 nb (biA s2 nb xe))) := hR4.symm
      generalize biA s2 nb xe = ub at *
      have hu1 : (ub : Int) ≤ 512 := by omega
      have hu0 : (0 : Int) ≤ (ub : Int) := by omega
      have hcc0 : (0 : Int) ≤ (cc : Int) := by omega
      have hcc1 : (cc : Int) < 64 := by omega
      have hcl6 : (cl : Int) ≤ 513 := by omega
      have hcl7 : (0 : Int) ≤ (cl : Int) := by omega
      clear HR2 HO2 hv1 hO3 hR3 hv3 hlt hO4 hR4 hO5 hv5 hc10 q2 q5 hcl5 hul hn hcE hn9
      go_wp2_with fail
      refine (HCl.out _).mono ?_
      rintro e w3 ⟨rfl, hb3⟩
      have HG3 : Hid (Gd m K O1 s1 w3.drew) := (HG1.out.to hb3).drew
      have HLo3 : Hid (m.lo ≤ wB.heap.size) := lo_le HG1.out
      have HB3 : Hid (Below wB.heap.size wB w3.drew) := L10.below_drew hb3
      clear hb3
      go_wp2_with fail
      obtain ⟨y0, y1, y2⟩ := HC.out _ _ _ HG3.out
      go_region_held3 (fun u => u.cell? ⟨m.b, 0, none⟩ = some (.pointer (some ⟨m.x, 0, none⟩)) ∧ u.cell? ⟨m.b, 1, none⟩ = some (.int .i64 m.z) ∧ u.cell? ⟨m.b, 2, none⟩ = some (.int .i64 (m.col : Int)))
        ((first | assumption | exact ⟨y0, y1, y2⟩ | exact HC.out _ _ _ (by assumption)))
        (first
          | (go_at_call 57; refine (HEk.out _).mono ?_; rintro e wC2 ⟨rfl, rfl⟩)
          | (go_at_call 54; refine (HS2.out _ HG3.out).mono ?_; rintro e wD ⟨rfl, hmD⟩; have HM2 : Hid (Mv m K O1 wB wD s2) := Mv.behind HLo3.out HB3.out hmD; obtain ⟨OD, gD, tD, bD⟩ := hmD)
          | (go_at_call 53; refine told_ok.mono ?_; rintro e wE ⟨rfl, rfl⟩))
      obtain ⟨O2, gd2, t2, b2⟩ := HM2.out
      have HG2 : Hid (Gd m K O2 s2 wE) := gd2
      have HT2 : Hid (Trn O O2 w wE) := HT1.out.trans t2
      have HB2 : Hid (Below m.lo w wE) := HB1.out.trans b2
      clear gd2 t2 b2 HM2 gD tD bD
      go_wp2_with fail
      refine (HC2.out _).mono ?_
      rintro e w5 ⟨rfl, hb5⟩
      have HG5 : Hid (Gd m K O2 s2 w5) := HG2.out.to hb5
      have HB5 : Hid (Below wE.heap.size wE w5) := hb5
      have HLo5 : Hid (m.lo ≤ wE.heap.size) := lo_le HG2.out
      obtain ⟨x0, -, -⟩ := HC.out _ _ _ HG5.out
      clear hb5
      go_wp2_with fail
      refine (HS5.out _ _ HG5.out).mono ?_
      rintro e w6 ⟨rfl, hm6⟩
      have HM6 : Hid (Mv m K O w w6 (biN s2 nb ub)) := Mv.trans HT2.out HB2.out (Mv.behind HLo5.out HB5.out hm6)
      clear hm6
      go_wp2_with fail
      refine told_ok.mono ?_
      rintro e w7 ⟨rfl, rfl⟩
      go_wp2_with fail
      go_ret
      show Ans m K O w vn r _ _
      rw [HRn.out]
      refine ⟨⟨fun a ea => ?_, fun ea => by cases ea⟩, HM6.out⟩
      simp only [Option.some.injEq] at ea
      subst ea
      show Ending.returned (.int .i64 _) = Ending.returned (.int .i64 _)
      congr 2

end Go.Proofs.YtkmnpechhdendaaDoor
