/- DERIVED. Several texts in one: The walk of code. The law of code stands. -/
import Derived.Test.YtkmnpechhdendaaGreatDoorY3
namespace Go.Proofs.YtkmnpechhdendaaGreatDoor
open Go.RowKit L3

set_option maxRecDepth 100000 in
set_option maxHeartbeats 4000000 in
theorem code_any {m : Pm} {O : Nat → Prop} {s : Cs} {w : World} (h : Gd m (List.replicate m.q 0) O s w) (hk : m.lo ≤ m.kb) (hL : ∀ p, -1048576 ≤ m.L.getD p 0 ∧ m.L.getD p 0 ≤ 1048576) (hok : (codP m.z m.n m.col m.sg m.L (endN m.n m.L m.q)).Ok s) :
    Calls Tryz.prog 42 #[.pointer (some ⟨m.b, 0, none⟩), .slice (some ⟨m.lb, m.lf, none⟩) m.q m.lc] w fun en w' => Cod m O w ((codP m.z m.n m.col m.sg m.L (endN m.n m.L m.q)).run s) en w' := by
  have hmf : ∀ (fn : Fn) (first cap : Array Value) (w : World), (Instr.makeFunc fn first cap).run Tryz.prog w = .ok (.func fn first cap) w := fun _ _ _ _ => rfl
  have hq : m.q ≤ 1024 := by rw [h.hq]; exact h.sz.sd.sq
  have HN : Hid (m.q = m.n * m.n ∧ L10.Sd m.n ∧ m.col ≤ 1 ∧ m.sg ≤ 2) := ⟨h.hq, h.sz.sd, h.hc, h.hs⟩
  have HLv : Hid (∀ p, -1048576 ≤ m.L.getD p 0 ∧ m.L.getD p 0 ≤ 1048576) := hL
  have HPl : Hid (∀ i, i < m.q → plc m.n i < m.q) := fun i hi => by have := (plc_at h.sz.sd (i := i) (by rw [← h.hq]; exact hi)).1; rw [h.hq]; exact this
  unfold codP at hok ⊢
  obtain ⟨ok1, ok2⟩ := Prg.ok_bind _ _ _ hok
  obtain ⟨e, s1, he⟩ := end_some m.z m.col (endN m.n m.L m.q) s
  have heq : e ≤ m.q := by
    have := good_res _ 12 _ (end_good h.sz h.hc (endN m.n m.L m.q)) h.cd.so ok1 e (by rw [he])
    rw [h.hq]; exact this
  rw [Prg.run_some he]
  have hok3 := ok2 _ _ he
  obtain ⟨r, hr⟩ : ∃ r, ((ampL m.n m.col m.L e e (List.replicate (m.n * m.n) 0)).bind fun K => sgnL m.n m.col m.sg m.L e 0 K).run s1 = r := ⟨_, rfl⟩
  rw [hr]
  have HO3 : Hid (((ampL m.n m.col m.L e e (List.replicate (m.n * m.n) 0)).bind fun K => sgnL m.n m.col m.sg m.L e 0 K).Ok s1) := hok3
  have HR3 : Hid (((ampL m.n m.col m.L e e (List.replicate (m.n * m.n) 0)).bind fun K => sgnL m.n m.col m.sg m.L e 0 K).run s1 = r) := hr
  have HGw : Hid (Gd m (List.replicate m.q 0) O s w) := h
  have HKl : Hid (m.lo ≤ m.kb) := hk
  have HEo : Hid (∀ u, Gd m (List.replicate m.q 0) O s u → Calls Tryz.prog 70 #[.slice (some ⟨m.ob, 0, none⟩) m.q m.oc, .slice (some ⟨m.lb, m.lf, none⟩) m.q m.lc] u fun e w' => e = .returned (.int .i64 (endN m.n m.L m.q : Nat)) ∧ w' = u) := fun u hu => endOf_any hu
  have HEn : Hid (∀ u, Gd m (List.replicate m.q 0) O s u → Calls Tryz.prog 69 #[.pointer (some ⟨m.b, 0, none⟩), .int .i64 (endN m.n m.L m.q : Nat)] u fun en w' => Ans m (List.replicate m.q 0) O u vn (some e, s1) en w') := fun u hu => by rw [← he]; exact end_any hu (endN_le m.n m.L m.q) ok1
  have hbl : Below w.heap.size w ((w.alloc (.cells #[.slice none 0 0] 34)).alloc (.cells #[.int .i64 0] 24)) := L10.to_alloc (L10.from_alloc w _) _
  have HW1 : Hid (Cg m w.heap.size (w.heap.size + 1) w O O (List.replicate m.q 0) s ((w.alloc (.cells #[.slice none 0 0] 34)).alloc (.cells #[.int .i64 0] 24))) := by
    refine ⟨h.to hbl, Trn.of hbl, hbl.mono (lo_le h), hk, h.bb.kn.lt, ⟨h.bb.blt, h.bb.olt, h.bb.llt⟩, fun e => ?_, fun e => ?_, ⟨.slice none 0 0, ?_⟩, ⟨.int .i64 0, ?_⟩, ?_, ?_, ⟨Nat.le_refl _, ?_⟩, ⟨by omega, ?_⟩, by omega⟩
    · have := h.cd.lt e; omega
    · have := h.cd.lt e; omega
    · go_simp
    · go_simp
    · go_simp
    · go_simp
    · simp; omega
    · simp
  have c4 := HW1.out.gd.bb.c4
  clear h hk hL hok ok1 ok2 hok3 he hr hbl
  go_enter_defers Tryz.func42, Tryz.ntmps42
  go_wp2_with fail
  generalize hA : w.heap.size = A at *
  generalize hw1 : (w.alloc (.cells #[.slice none 0 0] 34)).alloc (.cells #[.int .i64 0] 24) = w1 at *
  clear hw1 c4
  refine (HEo.out _ HW1.out.gd).mono ?_
  rintro en w2 ⟨rfl, rfl⟩
  go_wp2_with fail
  refine (HEn.out _ HW1.out.gd).mono ?_
  rintro en w3 ⟨ht3, hm3⟩
  obtain rfl := ht3.1 _ rfl
  obtain ⟨O3, hc3⟩ := HW1.out.mv hm3
  simp only [vn]
  have HS : Hid (Lp1 m A (A + 1) w O e r (.int .i64 ((e : Int) - 1)) w3) := ⟨e, O3, _, s1, by omega, rfl, hc3, by rw [HN.out.1]; exact Kn.zero m.n, by rw [HN.out.1]; exact HO3.out, by rw [HN.out.1]; exact HR3.out⟩
  clear ht3 hm3 hc3 HO3 HR3 HEo HEn HW1 HGw
  have e0 : (0 : Int) ≤ (e : Int) := by omega
  have e1 : (e : Int) ≤ 1024 := by omega
  have HEq : Hid (e ≤ m.q) := heq
  clear heq
  go_wp2_with fail
  go_loopw [7] (fun iv wr => Lp1 m A (A + 1) w O e r iv wr) (fun iv _ => (intOf iv + 1).toNat)
  case atStart => exact HS.out
  case round =>
    clear HS
    obtain ⟨i, O4, K, s4, hi, rfl, hc, hkn, hok, hrun⟩ := hrel
    by_cases h0 : i = 0
    · subst h0
      rw [ampL] at hok hrun
      have HS2 : Hid (Lp2 m A (A + 1) w O e r (.int .i64 0) wr) := ⟨0, O4, K, s4, by omega, rfl, hc, hkn, hok, hrun⟩
      have f4 := hc.gd.bb.c4
      have hoc : m.q ≤ m.oc := hc.gd.bb.oq
      have hes : (e : Int) ≤ (m.oc : Int) := by have := HEq.out; omega
      have hm1 : ((0 : Nat) : Int) - 1 = -1 := by omega
      rw [hm1]
      clear hok hrun hc hkn hi hoc
      go_wp2_with fail
      go_loopw [63] (fun iv wr => Lp2 m A (A + 1) w O e r iv wr) (fun iv _ => e - (intOf iv).toNat)
      case atStart => exact HS2.out
      case round =>
        clear HS2 f4
        obtain ⟨j, O5, K5, s5, hj, rfl, hc, hkn, hok, hrun⟩ := hrel
        by_cases hje : j = e
        · as_aux_lemma =>
          subst hje
          rw [Nat.sub_self, sgnL] at hrun
          have HRz : Hid (r = (some K5, s5)) := hrun.symm
          have HC5 : Hid (Cg m A (A + 1) w O O5 K5 s5 wr) := hc
          obtain ⟨va, hva⟩ := hc.ca
          obtain ⟨ve, hve⟩ := hc.cb
          have ha := hc.fa
          have hb := hc.fb
          have f5 := hc.gd.bb.c5
          have HLd : Hid (Ld A (A + 1) (.slice (some ⟨m.kb, 0, none⟩) m.q m.q) 0 wr ((wr.setCell ⟨A, 0, none⟩ (.slice (some ⟨m.kb, 0, none⟩) m.q m.q)).setCell ⟨A + 1, 0, none⟩ (.int .i64 0))) := by
            have h1 := ld_of (by omega : A ≠ A + 1) hva hve (.slice (some ⟨m.kb, 0, none⟩) m.q m.q) 0
            exact ⟨h1.a, h1.b, ⟨h1.ke.os, h1.ke.tape, h1.ke.output, h1.ke.size, h1.ke.block⟩⟩
          clear hok hrun hc hkn hj
          go_wp2_with fail
          have HLe := HLd.out
          generalize (wr.setCell ⟨A, 0, none⟩ (.slice (some ⟨m.kb, 0, none⟩) m.q m.q)).setCell ⟨A + 1, 0, none⟩ (.int .i64 0) = w7 at *
          refine leaves_cons (f := 68) (args := #[.pointer (some ⟨A, 0, none⟩), .pointer (some ⟨A + 1, 0, none⟩)]) (by simp) (by simp [go_sem]) ?_
          refine (catch_idle A (A + 1) w7).mono ?_
          rintro en2 u2 w8 ⟨rfl, rfl, rfl⟩
          have ra := HLe.a
          have rb := HLe.b
          obtain ⟨l1, l2, l3⟩ := HC5.out.lay HLe
          have HCod : Hid (Cod m O w r (.returned (.tuple #[.slice (some ⟨m.kb, 0, none⟩) m.q m.q, .int .i64 0])) w8) := by
            refine ⟨fun K2 e2 => rfl, fun e2 => ?_, O5, K5, ?_⟩
            · rw [HRz.out] at e2; cases e2
            · rw [HRz.out]; exact ⟨l1, l2, l3, fun K2 e2 => by simpa using e2⟩
          exact ⟨.tuple #[.slice (some ⟨m.kb, 0, none⟩) m.q m.q, .int .i64 0], by simp [results, Tryz.results42, go_sem, ra, rb], HCod.out⟩
        · have hlt : j < e := by omega
          rw [show e - j = (e - (j + 1)) + 1 by omega, sgnL] at hok hrun
          have hjq : j < m.q := by have := HEq.out; omega
          have hpq := HPl.out j hjq
          have hod := hc.gd.bb.od j hjq
          have hlv := hc.gd.bb.lv _ hpq
          have f5 := hc.gd.bb.c5
          generalize plc m.n j = p at *
          have hkc := hc.gd.bb.kn.cell p (by rw [hc.gd.bb.kl]; exact hpq)
          have hkb := hkn.2 p
          generalize hv : m.L.getD p 0 = v at *
          generalize hkv : K5.getD p 0 = kv at *
          have j0 : (0 : Int) ≤ (j : Int) := by omega
          have j1 : (j : Int) < (e : Int) := by omega
          have p0 : (0 : Int) ≤ (p : Int) := by omega
          have p1 : (p : Int) < (m.q : Int) := by omega
          have HJ : Hid (j < e) := hlt
          have HC5 : Hid (Cg m A (A + 1) w O O5 K5 s5 wr) := hc
          have HKn : Hid (Kn m.n K5) := hkn
          by_cases hz : kv = 0
          · as_aux_lemma =>
            rw [if_pos hz] at hok hrun
            have hz2 : (kv != 0) = false := by rw [hz]; rfl
            have HO6 : Hid _ := hok
            have HR6 : Hid _ := hrun
            clear hok hrun hz hje hlt hc hkn hkv hv
            go_wp2_with fail
            have hlt := HJ.out
            go_roundw
            case rel => exact ⟨⟨j + 1, O5, K5, s5, by omega, by go_num, HC5.out, HKn.out, HO6.out, HR6.out⟩⟩
            case measure => simp [intOf]; omega
          · rw [if_neg hz] at hok hrun
            have hz2 : (kv != 0) = true := by rw [bne_iff_ne]; exact hz
            obtain ⟨okA, okB⟩ := Prg.ok_bind _ _ _ hok
            have HBl : Hid (Calls Tryz.prog 72 #[.pointer (some ⟨m.b, 0, none⟩), .int .i64 (p : Int), .int .i64 v] wr fun e w' => Ans m K5 O5 wr vb ((blwP m.col m.sg p v).run s5) e w') := below_any hc.gd okA
            obtain ⟨bb, s6, hb6⟩ : ∃ bb s6, (blwP m.col m.sg p v).run s5 = (some bb, s6) := by
              unfold blwP
              split
              · exact ⟨_, _, rfl⟩
              · exact ⟨_, _, rfl⟩
            rw [hb6] at HBl
            have HO6 : Hid ((sgnL m.n m.col m.sg m.L (e - (j + 1)) (j + 1) (if bb = true then K5.set p (-kv) else K5)).Ok s6) := okB _ _ hb6
            have HR6 : Hid ((sgnL m.n m.col m.sg m.L (e - (j + 1)) (j + 1) (if bb = true then K5.set p (-kv) else K5)).run s6 = r) := by show _ = r; rw [← hrun]; exact (Prg.run_some (f := fun b : Bool => sgnL m.n m.col m.sg m.L (e - (j + 1)) (j + 1) (if b = true then K5.set p (-kv) else K5)) hb6).symm
            have HKV : Hid (K5.getD p 0 = kv) := hkv
            clear hok hrun okA okB hz hje hlt hc hkn hkv hv hb6
            go_wp2_with fail
            refine HBl.out.mono ?_
            rintro en w6 ⟨ht6, hm6⟩
            obtain rfl := ht6.1 _ rfl
            obtain ⟨O6, hc6⟩ := HC5.out.mv hm6
            have HC6 : Hid (Cg m A (A + 1) w O O6 K5 s6 w6) := hc6
            simp only [vb]
            have g5 := hc6.gd.bb.c5
            have gk := hc6.gd.bb.kn.cell p (by rw [hc6.gd.bb.kl]; exact hpq)
            have gt := hc6.gd.bb.kn.thaw p
            rw [HKV.out] at gk
            clear ht6 hm6 hc6 HBl
            cases bb
            · as_aux_lemma =>
              have HO7 : Hid ((sgnL m.n m.col m.sg m.L (e - (j + 1)) (j + 1) K5).Ok s6) := HO6.out
              have HR7 : Hid ((sgnL m.n m.col m.sg m.L (e - (j + 1)) (j + 1) K5).run s6 = r) := HR6.out
              go_wp2_with fail
              have hlt := HJ.out
              go_roundw
              case rel => exact ⟨⟨j + 1, O6, K5, s6, by omega, by go_num, HC6.out, HKn.out, HO7.out, HR7.out⟩⟩
              case measure => simp [intOf]; omega
            · as_aux_lemma =>
              have HO7 : Hid ((sgnL m.n m.col m.sg m.L (e - (j + 1)) (j + 1) (K5.set p (-kv))).Ok s6) := HO6.out
              have HR7 : Hid ((sgnL m.n m.col m.sg m.L (e - (j + 1)) (j + 1) (K5.set p (-kv))).run s6 = r) := HR6.out
              have HC7 : Hid (Cg m A (A + 1) w O O6 (K5.set p (-kv)) s6 (w6.setCell ⟨m.kb, p, none⟩ (.int .i64 (-kv))).drew) := (HC6.out.put p (-kv)).drew
              have HK7 : Hid (Kn m.n (K5.set p (-kv))) := HKn.out.set _ (by omega) (by omega)
              have hwk := wrap_small (x := -kv) (by omega) (by omega)
              go_wp2_with fail
              go_region
              generalize (w6.setCell ⟨m.kb, p, none⟩ (.int .i64 (-kv))).drew = w7 at *
              go_wp2_with fail
              have hlt := HJ.out
              go_roundw
              case rel => exact ⟨⟨j + 1, O6, K5.set p (-kv), s6, by omega, by go_num, HC7.out, HK7.out, HO7.out, HR7.out⟩⟩
              case measure => simp [intOf]; omega
    · as_aux_lemma =>
      obtain ⟨k, rfl⟩ : ∃ k, i = k + 1 := ⟨i - 1, by omega⟩
      rw [ampL] at hok hrun
      have hkq : k < m.q := by have := HEq.out; omega
      have hpq := HPl.out k hkq
      have hod := hc.gd.bb.od k hkq
      have hlv := hc.gd.bb.lv _ hpq
      have hLb := HLv.out (plc m.n k)
      generalize plc m.n k = p at *
      generalize hv : m.L.getD p 0 = v at *
      obtain ⟨lastb, hlb⟩ : ∃ b, decide (k + 1 = e) = b := ⟨_, rfl⟩
      rw [hlb] at hok hrun
      have hkk : ((k + 1 : Nat) : Int) - 1 = (k : Int) := by omega
      rw [hkk]
      have f4 := hc.gd.bb.c4
      have k0 : (0 : Int) ≤ (k : Int) := by omega
      have k1 : (k : Int) < (m.q : Int) := by omega
      have p0 : (0 : Int) ≤ (p : Int) := by omega
      have p1 : (p : Int) < (m.q : Int) := by omega
      have hmx : max v (-v) = ((v.natAbs : Nat) : Int) := by omega
      have hwn := wrap_small (x := -v) (by omega) (by omega)
      have hwe := wrap_small (x := (e : Int) - 1) (by omega) (by omega)
      have hll : ((k : Int) == (e : Int) - 1) = lastb := by
        rw [← hlb]
        by_cases ee : k + 1 = e
        · rw [decide_eq_true ee, beq_iff_eq]; omega
        · rw [decide_eq_false ee, beq_eq_false_iff_ne]; omega
      have HC4 : Hid (Cg m A (A + 1) w O O4 K s4 wr) := hc
      have HKn : Hid (Kn m.n K) := hkn
      rw [Prg.bind_assoc] at hok hrun
      obtain ⟨okA, okB⟩ := Prg.ok_bind _ _ _ hok
      have HAm : Hid (∀ u, Gd m K O4 s4 u → Calls Tryz.prog 71 #[.pointer (some ⟨m.b, 0, none⟩), .int .i64 (p : Int), .int .i64 ((v.natAbs : Nat) : Int), .bool lastb] u fun e w' => Ans m K O4 u vi ((amtP m.col (L10.bas K m.n p).toNat (L10.mor K m.n p).toNat lastb ((v.natAbs : Nat) : Int)).run s4) e w') := fun u hu => amount_gd hu hpq (by omega) (by omega) okA
      have HRn : Hid (((amtP m.col (L10.bas K m.n p).toNat (L10.mor K m.n p).toNat lastb ((v.natAbs : Nat) : Int)).bind fun a => (ampL m.n m.col m.L e k (K.set p a)).bind fun K => sgnL m.n m.col m.sg m.L e 0 K).run s4 = r) := hrun
      have HOn : Hid (∀ a s', (amtP m.col (L10.bas K m.n p).toNat (L10.mor K m.n p).toNat lastb ((v.natAbs : Nat) : Int)).run s4 = (some a, s') → ((ampL m.n m.col m.L e k (K.set p a)).bind fun K => sgnL m.n m.col m.sg m.L e 0 K).Ok s') := okB
      have HAb : Hid (∀ a s', (amtP m.col (L10.bas K m.n p).toNat (L10.mor K m.n p).toNat lastb ((v.natAbs : Nat) : Int)).run s4 = (some a, s') → Am a) := fun a s' ea => good_res _ 46 _ (amtP_good HN.out.2.2.1 (by have := bas_le K m.n p; omega) (by have := mor_le K m.n p; omega) lastb _) HC4.out.gd.cd.so okA a (by rw [ea])
      generalize amtP m.col (L10.bas K m.n p).toNat (L10.mor K m.n p).toNat lastb ((v.natAbs : Nat) : Int) = pr at *
      have hCd := HC4.out.drew
      have HSc : Hid (∀ K' O' s' u, Gd m K' O' s' u → (u.cell? ⟨m.b, 5, none⟩ = some (.slice (some ⟨m.kb, 0, none⟩) m.q m.q) ∧ u.cell? ⟨m.lb, m.lf + p, none⟩ = some (.int .i64 v))) := fun K' O' s' u hu => ⟨hu.bb.c5, by rw [← hv]; exact hu.bb.lv p hpq⟩
      have HI : Hid (k + 1 ≤ e) := hi
      clear hok hrun okA okB hkn hc hi hlb h0
      go_wp2_with fail
      obtain ⟨f5, fl⟩ := HSc.out _ _ _ _ hCd.gd
      refine wp_region_held_drew (S := fun u => u.cell? ⟨m.b, 5, none⟩ = some (.slice (some ⟨m.kb, 0, none⟩) m.q m.q) ∧ u.cell? ⟨m.lb, m.lf + p, none⟩ = some (.int .i64 v)) (by kernel_rfl) ⟨f5, fl⟩ (fun hHeld => ?_)
      change wpAnyH _ _ _ _ _ 24 #[false, false, false, false, false, false, false, false, false, false, false, false, false, false, false, false, false, false, false, false, false, false, false, false] _ _
      refine wpAnyH_take (i := 0) (oi := { dst := some 33, op := Op.move (Operand.tmp 0), type := 112, pos := "block.go:55", after := #[], guard := none }) (v := ?_) rfl (by kernel_rfl) (by kernel_rfl) (by kernel_rfl) (fun _ _ _ h => hq28 (by decide) (by decide) h) (Or.inl ⟨by rfl, ?hy⟩) (by assumption) ?_
      case hy =>
        intro wz hSw
        (try dsimp only at hSw)
        first | (go_simp; done) | (go_simp; with_reducible rfl)
      simp only [Act.put, List.setIfInBounds_toArray, List.set_cons_zero, List.set_cons_succ]
      refine wpAnyH_take (i := 1) (oi := { dst := some 34, op := Op.nilCheck (Operand.tmp 33), type := 0, pos := "block.go:55", after := #[{ on := 0, ground := Ground.data }], guard := none }) (v := ?_) rfl (by kernel_rfl) (by kernel_rfl) (by kernel_rfl) (fun _ _ _ h => hq28 (by decide) (by decide) h) (Or.inl ⟨by rfl, ?hy⟩) (by assumption) ?_
      case hy =>
        intro wz hSw
        (try dsimp only at hSw)
        first | (go_simp; done) | (go_simp; with_reducible rfl)
      simp only [Act.put, List.setIfInBounds_toArray, List.set_cons_zero, List.set_cons_succ]
      refine wpAnyH_take (i := 2) (oi := { dst := some 35, op := Op.fieldAddr 86 (Operand.tmp 34) 5, type := 0, pos := "block.go:55", after := #[{ on := 1, ground := Ground.data }], guard := none }) (v := ?_) rfl (by kernel_rfl) (by kernel_rfl) (by kernel_rfl) (fun _ _ _ h => hq28 (by decide) (by decide) h) (Or.inl ⟨by rfl, ?hy⟩) (by assumption) ?_
      case hy =>
        intro wz hSw
        (try dsimp only at hSw)
        first | (go_simp; done) | (go_simp; with_reducible rfl)
      simp only [Act.put, List.setIfInBounds_toArray, List.set_cons_zero, List.set_cons_succ]
      refine wpAnyH_take (i := 3) (oi := { dst := some 36, op := Op.load 34 (Operand.tmp 35), type := 34, pos := "block.go:55", after := #[{ on := 2, ground := Ground.data }], guard := none }) (v := ?_) rfl (by kernel_rfl) (by kernel_rfl) (by kernel_rfl) (fun _ _ _ h => hq28 (by decide) (by decide) h) (Or.inl ⟨by rfl, ?hy⟩) (by assumption) ?_
      case hy =>
        intro wz hSw
        (try dsimp only at hSw)
        first | (go_simp; done) | (go_simp; with_reducible rfl)
      simp only [Act.put, List.setIfInBounds_toArray, List.set_cons_zero, List.set_cons_succ]
      refine wpAnyH_take (i := 4) (oi := { dst := some 37, op := Op.move (Operand.tmp 8), type := 3, pos := "block.go:55", after := #[], guard := none }) (v := ?_) rfl (by kernel_rfl) (by kernel_rfl) (by kernel_rfl) (fun _ _ _ h => hq28 (by decide) (by decide) h) (Or.inl ⟨by rfl, ?hy⟩) (by assumption) ?_
      case hy =>
        intro wz hSw
        (try dsimp only at hSw)
        first | (go_simp; done) | (go_simp; with_reducible rfl)
      simp only [Act.put, List.setIfInBounds_toArray, List.set_cons_zero, List.set_cons_succ]
      refine wpAnyH_take (i := 5) (oi := { dst := some 38, op := Op.move (Operand.tmp 0), type := 112, pos := "block.go:55", after := #[], guard := none }) (v := ?_) rfl (by kernel_rfl) (by kernel_rfl) (by kernel_rfl) (fun _ _ _ h => hq28 (by decide) (by decide) h) (Or.inl ⟨by rfl, ?hy⟩) (by assumption) ?_
      case hy =>
        intro wz hSw
        (try dsimp only at hSw)
        first | (go_simp; done) | (go_simp; with_reducible rfl)
      simp only [Act.put, List.setIfInBounds_toArray, List.set_cons_zero, List.set_cons_succ]
      refine wpAnyH_take (i := 6) (oi := { dst := some 39, op := Op.move (Operand.tmp 8), type := 3, pos := "block.go:55", after := #[], guard := none }) (v := ?_) rfl (by kernel_rfl) (by kernel_rfl) (by kernel_rfl) (fun _ _ _ h => hq28 (by decide) (by decide) h) (Or.inl ⟨by rfl, ?hy⟩) (by assumption) ?_
      case hy =>
        intro wz hSw
        (try dsimp only at hSw)
        first | (go_simp; done) | (go_simp; with_reducible rfl)
      simp only [Act.put, List.setIfInBounds_toArray, List.set_cons_zero, List.set_cons_succ]
      refine wpAnyH_take (i := 7) (oi := { dst := some 40, op := Op.move (Operand.tmp 1), type := 34, pos := "block.go:55", after := #[], guard := none }) (v := ?_) rfl (by kernel_rfl) (by kernel_rfl) (by kernel_rfl) (fun _ _ _ h => hq28 (by decide) (by decide) h) (Or.inl ⟨by rfl, ?hy⟩) (by assumption) ?_
      case hy =>
        intro wz hSw
        (try dsimp only at hSw)
        first | (go_simp; done) | (go_simp; with_reducible rfl)
      simp only [Act.put, List.setIfInBounds_toArray, List.set_cons_zero, List.set_cons_succ]
      refine wpAnyH_take (i := 8) (oi := { dst := some 41, op := Op.move (Operand.tmp 8), type := 3, pos := "block.go:55", after := #[], guard := none }) (v := ?_) rfl (by kernel_rfl) (by kernel_rfl) (by kernel_rfl) (fun _ _ _ h => hq28 (by decide) (by decide) h) (Or.inl ⟨by rfl, ?hy⟩) (by assumption) ?_
      case hy =>
        intro wz hSw
        (try dsimp only at hSw)
        first | (go_simp; done) | (go_simp; with_reducible rfl)
      simp only [Act.put, List.setIfInBounds_toArray, List.set_cons_zero, List.set_cons_succ]
      refine wpAnyH_take (i := 9) (oi := { dst := some 42, op := Op.indexAddr 34 (Operand.tmp 40) (Operand.tmp 41), type := 0, pos := "block.go:55", after := #[{ on := 7, ground := Ground.data }, { on := 8, ground := Ground.data }], guard := none }) (v := ?_) rfl (by kernel_rfl) (by kernel_rfl) (by kernel_rfl) (fun _ _ _ h => hq28 (by decide) (by decide) h) (Or.inl ⟨by rfl, ?hy⟩) (by assumption) ?_
      case hy =>
        intro wz hSw
        (try dsimp only at hSw)
        first | (go_simp; done) | (go_simp; with_reducible rfl)
      simp only [Act.put, List.setIfInBounds_toArray, List.set_cons_zero, List.set_cons_succ]
      refine wpAnyH_take (i := 10) (oi := { dst := some 43, op := Op.load 3 (Operand.tmp 42), type := 3, pos := "block.go:55", after := #[{ on := 9, ground := Ground.data }], guard := none }) (v := ?_) rfl (by kernel_rfl) (by kernel_rfl) (by kernel_rfl) (fun _ _ _ h => hq28 (by decide) (by decide) h) (Or.inl ⟨by rfl, ?hy⟩) (by assumption) ?_
      case hy =>
        intro wz hSw
        (try dsimp only at hSw)
        first | (go_simp; done) | (go_simp; with_reducible rfl)
      simp only [Act.put, List.setIfInBounds_toArray, List.set_cons_zero, List.set_cons_succ]
      refine wpAnyH_take (i := 11) (oi := { dst := some 44, op := Op.move (Operand.tmp 1), type := 34, pos := "block.go:55", after := #[], guard := none }) (v := ?_) rfl (by kernel_rfl) (by kernel_rfl) (by kernel_rfl) (fun _ _ _ h => hq28 (by decide) (by decide) h) (Or.inl ⟨by rfl, ?hy⟩) (by assumption) ?_
      case hy =>
        intro wz hSw
        (try dsimp only at hSw)
        first | (go_simp; done) | (go_simp; with_reducible rfl)
      simp only [Act.put, List.setIfInBounds_toArray, List.set_cons_zero, List.set_cons_succ]
      refine wpAnyH_take (i := 12) (oi := { dst := some 45, op := Op.move (Operand.tmp 8), type := 3, pos := "block.go:55", after := #[], guard := none }) (v := ?_) rfl (by kernel_rfl) (by kernel_rfl) (by kernel_rfl) (fun _ _ _ h => hq28 (by decide) (by decide) h) (Or.inl ⟨by rfl, ?hy⟩) (by assumption) ?_
      case hy =>
        intro wz hSw
        (try dsimp only at hSw)
        first | (go_simp; done) | (go_simp; with_reducible rfl)
      simp only [Act.put, List.setIfInBounds_toArray, List.set_cons_zero, List.set_cons_succ]
      refine wpAnyH_take (i := 13) (oi := { dst := some 46, op := Op.indexAddr 34 (Operand.tmp 44) (Operand.tmp 45), type := 0, pos := "block.go:55", after := #[{ on := 11, ground := Ground.data }, { on := 12, ground := Ground.data }], guard := none }) (v := ?_) rfl (by kernel_rfl) (by kernel_rfl) (by kernel_rfl) (fun _ _ _ h => hq28 (by decide) (by decide) h) (Or.inl ⟨by rfl, ?hy⟩) (by assumption) ?_
      case hy =>
        intro wz hSw
        (try dsimp only at hSw)
        first | (go_simp; done) | (go_simp; with_reducible rfl)
      simp only [Act.put, List.setIfInBounds_toArray, List.set_cons_zero, List.set_cons_succ]
      refine wpAnyH_take (i := 14) (oi := { dst := some 47, op := Op.load 3 (Operand.tmp 46), type := 3, pos := "block.go:55", after := #[{ on := 13, ground := Ground.data }], guard := none }) (v := ?_) rfl (by kernel_rfl) (by kernel_rfl) (by kernel_rfl) (fun _ _ _ h => hq28 (by decide) (by decide) h) (Or.inl ⟨by rfl, ?hy⟩) (by assumption) ?_
      case hy =>
        intro wz hSw
        (try dsimp only at hSw)
        first | (go_simp; done) | (go_simp; with_reducible rfl)
      simp only [Act.put, List.setIfInBounds_toArray, List.set_cons_zero, List.set_cons_succ]
      refine wpAnyH_take (i := 15) (oi := { dst := some 48, op := Op.unOp UnOp.neg 3 (Operand.tmp 47), type := 3, pos := "block.go:55", after := #[{ on := 14, ground := Ground.data }], guard := none }) (v := ?_) rfl (by kernel_rfl) (by kernel_rfl) (by kernel_rfl) (fun _ _ _ h => hq28 (by decide) (by decide) h) (Or.inl ⟨by rfl, ?hy⟩) (by assumption) ?_
      case hy =>
        intro wz hSw
        (try dsimp only at hSw)
        first | (go_simp; done) | (go_simp; with_reducible rfl)
      simp only [Act.put, List.setIfInBounds_toArray, List.set_cons_zero, List.set_cons_succ]
      refine wpAnyH_take (i := 16) (oi := { dst := some 49, op := Op.call { callee := Callee.builtin Builtin.max, args := #[Operand.tmp 43, Operand.tmp 48], argTypes := #[3, 3] }, type := 3, pos := "block.go:55", after := #[{ on := 10, ground := Ground.data }, { on := 15, ground := Ground.data }], guard := none }) (v := ?_) rfl (by kernel_rfl) (by kernel_rfl) (by kernel_rfl) (fun _ _ _ h => hq28 (by decide) (by decide) h) (Or.inl ⟨by rfl, ?hy⟩) (by assumption) ?_
      case hy =>
        intro wz hSw
        (try dsimp only at hSw)
        first | (go_simp; done) | (go_simp; with_reducible rfl)
      simp only [Act.put, List.setIfInBounds_toArray, List.set_cons_zero, List.set_cons_succ]
      refine wpAnyH_take (i := 17) (oi := { dst := some 50, op := Op.move (Operand.tmp 7), type := 3, pos := "block.go:55", after := #[], guard := none }) (v := ?_) rfl (by kernel_rfl) (by kernel_rfl) (by kernel_rfl) (fun _ _ _ h => hq28 (by decide) (by decide) h) (Or.inl ⟨by rfl, ?hy⟩) (by assumption) ?_
      case hy =>
        intro wz hSw
        (try dsimp only at hSw)
        first | (go_simp; done) | (go_simp; with_reducible rfl)
      simp only [Act.put, List.setIfInBounds_toArray, List.set_cons_zero, List.set_cons_succ]
      refine wpAnyH_take (i := 18) (oi := { dst := some 51, op := Op.move (Operand.tmp 6), type := 3, pos := "block.go:55", after := #[], guard := none }) (v := ?_) rfl (by kernel_rfl) (by kernel_rfl) (by kernel_rfl) (fun _ _ _ h => hq28 (by decide) (by decide) h) (Or.inl ⟨by rfl, ?hy⟩) (by assumption) ?_
      case hy =>
        intro wz hSw
        (try dsimp only at hSw)
        first | (go_simp; done) | (go_simp; with_reducible rfl)
      simp only [Act.put, List.setIfInBounds_toArray, List.set_cons_zero, List.set_cons_succ]
      refine wpAnyH_take (i := 19) (oi := { dst := some 52, op := Op.binOp BinOp.sub 3 (Operand.tmp 51) (Operand.const (Value.int IntKind.i64 1)) 3, type := 3, pos := "block.go:55", after := #[{ on := 18, ground := Ground.data }], guard := none }) (v := ?_) rfl (by kernel_rfl) (by kernel_rfl) (by kernel_rfl) (fun _ _ _ h => hq28 (by decide) (by decide) h) (Or.inl ⟨by rfl, ?hy⟩) (by assumption) ?_
      case hy =>
        intro wz hSw
        (try dsimp only at hSw)
        first | (go_simp; done) | (go_simp; with_reducible rfl)
      simp only [Act.put, List.setIfInBounds_toArray, List.set_cons_zero, List.set_cons_succ]
      refine wpAnyH_take (i := 20) (oi := { dst := some 53, op := Op.binOp BinOp.eql 3 (Operand.tmp 50) (Operand.tmp 52) 3, type := 4, pos := "block.go:55", after := #[{ on := 17, ground := Ground.data }, { on := 19, ground := Ground.data }], guard := none }) (v := ?_) rfl (by kernel_rfl) (by kernel_rfl) (by kernel_rfl) (fun _ _ _ h => hq28 (by decide) (by decide) h) (Or.inl ⟨by rfl, ?hy⟩) (by assumption) ?_
      case hy =>
        intro wz hSw
        (try dsimp only at hSw)
        first | (go_simp; done) | (go_simp; with_reducible rfl)
      simp only [Act.put, List.setIfInBounds_toArray, List.set_cons_zero, List.set_cons_succ]
      refine wpAnyH_ready (rs := [21]) (by kernel_rfl) (by simp) ?_
      refine AllReadyH.cons rfl (fun KK hK => ?_) AllReadyH.nil
      go_simp
      refine (HAm.out _ hCd.gd).mono ?_
      rintro en wA ⟨htA, hmA⟩
      rcases hra : pr.run s4 with ⟨av | av, s5⟩
      · rw [hra] at htA hmA
        obtain rfl := htA.2 rfl
        obtain ⟨O5, hc5⟩ := hCd.mv hmA
        have HRz : Hid (r = (none, s5)) := by show r = _; rw [← HRn.out]; exact Prg.run_none hra
        obtain ⟨va, hva⟩ := hc5.ca
        obtain ⟨ve, hve⟩ := hc5.cb
        unfold stp4
        dsimp only
        refine leaves_cons (f := 68) (args := #[.pointer (some ⟨A, 0, none⟩), .pointer (some ⟨A + 1, 0, none⟩)]) (by simp) (by simp [go_sem]) ?_
        refine (catch_stop A (A + 1) (by omega) wA va ve hva hve hc5.fa hc5.fb).mono ?_
        rintro en2 u2 w5 ⟨rfl, rfl, hld⟩
        have ra := hld.a
        have rb := hld.b
        obtain ⟨l1, l2, l3⟩ := hc5.lay hld
        have HCod : Hid (Cod m O w r (.returned (.tuple #[.slice none 0 0, .int .i64 4])) w5) := by refine ⟨fun K2 e2 => ?_, fun _ => rfl, O5, K, ?_⟩; (rw [HRz.out] at e2; cases e2); (rw [HRz.out]; exact ⟨l1, l2, l3, fun K2 e2 => by cases e2⟩)
        exact ⟨.tuple #[.slice none 0 0, .int .i64 4], by simp [results, Tryz.results42, go_sem, ra, rb], HCod.out⟩
      rw [hra] at htA hmA
      obtain rfl := htA.1 _ rfl
      obtain ⟨O5, hc5⟩ := hCd.mv hmA
      have hs5 := HSc.out _ _ _ _ hc5.gd
      have y1 := hc5.gd.bb.kn.cell p (by rw [hc5.gd.bb.kl]; exact hpq)
      have y2 := hc5.gd.bb.kn.thaw p
      have hs6 := HSc.out _ _ _ _ (hc5.put p av).gd
      simp only [vi]
      go_wp2_with fail
      refine hK.out _ _ hs5 (fun hHeld2 => ?_)
      clear hK KK
      (try simp only [List.setIfInBounds_toArray, List.set_cons_zero, List.set_cons_succ])
      refine wpAnyH_take (i := 22) (oi := { dst := some 55, op := Op.indexAddr 34 (Operand.tmp 36) (Operand.tmp 37), type := 0, pos := "block.go:55", after := #[{ on := 3, ground := Ground.data }, { on := 4, ground := Ground.data }, { on := 0, ground := Ground.phase }, { on := 1, ground := Ground.phase }, { on := 2, ground := Ground.phase }, { on := 3, ground := Ground.phase }, { on := 4, ground := Ground.phase }, { on := 5, ground := Ground.phase }, { on := 6, ground := Ground.phase }, { on := 7, ground := Ground.phase }, { on := 8, ground := Ground.phase }, { on := 9, ground := Ground.phase }, { on := 10, ground := Ground.phase }, { on := 11, ground := Ground.phase }, { on := 12, ground := Ground.phase }, { on := 13, ground := Ground.phase }, { on := 14, ground := Ground.phase }, { on := 15, ground := Ground.phase }, { on := 16, ground := Ground.phase }, { on := 17, ground := Ground.phase }, { on := 18, ground := Ground.phase }, { on := 19, ground := Ground.phase }, { on := 20, ground := Ground.phase }, { on := 21, ground := Ground.phase }], guard := none }) (v := ?_) rfl (by kernel_rfl) (by kernel_rfl) (by kernel_rfl) (fun _ _ _ h => hq28 (by decide) (by decide) h) (Or.inl ⟨by rfl, ?hy⟩) (by assumption) ?_
      case hy =>
        intro wz hSw
        (try dsimp only at hSw)
        first | (go_simp; done) | (go_simp; with_reducible rfl)
      simp only [Act.put, List.setIfInBounds_toArray, List.set_cons_zero, List.set_cons_succ]
      refine wpAnyH_ready (rs := [23]) (by kernel_rfl) (by simp) ?_
      refine AllReadyH.cons rfl (fun KK hK => ?_) AllReadyH.nil
      go_simp
      refine hK.out _ _ hs6 (fun hHeld3 => ?_)
      clear hK KK
      (try simp only [List.setIfInBounds_toArray, List.set_cons_zero, List.set_cons_succ])
      refine wpAnyH_done (by kernel_rfl) ?_ _
      have HC6 : Hid (Cg m A (A + 1) w O O5 (K.set p av) s5 (wA.setCell ⟨m.kb, p, none⟩ (.int .i64 av))) := hc5.put p av
      have HR6 : Hid (((ampL m.n m.col m.L e k (K.set p av)).bind fun K => sgnL m.n m.col m.sg m.L e 0 K).run s5 = r) := by show _ = r; rw [← HRn.out]; exact (Prg.run_some (f := fun a => (ampL m.n m.col m.L e k (K.set p a)).bind fun K => sgnL m.n m.col m.sg m.L e 0 K) hra).symm
      have HO6 : Hid (((ampL m.n m.col m.L e k (K.set p av)).bind fun K => sgnL m.n m.col m.sg m.L e 0 K).Ok s5) := HOn.out _ _ hra
      have HK6 : Hid (Kn m.n (K.set p av)) := by have := HAb.out _ _ hra; exact HKn.out.set _ (by have := this.1; omega) this.2
      generalize wA.setCell ⟨m.kb, p, none⟩ (.int .i64 av) = w6 at *
      clear hHeld hHeld2 hHeld3 hs5 hs6 y1 y2 hc5 hra htA hmA f5 fl hCd hod hlv f4
      go_wp2_with fail
      have hi := HI.out
      go_roundw
      case rel => exact ⟨⟨k, O5, K.set p av, s5, by omega, by go_num, HC6.out, HK6.out, HO6.out, HR6.out⟩⟩
      case measure => simp [intOf]

end Go.Proofs.YtkmnpechhdendaaGreatDoor

namespace Go.Proofs.YtkmnpechhdendaaGreatDoor

theorem code_law : CodeLaw := fun h hk hL hok => code_any h hk hL hok

end Go.Proofs.YtkmnpechhdendaaGreatDoor
