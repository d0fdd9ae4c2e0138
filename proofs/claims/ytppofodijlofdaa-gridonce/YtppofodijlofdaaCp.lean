/- DERIVED. Vecs. -/
import Derived.Test.YtppofodijlofdaaCo
import Derived.Laws.StructEq
namespace Go.Proofs.Ytppofodijlofdaa
open Go.RowKit

theorem eqv (a b c d : Int) (w : World) : (Op.equalIn 10000 37 (.agg #[.int .i64 a, .int .i64 b]) (.agg #[.int .i64 c, .int .i64 d])).run Try.prog w = .ok (decide ((a, b) = (c, d))) w := by
  have u3 := Try.underlying3
  have a3 := Try.isAgg3
  have z3 := Try.sizeOf3
  have hS : Try.prog.underlying 37 = some (.struct (Try.prog.fieldsOf 37)) := by kernel_rfl
  rw [show (10000 : Nat) = 9999 + 1 from rfl, run_equalIn_agg w 9999 37 _ _ hS (by kernel_rfl)]
  simp only [Program.fieldsOf, Try.underlying37]
  go_simp
  by_cases h1 : a = c <;> by_cases h2 : b = d <;> simp [h1, h2]
theorem idxP (x0 y0 x1 y1 x2 y2 x3 y3 : Int) (k : Nat) (hk : k < 4) (w : World) : (Instr.index 81 (.agg #[.int .i64 x0, .int .i64 y0, .int .i64 x1, .int .i64 y1, .int .i64 x2, .int .i64 y2, .int .i64 x3, .int .i64 y3]) (.int .i64 (k : Int))).run Try.prog w = .ok (.agg #[.int .i64 ([(x0, y0), (x1, y1), (x2, y2), (x3, y3)].getD k (0, 0)).1, .int .i64 ([(x0, y0), (x1, y1), (x2, y2), (x3, y3)].getD k (0, 0)).2]) w := by
  match k, hk with
  | 0, _ | 1, _ | 2, _ | 3, _ => rfl
/-- the candidates of the first k places -/
def vst (L : List Bl) (P : List (Int × Int)) (r : Int) (k : Nat) : List (Int × Int) := vcs L (P.take k) r
theorem vst_step (L : List Bl) (P : List (Int × Int)) (r : Int) (k : Nat) (hk : k < P.length) : vst L P r (k + 1) = vadd (vst L P r k) (vo (atB L (P.getD k (0, 0)).1 (P.getD k (0, 0)).2) r) := by
  unfold vst vcs
  rw [take_snoc hk, List.foldl_append]
  rfl
theorem vcs_le (L : List Bl) (P : List (Int × Int)) (r : Int) : (vcs L P r).length ≤ 2 := by
  unfold vcs
  suffices h : ∀ (l : List (Int × Int)) (s : List (Int × Int)), s.length ≤ 2 → (l.foldl (fun s p => vadd s (vo (atB L p.1 p.2) r)) s).length ≤ 2 from h P [] (by simp)
  intro l
  induction l with
  | nil => exact fun s h => h
  | cons p l ih => exact fun s h => ih _ (vadd_le h)
def vcA (s : List (Int × Int)) : Array Value := (is (vc s)).toArray
/-- how Vecs stands in its round -/
structure Vi (w : World) (z : Nat) (s : List (Int × Int)) (wr : World) : Prop where
  vecs : Ri 38 wr (z + 2) (vc s)
  res : Ri 38 wr (z + 1) [0, 0, 0, 0]
  bel : Below z w wr
theorem Vi.to {w : World} {z : Nat} {s : List (Int × Int)} {wr wx : World} (h : Vi w z s wr) (hb : Below wr.heap.size wr wx) (hz : z ≤ wr.heap.size) : Vi w z s wx := ⟨h.vecs.to hb, h.res.to hb, h.bel.trans (hb.mono hz)⟩
theorem vi_0 {w : World} {z : Nat} {a : Int × Int} {wr : World} (h : Vi w z [] wr) : Vi w z [a] ((wr.setCell ⟨z + 2, 0, none⟩ (.int .i64 a.1)).setCell ⟨z + 2, 1, none⟩ (.int .i64 a.2)) :=
  ⟨(h.vecs.set 0 a.1).set 1 a.2, (h.res.far (by show z + 1 ≠ z + 2; omega) _).far (by show z + 1 ≠ z + 2; omega) _, below_set (below_set h.bel (by show z ≤ z + 2; omega) _) (by show z ≤ z + 2; omega) _⟩
theorem vi_1 {w : World} {z : Nat} {u a : Int × Int} {wr : World} (h : Vi w z [u] wr) : Vi w z [u, a] ((wr.setCell ⟨z + 2, 2, none⟩ (.int .i64 a.1)).setCell ⟨z + 2, 3, none⟩ (.int .i64 a.2)) :=
  ⟨(h.vecs.set 2 a.1).set 3 a.2, (h.res.far (by show z + 1 ≠ z + 2; omega) _).far (by show z + 1 ≠ z + 2; omega) _, below_set (below_set h.bel (by show z ≤ z + 2; omega) _) (by show z ≤ z + 2; omega) _⟩
/-- two vectors are answered, and how many there are -/
def Vq (w w' : World) (e : Ending) (s : List (Int × Int)) (er : Int) : Prop := e = .returned (.tuple #[.agg (vcA s), .int .i64 (s.length : Int), .int .i64 er]) ∧ Below w.heap.size w w'
set_option maxRecDepth 100000 in
set_option maxHeartbeats 4000000 in
theorem vecs_ok {w : World} {p m : Nat} {T : Rc} {v : Value} {L : List Bl} {X Y W H r : Int} (hg : Gd w p m T v L) (ha : ask T X Y 8 = true) (hw : im W 8 8 64 = true) (hr0 : 0 ≤ r) (hr2 : r ≤ 2) (hL : L.length ≤ 1000000) :
    Calls Try.prog 18 #[.pointer (some ⟨p, 0, none⟩), .agg #[.int .i64 X, .int .i64 Y, .int .i64 W, .int .i64 H], .int .i64 r] w fun e w' => Vq w w' e (vcs L (pls X Y W) r) 0 := by
  obtain ⟨x0, x1, y0, y1, -, -⟩ := ask_in hg.tok ha
  obtain ⟨w0, w1, -⟩ := im_of hw
  have HN : Hid (∀ u, Below w.heap.size w u → Calls Try.prog 24 #[.pointer (some ⟨p, 0, none⟩)] u fun e w' => e = .returned (.bool false) ∧ u = w') := fun u hb => isNone_map (hg.to hb).c5
  have HA : Hid (∀ u, Below w.heap.size w u → Calls Try.prog 36 #[.pointer (some ⟨p, 0, none⟩), .int .i64 X, .int .i64 Y, .int .i64 8] u fun e w' => e = .returned (.bool true) ∧ Below u.heap.size u w') := fun u hb => by rw [← ha]; exact mayAsk_any (hg.to hb).cl hg.tok (by omega)
  have HI : Hid (∀ u, Calls Try.prog 37 #[.int .i64 W, .int .i64 8, .int .i64 8, .int .i64 64] u fun e w' => e = .returned (.bool true) ∧ u = w') := fun u => by rw [← hw]; exact isMultiple_any (by omega)
  have HAt : Hid (∀ u X Y, Below w.heap.size w u → I64 X → I64 Y → Calls Try.prog 17 #[.pointer (some ⟨p, 0, none⟩), .int .i64 X, .int .i64 Y] u fun e w' => Aq u w' e (atB L X Y) (atK L X Y)) := fun u X Y hb hx hy => at_any (hg.to hb) hx hy hL
  have HVo : Hid (∀ u b, Calls Try.prog 38 #[.agg b.cs.toArray, .int .i64 r] u fun e w' => e = .returned (.tuple #[.agg #[.int .i64 (vx (vo b r)), .int .i64 (vy (vo b r))], .bool (vo b r).isSome]) ∧ Below u.heap.size u w') := fun u b => vecOf_any
  have HPl : Hid (∀ k, k < 4 → I64 ((pls X Y W).getD k (0, 0)).1 ∧ I64 ((pls X Y W).getD k (0, 0)).2) := fun k hk => by
    unfold I64 pls
    match k, hk with
    | 0, _ | 1, _ | 2, _ | 3, _ => simp; omega
  have HPL : Hid ((pls X Y W) = [(X - 1, Y), (X, Y - 1), (X + W, Y - 1), (X - 1, Y - 1)]) := rfl
  have HPn : Hid ((pls X Y W).length = 4) := rfl
  have HVS : Hid (vst L (pls X Y W) r 4 = vcs L (pls X Y W) r) := rfl
  have HV0 : Hid (vst L (pls X Y W) r 0 = []) := rfl
  have HVn : Hid (∀ k, k < 4 → vst L (pls X Y W) r (k + 1) = vadd (vst L (pls X Y W) r k) (vo (atB L ((pls X Y W).getD k (0, 0)).1 ((pls X Y W).getD k (0, 0)).2) r)) := fun k hk => vst_step _ _ _ k hk
  have HVl : Hid (∀ k, (vst L (pls X Y W) r k).length ≤ 2) := fun k => vcs_le _ _ _
  rw [← HVS.out]
  generalize pls X Y W = P at *
  generalize vst L P r = S at *
  clear hg ha hw hL HVS
  have HW0 : Hid (Below w.heap.size w (((w.alloc (.cells #[.int .i64 X, .int .i64 Y, .int .i64 W, .int .i64 H] 23)).alloc (.cells #[.int .i64 0, .int .i64 0, .int .i64 0, .int .i64 0] 38)).alloc (.cells #[.int .i64 0, .int .i64 0, .int .i64 0, .int .i64 0] 38))) := to_alloc (to_alloc (from_alloc _ _) _) _
  have hs1 : (w.alloc (.cells #[.int .i64 X, .int .i64 Y, .int .i64 W, .int .i64 H] 23)).heap.size = w.heap.size + 1 := by simp
  have hs2 : ((w.alloc (.cells #[.int .i64 X, .int .i64 Y, .int .i64 W, .int .i64 H] 23)).alloc (.cells #[.int .i64 0, .int .i64 0, .int .i64 0, .int .i64 0] 38)).heap.size = w.heap.size + 2 := by simp
  have HV1 : Hid (Vi w w.heap.size [] (((w.alloc (.cells #[.int .i64 X, .int .i64 Y, .int .i64 W, .int .i64 H] 23)).alloc (.cells #[.int .i64 0, .int .i64 0, .int .i64 0, .int .i64 0] 38)).alloc (.cells #[.int .i64 0, .int .i64 0, .int .i64 0, .int .i64 0] 38))) :=
    ⟨Ri.built 38 _ [0, 0, 0, 0] hs2, (Ri.built 38 _ [0, 0, 0, 0] hs1).to (from_alloc _ _), HW0.out⟩
  have HRc : Hid (Cl4 (((w.alloc (.cells #[.int .i64 X, .int .i64 Y, .int .i64 W, .int .i64 H] 23)).alloc (.cells #[.int .i64 0, .int .i64 0, .int .i64 0, .int .i64 0] 38)).alloc (.cells #[.int .i64 0, .int .i64 0, .int .i64 0, .int .i64 0] 38)) w.heap.size (X, Y, W, H)) := by
    have h1 : Ri 23 (w.alloc (.cells #[.int .i64 X, .int .i64 Y, .int .i64 W, .int .i64 H] 23)) w.heap.size [X, Y, W, H] := Ri.built 23 w [X, Y, W, H] rfl
    have h2 := (h1.to (from_alloc _ (.cells #[.int .i64 0, .int .i64 0, .int .i64 0, .int .i64 0] 38))).to (from_alloc _ (.cells #[.int .i64 0, .int .i64 0, .int .i64 0, .int .i64 0] 38))
    exact ⟨h2.cell 0 (by simp), h2.cell 1 (by simp), h2.cell 2 (by simp), h2.cell 3 (by simp)⟩
  have HS3 : Hid (w.heap.size + 2 < (((w.alloc (.cells #[.int .i64 X, .int .i64 Y, .int .i64 W, .int .i64 H] 23)).alloc (.cells #[.int .i64 0, .int .i64 0, .int .i64 0, .int .i64 0] 38)).alloc (.cells #[.int .i64 0, .int .i64 0, .int .i64 0, .int .i64 0] 38)).heap.size) := by show _ < _; simp
  clear hs1 hs2
  go_enter Try.func18, Try.ntmps18
  go_upto_region 2 with fail
  generalize (((w.alloc (.cells #[.int .i64 X, .int .i64 Y, .int .i64 W, .int .i64 H] 23)).alloc (.cells #[.int .i64 0, .int .i64 0, .int .i64 0, .int .i64 0] 38)).alloc (.cells #[.int .i64 0, .int .i64 0, .int .i64 0, .int .i64 0] 38)) = V at *
  generalize hP : w.heap.size = z at *
  have HP : Hid (w.heap.size = z) := hP
  clear hP
  obtain ⟨c0, c1, c2, c3⟩ := HRc.out
  go_wp2_with ((with_reducible refine (HN.out _ HW0.out).mono ?_); rintro e w5 ⟨rfl, rfl⟩)
  refine (HA.out _ HW0.out).mono ?_
  rintro e V1 ⟨rfl, hb⟩
  have HV2 : Hid (Vi w z [] V1) := HV1.out.to hb (by have := HS3.out; omega)
  have HR2 : Hid (Cl4 V1 z (X, Y, W, H)) := HRc.out.carry (hb.block z (by have := HS3.out; omega))
  have HS4 : Hid (z + 2 < V1.heap.size) := Nat.lt_of_lt_of_le HS3.out hb.size
  clear hb c0 c1 c2 c3 HV1 HRc HW0 HA HN HS3
  obtain ⟨c0, c1, c2, c3⟩ := HR2.out
  simp only at c0 c1 c2 c3
  go_wp2_with ((with_reducible refine (HI.out _).mono ?_); rintro e w5 ⟨rfl, rfl⟩)
  clear c0 c1 c2 c3 HR2 HI
  go_loopw [10, 71] (fun nv kv wr => ∃ k : Nat, k ≤ 4 ∧ kv = .int .i64 (k : Int) ∧ nv = .int .i64 ((S k).length : Int) ∧ Vi w z (S k) wr ∧ z + 2 < wr.heap.size) (fun _ kv _ => 4 - (intOf kv).toNat)
  case atStart => exact ⟨0, by omega, by simp, by rw [HV0.out]; rfl, by rw [HV0.out]; exact HV2.out, HS4.out⟩
  case round =>
    clear HV2 HS4
    obtain ⟨k, hk, rfl, rfl, hvi, hsz⟩ := hrel
    have HV : Hid _ := hvi
    have HZ : Hid (z + 2 < wr.heap.size) := hsz
    clear hvi hsz
    by_cases hlt : k < 4
    · have hix := fun u => idxP (X - 1) Y X (Y - 1) (X + W) (Y - 1) (X - 1) (Y - 1) k hlt u
      rw [← HPL.out] at hix
      have HXY := HPl.out k hlt
      have HNx : Hid (S (k + 1) = vadd (S k) (vo (atB L (P.getD k (0, 0)).1 (P.getD k (0, 0)).2) r)) := HVn.out k hlt
      have HLe : Hid ((S k).length ≤ 2) := HVl.out k
      generalize P.getD k (0, 0) = q at *
      obtain ⟨x, y⟩ := q
      simp only at HXY hix HNx
      have HX : Hid (I64 x ∧ I64 y) := HXY
      clear HXY
      have k0 : (0 : Int) ≤ (k : Int) := by omega
      have k4 : (k : Int) < 4 := by omega
      have HK : Hid (k < 4) := hlt
      obtain ⟨s', hs'⟩ : ∃ s', S (k + 1) = s' := ⟨_, rfl⟩
      have HS' : Hid (S (k + 1) = s') := hs'
      rw [hs'] at HNx
      generalize hsk : S k = s at *
      have HSK : Hid (S k = s) := hsk
      clear hs' hsk hlt hk
      have HBW : Hid (Below wr.heap.size wr (wr.alloc (.cells #[.int .i64 x, .int .i64 y] 35))) := from_alloc _ _
      have e0 : (wr.alloc (.cells #[.int .i64 x, .int .i64 y] 35)).cell? ⟨wr.heap.size, 0, none⟩ = some (.int .i64 x) := by simp [go_sem]
      have e1 : (wr.alloc (.cells #[.int .i64 x, .int .i64 y] 35)).cell? ⟨wr.heap.size, 1, none⟩ = some (.int .i64 y) := by simp [go_sem]
      have HVa : Hid (Vi w z s (wr.alloc (.cells #[.int .i64 x, .int .i64 y] 35))) := HV.out.to HBW.out (by have := HZ.out; omega)
      have HZa : Hid (z + 2 < (wr.alloc (.cells #[.int .i64 x, .int .i64 y] 35)).heap.size) := Nat.lt_of_lt_of_le HZ.out HBW.out.size
      generalize hln : (s.length : Int) = ln at *
      have HLN : Hid ((s.length : Int) = ln) := hln
      clear hln
      go_upto_region 10 with fail
      generalize (wr.alloc (.cells #[.int .i64 x, .int .i64 y] 35)) = Wa at *
      clear HBW hix
      go_wp2_with fail
      refine (HAt.out _ _ _ HVa.out.bel HX.out.1 HX.out.2).mono ?_
      rintro e Wb ⟨rfl, hb⟩
      have HVb : Hid (Vi w z s Wb) := HVa.out.to hb (by have := HZa.out; omega)
      have HZb : Hid (z + 2 < Wb.heap.size) := Nat.lt_of_lt_of_le HZa.out hb.size
      clear hb e0 e1 HVa HZa
      generalize atB L x y = b at *
      generalize atK L x y = bk at *
      have HOb : Hid (Ob (Wb.alloc (.cells bz.cs.toArray 40)) Wb.heap.size bz) := Ob.new Wb bz rfl
      have HVc : Hid (Vi w z s (Wb.alloc (.cells bz.cs.toArray 40))) := HVb.out.to (from_alloc _ _) (by have := HZb.out; omega)
      go_wp2_with (first | (refine wpList_store_block (by rfl) _ _ (by rfl) Wb.heap.size bz b HOb.out (by rfl) (by rfl) ?_; intro Wc hob hsw; have HOc : Hid (Ob Wc Wb.heap.size b) := hob; have HWc : Hid (Sw Wb.heap.size _ Wc) := hsw; clear hob hsw) | (refine wpList_load_block (by rfl) _ (by rfl) Wb.heap.size 0 (by rfl) b HOc.out.bc ?_))
      refine (HVo.out _ b).mono ?_
      rintro e Wd ⟨rfl, hb⟩
      have HVd : Hid (Vi w z s Wd) := by
        have hz := HZb.out
        have h1 : Vi w z s Wc := ⟨HVc.out.vecs.carry (HWc.out.block _ (by omega)), HVc.out.res.carry (HWc.out.block _ (by omega)), HWc.out.below HVc.out.bel (by omega)⟩
        exact h1.to hb (Nat.le_trans (by omega) (HOc.out.lt))
      have HZd : Hid (z + 2 < Wd.heap.size) := Nat.lt_trans HZb.out (Nat.lt_of_lt_of_le HOc.out.lt hb.size)
      clear hb HVc HOb HOc HWc HVb HZb
      have HX2 := HNx
      clear HNx
      have HVe : Hid (Vi w z s (Wd.alloc (.cells #[.int .i64 (vx (vo b r)), .int .i64 (vy (vo b r))] 37))) := HVd.out.to (from_alloc _ _) (by have := HZd.out; omega)
      have HZe : Hid (z + 2 < (Wd.alloc (.cells #[.int .i64 (vx (vo b r)), .int .i64 (vy (vo b r))] 37)).heap.size) := Nat.lt_of_lt_of_le HZd.out (from_alloc _ _).size
      have e0 : (Wd.alloc (.cells #[.int .i64 (vx (vo b r)), .int .i64 (vy (vo b r))] 37)).cell? ⟨Wd.heap.size, 0, none⟩ = some (.int .i64 (vx (vo b r))) := by simp [go_sem]
      have e1 : (Wd.alloc (.cells #[.int .i64 (vx (vo b r)), .int .i64 (vy (vo b r))] 37)).cell? ⟨Wd.heap.size, 1, none⟩ = some (.int .i64 (vy (vo b r))) := by simp [go_sem]
      have HOV : Hid (∀ a c, vo b r = some (a, c) → vx (vo b r) = a ∧ vy (vo b r) = c) := fun a c h => by rw [h]; exact ⟨rfl, rfl⟩
      generalize hvx : vx (vo b r) = a at *
      generalize hvy : vy (vo b r) = c at *
      clear hvx hvy
      go_upto_region 12 with fail
      generalize (Wd.alloc (.cells #[.int .i64 a, .int .i64 c] 37)) = We at *
      cases ho : vo b r with
      | none =>
        rw [ho] at HX2
        simp only [Option.isSome_none]
        have HR : Hid (s' = s) := HX2.out
        clear ho HOV HX2
        go_wp2_with fail
        go_roundw
        case rel => exact ⟨k + 1, by have := HK.out; omega, by go_num, by rw [HS'.out, HR.out, HLN.out], by rw [HS'.out, HR.out]; exact HVe.out, HZe.out⟩
        case measure => have := HK.out; simp [intOf]; omega
      | some o =>
        obtain ⟨a', c'⟩ := o
        obtain ⟨rfl, rfl⟩ := HOV.out _ _ ho
        rw [ho] at HX2
        simp only [Option.isSome_some]
        clear ho HOV
        match s, HVe, HX2, HSK, HLe, HLN with
        | [], HVe, HX2, HSK, HLe, HLN =>
          obtain rfl : ln = 0 := by rw [← HLN.out]; rfl
          have HR : Hid (s' = [(a, c)]) := HX2.out
          have f0 := HVe.out.vecs.thaw 0
          have f1 := HVe.out.vecs.thaw 1
          have d0 := HVe.out.vecs.cell 0 (by rw [vc_len]; omega)
          have d1 := HVe.out.vecs.cell 1 (by rw [vc_len]; omega)
          have HF : Hid (Vi w z [(a, c)] ((We.setCell ⟨z + 2, 0, none⟩ (.int .i64 a)).setCell ⟨z + 2, 1, none⟩ (.int .i64 c))) := vi_0 HVe.out
          clear HX2 HLe HLN
          go_wp2_with fail
          go_roundw
          case rel => exact ⟨k + 1, by have := HK.out; omega, by go_num, by rw [HS'.out, HR.out]; rfl, by rw [HS'.out, HR.out]; exact HF.out, by simpa using HZe.out⟩
          case measure => have := HK.out; simp [intOf]; omega
        | [u], HVe, HX2, HSK, HLe, HLN =>
          obtain rfl : ln = 1 := by rw [← HLN.out]; rfl
          obtain ⟨u0, u1⟩ := u
          have d0 : We.cell? ⟨z + 2, 0, none⟩ = some (.int .i64 u0) := HVe.out.vecs.cell 0 (by rw [vc_len]; omega)
          have d1 : We.cell? ⟨z + 2, 1, none⟩ = some (.int .i64 u1) := HVe.out.vecs.cell 1 (by rw [vc_len]; omega)
          have hE := fun t => eqv a c u0 u1 t
          by_cases he : (a, c) = (u0, u1)
          · rw [decide_eq_true he] at hE
            have HR : Hid (s' = [(u0, u1)]) := by show _ = _; rw [HX2.out]; show (if (a, c) = (u0, u1) then _ else _) = _; rw [if_pos he]
            clear HX2 HLe he
            go_wp2_with fail
            go_roundw
            case rel => exact ⟨k + 1, by have := HK.out; omega, by go_num, by rw [HS'.out, HR.out]; rfl, by rw [HS'.out, HR.out]; exact HVe.out, HZe.out⟩
            case measure => have := HK.out; simp [intOf]; omega
          · rw [decide_eq_false he] at hE
            have HR : Hid (s' = [(u0, u1), (a, c)]) := by show _ = _; rw [HX2.out]; show (if (a, c) = (u0, u1) then _ else _) = _; rw [if_neg he]
            have f2 := HVe.out.vecs.thaw 2
            have f3 := HVe.out.vecs.thaw 3
            have d2 := HVe.out.vecs.cell 2 (by rw [vc_len]; omega)
            have d3 := HVe.out.vecs.cell 3 (by rw [vc_len]; omega)
            have HF : Hid (Vi w z [(u0, u1), (a, c)] ((We.setCell ⟨z + 2, 2, none⟩ (.int .i64 a)).setCell ⟨z + 2, 3, none⟩ (.int .i64 c))) := vi_1 HVe.out
            clear HX2 HLe he
            go_wp2_with fail
            go_roundw
            case rel => exact ⟨k + 1, by have := HK.out; omega, by go_num, by rw [HS'.out, HR.out]; rfl, by rw [HS'.out, HR.out]; exact HF.out, by simpa using HZe.out⟩
            case measure => have := HK.out; simp [intOf]; omega
        | [u, u'], HVe, HX2, HSK, HLe, HLN =>
          obtain rfl : ln = 2 := by rw [← HLN.out]; rfl
          have HR : Hid (s' = [u, u']) := HX2.out
          clear HX2 HLe HLN
          go_wp2_with fail
          go_roundw
          case rel => exact ⟨k + 1, by have := HK.out; omega, by go_num, by rw [HS'.out, HR.out]; rfl, by rw [HS'.out, HR.out]; exact HVe.out, HZe.out⟩
          case measure => have := HK.out; simp [intOf]; omega
        | _ :: _ :: _ :: _, _, _, _, HLe, _ => have := HLe.out; simp at this
    · obtain rfl : k = 4 := by omega
      clear hlt hk
      have hl : (vc (S 4)).length = 4 := vc_len _
      have HLf : Hid ((vc (S 4)).length = 4) := hl
      have d0 := HV.out.vecs.cell 0 (by omega)
      have d1 := HV.out.vecs.cell 1 (by omega)
      have d2 := HV.out.vecs.cell 2 (by omega)
      have d3 := HV.out.vecs.cell 3 (by omega)
      have f0 := HV.out.res.thaw 0
      have f1 := HV.out.res.thaw 1
      have f2 := HV.out.res.thaw 2
      have f3 := HV.out.res.thaw 3
      have g0 := HV.out.res.cell 0 (by simp)
      have g1 := HV.out.res.cell 1 (by simp)
      have g2 := HV.out.res.cell 2 (by simp)
      have g3 := HV.out.res.cell 3 (by simp)
      have HA4 : Hid (vcA (S 4) = #[.int .i64 ((vc (S 4)).getD 0 0), .int .i64 ((vc (S 4)).getD 1 0), .int .i64 ((vc (S 4)).getD 2 0), .int .i64 ((vc (S 4)).getD 3 0)]) := by
        show _ = _
        unfold vcA
        match h : vc (S 4), hl with
        | [a, b, c, d], _ => rfl
      have HBl : Hid (Below z w wr) := HV.out.bel
      clear hl
      generalize (vc (S 4)).getD 0 0 = v0 at *
      generalize (vc (S 4)).getD 1 0 = v1 at *
      generalize (vc (S 4)).getD 2 0 = v2 at *
      generalize (vc (S 4)).getD 3 0 = v3 at *
      go_wp2_with fail
      refine bodyPost_ret (v := .tuple #[.agg #[.int .i64 v0, .int .i64 v1, .int .i64 v2, .int .i64 v3], .int .i64 ((S 4).length : Int), .int .i64 0]) (by simp [results, Try.results18, go_sem, g0, g1, g2, g3]) rfl ?_
      refine ⟨by rw [HA4.out], ?_⟩
      rw [HP.out]
      exact below_set (below_set (below_set (below_set HBl.out (by show z ≤ z + 1; omega) _) (by show z ≤ z + 1; omega) _) (by show z ≤ z + 1; omega) _) (by show z ≤ z + 1; omega) _
end Go.Proofs.Ytppofodijlofdaa
