/- DERIVED. At. -/
import Derived.Test.YtppofodijlofdaaCk
namespace Go.Proofs.Ytppofodijlofdaa
open Go.RowKit

/-- a block is answered, and whether there is one -/
def Aq (w w' : World) (e : Ending) (b : Bl) (k : Bool) : Prop := e = .returned (.tuple #[.agg b.cs.toArray, .bool k]) ∧ Below w.heap.size w w'
theorem i64_div {x : Int} (h : I64 x) : I64 (x / 8) := by unfold I64 at *; omega
set_option maxRecDepth 100000 in
set_option maxHeartbeats 2000000 in
theorem at_any {w : World} {p m : Nat} {T : Rc} {v : Value} {L : List Bl} {X Y : Int} (hg : Gd w p m T v L) (hX : I64 X) (hY : I64 Y) (hL : L.length ≤ 1000000) :
    Calls Try.prog 17 #[.pointer (some ⟨p, 0, none⟩), .int .i64 X, .int .i64 Y] w fun e w' => Aq w w' e (atB L X Y) (atK L X Y) := by
  have hao := at_ow hg.fit X Y
  have HK : Hid (∀ u, Calls Try.prog 35 #[.int .i64 X, .int .i64 Y] u fun e w' => e = .returned (.agg #[.int .i64 (X / 8), .int .i64 (Y / 8)]) ∧ Below u.heap.size u w') := fun u => cellAt_any rfl rfl
  have HB0 : Hid (Below w.heap.size w (w.alloc (.cells #[.int .i64 0, .int .i64 0, .int .i64 0, .int .i64 0, .bool false, .bool false, .int .i64 0, .int .i64 0, .int .i64 0, .int .i64 0, .int .i64 0, .int .i64 0, .int .i64 0, .bool false, .int .i64 0, .int .i64 0, .int .i64 0, .int .i64 0, .int .i64 0, .int .i64 0, .int .i64 0, .int .i64 0, .bool false] 40))) := from_alloc _ _
  have HO0 : Hid (Ob (w.alloc (.cells #[.int .i64 0, .int .i64 0, .int .i64 0, .int .i64 0, .bool false, .bool false, .int .i64 0, .int .i64 0, .int .i64 0, .int .i64 0, .int .i64 0, .int .i64 0, .int .i64 0, .bool false, .int .i64 0, .int .i64 0, .int .i64 0, .int .i64 0, .int .i64 0, .int .i64 0, .int .i64 0, .int .i64 0, .bool false] 40)) w.heap.size bz) := Ob.new w bz rfl
  have HZ0 : Hid (w.heap.size < (w.alloc (.cells #[.int .i64 0, .int .i64 0, .int .i64 0, .int .i64 0, .bool false, .bool false, .int .i64 0, .int .i64 0, .int .i64 0, .int .i64 0, .int .i64 0, .int .i64 0, .int .i64 0, .bool false, .int .i64 0, .int .i64 0, .int .i64 0, .int .i64 0, .int .i64 0, .int .i64 0, .int .i64 0, .int .i64 0, .bool false] 40)).heap.size) := by show _ < _; simp
  have HG : Hid (∀ u, Below w.heap.size w u → Gd u p m T v L) := fun u hb => hg.to hb
  have HNo : Hid (∀ u, Below w.heap.size w u → Calls Try.prog 24 #[.pointer (some ⟨p, 0, none⟩)] u fun e w' => e = .returned (.bool false) ∧ u = w') := fun u hb => isNone_map (hg.to hb).c5
  have HLk : Hid (∀ u, Below w.heap.size w u → (Instr.lookup 61 (.map (some m)) (.agg #[.int .i64 (X / 8), .int .i64 (Y / 8)]) true).run Try.prog u = .ok (.tuple #[.int .i64 (((ow L (X / 8) (Y / 8)).getD 0 : Nat) : Int), .bool (ow L (X / 8) (Y / 8)).isSome]) u) := fun u hb => (hg.to hb).map.look (i64_div hX) (i64_div hY)
  have HPZ : Hid (p < w.heap.size) := hg.lt
  have HOw : Hid (∀ i, ow L (X / 8) (Y / 8) = some i → i < L.length) := fun i h => ow_lt h
  unfold atB atK
  rw [hao]
  clear hao hg hX hY
  generalize ow L (X / 8) (Y / 8) = r at *
  generalize hcx : X / 8 = cx at *
  generalize hcy : Y / 8 = cy at *
  clear hcx hcy
  generalize hP : w.heap.size = z at *
  have HP : Hid (w.heap.size = z) := hP
  clear hP
  go_enter Try.func17, Try.ntmps17
  go_upto_region 1 with fail
  generalize hV : (w.alloc (.cells #[.int .i64 0, .int .i64 0, .int .i64 0, .int .i64 0, .bool false, .bool false, .int .i64 0, .int .i64 0, .int .i64 0, .int .i64 0, .int .i64 0, .int .i64 0, .int .i64 0, .bool false, .int .i64 0, .int .i64 0, .int .i64 0, .int .i64 0, .int .i64 0, .int .i64 0, .int .i64 0, .int .i64 0, .bool false] 40)) = V at *
  clear hV
  rw [HP.out]
  go_wp2_with ((with_reducible refine (HNo.out _ HB0.out).mono ?_); rintro e w5 ⟨rfl, rfl⟩)
  have c5 := (HG.out _ HB0.out).c5
  have c50 : V.drew.cell? ⟨p, 5, none⟩ = some (.map (some m)) := c5
  go_region_held3 (fun t => t.cell? ⟨p, 5, none⟩ = some (.map (some m))) (assumption) ((first | (go_at_call 35; refine (HK.out _).mono ?_; rintro e w1 ⟨rfl, hb⟩; have hbz : Below z w w1 := (below_drew HB0.out).trans (hb.mono (Nat.le_of_lt HZ0.out)); have hl := HLk.out _ hbz; have d5 : w1.cell? ⟨p, 5, none⟩ = some (.map (some m)) := (HG.out _ hbz).c5; have HO1 : Hid (Ob w1 z bz) := HO0.out.carry (hb.block z HZ0.out); have HB1 : Hid (Below z w w1) := hbz; have HZ1 : Hid (z < w1.heap.size) := Nat.lt_of_lt_of_le HZ0.out hb.size; clear hb hbz)))
  have HL : Hid (∀ i, r = some i → i < L.length) := HOw.out
  cases r with
  | none =>
    simp only [Option.getD_none, Option.isSome_none] at *
    go_wp2_with (refine wpList_store_block (by rfl) _ _ (by rfl) z bz bz HO1.out (by rfl) (by rfl) ?_; intro w2 hob hsw; have HO2 : Hid _ := hob; have HW2 : Hid _ := hsw; clear hob hsw)
    have hres := load_res (by simpa using HO2.out.bc.rng)
    refine bodyPost_ret (v := .tuple #[.agg bz.cs.toArray, .bool false]) (by rw [results_cell_tmp Try.results17]; show ((asAddr (.pointer (some ⟨z, 0, none⟩))).run Try.prog w2).andThen _ = _; rw [show (asAddr (.pointer (some ⟨z, 0, none⟩))).run Try.prog w2 = .ok ⟨z, 0, none⟩ w2 from rfl]; simp only [Result.andThen_ok, hres]; rfl) rfl ?_
    exact ⟨rfl, by rw [HP.out]; exact HW2.out.below HB1.out (Nat.le_refl _)⟩
  | some i =>
    simp only [Option.getD_some, Option.isSome_some] at *
    have hi : i < L.length := HL.out i rfl
    have hgd := HG.out _ HB1.out
    obtain ⟨va, vc, hvv, hvc, hsb, -⟩ := hgd.row.form
    obtain ⟨g, o, rfl, hgl, hgc⟩ := hsb.form (by omega)
    have HBi : Hid (Bc w1 g (o + i * 23) (L.getD i bz)) := hgc i hi
    have c4 : w1.cell? ⟨p, 4, none⟩ = some (.slice (some ⟨g, o, none⟩) L.length vc) := by rw [← hvv]; exact hgd.c4
    have i0 : (0 : Int) ≤ (i : Int) := by omega
    have i1 : (i : Int) < (L.length : Int) := by omega
    obtain ⟨bi, hbi⟩ : ∃ bi, L.getD i bz = bi := ⟨_, rfl⟩
    have HBI : Hid (L.getD i bz = bi) := hbi
    rw [hbi] at HBi
    clear hbi
    clear hgd hvv hvc hsb hgl hgc hi
    go_wp2_with (first | (refine wpList_load_mid (by rfl) 40 _ (by rfl) g (o + i * 23) (by rfl) bi.cs _ HBi.out.rng Try.underlying40 rfl (by rw [Try.info40, Bl.cs_length]) ?_) | (refine wpList_store_block (by rfl) _ _ (by rfl) z bz bi HO1.out (by rfl) (by rfl) ?_; intro w2 hob hsw; have HO2 : Hid _ := hob; have HW2 : Hid _ := hsw; clear hob hsw))
    have hres := load_res (by simpa using HO2.out.bc.rng)
    refine bodyPost_ret (v := .tuple #[.agg bi.cs.toArray, .bool true]) (by rw [results_cell_tmp Try.results17]; show ((asAddr (.pointer (some ⟨z, 0, none⟩))).run Try.prog w2).andThen _ = _; rw [show (asAddr (.pointer (some ⟨z, 0, none⟩))).run Try.prog w2 = .ok ⟨z, 0, none⟩ w2 from rfl]; simp only [Result.andThen_ok, hres]; rfl) rfl ?_
    exact ⟨by rw [← HBI.out]; rfl, by rw [HP.out]; exact HW2.out.below HB1.out (Nat.le_refl _)⟩
end Go.Proofs.Ytppofodijlofdaa
