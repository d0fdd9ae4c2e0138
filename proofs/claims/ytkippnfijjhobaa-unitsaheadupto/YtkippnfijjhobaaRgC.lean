/- DERIVED. The document's reader: what a call of the statements' tells, CopyBytes, its bits, New, Rest. -/
import Derived.Test.YtkippnfijjhobaaRfA
namespace Go.Proofs.Ytkippnfijjhobaa
open Go.RowKit

set_option maxHeartbeats 400000 in
theorem copy_some (ad : Addr) (c : Nat) (zs : List Nat) (w : World) (hc : ∀ j, j < zs.length → w.cell? (ad.add j) = some (.int .u8 (zs.getD j 0 : Nat))) (hl : zs.length ≤ 140737488355328) (h0 : 0 < zs.length) :
    Calls Try.prog 9 #[.slice (some ad) zs.length c] w fun e w' => ∃ v, e = .returned v ∧ w'.ownsRow w.heap.size 5 1 v zs.length (bs zs) ∧ Below w.heap.size w w' := by
  obtain ⟨i, hi, hz0, hz1, hz2⟩ := info_parts Try.info5
  have hown : w.ownsRow w.heap.size 5 1 (.slice none 0 0) 0 [] := World.ownsRow_nil _ _ _ _
  have hnews : ∀ j u, (bs zs)[j]? = some u → w.cell? (ad.add j) = some u := by
    intro j u hu
    have hj : j < zs.length := by have := List.getElem?_eq_some_iff.1 hu; obtain ⟨h1, _⟩ := this; rw [bs_length] at h1; exact h1
    rw [bs_get zs j hj] at hu
    rw [← hu]
    exact hc j hj
  go_enter Try.func9, Try.ntmps9
  go_wp2_with (at_builtin; refine wpList_append_lies _ (by rfl) _ _ _ (by rfl) w.heap.size 5 i (.int .u8 0) 1 1 Try.underlying22 hi hz0 hz1 hz2 rfl (by omega) _ 0 [] (by rfl) hown ad zs.length c (bs zs) (by rfl) (by rw [bs_length, Nat.mul_one]) hnews (bs_one zs) h0 (by unfold maxLen; omega) (by omega) (by simp) w.heap.size (by simp) ?_; intro g cap w1 hown1 hgrow hat hlt)
  go_ret
  rw [List.nil_append, Nat.zero_add] at hown1
  refine ⟨_, rfl, hown1, ?_⟩
  exact (Below.refl _ _).grown hgrow (by simp) (fun k hk => by simp [Value.ownBlock] at hk)

set_option maxHeartbeats 400000 in
theorem copy_none (a : Option Addr) (c : Nat) (w : World) : Calls Try.prog 9 #[.slice a 0 c] w fun e w' => e = .returned (.slice none 0 0) ∧ w' = w := by
  cases a with
  | none =>
    go_enter Try.func9, Try.ntmps9
    go_wp2
    go_ret
    exact ⟨rfl, rfl⟩
  | some ad =>
    go_enter Try.func9, Try.ntmps9
    go_wp2
    go_ret
    exact ⟨rfl, rfl⟩

theorem copy_any {w : World} {v : Value} {zs : List Nat} (h : SrcOf w v zs) (hl : zs.length ≤ 140737488355328) :
    Calls Try.prog 9 #[v] w fun e w' => ∃ a c, e = .returned (.slice a zs.length c) ∧ w'.ownsRow w.heap.size 5 1 (.slice a zs.length c) zs.length (bs zs) ∧ Below w.heap.size w w' := by
  rcases h with ⟨rfl, rfl⟩ | ⟨ad, c, rfl, hc⟩
  · refine (copy_none _ _ w).mono ?_
    rintro e w' ⟨rfl, rfl⟩
    exact ⟨_, _, rfl, World.ownsRow_nil _ _ _ _, Below.refl _ _⟩
  · by_cases h0 : zs.length = 0
    · obtain rfl : zs = [] := List.eq_nil_of_length_eq_zero h0
      refine (copy_none _ _ w).mono ?_
      rintro e w' ⟨rfl, rfl⟩
      exact ⟨_, _, rfl, World.ownsRow_nil _ _ _ _, Below.refl _ _⟩
    · refine (copy_some ad c zs w hc hl (by omega)).mono ?_
      rintro e w' ⟨v, rfl, h1, h2⟩
      obtain ⟨a, c, rfl⟩ := own_slice h1
      exact ⟨a, c, rfl, h1, h2⟩


/-- the first n bits of bytes -/
def bl (zs : List Nat) (n : Nat) : List Nat := (List.range n).map (bitAt zs)
theorem bl_length (zs : List Nat) (n : Nat) : (bl zs n).length = n := by simp [bl]
theorem bl_get (zs : List Nat) (n j : Nat) (h : j < n) : (bl zs n).getD j 0 = bitAt zs j := by simp [bl, List.getD_eq_getElem?_getD, h]
theorem bl_succ (zs : List Nat) (n : Nat) : bl zs (n + 1) = bl zs n ++ [bitAt zs n] := by simp [bl, List.range_succ]

/-- 'append(out, x)' on a row of ints -/
theorem wpList_append_int (wr : World) {ops : Array Oper} {rest : List Oper} {o : Oper} {a : Act} {Q : Exit → Act → World → Prop} (hgd : o.guard = none) (s x : Operand)
    (ho : o.op = .call { callee := .builtin .append, args := #[s, x], argTypes := #[66, 66] })
    (B n : Nat) (l : List Nat) (v : Value) (X : Int) (y : Nat) (hX : X = (y : Int)) (hown : wr.ownsRow B 3 1 v n (iz l)) (hB : B ≤ wr.heap.size) (hL : n < 1099511627900)
    (hs : a.eval s = v) (hx : a.eval x = .slice (some ⟨wr.heap.size, 0, none⟩) 1 1)
    (h : ∀ g cap w', w'.ownsRow B 3 1 (.slice (some ⟨g, 0, none⟩) (n + 1) cap) (n + 1) (iz (l ++ [y])) → Below B wr w' → wpList Try.prog ops Q rest (a.put o.dst (.slice (some ⟨g, 0, none⟩) (n + 1) cap)) w') :
    wpList Try.prog ops Q (o :: rest) a (wr.alloc (.cells #[.int .i64 X] 3)) := by
  subst hX
  obtain ⟨i, hi, hz0, hz1, hz2⟩ := info_parts Try.inf3
  have hnews : ∀ j u, (iz [y])[j]? = some u → (wr.alloc (.cells #[.int .i64 (y : Int)] 3)).cell? ((⟨wr.heap.size, 0, none⟩ : Addr).add j) = some u := World.news_of_block (cs := #[.int .i64 (y : Int)]) (heap_alloc_new wr _)
  refine wpList_append_lies _ hgd s x 66 ho B 3 i (.int .i64 0) 1 8 Try.underlying66 hi hz0 hz1 hz2 rfl (by omega) v n (iz l) hs (hown.alloc _) ⟨wr.heap.size, 0, none⟩ 1 1 (iz [y]) hx (by rfl) hnews (iz_one _) (by omega) (by unfold maxLen; omega) (by omega) (by simp; omega) (wr.heap.size + 1) (by simp) ?_
  intro g cap w' hown' hgrow hat _
  refine h g cap w' (by rw [iz_append]; exact hown') ?_
  exact ((Below.refl _ _).alloc hB _).grown hgrow (by simp; omega) (fun k hk => (hown.lt k hk).1)

def SpInv (w : World) (zs : List Nat) (ov iv : Value) (wr : World) : Prop := ∃ (i g c : Nat), i ≤ zs.length ∧ iv = .int .i64 i ∧ ov = .slice (some ⟨g, 0, none⟩) (8 * i) c ∧ wr.ownsRow w.heap.size 3 1 ov (8 * i) (iz (bl zs (8 * i))) ∧ Below w.heap.size w wr
def SqInv (w : World) (zs : List Nat) (i : Nat) (ov kv : Value) (wr : World) : Prop := ∃ (m g c : Nat), m ≤ 8 ∧ kv = .int .i64 ((m : Int) - 1) ∧ ov = .slice (some ⟨g, 0, none⟩) (8 * i + (8 - m)) c ∧ wr.ownsRow w.heap.size 3 1 ov (8 * i + (8 - m)) (iz (bl zs (8 * i + (8 - m)))) ∧ Below w.heap.size w wr
theorem bit_val (zs : List Nat) (i q : Nat) (hq : q < 8) : ((zs.getD i 0 / 2 ^ q % 2 : Nat)) = bitAt zs (8 * i + (8 - (q + 1))) := by
  unfold bitAt
  rw [show (8 * i + (8 - (q + 1))) / 8 = i from by omega, show 7 - (8 * i + (8 - (q + 1))) % 8 = q from by omega]
set_option maxRecDepth 100000 in
theorem bit_int (x q : Nat) (hx : x < 256) : (wrap64 ((x : Int) / 2 ^ q)).tmod 2 = ((x / 2 ^ q % 2 : Nat) : Int) := by
  have := bitVal x q (by omega)
  rw [IntKind.wrap_i64] at this
  simp only [wrap64]
  exact this

set_option maxHeartbeats 2000000 in
set_option maxRecDepth 100000 in
theorem spread_any {w : World} {a : Option Addr} {c : Nat} {zs : List Nat} (h : SrcOf w (.slice a zs.length c) zs) (hz : ∀ i, zs.getD i 0 < 256) (hl : zs.length ≤ 1048576) :
    Calls Try.prog 46 #[.slice a zs.length c] w fun e w' => ∃ g c', e = .returned (.slice (some ⟨g, 0, none⟩) (8 * zs.length) c') ∧ w'.ownsRow w.heap.size 3 1 (.slice (some ⟨g, 0, none⟩) (8 * zs.length) c') (8 * zs.length) (iz (bl zs (8 * zs.length))) ∧ Below w.heap.size w w' := by
  obtain ⟨i, hi, hz0, hz1, hz2⟩ := info_parts Try.inf3
  have HSRC : Hid (SrcOf w (.slice a zs.length c) zs) := h
  have HZ : Hid (∀ i, zs.getD i 0 < 256) := hz
  clear h hz
  go_enter Try.func46, Try.ntmps46
  go_wp2_with (at_make; refine wpList_make_own _ (by rfl) _ _ _ (by rfl) (w.heap.size) 3 i (.int .i64 0) 1 Try.underlying66 hi hz0 hz1 .i64 .i64 _ (8 * zs.length) (by rfl) (by rfl) (by omega) (by rw [hz2]; omega) (by unfold maxLen; omega) (by simp) ?_; intro w1 hown hgrow)
  have hb1 : Below w.heap.size w w1 := (Below.refl _ _).grown hgrow (by simp) (fun k hk => by cases hk)
  go_loopw [3, 4] (fun ov iv wr => SpInv w zs ov iv wr) (fun _ iv _ => zs.length - (intOf iv).toNat)
  case atStart => exact ⟨0, _, _, by omega, rfl, rfl, by simpa [bl, iz] using hown, hb1⟩
  case round =>
    obtain ⟨k, g, c', hk, rfl, rfl, ho, hb⟩ := hrel
    clear hown hgrow hb1
    have HO : Hid _ := ho
    have HB : Hid _ := hb
    clear ho hb
    by_cases hlt : k < zs.length
    · have b0 : 0 ≤ (k : Int) := by omega
      have b1 : (k : Int) < (zs.length : Int) := by omega
      go_wp2_with fail
      generalize wr = wo at *
      go_loopw [3, 5] (fun ov kv wr => SqInv w zs k ov kv wr) (fun _ kv _ => (intOf kv + 1).toNat)
      case atStart => exact ⟨8, g, c', by omega, rfl, by simp, by rw [show 8 * k + (8 - 8) = 8 * k from by omega]; exact HO.out, HB.out⟩
      case round =>
        obtain ⟨m, g2, c2, hm, rfl, rfl, ho, hb⟩ := hrel
        clear HO HB
        have HO : Hid _ := ho
        have HB : Hid _ := hb
        have hbs := hb.size
        clear ho hb
        by_cases hm0 : m = 0
        · subst hm0
          have t0 : ¬ (0 : Int) ≤ ((0 : Nat) : Int) - 1 := by omega
          go_wp2_with fail
          go_roundw
          case rel => exact ⟨k + 1, g2, c2, by omega, by go_num, by congr 1, by rw [show 8 * (k + 1) = 8 * k + (8 - 0) from by omega]; exact HO.out, HB.out⟩
          case measure => simp [intOf]; omega
        · obtain ⟨q, rfl⟩ : ∃ q, m = q + 1 := ⟨m - 1, by omega⟩
          rw [show (((q + 1 : Nat) : Int) - 1) = (q : Int) from by omega]
          obtain ⟨ad, rfl, hcell⟩ : ∃ ad, a = some ad ∧ w.cell? (ad.add k) = some (.int .u8 (zs.getD k 0 : Nat)) := by
            rcases HSRC.out with ⟨e, _⟩ | ⟨ad, cc, hv, hc⟩
            · rw [e] at hlt; simp at hlt
            · simp only [Value.slice.injEq] at hv
              exact ⟨ad, hv.1, hc k hlt⟩
          have hc1 : wr.cell? (ad.add k) = some (.int .u8 (zs.getD k 0 : Nat)) := by rw [HB.out.cell (World.block_lt_of_cell? w _ hcell)]; exact hcell
          have hx := HZ.out k
          have HBV : Hid ((wrap64 (((zs.getD k 0 : Nat) : Int) / 2 ^ q)).tmod 2 = ((bitAt zs (8 * k + (8 - (q + 1))) : Nat) : Int)) := by
            have h1 := bit_int (zs.getD k 0) q hx
            have h2 := bit_val zs k q (by omega)
            unfold Hid
            rw [h1, h2]
          have HSU : Hid (bl zs (8 * k + (8 - q)) = bl zs (8 * k + (8 - (q + 1))) ++ [bitAt zs (8 * k + (8 - (q + 1)))]) := by
            have := bl_succ zs (8 * k + (8 - (q + 1)))
            rw [show 8 * k + (8 - (q + 1)) + 1 = 8 * k + (8 - q) from by omega] at this
            exact this
          generalize zs.getD k 0 = xb at *
          have hq8 : q < 8 := by omega
          have t0 : (0 : Int) ≤ (q : Int) := by omega
          clear hcell
          go_wp2_with (at_builtin; refine wpList_append_int _ (by rfl) _ _ (by rfl) w.heap.size (8 * k + (8 - (q + 1))) (bl zs (8 * k + (8 - (q + 1)))) (.slice (some ⟨g2, 0, none⟩) (8 * k + (8 - (q + 1))) c2) _ (bitAt zs (8 * k + (8 - (q + 1)))) (by first | exact HBV.out | (rw [← HBV.out]; rfl) | skip) HO.out hbs (by omega) (by rfl) (by rfl) ?_; intro g3 cap w3 ho3 hb3)
          go_roundw
          case rel =>
            have e1 : 8 * k + (8 - q) = 8 * k + (8 - (q + 1)) + 1 := by omega
            exact ⟨q, g3, cap, by omega, by go_num, by congr 1; omega, by rw [HSU.out, e1]; first | exact ho3 | (rw [show 8 * k + (7 - q) + 1 = 8 * k + (8 - (q + 1)) + 1 from by omega]; exact ho3), HB.out.trans hb3⟩
          case measure => simp [intOf]
    · have hk' : k = zs.length := by omega
      subst hk'
      go_wp2_with fail
      go_ret
      exact ⟨g, c', rfl, HO.out, HB.out⟩

theorem nb_num (zs l : List Nat) (p q : Nat) (h : ∀ i, i < 8 → l.getD (p + i) 0 = bitAt zs (q + i)) : ∀ m, m ≤ 8 → nb l p m = num zs q m := by
  intro m
  induction m with
  | zero => intro _; rfl
  | succ m ih => intro hm; rw [nb, num, ih (by omega), h m (by omega)]
theorem gat_tail (zs : List Nat) (q : Nat) (hq : q ≤ zs.length) (hz : ∀ i, zs.getD i 0 < 256) : gat ((bl zs (8 * zs.length)).drop (8 * q)) = zs.drop q := by
  have hl : ((bl zs (8 * zs.length)).drop (8 * q)).length = 8 * (zs.length - q) := by rw [List.length_drop, bl_length]; omega
  refine list_eq_of_getD (by unfold gat; rw [gatTo_length, hl, List.length_drop]; omega) fun j hj => ?_
  have hj' : j < zs.length - q := by
    unfold gat at hj; rw [gatTo_length, hl] at hj; omega
  unfold gat
  rw [gatTo_get _ _ _ (by rw [hl]; omega), getD_drop, nb_num zs _ (8 * j) (8 * (q + j)) (fun i hi => ?_) 8 (by omega), num_byte zs (q + j) (hz _)]
  rw [getD_drop, bl_get _ _ _ (by omega), show 8 * q + (8 * j + i) = 8 * (q + j) + i from by omega]

set_option maxHeartbeats 1000000 in
theorem rnew_any {w : World} {a : Option Addr} {c : Nat} {zs : List Nat} (h : SrcOf w (.slice a zs.length c) zs) (hz : ∀ i, zs.getD i 0 < 256) (hl : zs.length ≤ 1048576) :
    Calls Try.prog 35 #[.slice a zs.length c] w fun e w' => ∃ x g c', e = .returned (.pointer (some ⟨x, 0, none⟩)) ∧ Rf w' x g c' zs 0 ∧ w.heap.size ≤ x ∧ w.heap.size ≤ g ∧ Below w.heap.size w w' := by
  have HZ : Hid (∀ i, zs.getD i 0 < 256) := hz
  go_enter Try.func35, Try.ntmps35
  go_wp2_with fail
  refine (spread_any h hz hl).mono ?_
  rintro e w1 ⟨g, c', rfl, hown, hb⟩
  have HO : Hid (w1.ownsRow w.heap.size 3 1 (.slice (some ⟨g, 0, none⟩) (8 * zs.length) c') (8 * zs.length) (iz (bl zs (8 * zs.length)))) := hown
  have HB : Hid _ := hb
  have hlt := hown.lt g rfl
  have hcap : 8 * zs.length ≤ c' := by
    rcases hown.2 with ⟨h1, _⟩ | ⟨g', cap, cur, h1, h2, h3, h4, h5, h6, h7⟩
    · simp at h1
    · simp only [Value.slice.injEq] at h1
      omega
  clear hown hb h hz
  go_wp2_with fail
  go_ret
  refine ⟨w1.heap.size, g, c', rfl, ⟨by simp, fun i hi => ?_, hcap, by simp, by simp, by simp, by simp; omega, by omega, HZ.out, hl, by omega⟩, HB.out.size, hlt.1, HB.out.alloc HB.out.size _⟩
  rw [World.cell?_alloc_lt _ _ _ (by exact hlt.2), HO.out.cellAt i (by omega), iz_get _ i (by rw [bl_length]; exact hi), bl_get _ _ _ hi]

theorem gather_tail {w x : World} {g k c n : Nat} {zs : List Nat} (ad : Addr) (_had : ∀ j, j < n → ad.add j = ⟨g, 8 * k + j, none⟩) (had0 : 0 < n → ad = ⟨g, 8 * k, none⟩) (hk : k ≤ zs.length) (hn : n = 8 * (zs.length - k)) (hg : g < w.heap.size) (hb : Below w.heap.size w x) (hl : zs.length ≤ 1048576) (hz : ∀ i, zs.getD i 0 < 256)
    (hc : ∀ i, i < 8 * zs.length → w.cell? ⟨g, i, none⟩ = some (.int .i64 (bitAt zs i : Nat))) :
    Calls Try.prog 43 #[.slice (some ad) n c] x fun e x' => ∃ a cc, e = .returned (.slice a (zs.length - k) cc) ∧ x'.ownsRow w.heap.size 5 1 (.slice a (zs.length - k) cc) (zs.length - k) (bs (zs.drop k)) ∧ Below w.heap.size w x' := by
  have hll : ((bl zs (8 * zs.length)).drop (8 * k)).length = n := by rw [List.length_drop, bl_length]; omega
  have hga := gat_tail zs k hk hz
  have hs : IntsAt x (.slice (some ad) ((bl zs (8 * zs.length)).drop (8 * k)).length c) ((bl zs (8 * zs.length)).drop (8 * k)) := by
    by_cases h0 : n = 0
    · exact Or.inl ⟨List.eq_nil_of_length_eq_zero (by rw [hll]; exact h0), _, _, by rw [hll, h0]⟩
    · refine Or.inr ⟨g, 8 * k, c, by rw [had0 (by omega)], Nat.lt_of_lt_of_le hg hb.size, fun j hj => ?_⟩
      rw [hll] at hj
      rw [hb.cell (p := ⟨g, 8 * k + j, none⟩) hg, hc (8 * k + j) (by omega), getD_drop, bl_get _ _ _ (by omega)]
  have hgc := gather_any x _ (some ad) c hs (fun i => by
    rw [getD_drop]
    by_cases h : 8 * k + i < 8 * zs.length
    · rw [bl_get _ _ _ h]; exact bitAt_lt _ _
    · rw [List.getD_eq_getElem?_getD, List.getElem?_eq_none (by rw [bl_length]; omega)]; simp) (by rw [hll]; omega)
  rw [hga, hll] at hgc
  refine hgc.mono ?_
  rintro e1 x' ⟨a, cc, rfl, h1, h2⟩
  rw [List.length_drop] at h1 ⊢
  exact ⟨a, cc, rfl, own_mono h1 hb.size, hb.trans (h2.mono hb.size)⟩

end Go.Proofs.Ytkippnfijjhobaa
