/- DERIVED. The walks of the document's Matrix and Weights. -/
import Derived.Test.YtddnnlofdicgkaaDoorFc
namespace Go.Proofs.YtddnnlofdicgkaaDoor
open Go.RowKit

theorem Tryd.info22 : (Tryd.prog.info? 22).map (fun i => (i.zero, i.size, i.bytes)) = some (some (.slice none 0 0), 1, 24) := by kernel_rfl
/-- a row of weights -/
def rowW (W : Nat → Nat → Int) (n k : Nat) : List Int := mx n n (W k) zf
theorem rowW_len (W : Nat → Nat → Int) (n k : Nat) : (rowW W n k).length = n := mx_len _ _ _ _
theorem rowW_get (W : Nat → Nat → Int) (n k i : Nat) (h : i < n) : (rowW W n k).getD i 0 = W k i := by unfold rowW; rw [mx_get _ _ _ _ _ h, if_pos h]
/-- rows, as cells -/
def vs (G : Nat → Nat) (n k : Nat) : List Value := (List.range k).map fun j => .slice (some ⟨G j, 0, none⟩) n n
theorem vs_len (G : Nat → Nat) (n k : Nat) : (vs G n k).length = k := by simp [vs]
theorem vs_get (G : Nat → Nat) (n k j : Nat) (h : j < k) : (vs G n k)[j]? = some (.slice (some ⟨G j, 0, none⟩) n n) := by simp [vs, h]
theorem vs_snoc (G : Nat → Nat) (n k g : Nat) : vs G n k ++ [.slice (some ⟨g, 0, none⟩) n n] = vs (fun j => if j = k then g else G j) n (k + 1) := by
  refine List.ext_getElem? fun j => ?_
  by_cases h : j < k
  · rw [List.getElem?_append_left (by rw [vs_len]; exact h), vs_get _ _ _ _ h, vs_get _ _ _ _ (by omega), if_neg (by omega)]
  · by_cases e : j = k
    · subst e
      rw [List.getElem?_append_right (by rw [vs_len]; exact Nat.le_refl _), vs_get _ _ _ _ (by omega), if_pos rfl, vs_len]
      simp
    · rw [List.getElem?_eq_none (by simp [vs_len]; omega), List.getElem?_eq_none (by rw [vs_len]; omega)]
theorem vs_one (G : Nat → Nat) (n k : Nat) : ∀ u ∈ vs G n k, u.oneCell' = true := by
  intro u hu
  obtain ⟨z, _, rfl⟩ := List.mem_map.1 hu
  rfl
/-- a list of rows that grows: the first k rows -/
structure Mg (w : World) (B n k c : Nat) (a : Option Addr) (G : Nat → Nat) (W : Nat → Nat → Int) : Prop where
  own : w.ownsRow B 22 1 (.slice a k c) k (vs G n k)
  rows : ∀ j, j < k → Ri 3 w (G j) (rowW W n j)
theorem Mg.to {w w' : World} {B n k c : Nat} {a : Option Addr} {G : Nat → Nat} {W : Nat → Nat → Int} (h : Mg w B n k c a G W) (hb : Below w.heap.size w w') : Mg w' B n k c a G W :=
  ⟨own_below h.own hb, fun j hj => (h.rows j hj).to hb⟩
theorem Mg.far {w : World} {B n k c : Nat} {a : Option Addr} {G : Nat → Nat} {W : Nat → Nat → Int} (h : Mg w B n k c a G W) {g o : Nat} {x : Value} (hg : w.heap.size ≤ g) : Mg (w.setCell ⟨g, o, none⟩ x) B n k c a G W := h.to (below_set (Below.refl _ _) (by simpa using hg) _)

/-- the rows' blocks are none of the list's -/
theorem Mg.apart {w : World} {B n k c : Nat} {a : Option Addr} {G : Nat → Nat} {W : Nat → Nat → Int} (h : Mg w B n k c a G W) (j : Nat) (hj : j < k) : (Value.slice a k c).ownBlock ≠ some (G j) := by
  intro e
  rcases h.own.2 with ⟨h1, h2⟩ | ⟨g, cap, cur, h1, h2, h3, h4⟩
  · omega
  · rw [h1] at e
    simp [Value.ownBlock] at e
    have := (h.rows j hj).heap
    rw [← e, h3] at this
    simp at this

theorem wpList_append_rows (wr : World) {ops : Array Oper} {rest : List Oper} {o : Oper} {ac : Act} {Q : Exit → Act → World → Prop} (hgd : o.guard = none) (s x : Operand)
    (ho : o.op = .call { callee := .builtin .append, args := #[s, x], argTypes := #[49, 49] })
    (B n k c g : Nat) (a : Option Addr) (G : Nat → Nat) (W : Nat → Nat → Int) (hm : Mg wr B n k c a G W) (hg : Ri 3 wr g (rowW W n k)) (hB : B ≤ wr.heap.size) (hL : k < 1048576)
    (hs : ac.eval s = .slice a k c) (hx : ac.eval x = .slice (some ⟨wr.heap.size, 0, none⟩) 1 1)
    (h : ∀ b cap w', Mg w' B n (k + 1) cap (some ⟨b, 0, none⟩) (fun j => if j = k then g else G j) W → Below B wr w' → B ≤ w'.heap.size → wpList Tryd.prog ops Q rest (ac.put o.dst (.slice (some ⟨b, 0, none⟩) (k + 1) cap)) w') :
    wpList Tryd.prog ops Q (o :: rest) ac (wr.alloc (.cells #[.slice (some ⟨g, 0, none⟩) n n] 22)) := by
  obtain ⟨i, hi, hz0, hz1, hz2⟩ := info_parts Tryd.info22
  have hnews : ∀ j u, ([.slice (some ⟨g, 0, none⟩) n n] : List Value)[j]? = some u → (wr.alloc (.cells #[.slice (some ⟨g, 0, none⟩) n n] 22)).cell? ((⟨wr.heap.size, 0, none⟩ : Addr).add j) = some u := World.news_of_block (cs := #[.slice (some ⟨g, 0, none⟩) n n]) (heap_alloc_new wr _)
  refine wpList_append_lies _ hgd s x 49 ho B 22 i (.slice none 0 0) 1 24 Tryd.underlying49 hi hz0 hz1 hz2 rfl (by omega) (.slice a k c) k (vs G n k) hs (hm.own.alloc _) ⟨wr.heap.size, 0, none⟩ 1 1 [.slice (some ⟨g, 0, none⟩) n n] hx (by rfl) hnews (by intro u hu; simp at hu; subst hu; rfl) (by omega) (by unfold maxLen; omega) (by omega) (by simp; omega) (wr.heap.size + 1) (by simp) ?_
  intro b cap w' hown' hgrow hat _
  have hgr := grown_trans (below_grown (from_alloc wr _) (Value.slice a k c).ownBlock) hgrow (fun g hg => Or.inl hg)
  have hbb := grown_below hgr hB (fun g hg => (hm.own.lt g hg).1)
  have hgne : (Value.slice a k c).ownBlock ≠ some g := by
    intro e
    rcases hm.own.2 with ⟨h1, h2⟩ | ⟨g', cap', cur, h1, h2, h3, h4⟩
    · rw [h1] at e; simp [Value.ownBlock] at e
    · rw [h1] at e
      simp [Value.ownBlock] at e
      have := hg.heap
      rw [← e, h3] at this
      simp at this
  refine h b cap w' ⟨by rw [← vs_snoc]; exact hown', fun j hj => ?_⟩ hbb (Nat.le_trans hB hbb.size)
  by_cases e : j = k
  · subst e
    simp only [if_pos]
    exact hg.carry (hgr.block g hg.lt (fun e => hgne e.symm))
  · simp only [if_neg e]
    have hr := hm.rows j (by omega)
    exact hr.carry (hgr.block (G j) hr.lt (fun e => hm.apart j (by omega) e.symm))

/-- a list of rows, as it is answered -/
structure Mt (w : World) (a : Option Addr) (n : Nat) (W : Nat → Nat → Int) (b : Nat) (G : Nat → Nat) : Prop where
  at0 : a = some ⟨b, 0, none⟩
  lt : b < w.heap.size
  cell : ∀ j, j < n → w.cell? ⟨b, j, none⟩ = some (.slice (some ⟨G j, 0, none⟩) n n)
  rows : ∀ j, j < n → Ri 3 w (G j) (rowW W n j)
theorem Mt.to {w w' : World} {a : Option Addr} {n b : Nat} {W : Nat → Nat → Int} {G : Nat → Nat} (h : Mt w a n W b G) (hb : Below w.heap.size w w') : Mt w' a n W b G :=
  ⟨h.at0, Nat.lt_of_lt_of_le h.lt hb.size, fun j hj => by rw [newCell hb _ _ h.lt]; exact h.cell j hj, fun j hj => (h.rows j hj).to hb⟩
theorem Mg.mt {w : World} {B n c : Nat} {a : Option Addr} {G : Nat → Nat} {W : Nat → Nat → Int} (h : Mg w B n n c a G W) (h0 : 0 < n) : ∃ b, Mt w a n W b G := by
  obtain ⟨b, cap, hv, _, hlt⟩ := h.own.form (by omega)
  simp only [Value.slice.injEq] at hv
  obtain ⟨rfl, _, rfl⟩ := hv
  exact ⟨b, rfl, hlt, fun j hj => by rw [h.own.cellAt j (by omega)]; exact vs_get _ _ _ _ hj, h.rows⟩
def MtR (w w' : World) (e : Ending) (n : Nat) (W : Nat → Nat → Int) : Prop := ∃ a c b G, e = .returned (.slice a n c) ∧ Mt w' a n W b G ∧ Below w.heap.size w w'
structure MgI (w : World) (n : Nat) (W : Nat → Nat → Int) (s i : Value) (wr : World) : Prop where
  ex : ∃ (k c : Nat) (a : Option Addr) (G : Nat → Nat), k ≤ n ∧ i = .int .i64 k ∧ s = .slice a k c ∧ Mg wr w.heap.size n k c a G W ∧ Below w.heap.size w wr

set_option maxRecDepth 100000 in
set_option maxHeartbeats 2000000 in
theorem matrix_any {w : World} {q n : Nat} (hq : q < 3) (h0 : 0 < n) (hn : n ≤ 64) : Calls Tryd.prog 51 #[.int .i64 (q : Int), .int .i64 (n : Int)] w fun e w' => MtR w w' e n (kW (q : Int) n) := by
  have n1 : (n : Int) ≤ 64 := by omega
  have hmk := mk_ints (n := n) (by omega)
  go_enter Tryd.func51, Tryd.ntmps51
  go_wp2_with fail
  go_loopw [5, 6] (fun s i wr => MgI w n (kW (q : Int) n) s i wr) (fun _ i _ => n - (intOf i).toNat)
  case atStart => exact ⟨⟨0, 0, none, fun _ => 0, by omega, rfl, rfl, ⟨World.ownsRow_nil _ _ _ _, fun j hj => by omega⟩, Below.refl _ _⟩⟩
  case round =>
    obtain ⟨k, c, a, G, hk, rfl, rfl, hm, hb⟩ := hrel
    have k0 : 0 ≤ (k : Int) := by omega
    by_cases hlt : k < n
    · have k1 : (k : Int) < (n : Int) := by omega
      have HM : Hid (Mg wr w.heap.size n k c a G (kW (q : Int) n)) := hm
      have HB : Hid (Below w.heap.size w wr) := hb
      clear hm hb
      go_wp2_with fail
      generalize hwr : wr.heap.size = g at *
      have HS : Hid (wr.heap.size = g) := hwr
      clear hwr
      go_loopw [8] (fun i wv => ∃ t : Nat, t ≤ n ∧ i = .int .i64 t ∧ Ri 3 wv g (mx n t (kW (q : Int) n k) zf) ∧ Mg wv w.heap.size n k c a G (kW (q : Int) n) ∧ Below w.heap.size w wv) (fun i _ => n - (intOf i).toNat)
      case atStart =>
        refine ⟨0, by omega, rfl, ?_, HM.out.to (from_alloc _ _), to_alloc HB.out _⟩
        rw [← mx_zero n _ zf (fun _ _ => rfl)]
        exact Ri.made 3 wr n HS.out
      case round =>
        have HG : Hid (w.heap.size ≤ g) := by have := HB.out.size; rw [HS.out] at this; exact this
        have HMg : Hid (∀ j, j < k → G j < g) := fun j hj => by have := (HM.out.rows j hj).lt; rw [HS.out] at this; exact this
        have HMo : Hid (∀ b, (Value.slice a k c).ownBlock = some b → b < g) := fun b hb => by have := (HM.out.own.lt b hb).2; rw [HS.out] at this; exact this
        clear HM HB HS
        obtain ⟨t, ht, rfl, hr, hm, hb⟩ := hrel
        have t0 : 0 ≤ (t : Int) := by omega
        by_cases htn : t < n
        · have t1 : (t : Int) < (n : Int) := by omega
          have HR : Hid (Ri 3 wr g (mx n t (kW (q : Int) n k) zf)) := hr
          have HM : Hid (Mg wr w.heap.size n k c a G (kW (q : Int) n)) := hm
          have HB : Hid (Below w.heap.size w wr) := hb
          clear hr hm hb
          go_wp2_with fail
          refine (weight_any hq h0 hn hlt htn).mono ?_
          rintro e w2 ⟨rfl, hb2⟩
          have hr2 := HR.out.to hb2
          have d1 := hr2.thaw t
          have d2 := hr2.cell t (by rw [mx_len]; exact htn)
          have HR2 : Hid (∀ x, x = kW (q : Int) n k t → Ri 3 (w2.setCell ⟨g, t, none⟩ (.int .i64 x)) g (mx n (t + 1) (kW (q : Int) n k) zf)) := by
            rintro x rfl
            rw [← mx_set n t (kW (q : Int) n k) _ htn]
            exact hr2.set t _
          have HM2 : Hid (∀ x, Mg (w2.setCell ⟨g, t, none⟩ (.int .i64 x)) w.heap.size n k c a G (kW (q : Int) n)) := fun x => by
            have hm2 := HM.out.to hb2
            exact ⟨own_set_far hm2.own (fun e => by have := HMo.out _ e; simp at this) _, fun j hj => (hm2.rows j hj).far (by have := HMg.out j hj; simp; omega) _⟩
          have HB2 : Hid (Below w.heap.size w w2) := below_to HB.out hb2
          clear hb2 hr2
          generalize kW (q : Int) n k t = x at *
          go_wp2_with fail
          go_roundw
          case rel => exact ⟨t + 1, by omega, by go_num, HR2.out _ rfl, HM2.out _, below_set HB2.out (by simpa using HG.out) _⟩
          case measure => simp [intOf]; omega
        · obtain rfl : t = n := by omega
          have HR : Hid (Ri 3 wr g (rowW (kW (q : Int) t) t k)) := hr
          have HM : Hid (Mg wr w.heap.size t k c a G (kW (q : Int) t)) := hm
          have HB : Hid (Below w.heap.size w wr) := hb
          clear hr hm hb
          go_wp2_with (at_builtin; refine wpList_append_rows _ (by rfl) _ _ (by rfl) w.heap.size t k c g a G (kW (q : Int) t) HM.out HR.out HB.out.size (by omega) (by rfl) (by rfl) ?_; intro b cap w5 hm5 hb5 _)
          go_roundw
          case rel => exact ⟨⟨k + 1, cap, _, _, by omega, by go_num, rfl, hm5, HB.out.trans hb5⟩⟩
          case measure => simp [intOf]; omega
    · obtain rfl : k = n := by omega
      obtain ⟨b, hmt⟩ := hm.mt h0
      have HM : Hid _ := hmt
      have HB : Hid (Below w.heap.size w wr) := hb
      clear hm hb hmt
      go_wp2_with fail
      go_ret
      exact ⟨a, c, b, G, rfl, HM.out, HB.out⟩

end Go.Proofs.YtddnnlofdicgkaaDoor
