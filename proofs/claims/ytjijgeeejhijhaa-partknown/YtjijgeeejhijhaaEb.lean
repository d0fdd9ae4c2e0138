/- DERIVED. The closure that grows the tree. -/
import Derived.Test.YtjijgeeejhijhaaEa
namespace Go.Proofs.Ytjijgeeejhijhaa
open Go.RowKit

theorem qsq_len {f : Int → Int → Nat → List Rc × Nat} {x y h : Int} {u m : Nat} (hs : ∀ x y u, (f x y u).1.length ≤ m) : ∀ i, (qsq f x y h u i).1.length ≤ i * m
  | 0 => by simp [qsq]
  | i + 1 => by
    unfold qsq
    have h1 := qsq_len (x := x) (y := y) (h := h) (u := u) hs i
    have h2 := hs (x + ((i % 2 : Nat) : Int) * h) (y + ((i / 2 : Nat) : Int) * h) (qsq f x y h u i).2
    have h3 : (i + 1) * m = i * m + m := Nat.succ_mul i m
    simp only [List.length_append]
    omega
/-- how many leaves at most -/
def lf : Nat → Nat
  | 0 => 1
  | k + 1 => 4 * lf k
theorem lf_pos : ∀ k, 1 ≤ lf k
  | 0 => Nat.le_refl _
  | k + 1 => by have := lf_pos k; unfold lf; omega
theorem tree_len {ar : Rc} {C : List Int} : ∀ (k : Nat) (x y : Int) (u : Nat), (tree ar C k x y u).1.length ≤ lf k
  | 0, x, y, u => by unfold tree; split <;> simp [lf]
  | k + 1, x, y, u => by
    have hq : ∀ v, (qsq (tree ar C k) x y (sd k) v 4).1.length ≤ 4 * lf k := fun v => qsq_len (fun x y z => tree_len (ar := ar) (C := C) k x y z) 4
    have hp := lf_pos k
    unfold tree
    split
    · split
      · split
        · exact hq _
        · show (cutR _ _ _ _).length ≤ 4 * lf k
          have := (prt_len (pkV (k + 1) C u)).2
          rw [cutR_len]; omega
      · exact hq _
    · exact Nat.zero_le _
theorem lf_le {k : Nat} (h : k < 4) : lf k ≤ 64 := by
  match k, h with
  | 0, _ | 1, _ | 2, _ | 3, _ => decide

theorem Try.infoR : (Try.prog.info? 23).map (fun i => (i.zero, i.size, i.bytes)) = some (some (.agg #[.int .i64 0, .int .i64 0, .int .i64 0, .int .i64 0]), 4, 32) := by kernel_rfl
/-- 'append(l, m...)' on a row of rectangles -/
theorem wpList_append_rc (wr : World) {ops : Array Oper} {rest : List Oper} {o : Oper} {a : Act} {Q : Exit → Act → World → Prop} (hgd : o.guard = none) (s x : Operand)
    (ho : o.op = .call { callee := .builtin .append, args := #[s, x], argTypes := #[27, 27] })
    (v : Value) (L M : List Rc) (gp c : Nat) (hown : Or4 wr 0 v L) (hM : Hr wr gp M) (h0 : 0 < M.length) (hL : L.length ≤ 1000) (hML : M.length ≤ 1000)
    (hs : a.eval s = v) (hx : a.eval x = .slice (some ⟨gp, 0, none⟩) M.length c)
    (h : ∀ g cap w', Or4 w' 0 (.slice (some ⟨g, 0, none⟩) (L.length + M.length) cap) (L ++ M) → wr.grownBy w' v.ownBlock → (v.ownBlock = some g ∨ g = wr.heap.size) → g < w'.heap.size → wpList Try.prog ops Q rest (a.put o.dst (.slice (some ⟨g, 0, none⟩) (L.length + M.length) cap)) w') :
    wpList Try.prog ops Q (o :: rest) a wr := by
  obtain ⟨i, hi, hz0, hz1, hz2⟩ := info_parts Try.infoR
  have hnews : ∀ j u, (rs M)[j]? = some u → wr.cell? ((⟨gp, 0, none⟩ : Addr).add j) = some u := by
    intro j u hu
    have hj : j < M.length * 4 := by have := List.getElem?_eq_some_iff.1 hu; obtain ⟨h1, _⟩ := this; rw [rs_length] at h1; exact h1
    rw [rs_at _ _ hj] at hu
    rw [← hu, addr_add, Nat.zero_add]
    exact hM.cell j hj
  refine wpList_append_lies _ hgd s x 27 ho 0 23 i (.agg #[.int .i64 0, .int .i64 0, .int .i64 0, .int .i64 0]) 4 32 Try.underlying27 hi hz0 hz1 hz2 rfl (by omega) v L.length (rs L) hs hown.own ⟨gp, 0, none⟩ M.length c (rs M) hx (rs_length M) hnews (rs_one M) h0 (by unfold maxLen; omega) (by omega) (Nat.zero_le _) wr.heap.size rfl ?_
  intro g cap w' h1 h2 h3 h4
  exact h g cap w' ⟨by rw [rs_append, List.length_append]; exact h1⟩ h2 h3 h4

/-- the leaves have grown -/
theorem St.grown {A : Ad} {Z : Nat → Prop} {w w' : World} {L M : List Rc} {u g n cap : Nat} {v : Value} (hz : Zs A Z) (h : St A Z w L u) (hv : w.cell? ⟨A.pl, 0, none⟩ = some v) (_hown : Or4 w 0 v L)
    (hn : Or4 w' 0 (.slice (some ⟨g, 0, none⟩) n cap) M) (hg : w.grownBy w' v.ownBlock) (he : v.ownBlock = some g ∨ g = w.heap.size) (hl : g < w'.heap.size) :
    St A Z (w'.setCell ⟨A.pl, 0, none⟩ (.slice (some ⟨g, 0, none⟩) n cap)) M u ∧ Kz Z w (w'.setCell ⟨A.pl, 0, none⟩ (.slice (some ⟨g, 0, none⟩) n cap)) := by
  obtain ⟨v', h1, h2, h3⟩ := h.leaf
  rw [hv] at h1
  obtain rfl := Option.some.inj h1
  have hgz : ¬ Z g ∧ g ≠ A.pl ∧ g ≠ A.pu := by
    rcases he with he | he
    · exact h3 g he
    · subst he
      refine ⟨fun q => absurd (h.zlt _ q) (by omega), fun e => absurd h.llt (by omega), fun e => absurd h.ult (by omega)⟩
  have hk0 : Kz Z w w' := ⟨hg.os, hg.tape, hg.output, hg.size, fun i hi => hg.block i (h.zlt i hi) (fun e => (h3 i e.symm).1 hi)⟩
  have hk := hk0.trans (Kz.set (Z := Z) w' A.pl 0 hz.nl (.slice (some ⟨g, 0, none⟩) n cap))
  have bu : w'.heap[A.pu]? = w.heap[A.pu]? := hg.block _ h.ult (fun e => (h3 _ e.symm).2.2 rfl)
  have bl : w'.heap[A.pl]? = w.heap[A.pl]? := hg.block _ h.llt (fun e => (h3 _ e.symm).2.1 rfl)
  have cl : w'.cell? ⟨A.pl, 0, none⟩ = some v := by rw [World.cell?_of_block (by exact bl)]; exact hv
  have nul : (⟨A.pl, 0, none⟩ : Addr) ≠ ⟨A.pu, 0, none⟩ := fun e => hz.ne (by simpa using (congrArg Addr.block e).symm)
  have za := h.area
  refine ⟨⟨fun i hi => Nat.lt_of_lt_of_le (h.zlt i hi) hk.size, ⟨?_, ?_, ?_, ?_⟩, ?_, ?_, Nat.lt_of_lt_of_le h.ult hk.size, ?_, si_zs hz h.si hk, ?_, ?_, ⟨_, World.cell?_setCell_same _ _ _ cl, hn.carry (fun i hi => Below.heap_setCell _ _ _ _ (fun e => ?_)), fun i hi => ?_⟩, ?_, Nat.lt_of_lt_of_le h.llt hk.size, h.le⟩, hk⟩
  · rw [hk.cell hz.za]; exact za.c0
  · rw [hk.cell hz.za]; exact za.c1
  · rw [hk.cell hz.za]; exact za.c2
  · rw [hk.cell hz.za]; exact za.c3
  · rw [World.cell?_setCell_other _ _ _ _ nul, World.cell?_of_block (by exact bu)]; exact h.used
  · rw [World.frozen?_setCell, World.frozen?_of_block (by exact bu)]; exact h.usedf
  · rw [hk.cell hz.zc]; exact h.ch
  · rw [hk.cell hz.zp]; exact h.pick
  · rw [hk.cell hz.zg]; exact h.grow
  · simp only [Value.ownBlock, Option.some.injEq] at hi
    exact hgz.2.1 (by rw [hi]; exact e)
  · simp only [Value.ownBlock, Option.some.injEq] at hi
    rw [← hi]; exact hgz
  · rw [World.frozen?_setCell, World.frozen?_of_block (by exact bl)]; exact h.leaff

/-- an area's numbers -/
def ArOk (r : Rc) : Prop := Rb r.1 r.2.1 r.2.2.1 r.2.2.2
/-- what a call of the closure does -/
def Gq (A : Ad) (Z : Nat → Prop) (w w' : World) (e : Ending) (L : List Rc) (p : List Rc × Nat) : Prop := e = .returned (.tuple #[]) ∧ St A Z w' (L ++ p.1) p.2 ∧ Kz Z w w'
/-- the closure of one size serves -/
def Gk (k : Nat) : Prop := ∀ (A : Ad) (Z : Nat → Prop) (w : World) (L : List Rc) (u : Nat) (x y : Int), Zs A Z → St A Z w L u → ArOk A.ar → rgn x y (sd k) (sd k) = true → x + sd k ≤ 2048 → y + sd k ≤ 2048 → A.C.length ≤ 140737488355328 → L.length + lf k ≤ 300 →
  Calls Try.prog 31 #[.agg #[.int .i64 x, .int .i64 y, .int .i64 (sd k), .int .i64 (sd k)], .pointer (some ⟨A.pa, 0, none⟩), .pointer (some ⟨A.pp, 0, none⟩), .pointer (some ⟨A.pl, 0, none⟩), .pointer (some ⟨A.pg, 0, none⟩)] w fun e w' => Gq A Z w w' e L (tree A.ar A.C k x y u)

theorem rgn_rb {x y : Int} {k : Nat} (_hk : k < 4) (h : rgn x y (sd k) (sd k) = true) : Rb x y (sd k) (sd k) := by
  obtain ⟨hs, -, h1, h2⟩ := rgn_in h
  exact ⟨by omega, by omega, by omega, by omega⟩

set_option maxRecDepth 100000 in
set_option maxHeartbeats 2000000 in
theorem grow_off {k : Nat} (hk : k < 4) {A : Ad} {Z : Nat → Prop} {w : World} {L : List Rc} {u : Nat} {x y : Int} (hz : Zs A Z) (h : St A Z w L u) (ha : ArOk A.ar) (hr : rgn x y (sd k) (sd k) = true) (hm : meet (x, y, sd k, sd k) A.ar = false) :
    Calls Try.prog 31 #[.agg #[.int .i64 x, .int .i64 y, .int .i64 (sd k), .int .i64 (sd k)], .pointer (some ⟨A.pa, 0, none⟩), .pointer (some ⟨A.pp, 0, none⟩), .pointer (some ⟨A.pl, 0, none⟩), .pointer (some ⟨A.pg, 0, none⟩)] w fun e w' => Gq A Z w w' e L (tree A.ar A.C k x y u) := by
  rw [tree_off hm]
  have HS : Hid (St A Z w L u) := h
  have HZ : Hid (Zs A Z) := hz
  have HB0 : Hid (Below w.heap.size w (w.alloc (.cells #[.int .i64 x, .int .i64 y, .int .i64 (sd k), .int .i64 (sd k)] 23))) := from_alloc _ _
  have HM : Hid (∀ t, Calls Try.prog 32 #[.agg #[.int .i64 x, .int .i64 y, .int .i64 (sd k), .int .i64 (sd k)], .agg #[.int .i64 A.ar.1, .int .i64 A.ar.2.1, .int .i64 A.ar.2.2.1, .int .i64 A.ar.2.2.2]] t fun e w' => e = .returned (.bool false) ∧ Below t.heap.size t w') := fun t => by rw [← hm]; exact meets_any (rgn_rb hk hr) ha
  have g0 := ((h.area.below HB0.out (h.zlt _ hz.za))).c0
  have g1 := ((h.area.below HB0.out (h.zlt _ hz.za))).c1
  have g2 := ((h.area.below HB0.out (h.zlt _ hz.za))).c2
  have g3 := ((h.area.below HB0.out (h.zlt _ hz.za))).c3
  simp only [Nat.zero_add] at g0 g1 g2 g3
  obtain ⟨a0, a1, a2, a3⟩ := h.area
  simp only [Nat.zero_add] at a0 a1 a2 a3
  clear h hz ha hr hm
  unfold Gq
  go_enter Try.func31, Try.ntmps31
  go_wp2_with fail
  refine (HM.out _).mono ?_
  rintro e w1 ⟨rfl, hb⟩
  have HB : Hid (Below w.heap.size w w1) := below_to HB0.out hb
  clear hb
  go_wp2_with fail
  refine bodyPost_ret (results_none rfl _ _ _) rfl ?_
  exact ⟨rfl, by rw [List.append_nil]; exact HS.out.to HZ.out HB.out, Kz.ofBelow HS.out.zlt HB.out⟩

/-- one block more that stays -/
def Za (Z : Nat → Prop) (b : Nat) : Nat → Prop := fun i => Z i ∨ i = b
theorem St.more {A : Ad} {Z : Nat → Prop} {w w' : World} {L : List Rc} {u b : Nat} (hz : Zs A Z) (h : St A Z w L u) (hb : Below w.heap.size w w') (h1 : w.heap.size ≤ b) (h2 : b < w'.heap.size) : Zs A (Za Z b) ∧ St A (Za Z b) w' L u := by
  have hs := h.to hz hb
  obtain ⟨v, l1, l2, l3⟩ := h.leaf
  have hu := h.ult
  have hl := h.llt
  refine ⟨⟨Or.inl hz.za, Or.inl hz.zc, Or.inl hz.zp, Or.inl hz.zg, fun c o s e1 e2 => Or.inl (hz.zd c o s e1 e2), fun q => ?_, fun q => ?_, hz.ne⟩, ⟨fun i hi => ?_, hs.area, hs.used, hs.usedf, hs.ult, hs.ch, hs.si, hs.pick, hs.grow, ⟨v, by rw [newCell hb _ _ h.llt]; exact l1, l2.to hb, fun g hg => ⟨fun q => ?_, (l3 g hg).2⟩⟩, hs.leaff, hs.llt, hs.le⟩⟩
  · rcases q with q | q
    · exact hz.nu q
    · omega
  · rcases q with q | q
    · exact hz.nl q
    · omega
  · rcases hi with hi | hi
    · exact hs.zlt i hi
    · omega
  · rcases q with q | q
    · exact (l3 g hg).1 q
    · have := l2.lt hg; omega
theorem Za.sub {Z : Nat → Prop} {b : Nat} : ∀ i, Z i → Za Z b i := fun _ h => Or.inl h

/-- what a walk needs of the state -/
structure Fa (A : Ad) (w : World) : Prop where
  a0 : w.cell? ⟨A.pa, 0, none⟩ = some (.int .i64 A.ar.1)
  a1 : w.cell? ⟨A.pa, 1, none⟩ = some (.int .i64 A.ar.2.1)
  a2 : w.cell? ⟨A.pa, 2, none⟩ = some (.int .i64 A.ar.2.2.1)
  a3 : w.cell? ⟨A.pa, 3, none⟩ = some (.int .i64 A.ar.2.2.2)
  pick : w.cell? ⟨A.pp, 0, none⟩ = some (.func (.func 30) #[] #[.pointer (some ⟨A.pu, 0, none⟩), .pointer (some ⟨A.pc, 0, none⟩)])
  grow : w.cell? ⟨A.pg, 0, none⟩ = some (.func (.func 31) #[] #[.pointer (some ⟨A.pa, 0, none⟩), .pointer (some ⟨A.pp, 0, none⟩), .pointer (some ⟨A.pl, 0, none⟩), .pointer (some ⟨A.pg, 0, none⟩)])
theorem St.fa {A : Ad} {Z : Nat → Prop} {w : World} {L : List Rc} {u : Nat} (h : St A Z w L u) : Fa A w := ⟨by simpa using h.area.c0, by simpa using h.area.c1, by simpa using h.area.c2, by simpa using h.area.c3, h.pick, h.grow⟩
/-- a rectangle in a block -/
structure Fr (w : World) (b : Nat) (x y a c : Int) : Prop where
  r0 : w.cell? ⟨b, 0, none⟩ = some (.int .i64 x)
  r1 : w.cell? ⟨b, 1, none⟩ = some (.int .i64 y)
  r2 : w.cell? ⟨b, 2, none⟩ = some (.int .i64 a)
  r3 : w.cell? ⟨b, 3, none⟩ = some (.int .i64 c)
theorem Fr.box (w : World) (x y a c : Int) : Fr (w.alloc (.cells #[.int .i64 x, .int .i64 y, .int .i64 a, .int .i64 c] 23)) w.heap.size x y a c := ⟨by simp [go_sem], by simp [go_sem], by simp [go_sem], by simp [go_sem]⟩
theorem Fr.kz {Z : Nat → Prop} {w w' : World} {b : Nat} {x y a c : Int} (h : Fr w b x y a c) (hk : Kz Z w w') (hb : Z b) : Fr w' b x y a c := ⟨by rw [hk.cell hb]; exact h.r0, by rw [hk.cell hb]; exact h.r1, by rw [hk.cell hb]; exact h.r2, by rw [hk.cell hb]; exact h.r3⟩
end Go.Proofs.Ytjijgeeejhijhaa
