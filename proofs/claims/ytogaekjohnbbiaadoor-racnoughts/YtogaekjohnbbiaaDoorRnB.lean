/- DERIVED. Noughts behind an owned row, in a walk; Bring to nine; three decoders beside one another. -/
import Derived.Test.YtogaekjohnbbiaaDoorRnA
import Derived.Test.YtogaekjohnbbiaaDoorLwG
namespace Go.Proofs.YtogaekjohnbbiaaDoor
open Go.RowKit

theorem wpList_noughts (w : World) {ops : Array Oper} {rest : List Oper} {o : Oper} {a : Act} {Q : Exit → Act → World → Prop} (hgd : o.guard = none) (s x : Operand)
    (ho : o.op = .call { callee := .builtin .append, args := #[s, x], argTypes := #[32, 3] })
    (base : Nat) (i : TypeInfo) (hi : Tryd.prog.info? 5 = some i) (hz : i.zero = some (.int .u8 0)) (hsize : i.size = 1) (hby : i.bytes = 1)
    (v : Value) (n : Nat) (xs : List Value) (hs : a.eval s = v) (hown : w.ownsRow base 5 1 v n xs) (m : Nat) (hx : a.eval x = .int .i64 (m : Int)) (hm : m ≤ 8) (hn : n ≤ 140737488355000) (hbase : base ≤ w.heap.size)
    (h : ∀ v' w', w'.ownsRow base 5 1 v' (n + m) (xs ++ List.replicate m (Value.int .u8 0)) → w.grownBy w' v.ownBlock → wpList Tryd.prog ops Q rest (a.put o.dst v') w') :
    wpList Tryd.prog ops Q (o :: rest) a w := by
  refine wpList_plain hgd fun K hK => ?_
  obtain ⟨v', w', hr, h2, h3, _⟩ := run_noughts w o.type base i hi hz hsize hby v n xs hown m hm hn hbase
  unfold Oper.wp execOp
  simp only [ho, resolve, invoke, builtin, Sem.run_bind, Sem.run_pure, Result.andThen_ok, List.map_toArray, List.map_cons, List.map_nil, hs, hx, hr]
  exact hK _ _ (h v' w' h2 h3)

def bring9 (i : Int) : Nat := (i % 9).toNat
theorem bring9_lt (i : Int) : bring9 i < 9 := by unfold bring9; omega
theorem tmod_nine (i : Int) : (0 ≤ i.tmod 9 → i.tmod 9 = i % 9) ∧ (i.tmod 9 < 0 → i.tmod 9 + 9 = i % 9) ∧ -8 ≤ i.tmod 9 ∧ i.tmod 9 ≤ 8 := by
  by_cases h : 0 ≤ i
  · rw [Int.tmod_eq_emod_of_nonneg h]; omega
  · obtain ⟨j, rfl⟩ : ∃ j, i = -j := ⟨-i, by omega⟩
    rw [Int.neg_tmod, Int.tmod_eq_emod_of_nonneg (by omega)]; omega
set_option maxHeartbeats 400000 in
theorem bring_nine (i : Int) (w : World) : Calls Tryd.prog 26 #[.int .i64 i, .int .i64 9] w fun e w' => e = .returned (.int .i64 (bring9 i)) ∧ w' = w := by
  obtain ⟨h1, h2, h3, h4⟩ := tmod_nine i
  have H1 : Hid (0 ≤ i.tmod 9 → i.tmod 9 = i % 9) := h1
  have H2 : Hid (i.tmod 9 < 0 → i.tmod 9 + 9 = i % 9) := h2
  clear h1 h2
  by_cases h : Int.tmod i 9 < 0
  · go_enter Tryd.func26, Tryd.ntmps26
    go_wp2
    go_ret
    exact ⟨ret_int (by unfold bring9; rw [← H2.out h]; omega), rfl⟩
  · go_enter Tryd.func26, Tryd.ntmps26
    go_wp2
    go_ret
    exact ⟨ret_int (by unfold bring9; rw [← H1.out (by omega)]; omega), rfl⟩

/-! ### lists that read alike -/
theorem dFirst_congr {xs ys : List Nat} (h : ∀ i, xs.getD i 0 = ys.getD i 0) : dFirst xs = dFirst ys := by
  unfold dFirst
  rw [pre_congr 4 (fun i _ => h i)]
theorem take_alike (zs : List Nat) : ∀ i, (zs.take (tl zs zs.length)).getD i 0 = zs.getD i 0 := by
  obtain ⟨t1, t2, _⟩ := tl_ok zs zs.length
  intro i
  rw [getD_take]
  split
  · rfl
  · rename_i h
    by_cases hi : i < zs.length
    · exact (t2 i (by omega) hi).symm
    · exact (getD_len zs (by omega)).symm
theorem more_alike (zs : List Nat) (m : Nat) : ∀ i, (zs ++ List.replicate m 0).getD i 0 = zs.getD i 0 := by
  intro i
  rw [List.getD_eq_getElem?_getD, List.getD_eq_getElem?_getD]
  by_cases hi : i < zs.length
  · rw [List.getElem?_append_left hi]
  · rw [List.getElem?_append_right (by omega), List.getElem?_eq_none (l := zs) (by omega)]
    rw [List.getElem?_replicate]
    split <;> rfl

/-! ### three decoders, made in whatever order -/
/-- a decoder that was made, if it was -/
structure On (W u : World) (zs : List Nat) (s : Option (Nat × Nat)) : Prop where
  d : ∀ x b, s = some (x, b) → Ds u x b zs 4 (dFirst zs) 4294967295
  l : ∀ x b, s = some (x, b) → ∀ k, DB x b zs k → W.heap.size ≤ k ∧ k < u.heap.size
/-- two of them lie apart -/
def Ap (xs ys : List Nat) (s t : Option (Nat × Nat)) : Prop := ∀ x b y c, s = some (x, b) → t = some (y, c) → ∀ k, DB x b xs k → ¬ DB y c ys k
structure R3 (W u0 u : World) (z1 z2 z3 : List Nat) (s1 s2 s3 : Option (Nat × Nat)) : Prop where
  o1 : On W u z1 s1
  o2 : On W u z2 s2
  o3 : On W u z3 s3
  a12 : Ap z1 z2 s1 s2
  a13 : Ap z1 z3 s1 s3
  a23 : Ap z2 z3 s2 s3
  bel : Below u0.heap.size u0 u
  base : W.heap.size ≤ u0.heap.size
theorem On.below {W u u' : World} {zs : List Nat} {s : Option (Nat × Nat)} (h : On W u zs s) (hb : Below u.heap.size u u') : On W u' zs s :=
  ⟨fun x b e => (h.d x b e).below hb, fun x b e k hk => ⟨(h.l x b e k hk).1, Nat.lt_of_lt_of_le (h.l x b e k hk).2 hb.size⟩⟩
theorem On.none (W u : World) (zs : List Nat) : On W u zs none := ⟨fun _ _ e => (by cases e), fun _ _ e => (by cases e)⟩
theorem On.made {W u u' : World} {zs : List Nat} {x b : Nat} (hW : W.heap.size ≤ u.heap.size) (h : Dc u' x b zs 4 (dFirst zs) 4294967295) (hx : u.heap.size ≤ x) (hb : u.heap.size ≤ b) (hl : zs ≠ [] → b < u'.heap.size) : On W u' zs (some (x, b)) :=
  ⟨fun x' b' e => by simp only [Option.some.injEq, Prod.mk.injEq] at e; obtain ⟨rfl, rfl⟩ := e; exact ⟨h, dFirst_ok⟩,
   fun x' b' e k hk => by
    simp only [Option.some.injEq, Prod.mk.injEq] at e
    obtain ⟨rfl, rfl⟩ := e
    rcases hk with rfl | ⟨hz, rfl⟩
    · exact ⟨by omega, h.low⟩
    · exact ⟨by omega, hl hz⟩⟩
theorem Ap.right {W u : World} {xs ys : List Nat} {s : Option (Nat × Nat)} (h : On W u xs s) {y c : Nat} (hy : u.heap.size ≤ y) (hc : u.heap.size ≤ c) : Ap xs ys s (some (y, c)) := by
  intro x b y' c' e1 e2 k hk hk2
  simp only [Option.some.injEq, Prod.mk.injEq] at e2
  obtain ⟨rfl, rfl⟩ := e2
  have := (h.l x b e1 k hk).2
  rcases hk2 with rfl | ⟨_, rfl⟩ <;> omega
theorem Ap.left {W u : World} {xs ys : List Nat} {t : Option (Nat × Nat)} (h : On W u ys t) {x b : Nat} (hx : u.heap.size ≤ x) (hb : u.heap.size ≤ b) : Ap xs ys (some (x, b)) t := by
  intro x' b' y c e1 e2 k hk hk2
  simp only [Option.some.injEq, Prod.mk.injEq] at e1
  obtain ⟨rfl, rfl⟩ := e1
  have := (h.l y c e2 k hk2).2
  rcases hk with rfl | ⟨_, rfl⟩ <;> omega
section
variable {W u0 u u' : World} {z1 z2 z3 : List Nat} {s1 s2 s3 : Option (Nat × Nat)}
theorem R3.one (h : R3 W u0 u z1 z2 z3 none s2 s3) {x : Nat} (hm : DcMade u u' z1 x) : ∃ b, R3 W u0 u' z1 z2 z3 (some (x, b)) s2 s3 := by
  obtain ⟨b, h1, h2, h3, h4, h5⟩ := hm
  have hW := Nat.le_trans h.base h.bel.size
  exact ⟨b, On.made hW h1 h2 h3 h4, h.o2.below h5, h.o3.below h5, Ap.left h.o2 h2 h3, Ap.left h.o3 h2 h3, h.a23, h.bel.trans (h5.mono h.bel.size), h.base⟩
theorem R3.two (h : R3 W u0 u z1 z2 z3 s1 none s3) {x : Nat} (hm : DcMade u u' z2 x) : ∃ b, R3 W u0 u' z1 z2 z3 s1 (some (x, b)) s3 := by
  obtain ⟨b, h1, h2, h3, h4, h5⟩ := hm
  have hW := Nat.le_trans h.base h.bel.size
  exact ⟨b, h.o1.below h5, On.made hW h1 h2 h3 h4, h.o3.below h5, Ap.right h.o1 h2 h3, h.a13, Ap.left h.o3 h2 h3, h.bel.trans (h5.mono h.bel.size), h.base⟩
theorem R3.three (h : R3 W u0 u z1 z2 z3 s1 s2 none) {x : Nat} (hm : DcMade u u' z3 x) : ∃ b, R3 W u0 u' z1 z2 z3 s1 s2 (some (x, b)) := by
  obtain ⟨b, h1, h2, h3, h4, h5⟩ := hm
  have hW := Nat.le_trans h.base h.bel.size
  exact ⟨b, h.o1.below h5, h.o2.below h5, On.made hW h1 h2 h3 h4, h.a12, Ap.right h.o1 h2 h3, Ap.right h.o2 h2 h3, h.bel.trans (h5.mono h.bel.size), h.base⟩
end

/-! ### three decoders that go on -/
structure N3 (W w : World) (z1 z2 z3 : List Nat) (x1 b1 x2 b2 x3 b3 q1 c1 g1 q2 c2 g2 q3 c3 g3 : Nat) : Prop where
  d1 : Ds w x1 b1 z1 q1 c1 g1
  d2 : Ds w x2 b2 z2 q2 c2 g2
  d3 : Ds w x3 b3 z3 q3 c3 g3
  a12 : ∀ k, DB x1 b1 z1 k → ¬ DB x2 b2 z2 k
  a13 : ∀ k, DB x1 b1 z1 k → ¬ DB x3 b3 z3 k
  a23 : ∀ k, DB x2 b2 z2 k → ¬ DB x3 b3 z3 k
  l1 : W.heap.size ≤ x1
  l2 : W.heap.size ≤ x2
  l3 : W.heap.size ≤ x3
  bel : Below W.heap.size W w
section
variable {W w w' : World} {z1 z2 z3 : List Nat} {x1 b1 x2 b2 x3 b3 q1 c1 g1 q2 c2 g2 q3 c3 g3 : Nat}
theorem N3.below (h : N3 W w z1 z2 z3 x1 b1 x2 b2 x3 b3 q1 c1 g1 q2 c2 g2 q3 c3 g3) (hb : Below w.heap.size w w') : N3 W w' z1 z2 z3 x1 b1 x2 b2 x3 b3 q1 c1 g1 q2 c2 g2 q3 c3 g3 :=
  ⟨h.d1.below hb, h.d2.below hb, h.d3.below hb, h.a12, h.a13, h.a23, h.l1, h.l2, h.l3, h.bel.trans (hb.mono h.bel.size)⟩
theorem N3.drewN (h : N3 W w z1 z2 z3 x1 b1 x2 b2 x3 b3 q1 c1 g1 q2 c2 g2 q3 c3 g3) (n : Nat) : N3 W (w.drewN n) z1 z2 z3 x1 b1 x2 b2 x3 b3 q1 c1 g1 q2 c2 g2 q3 c3 g3 := h.below (below_drewN (Below.refl _ _) n)
theorem N3.step1 (h : N3 W w z1 z2 z3 x1 b1 x2 b2 x3 b3 q1 c1 g1 q2 c2 g2 q3 c3 g3) {q c g : Nat} (hk : Kp x1 w w') (hd : Ds w' x1 b1 z1 q c g) : N3 W w' z1 z2 z3 x1 b1 x2 b2 x3 b3 q c g q2 c2 g2 q3 c3 g3 :=
  ⟨hd, h.d2.kp2 hk (h.a12 x1 (Or.inl rfl)), h.d3.kp2 hk (h.a13 x1 (Or.inl rfl)), h.a12, h.a13, h.a23, h.l1, h.l2, h.l3, h.bel.trans (hk.toBelow h.l1)⟩
theorem N3.step2 (h : N3 W w z1 z2 z3 x1 b1 x2 b2 x3 b3 q1 c1 g1 q2 c2 g2 q3 c3 g3) {q c g : Nat} (hk : Kp x2 w w') (hd : Ds w' x2 b2 z2 q c g) : N3 W w' z1 z2 z3 x1 b1 x2 b2 x3 b3 q1 c1 g1 q c g q3 c3 g3 :=
  ⟨h.d1.kp2 hk (fun e => h.a12 x2 e (Or.inl rfl)), hd, h.d3.kp2 hk (h.a23 x2 (Or.inl rfl)), h.a12, h.a13, h.a23, h.l1, h.l2, h.l3, h.bel.trans (hk.toBelow h.l2)⟩
theorem N3.step3 (h : N3 W w z1 z2 z3 x1 b1 x2 b2 x3 b3 q1 c1 g1 q2 c2 g2 q3 c3 g3) {q c g : Nat} (hk : Kp x3 w w') (hd : Ds w' x3 b3 z3 q c g) : N3 W w' z1 z2 z3 x1 b1 x2 b2 x3 b3 q1 c1 g1 q2 c2 g2 q c g :=
  ⟨h.d1.kp2 hk (fun e => h.a13 x3 e (Or.inl rfl)), h.d2.kp2 hk (fun e => h.a23 x3 e (Or.inl rfl)), hd, h.a12, h.a13, h.a23, h.l1, h.l2, h.l3, h.bel.trans (hk.toBelow h.l3)⟩
end
theorem R3.n3 {W u0 u : World} {z1 z2 z3 : List Nat} {x1 b1 x2 b2 x3 b3 : Nat} (h : R3 W u0 u z1 z2 z3 (some (x1, b1)) (some (x2, b2)) (some (x3, b3))) (hb : Below W.heap.size W u0) :
    N3 W u z1 z2 z3 x1 b1 x2 b2 x3 b3 4 (dFirst z1) 4294967295 4 (dFirst z2) 4294967295 4 (dFirst z3) 4294967295 :=
  ⟨h.o1.d _ _ rfl, h.o2.d _ _ rfl, h.o3.d _ _ rfl, h.a12 _ _ _ _ rfl rfl, h.a13 _ _ _ _ rfl rfl, h.a23 _ _ _ _ rfl rfl, (h.o1.l _ _ rfl x1 (Or.inl rfl)).1, (h.o2.l _ _ rfl x2 (Or.inl rfl)).1, (h.o3.l _ _ rfl x3 (Or.inl rfl)).1, hb.trans (h.bel.mono hb.size)⟩

end Go.Proofs.YtogaekjohnbbiaaDoor
