/- DERIVED. The walk of mirrored. -/
import Derived.Test.YtgmdanipcnkhdaaDoorTb
import Derived.Deep.DeepCutAuto
import Derived.Deep.Light
namespace Go.Proofs.YtgmdanipcnkhdaaDoor
open Go.RowKit

/-- samples that come from other places: those of the first k places are there -/
def inK (s : Nat → Nat) (C : List Nat) (n k : Nat) : List Nat := tab n fun q => if s q < k then C.getD (s q) 0 else 0
theorem inK_len (s : Nat → Nat) (C : List Nat) (n k : Nat) : (inK s C n k).length = n := tab_len _ _
theorem inK_zero (s : Nat → Nat) (C : List Nat) (n : Nat) : inK s C n 0 = List.replicate n 0 := (tab_zero fun j _ => by rw [if_neg (Nat.not_lt_zero _)]).symm
theorem inK_set {s : Nat → Nat} {C : List Nat} {n k : Nat} (hs : ∀ q, q < n → s q < n ∧ s (s q) = q) (hk : k < n) : (inK s C n k).set (s k) (C.getD k 0) = inK s C n (k + 1) :=
  tab_set (hs k hk).1 (by rw [(hs k hk).2, if_pos (by omega)]) fun q hq hne => by
    have h1 : s q ≠ k := fun e => hne (by rw [← (hs q hq).2, e])
    by_cases h : s q < k
    · rw [if_pos h, if_pos (by omega)]
    · rw [if_neg h, if_neg (by omega)]
/-- whence a sample comes -/
def sA (x q : Nat) : Nat := q / x * x + (x - 1 - q % x)
def sD (x y q : Nat) : Nat := (y - 1 - q / x) * x + q % x
theorem sA_ok {x y : Nat} (hx : 1 ≤ x) (q : Nat) (hq : q < x * y) : sA x q < x * y ∧ sA x (sA x q) = q := by
  have h1 := div_of hq
  have h2 : x - 1 - q % x < x := Nat.lt_of_le_of_lt (Nat.sub_le _ _) (by omega)
  obtain ⟨p, r⟩ := parts q x (by omega)
  refine ⟨at_lt h1 h2, ?_⟩
  show sA x (q / x * x + (x - 1 - q % x)) = q
  unfold sA
  rw [(dm_of (y := q / x) h2).1, (dm_of (y := q / x) h2).2, show x - 1 - (x - 1 - q % x) = q % x from by generalize q % x = d at *; omega, ← p]
theorem sD_ok {x y : Nat} (hx : 1 ≤ x) (q : Nat) (hq : q < x * y) : sD x y q < x * y ∧ sD x y (sD x y q) = q := by
  have h1 := div_of hq
  have h2 : y - 1 - q / x < y := Nat.lt_of_le_of_lt (Nat.sub_le _ _) (Nat.sub_lt (Nat.lt_of_le_of_lt (Nat.zero_le _) h1) (by omega))
  obtain ⟨p, r⟩ := parts q x (by omega)
  refine ⟨at_lt h2 r, ?_⟩
  show sD x y ((y - 1 - q / x) * x + q % x) = q
  unfold sD
  rw [(dm_of (y := y - 1 - q / x) r).1, (dm_of (y := y - 1 - q / x) r).2, show y - 1 - (y - 1 - q / x) = q / x from by generalize q / x = d at *; omega, ← p]
theorem inK_mrA {C : List Nat} {x y : Nat} (hx : 1 ≤ x) : inK (sA x) C (x * y) (x * y) = mrA C x y := tab_eq fun q hq => by rw [if_pos (sA_ok hx q hq).1]; rfl
theorem inK_mrD {C : List Nat} {x y : Nat} (hx : 1 ≤ x) : inK (sD x y) C (x * y) (x * y) = mrD C x y := tab_eq fun q hq => by rw [if_pos (sD_ok hx q hq).1]; rfl

/-- a plane that is being turned about, in the variable ob and the block g -/
structure Mo (V T : World) (ob g x y n : Nat) (L : List Nat) : Prop where
  c0 : T.cell? ⟨ob, 0, none⟩ = some (.int .i64 (x : Int))
  c1 : T.cell? ⟨ob, 1, none⟩ = some (.int .i64 (y : Int))
  c2 : T.cell? ⟨ob, 2, none⟩ = some (.slice (some ⟨g, 0, none⟩) n n)
  lt : ob < T.heap.size
  rw : Rw T g L
  ne : g ≠ ob
  hg : V.heap.size ≤ g
  bel : Below V.heap.size V T
theorem Mo.to {V T T' : World} {ob g x y n : Nat} {L : List Nat} (h : Mo V T ob g x y n L) (hb : Below T.heap.size T T') : Mo V T' ob g x y n L :=
  ⟨by rw [newCell hb _ _ h.lt]; exact h.c0, by rw [newCell hb _ _ h.lt]; exact h.c1, by rw [newCell hb _ _ h.lt]; exact h.c2, Nat.lt_of_lt_of_le h.lt hb.size, h.rw.to hb, h.ne, h.hg, below_to h.bel hb⟩
theorem Mo.set {V T : World} {ob g x y n : Nat} {L L' : List Nat} (h : Mo V T ob g x y n L) {k v : Nat} (e : L.set k v = L') : Mo V (T.setCell ⟨g, k, none⟩ (.int .u8 (v : Int))) ob g x y n L' := by
  have hn := h.ne
  refine ⟨?_, ?_, ?_, by simpa using h.lt, by rw [← e]; exact h.rw.set k v, h.ne, h.hg, below_set h.bel h.hg _⟩
  · rw [World.cell?_setCell_other _ _ _ _ (by simp <;> omega)]; exact h.c0
  · rw [World.cell?_setCell_other _ _ _ _ (by simp <;> omega)]; exact h.c1
  · rw [World.cell?_setCell_other _ _ _ _ (by simp <;> omega)]; exact h.c2
/-- what one round reads -/
structure Ms (t : World) (pb ob b q g : Nat) (x y : Nat) (a : Option Addr) (m c n s : Nat) : Prop where
  p0 : t.cell? ⟨pb, 0, none⟩ = some (.int .i64 (x : Int))
  p1 : t.cell? ⟨pb, 1, none⟩ = some (.int .i64 (y : Int))
  p2 : t.cell? ⟨pb, 2, none⟩ = some (.slice a m c)
  o2 : t.cell? ⟨ob, 2, none⟩ = some (.slice (some ⟨g, 0, none⟩) n n)
  s : t.cell? ⟨b, q, none⟩ = some (.int .u8 (s : Nat))
theorem Ms.all {t : World} {pb ob b q g : Nat} {x y : Nat} {a : Option Addr} {m c n s : Nat} (h : Ms t pb ob b q g x y a m c n s) : t.cell? ⟨pb, 0, none⟩ = some (.int .i64 (x : Int)) ∧ t.cell? ⟨pb, 1, none⟩ = some (.int .i64 (y : Int)) ∧ t.cell? ⟨pb, 2, none⟩ = some (.slice a m c) ∧ t.cell? ⟨ob, 2, none⟩ = some (.slice (some ⟨g, 0, none⟩) n n) ∧ t.cell? ⟨b, q, none⟩ = some (.int .u8 (s : Nat)) := ⟨h.p0, h.p1, h.p2, h.o2, h.s⟩
theorem Ms.far {t : World} {pb ob b q g : Nat} {x y : Nat} {a : Option Addr} {m c n s : Nat} (h : Ms t pb ob b q g x y a m c n s) (h1 : pb ≠ g) (h2 : ob ≠ g) (h3 : b ≠ g) (k : Nat) (v : Value) : Ms (t.setCell ⟨g, k, none⟩ v) pb ob b q g x y a m c n s := by
  refine ⟨?_, ?_, ?_, ?_, ?_⟩ <;> rw [World.cell?_setCell_other _ _ _ _ (by simp <;> omega)]
  · exact h.p0
  · exact h.p1
  · exact h.p2
  · exact h.o2
  · exact h.s
theorem Ms.drew {t : World} {pb ob b q g : Nat} {x y : Nat} {a : Option Addr} {m c n s : Nat} (h : Ms t pb ob b q g x y a m c n s) : Ms t.drew pb ob b q g x y a m c n s := ⟨h.p0, h.p1, h.p2, h.o2, h.s⟩
/-- a plane that was turned about -/
def Mn (u w' : World) (e : Ending) (x y : Nat) (L : List Nat) : Prop := ∃ g, e = .returned (.agg #[.int .i64 (x : Int), .int .i64 (y : Int), .slice (some ⟨g, 0, none⟩) L.length L.length]) ∧ Rw w' g L ∧ Below u.heap.size u w'
theorem mo_a {V : World} {x y n : Nat} : Mo V ((V.alloc (.cells (madeCells #[.int .u8 0] n) 5)).alloc (.cells #[.int .i64 (x : Int), .int .i64 (y : Int), .slice (some ⟨V.heap.size, 0, none⟩) n n] 30)) (V.heap.size + 1) V.heap.size x y n (List.replicate n 0) := by
  have hsz : (V.alloc (.cells (madeCells #[.int .u8 0] n) 5)).heap.size = V.heap.size + 1 := by simp
  refine ⟨?_, ?_, ?_, by simp, (Rw.made V n).to (from_alloc _ _), by omega, Nat.le_refl _, to_alloc (from_alloc _ _) _⟩ <;> (rw [← hsz]; simp)
theorem mo_b {V : World} {x y n : Nat} : Mo V ((V.alloc (.cells #[.int .i64 (x : Int), .int .i64 (y : Int), .slice (some ⟨V.heap.size + 1, 0, none⟩) n n] 30)).alloc (.cells (madeCells #[.int .u8 0] n) 5)) V.heap.size (V.heap.size + 1) x y n (List.replicate n 0) := by
  refine ⟨?_, ?_, ?_, by simp; omega, Rw.madeAt _ n (by simp), by omega, by omega, to_alloc (from_alloc _ _) _⟩ <;> (rw [newCell (from_alloc _ _) _ _ (by simp)]; simp)

set_option maxRecDepth 100000 in
set_option maxHeartbeats 4000000 in
theorem mirA {u : World} {a : Option Addr} {c x y : Nat} {C : List Nat} (hs : Sl u .u8 a C) (hC : Byt C) (hx0 : 1 ≤ x) (hx1 : x ≤ 512) (hy0 : 1 ≤ y) (hy1 : y ≤ 512) (hl : C.length = x * y) :
    Calls Tryd.prog 22 #[.agg #[.int .i64 (x : Int), .int .i64 (y : Int), .slice a C.length c], .bool true] u fun e w' => Mn u w' e x y (mrA C x y) := by
  have hnb : C.length ≤ 262144 := by rw [hl]; exact prod_le hx1 hy1
  obtain ⟨b, o, rfl, hbl, hcell⟩ := hs.form (by rw [hl]; exact Nat.mul_pos (by omega) (by omega))
  have HCe : Hid (∀ t : World, Below u.heap.size u t → ∀ k, k < C.length → t.cell? ⟨b, o + k, none⟩ = some (.int .u8 (C.getD k 0 : Nat))) := fun t ht k hk => by rw [newCell ht _ _ hbl]; exact hcell k hk
  have HBl : Hid (b < u.heap.size) := hbl
  have HOk : Hid (∀ q, q < C.length → sA x q < C.length ∧ sA x (sA x q) = q) := by rw [hl]; exact sA_ok hx0
  have HAl : Hid (inK (sA x) C C.length C.length = mrA C x y) := by show _ = _; rw [hl]; exact inK_mrA hx0
  have HBy : Hid (Byt C) := hC
  have HLx : Hid (C.length = x * y) := hl
  have HLr : Hid ((mrA C x y).length = C.length) := by show _ = _; rw [← HAl.out, inK_len]
  have x0 : (1 : Int) ≤ (x : Int) := by omega
  have x1 : (x : Int) ≤ 512 := by omega
  have y0 : (1 : Int) ≤ (y : Int) := by omega
  have y1 : (y : Int) ≤ 512 := by omega
  have n1 : (C.length : Int) ≤ 262144 := by omega
  have mk := fun v => mk_row (n := C.length) (by omega) v
  clear hs hC hcell hbl hl hx0 hx1 hy0 hy1 hnb
  generalize hnn : C.length = n at *
  have HNn : Hid (C.length = n) := hnn
  clear hnn
  go_enter Tryd.func22, Tryd.ntmps22
  go_upto_region 1 with fail
  have HP : Hid (∀ t : World, Below (((u.alloc (.cells #[.int .i64 (x : Int), .int .i64 (y : Int), .slice (some ⟨b, o, none⟩) n c] 30)).alloc (.cells #[.int .i64 0, .int .i64 0, .slice none 0 0] 30))).heap.size (((u.alloc (.cells #[.int .i64 (x : Int), .int .i64 (y : Int), .slice (some ⟨b, o, none⟩) n c] 30)).alloc (.cells #[.int .i64 0, .int .i64 0, .slice none 0 0] 30))) t → t.cell? ⟨u.heap.size, 0, none⟩ = some (.int .i64 (x : Int)) ∧ t.cell? ⟨u.heap.size, 1, none⟩ = some (.int .i64 (y : Int)) ∧ t.cell? ⟨u.heap.size, 2, none⟩ = some (.slice (some ⟨b, o, none⟩) n c) ∧ t.cell? ⟨u.heap.size + 1, 0, none⟩ = some (.int .i64 0) ∧ t.cell? ⟨u.heap.size + 1, 1, none⟩ = some (.int .i64 0) ∧ t.cell? ⟨u.heap.size + 1, 2, none⟩ = some (.slice none 0 0) ∧ (∀ j, t.frozen? ⟨u.heap.size + 1, j, none⟩ = false)) := fun t ht => by
    refine ⟨?_, ?_, ?_, ?_, ?_, ?_, fun j => ?_⟩
    · rw [newCell ht _ _ (by simp; omega)]; simp [go_sem]
    · rw [newCell ht _ _ (by simp; omega)]; simp [go_sem]
    · rw [newCell ht _ _ (by simp; omega)]; simp [go_sem]
    · rw [newCell ht _ _ (by simp)]; simp [go_sem]
    · rw [newCell ht _ _ (by simp)]; simp [go_sem]
    · rw [newCell ht _ _ (by simp)]; simp [go_sem]
    · rw [newFrozen ht _ _ (by simp)]; simp [go_sem]
  have HB0 : Hid (Below u.heap.size u (((u.alloc (.cells #[.int .i64 (x : Int), .int .i64 (y : Int), .slice (some ⟨b, o, none⟩) n c] 30)).alloc (.cells #[.int .i64 0, .int .i64 0, .slice none 0 0] 30)))) := to_alloc (from_alloc _ _) _
  have HZ0 : Hid ((((u.alloc (.cells #[.int .i64 (x : Int), .int .i64 (y : Int), .slice (some ⟨b, o, none⟩) n c] 30)).alloc (.cells #[.int .i64 0, .int .i64 0, .slice none 0 0] 30))).heap.size = u.heap.size + 2) := by show _ = _; simp
  generalize (((u.alloc (.cells #[.int .i64 (x : Int), .int .i64 (y : Int), .slice (some ⟨b, o, none⟩) n c] 30)).alloc (.cells #[.int .i64 0, .int .i64 0, .slice none 0 0] 30))) = V at *
  obtain ⟨p0, p1, p2, _, _, _, _⟩ := HP.out V (Below.refl _ _)
  have hv1 : u.heap.size < V.heap.size := by have := HZ0.out; omega
  go_cut [5] (fun s T => ∃ ob g, s = .pointer (some ⟨ob, 0, none⟩) ∧ Mo V T ob g x y n (List.replicate n 0))
  case first =>
    go_region
    all_goals
      go_wp2_with fail
      go_meet
      first | exact ⟨_, _, rfl, mo_a.to (below_drew (Below.refl _ _))⟩ | exact ⟨_, _, rfl, mo_b.to (below_drew (Below.refl _ _))⟩
  obtain ⟨ob, g, rfl, hmo⟩ := hcut
  have HM : Hid (Mo V wc ob g x y n (inK (sA x) C n 0)) := by show Mo _ _ _ _ _ _ _ _; rw [inK_zero]; exact hmo
  have HNe : Hid (u.heap.size ≠ g ∧ ob ≠ g ∧ b ≠ g) := by
    have h1 := hmo.hg
    have h2 := HZ0.out
    have h3 := HBl.out
    exact ⟨by omega, fun e => hmo.ne e.symm, by omega⟩
  clear hmo mk p0 p1 p2
  go_wp2_with fail
  go_loopw [6] (fun i wr => ∃ k : Nat, k ≤ n ∧ i = .int .i64 k ∧ Mo V wr ob g x y n (inK (sA x) C n k)) (fun i _ => n - (intOf i).toNat)
  case atStart => exact ⟨0, by omega, rfl, HM.out⟩
  case round =>
    clear HM
    obtain ⟨k, hk, rfl, hmo⟩ := hrel
    obtain ⟨p0, p1, p2, _, _, _, _⟩ := HP.out wr hmo.bel
    by_cases hlt : k < n
    · have k0 : (0 : Int) ≤ (k : Int) := by omega
      have k1 : (k : Int) < (n : Int) := by omega
      obtain ⟨r, hr⟩ : ∃ r, r = k % x := ⟨_, rfl⟩
      obtain ⟨d, hd⟩ : ∃ d, d = k / x := ⟨_, rfl⟩
      have hrx : r < x := by rw [hr]; exact Nat.mod_lt _ (by omega)
      have hdy : d < y := by rw [hd]; exact div_of (by rw [← HLx.out]; exact hlt)
      have m1 : (k : Int).tmod (x : Int) = (r : Int) := by rw [hr, Int.tmod_eq_emod_of_nonneg (by omega)]; rfl
      have m2 : (k : Int).tdiv (x : Int) = (d : Int) := by rw [hd, Int.tdiv_eq_ediv_of_nonneg (by omega)]; rfl
      have m3 : (k : Int) % (x : Int) = (r : Int) := by rw [hr]; rfl
      have m4 : (k : Int) / (x : Int) = (d : Int) := by rw [hd]; rfl
      have m5 : ¬ (x : Int) = 0 := by omega
      have m6 : ¬ x = 0 := by omega
      have m7 : IntKind.i64.wrap (d : Int) = (d : Int) := by rw [IntKind.wrap_i64]; omega
      have m8 : IntKind.i64.wrap (r : Int) = (r : Int) := by rw [IntKind.wrap_i64]; omega
      have r1 : (r : Int) < (x : Int) := by omega
      have d1 : (d : Int) < (y : Int) := by omega
      obtain ⟨q, hq⟩ : ∃ q, q = sA x k := ⟨_, rfl⟩
      have hqn : q < n := by rw [hq]; exact (HOk.out k hlt).1
      obtain ⟨z, hz⟩ : ∃ z, z = d * x := ⟨_, rfl⟩
      have HQQ : q = z + (x - 1 - r) := by rw [hq, hz, hd, hr]; rfl
      have t1 : IntKind.i64.wrap ((d : Int) * (x : Int)) = (z : Int) := by rw [← Int.natCast_mul, ← hz, IntKind.wrap_i64]; omega
      have t2 : IntKind.i64.wrap ((z : Int) + (x : Int)) = (z : Int) + (x : Int) := by rw [IntKind.wrap_i64]; omega
      have t3 : IntKind.i64.wrap ((z : Int) + (x : Int) - 1) = (z : Int) + (x : Int) - 1 := by rw [IntKind.wrap_i64]; omega
      have t4 : IntKind.i64.wrap ((z : Int) + (x : Int) - 1 - (r : Int)) = (q : Int) := by rw [IntKind.wrap_i64]; omega
      clear hz
      have q0 : (0 : Int) ≤ (q : Int) := by omega
      have q1 : (q : Int) < (n : Int) := by omega
      have HMk : Hid (Mo V wr ob g x y n (inK (sA x) C n k)) := hmo
      have HSt : Hid ((inK (sA x) C n k).set q (C.getD k 0) = inK (sA x) C n (k + 1)) := by show _ = _; rw [hq]; exact inK_set HOk.out hlt
      have HSm : Hid (Ms wr u.heap.size ob b (o + k) g x y (some ⟨b, o, none⟩) n c n (C.getD k 0)) := ⟨p0, p1, p2, hmo.c2, HCe.out wr (below_to HB0.out hmo.bel) k hlt⟩
      have hvb := HBy.out k
      generalize C.getD k 0 = val at *
      have v1 : (val : Int) < 256 := by omega
      clear hmo hr hd hq hrx hdy hqn HQQ
      go_wp2_with fail
      go_quiet (fail)
      have HMq : Hid (Mo V (wr.drewN nq) ob g x y n (inK (sA x) C n k)) := HMk.out.to (below_drewN (Below.refl _ _) nq)
      have HSq : Hid (Ms (wr.drewN nq) u.heap.size ob b (o + k) g x y (some ⟨b, o, none⟩) n c n val) := ⟨HSm.out.p0, HSm.out.p1, HSm.out.p2, HSm.out.o2, HSm.out.s⟩
      generalize wr.drewN nq = wq at *
      clear HMk HSm p0 p1 p2
      go_upto_region 7 with fail
      have c0 : wq.drew.cell? ⟨g, q, none⟩ = some (.int .u8 ((inK (sA x) C n k).getD q 0 : Nat)) := HMq.out.rw.cell q (by rw [inK_len]; omega)
      have c1 : wq.drew.frozen? ⟨g, q, none⟩ = false := HMq.out.rw.thaw q
      have c2 : wq.cell? ⟨g, q, none⟩ = some (.int .u8 ((inK (sA x) C n k).getD q 0 : Nat)) := c0
      have c3 : wq.frozen? ⟨g, q, none⟩ = false := c1
      generalize (inK (sA x) C n k).getD q 0 = old at *
      obtain ⟨ne1, ne2, ne3⟩ := HNe.out
      go_region_held3 (fun t => t.cell? ⟨u.heap.size, 0, none⟩ = some (.int .i64 (x : Int)) ∧ t.cell? ⟨u.heap.size, 1, none⟩ = some (.int .i64 (y : Int)) ∧ t.cell? ⟨u.heap.size, 2, none⟩ = some (.slice (some ⟨b, o, none⟩) n c) ∧ t.cell? ⟨ob, 2, none⟩ = some (.slice (some ⟨g, 0, none⟩) n n) ∧ t.cell? ⟨b, o + k, none⟩ = some (.int .u8 (val : Nat))) ((first | (with_reducible exact HSq.out.drew.all) | (with_reducible exact (HSq.out.far ne1 ne2 ne3 _ _).drew.all) | (with_reducible exact (HSq.out.drew.far ne1 ne2 ne3 _ _).all))) ((fail))
      all_goals
        have HMn : Hid (Mo V (wq.setCell ⟨g, q, none⟩ (.int .u8 (val : Int))).drew ob g x y n (inK (sA x) C n (k + 1))) := (HMq.out.set HSt.out).to (below_drew (Below.refl _ _))
        clear HMq HSq
        go_wp2_with fail
        go_roundw
        case rel => exact ⟨k + 1, by omega, by go_num, HMn.out⟩
        case measure => simp [intOf]; omega
    · obtain rfl : k = n := by omega
      obtain ⟨_, _, _, e0, e1, e2, ef⟩ := HP.out wr hmo.bel
      have f0 := ef 0
      have f1 := ef 1
      have f2 := ef 2
      have d0 := hmo.c0
      have d1 := hmo.c1
      have d2 := hmo.c2
      rw [HAl.out] at hmo
      have HR : Hid (Rw wr g (mrA C x y)) := hmo.rw
      have HB : Hid (Below u.heap.size u wr) := below_to HB0.out hmo.bel
      have HNg : Hid (g ≠ u.heap.size + 1) := by
        have h1 := hmo.hg
        have h2 := HZ0.out
        show _ ≠ _
        omega
      clear hmo ef
      go_wp2_with fail
      refine bodyPost_ret (v := .agg #[.int .i64 (x : Int), .int .i64 (y : Int), .slice (some ⟨g, 0, none⟩) k k]) (by simp [results, Tryd.results22, go_sem, e0, e1, e2]) rfl ⟨g, by rw [HLr.out], ((HR.out.far HNg.out _).far HNg.out _).far HNg.out _, below_set (below_set (below_set HB.out (by simp) _) (by simp) _) (by simp) _⟩

set_option maxRecDepth 100000 in
set_option maxHeartbeats 4000000 in
theorem mirD {u : World} {a : Option Addr} {c x y : Nat} {C : List Nat} (hs : Sl u .u8 a C) (hC : Byt C) (hx0 : 1 ≤ x) (hx1 : x ≤ 512) (hy0 : 1 ≤ y) (hy1 : y ≤ 512) (hl : C.length = x * y) :
    Calls Tryd.prog 22 #[.agg #[.int .i64 (x : Int), .int .i64 (y : Int), .slice a C.length c], .bool false] u fun e w' => Mn u w' e x y (mrD C x y) := by
  have hnb : C.length ≤ 262144 := by rw [hl]; exact prod_le hx1 hy1
  obtain ⟨b, o, rfl, hbl, hcell⟩ := hs.form (by rw [hl]; exact Nat.mul_pos (by omega) (by omega))
  have HCe : Hid (∀ t : World, Below u.heap.size u t → ∀ k, k < C.length → t.cell? ⟨b, o + k, none⟩ = some (.int .u8 (C.getD k 0 : Nat))) := fun t ht k hk => by rw [newCell ht _ _ hbl]; exact hcell k hk
  have HBl : Hid (b < u.heap.size) := hbl
  have HOk : Hid (∀ q, q < C.length → sD x y q < C.length ∧ sD x y (sD x y q) = q) := by rw [hl]; exact sD_ok hx0
  have HAl : Hid (inK (sD x y) C C.length C.length = mrD C x y) := by show _ = _; rw [hl]; exact inK_mrD hx0
  have HBy : Hid (Byt C) := hC
  have HLx : Hid (C.length = x * y) := hl
  have HLr : Hid ((mrD C x y).length = C.length) := by show _ = _; rw [← HAl.out, inK_len]
  have x0 : (1 : Int) ≤ (x : Int) := by omega
  have x1 : (x : Int) ≤ 512 := by omega
  have y0 : (1 : Int) ≤ (y : Int) := by omega
  have y1 : (y : Int) ≤ 512 := by omega
  have n1 : (C.length : Int) ≤ 262144 := by omega
  have mk := fun v => mk_row (n := C.length) (by omega) v
  clear hs hC hcell hbl hl hx0 hx1 hy0 hy1 hnb
  generalize hnn : C.length = n at *
  have HNn : Hid (C.length = n) := hnn
  clear hnn
  go_enter Tryd.func22, Tryd.ntmps22
  go_upto_region 1 with fail
  have HP : Hid (∀ t : World, Below (((u.alloc (.cells #[.int .i64 (x : Int), .int .i64 (y : Int), .slice (some ⟨b, o, none⟩) n c] 30)).alloc (.cells #[.int .i64 0, .int .i64 0, .slice none 0 0] 30))).heap.size (((u.alloc (.cells #[.int .i64 (x : Int), .int .i64 (y : Int), .slice (some ⟨b, o, none⟩) n c] 30)).alloc (.cells #[.int .i64 0, .int .i64 0, .slice none 0 0] 30))) t → t.cell? ⟨u.heap.size, 0, none⟩ = some (.int .i64 (x : Int)) ∧ t.cell? ⟨u.heap.size, 1, none⟩ = some (.int .i64 (y : Int)) ∧ t.cell? ⟨u.heap.size, 2, none⟩ = some (.slice (some ⟨b, o, none⟩) n c) ∧ t.cell? ⟨u.heap.size + 1, 0, none⟩ = some (.int .i64 0) ∧ t.cell? ⟨u.heap.size + 1, 1, none⟩ = some (.int .i64 0) ∧ t.cell? ⟨u.heap.size + 1, 2, none⟩ = some (.slice none 0 0) ∧ (∀ j, t.frozen? ⟨u.heap.size + 1, j, none⟩ = false)) := fun t ht => by
    refine ⟨?_, ?_, ?_, ?_, ?_, ?_, fun j => ?_⟩
    · rw [newCell ht _ _ (by simp; omega)]; simp [go_sem]
    · rw [newCell ht _ _ (by simp; omega)]; simp [go_sem]
    · rw [newCell ht _ _ (by simp; omega)]; simp [go_sem]
    · rw [newCell ht _ _ (by simp)]; simp [go_sem]
    · rw [newCell ht _ _ (by simp)]; simp [go_sem]
    · rw [newCell ht _ _ (by simp)]; simp [go_sem]
    · rw [newFrozen ht _ _ (by simp)]; simp [go_sem]
  have HB0 : Hid (Below u.heap.size u (((u.alloc (.cells #[.int .i64 (x : Int), .int .i64 (y : Int), .slice (some ⟨b, o, none⟩) n c] 30)).alloc (.cells #[.int .i64 0, .int .i64 0, .slice none 0 0] 30)))) := to_alloc (from_alloc _ _) _
  have HZ0 : Hid ((((u.alloc (.cells #[.int .i64 (x : Int), .int .i64 (y : Int), .slice (some ⟨b, o, none⟩) n c] 30)).alloc (.cells #[.int .i64 0, .int .i64 0, .slice none 0 0] 30))).heap.size = u.heap.size + 2) := by show _ = _; simp
  generalize (((u.alloc (.cells #[.int .i64 (x : Int), .int .i64 (y : Int), .slice (some ⟨b, o, none⟩) n c] 30)).alloc (.cells #[.int .i64 0, .int .i64 0, .slice none 0 0] 30))) = V at *
  obtain ⟨p0, p1, p2, _, _, _, _⟩ := HP.out V (Below.refl _ _)
  have hv1 : u.heap.size < V.heap.size := by have := HZ0.out; omega
  go_cut [5] (fun s T => ∃ ob g, s = .pointer (some ⟨ob, 0, none⟩) ∧ Mo V T ob g x y n (List.replicate n 0))
  case first =>
    go_region
    all_goals
      go_wp2_with fail
      go_meet
      first | exact ⟨_, _, rfl, mo_a.to (below_drew (Below.refl _ _))⟩ | exact ⟨_, _, rfl, mo_b.to (below_drew (Below.refl _ _))⟩
  obtain ⟨ob, g, rfl, hmo⟩ := hcut
  have HM : Hid (Mo V wc ob g x y n (inK (sD x y) C n 0)) := by show Mo _ _ _ _ _ _ _ _; rw [inK_zero]; exact hmo
  have HNe : Hid (u.heap.size ≠ g ∧ ob ≠ g ∧ b ≠ g) := by
    have h1 := hmo.hg
    have h2 := HZ0.out
    have h3 := HBl.out
    exact ⟨by omega, fun e => hmo.ne e.symm, by omega⟩
  clear hmo mk p0 p1 p2
  go_wp2_with fail
  go_loopw [6] (fun i wr => ∃ k : Nat, k ≤ n ∧ i = .int .i64 k ∧ Mo V wr ob g x y n (inK (sD x y) C n k)) (fun i _ => n - (intOf i).toNat)
  case atStart => exact ⟨0, by omega, rfl, HM.out⟩
  case round =>
    clear HM
    obtain ⟨k, hk, rfl, hmo⟩ := hrel
    obtain ⟨p0, p1, p2, _, _, _, _⟩ := HP.out wr hmo.bel
    by_cases hlt : k < n
    · have k0 : (0 : Int) ≤ (k : Int) := by omega
      have k1 : (k : Int) < (n : Int) := by omega
      obtain ⟨r, hr⟩ : ∃ r, r = k % x := ⟨_, rfl⟩
      obtain ⟨d, hd⟩ : ∃ d, d = k / x := ⟨_, rfl⟩
      have hrx : r < x := by rw [hr]; exact Nat.mod_lt _ (by omega)
      have hdy : d < y := by rw [hd]; exact div_of (by rw [← HLx.out]; exact hlt)
      have m1 : (k : Int).tmod (x : Int) = (r : Int) := by rw [hr, Int.tmod_eq_emod_of_nonneg (by omega)]; rfl
      have m2 : (k : Int).tdiv (x : Int) = (d : Int) := by rw [hd, Int.tdiv_eq_ediv_of_nonneg (by omega)]; rfl
      have m3 : (k : Int) % (x : Int) = (r : Int) := by rw [hr]; rfl
      have m4 : (k : Int) / (x : Int) = (d : Int) := by rw [hd]; rfl
      have m5 : ¬ (x : Int) = 0 := by omega
      have m6 : ¬ x = 0 := by omega
      have m7 : IntKind.i64.wrap (d : Int) = (d : Int) := by rw [IntKind.wrap_i64]; omega
      have m8 : IntKind.i64.wrap (r : Int) = (r : Int) := by rw [IntKind.wrap_i64]; omega
      have r1 : (r : Int) < (x : Int) := by omega
      have d1 : (d : Int) < (y : Int) := by omega
      obtain ⟨q, hq⟩ : ∃ q, q = sD x y k := ⟨_, rfl⟩
      have hqn : q < n := by rw [hq]; exact (HOk.out k hlt).1
      obtain ⟨z, hz⟩ : ∃ z, z = (y - 1 - d) * x := ⟨_, rfl⟩
      have HQQ : q = z + r := by rw [hq, hz, hd, hr]; rfl
      have e1 : (y : Int) - 1 - (d : Int) = ((y - 1 - d : Nat) : Int) := by omega
      have t1 : IntKind.i64.wrap ((y : Int) - 1) = (y : Int) - 1 := by rw [IntKind.wrap_i64]; omega
      have t2 : IntKind.i64.wrap ((y : Int) - 1 - (d : Int)) = ((y - 1 - d : Nat) : Int) := by rw [IntKind.wrap_i64]; omega
      have t3 : IntKind.i64.wrap (((y - 1 - d : Nat) : Int) * (x : Int)) = (z : Int) := by rw [← Int.natCast_mul, ← hz, IntKind.wrap_i64]; omega
      have t4 : IntKind.i64.wrap ((z : Int) + (r : Int)) = (q : Int) := by rw [IntKind.wrap_i64]; omega
      clear hz e1
      generalize y - 1 - d = yd at *
      have q0 : (0 : Int) ≤ (q : Int) := by omega
      have q1 : (q : Int) < (n : Int) := by omega
      have HMk : Hid (Mo V wr ob g x y n (inK (sD x y) C n k)) := hmo
      have HSt : Hid ((inK (sD x y) C n k).set q (C.getD k 0) = inK (sD x y) C n (k + 1)) := by show _ = _; rw [hq]; exact inK_set HOk.out hlt
      have HSm : Hid (Ms wr u.heap.size ob b (o + k) g x y (some ⟨b, o, none⟩) n c n (C.getD k 0)) := ⟨p0, p1, p2, hmo.c2, HCe.out wr (below_to HB0.out hmo.bel) k hlt⟩
      have hvb := HBy.out k
      generalize C.getD k 0 = val at *
      have v1 : (val : Int) < 256 := by omega
      clear hmo hr hd hq hrx hdy hqn HQQ
      go_wp2_with fail
      go_quiet (fail)
      have HMq : Hid (Mo V (wr.drewN nq) ob g x y n (inK (sD x y) C n k)) := HMk.out.to (below_drewN (Below.refl _ _) nq)
      have HSq : Hid (Ms (wr.drewN nq) u.heap.size ob b (o + k) g x y (some ⟨b, o, none⟩) n c n val) := ⟨HSm.out.p0, HSm.out.p1, HSm.out.p2, HSm.out.o2, HSm.out.s⟩
      generalize wr.drewN nq = wq at *
      clear HMk HSm p0 p1 p2
      go_upto_region 8 with fail
      have c0 : wq.drew.cell? ⟨g, q, none⟩ = some (.int .u8 ((inK (sD x y) C n k).getD q 0 : Nat)) := HMq.out.rw.cell q (by rw [inK_len]; omega)
      have c1 : wq.drew.frozen? ⟨g, q, none⟩ = false := HMq.out.rw.thaw q
      have c2 : wq.cell? ⟨g, q, none⟩ = some (.int .u8 ((inK (sD x y) C n k).getD q 0 : Nat)) := c0
      have c3 : wq.frozen? ⟨g, q, none⟩ = false := c1
      generalize (inK (sD x y) C n k).getD q 0 = old at *
      obtain ⟨ne1, ne2, ne3⟩ := HNe.out
      go_region_held3 (fun t => t.cell? ⟨u.heap.size, 0, none⟩ = some (.int .i64 (x : Int)) ∧ t.cell? ⟨u.heap.size, 1, none⟩ = some (.int .i64 (y : Int)) ∧ t.cell? ⟨u.heap.size, 2, none⟩ = some (.slice (some ⟨b, o, none⟩) n c) ∧ t.cell? ⟨ob, 2, none⟩ = some (.slice (some ⟨g, 0, none⟩) n n) ∧ t.cell? ⟨b, o + k, none⟩ = some (.int .u8 (val : Nat))) ((first | (with_reducible exact HSq.out.drew.all) | (with_reducible exact (HSq.out.far ne1 ne2 ne3 _ _).drew.all) | (with_reducible exact (HSq.out.drew.far ne1 ne2 ne3 _ _).all))) ((fail))
      all_goals
        have HMn : Hid (Mo V (wq.setCell ⟨g, q, none⟩ (.int .u8 (val : Int))).drew ob g x y n (inK (sD x y) C n (k + 1))) := (HMq.out.set HSt.out).to (below_drew (Below.refl _ _))
        clear HMq HSq
        go_wp2_with fail
        go_roundw
        case rel => exact ⟨k + 1, by omega, by go_num, HMn.out⟩
        case measure => simp [intOf]; omega
    · obtain rfl : k = n := by omega
      obtain ⟨_, _, _, e0, e1, e2, ef⟩ := HP.out wr hmo.bel
      have f0 := ef 0
      have f1 := ef 1
      have f2 := ef 2
      have d0 := hmo.c0
      have d1 := hmo.c1
      have d2 := hmo.c2
      rw [HAl.out] at hmo
      have HR : Hid (Rw wr g (mrD C x y)) := hmo.rw
      have HB : Hid (Below u.heap.size u wr) := below_to HB0.out hmo.bel
      have HNg : Hid (g ≠ u.heap.size + 1) := by
        have h1 := hmo.hg
        have h2 := HZ0.out
        show _ ≠ _
        omega
      clear hmo ef
      go_wp2_with fail
      refine bodyPost_ret (v := .agg #[.int .i64 (x : Int), .int .i64 (y : Int), .slice (some ⟨g, 0, none⟩) k k]) (by simp [results, Tryd.results22, go_sem, e0, e1, e2]) rfl ⟨g, by rw [HLr.out], ((HR.out.far HNg.out _).far HNg.out _).far HNg.out _, below_set (below_set (below_set HB.out (by simp) _) (by simp) _) (by simp) _⟩

end Go.Proofs.YtgmdanipcnkhdaaDoor
