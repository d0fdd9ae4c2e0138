/- DERIVED. A tree that is gone through: what there is in memory beside it; the closure that picks. -/
import Derived.Test.YtjijgeeejhijhaaCe
import Derived.Deep.DeepCutAuto
import Derived.Deep.Light
namespace Go.Proofs.Ytjijgeeejhijhaa
open Go.RowKit

/-- blocks that stay -/
structure Kz (Z : Nat → Prop) (w w' : World) : Prop where
  os : w'.os = w.os
  tape : w'.tape = w.tape
  output : w'.output = w.output
  size : w.heap.size ≤ w'.heap.size
  block : ∀ i, Z i → w'.heap[i]? = w.heap[i]?
theorem Kz.refl (Z : Nat → Prop) (w : World) : Kz Z w w := ⟨rfl, rfl, rfl, Nat.le_refl _, fun _ _ => rfl⟩
theorem Kz.trans {Z : Nat → Prop} {a b c : World} (h : Kz Z a b) (k : Kz Z b c) : Kz Z a c := ⟨k.os.trans h.os, k.tape.trans h.tape, k.output.trans h.output, Nat.le_trans h.size k.size, fun i hi => (k.block i hi).trans (h.block i hi)⟩
theorem Kz.ofBelow {Z : Nat → Prop} {a b : World} (hz : ∀ i, Z i → i < a.heap.size) (h : Below a.heap.size a b) : Kz Z a b := ⟨h.os, h.tape, h.output, h.size, fun i hi => h.block i (hz i hi)⟩
theorem Kz.set {Z : Nat → Prop} (w : World) (p o : Nat) (hp : ¬ Z p) (v : Value) : Kz Z w (w.setCell ⟨p, o, none⟩ v) :=
  ⟨by simp [World.setCell], by simp [World.setCell], by simp [World.setCell], by simp, fun i hi => Below.heap_setCell _ _ _ _ (fun e => hp (by have e' : i = p := e; rw [← e']; exact hi))⟩
theorem Kz.mono {Z Z' : Nat → Prop} {a b : World} (h : Kz Z' a b) (hz : ∀ i, Z i → Z' i) : Kz Z a b := ⟨h.os, h.tape, h.output, h.size, fun i hi => h.block i (hz i hi)⟩
theorem Kz.cell {Z : Nat → Prop} {a b : World} (h : Kz Z a b) {p o : Nat} (hp : Z p) : b.cell? ⟨p, o, none⟩ = a.cell? ⟨p, o, none⟩ := World.cell?_of_block (h.block p hp)
/-- where the closures' variables lie -/
structure Ad where
  pa : Nat
  pu : Nat
  pc : Nat
  pp : Nat
  pl : Nat
  pg : Nat
  ca : Option Addr
  cc : Nat
  ar : Rc
  C : List Int
/-- what stays -/
structure Zs (A : Ad) (Z : Nat → Prop) : Prop where
  za : Z A.pa
  zc : Z A.pc
  zp : Z A.pp
  zg : Z A.pg
  zd : ∀ b o s, A.C ≠ [] → A.ca = some ⟨b, o, s⟩ → Z b
  nu : ¬ Z A.pu
  nl : ¬ Z A.pl
  ne : A.pu ≠ A.pl
def pkF (A : Ad) : Value := .func (.func 30) #[] #[.pointer (some ⟨A.pu, 0, none⟩), .pointer (some ⟨A.pc, 0, none⟩)]
def grF (A : Ad) : Value := .func (.func 31) #[] #[.pointer (some ⟨A.pa, 0, none⟩), .pointer (some ⟨A.pp, 0, none⟩), .pointer (some ⟨A.pl, 0, none⟩), .pointer (some ⟨A.pg, 0, none⟩)]
structure St (A : Ad) (Z : Nat → Prop) (w : World) (L : List Rc) (u : Nat) : Prop where
  zlt : ∀ i, Z i → i < w.heap.size
  area : Cl4 w A.pa 0 A.ar
  used : w.cell? ⟨A.pu, 0, none⟩ = some (.int .i64 (u : Int))
  usedf : w.frozen? ⟨A.pu, 0, none⟩ = false
  ult : A.pu < w.heap.size
  ch : w.cell? ⟨A.pc, 0, none⟩ = some (.slice A.ca A.C.length A.cc)
  si : Si w A.ca A.C
  pick : w.cell? ⟨A.pp, 0, none⟩ = some (pkF A)
  grow : w.cell? ⟨A.pg, 0, none⟩ = some (grF A)
  leaf : ∃ v, w.cell? ⟨A.pl, 0, none⟩ = some v ∧ Or4 w 0 v L ∧ ∀ g, v.ownBlock = some g → ¬ Z g ∧ g ≠ A.pl ∧ g ≠ A.pu
  leaff : w.frozen? ⟨A.pl, 0, none⟩ = false
  llt : A.pl < w.heap.size
  le : u ≤ A.C.length
theorem si_zs {A : Ad} {Z : Nat → Prop} (hz : Zs A Z) {w w' : World} (h : Si w A.ca A.C) (hk : Kz Z w w') : Si w' A.ca A.C := by
  rcases h with h | ⟨b, o, h1, h2, h3⟩
  · exact Or.inl h
  · by_cases hC : A.C = []
    · exact Or.inl hC
    · exact Or.inr ⟨b, o, h1, Nat.lt_of_lt_of_le h2 hk.size, fun j hj => by rw [hk.cell (hz.zd b o none hC h1)]; exact h3 j hj⟩
/-- calls that only make memory -/
theorem St.to {A : Ad} {Z : Nat → Prop} {w w' : World} {L : List Rc} {u : Nat} (hz : Zs A Z) (h : St A Z w L u) (hb : Below w.heap.size w w') : St A Z w' L u := by
  obtain ⟨v, h1, h2, h3⟩ := h.leaf
  have hk := Kz.ofBelow h.zlt hb
  exact ⟨fun i hi => Nat.lt_of_lt_of_le (h.zlt i hi) hb.size, h.area.below hb (h.zlt _ hz.za), by rw [newCell hb _ _ h.ult]; exact h.used, by rw [newFrozen hb _ _ h.ult]; exact h.usedf, Nat.lt_of_lt_of_le h.ult hb.size,
    by rw [hk.cell hz.zc]; exact h.ch, si_zs hz h.si hk, by rw [hk.cell hz.zp]; exact h.pick, by rw [hk.cell hz.zg]; exact h.grow, ⟨v, by rw [newCell hb _ _ h.llt]; exact h1, h2.to hb, h3⟩, by rw [newFrozen hb _ _ h.llt]; exact h.leaff, Nat.lt_of_lt_of_le h.llt hb.size, h.le⟩
theorem Or4.lt {w : World} {B : Nat} {v : Value} {C : List Rc} (h : Or4 w B v C) {g : Nat} (hg : v.ownBlock = some g) : g < w.heap.size := (h.own.lt g hg).2
/-- one more choice is used -/
theorem St.use {A : Ad} {Z : Nat → Prop} {w : World} {L : List Rc} {u u' : Nat} (hz : Zs A Z) (h : St A Z w L u) (hu : u' ≤ A.C.length) : St A Z (w.setCell ⟨A.pu, 0, none⟩ (.int .i64 (u' : Int))) L u' := by
  obtain ⟨v, h1, h2, h3⟩ := h.leaf
  have hk := Kz.set (Z := Z) w A.pu 0 hz.nu (.int .i64 (u' : Int))
  have na : A.pa ≠ A.pu := fun e => hz.nu (e ▸ hz.za)
  exact ⟨fun i hi => by simpa using h.zlt i hi, h.area.far na _, World.cell?_setCell_same _ _ _ h.used, by rw [World.frozen?_setCell]; exact h.usedf, by simpa using h.ult,
    by rw [hk.cell hz.zc]; exact h.ch, si_zs hz h.si hk, by rw [hk.cell hz.zp]; exact h.pick, by rw [hk.cell hz.zg]; exact h.grow,
    ⟨v, by rw [World.cell?_setCell_other _ _ _ _ (fun e => hz.ne (by simpa using congrArg Addr.block e))]; exact h1, h2.carry (fun g hg => Below.heap_setCell _ _ _ _ (fun e => (h3 g hg).2.2 e)), h3⟩, by rw [World.frozen?_setCell]; exact h.leaff, by simpa using h.llt, hu⟩
theorem St.sub {A : Ad} {Z Z' : Nat → Prop} {w : World} {L : List Rc} {u : Nat} (h : St A Z' w L u) (hz : ∀ i, Z i → Z' i) : St A Z w L u := by
  obtain ⟨v, h1, h2, h3⟩ := h.leaf
  exact ⟨fun i hi => h.zlt i (hz i hi), h.area, h.used, h.usedf, h.ult, h.ch, h.si, h.pick, h.grow, ⟨v, h1, h2, fun g hg => ⟨fun q => (h3 g hg).1 (hz g q), (h3 g hg).2⟩⟩, h.leaff, h.llt, h.le⟩

theorem rem_fix {c t : Int} (h : 0 < t) : (c.tmod t + t) % t = c % t := by
  have h1 := Int.tmod_lt_of_pos c h
  have h2 : -t < c.tmod t := by have := Int.lt_tmod_of_pos c h; omega
  rw [Int.add_emod_right, ← tmod_fix c t h]
  by_cases h3 : c.tmod t < 0
  · rw [if_pos h3]
    have : c.tmod t % t = (c.tmod t + t) % t := by rw [Int.add_emod_right]
    rw [this, Int.emod_eq_of_lt (by omega) (by omega)]
  · rw [if_neg h3, Int.emod_eq_of_lt (by omega) h1]
set_option maxRecDepth 100000 in
set_option maxHeartbeats 2000000 in
theorem pick_any {A : Ad} {Z : Nat → Prop} {w : World} {L : List Rc} {u k : Nat} (hz : Zs A Z) (h : St A Z w L u) (hk : k < 4) (h0 : 0 < k) (hl : A.C.length ≤ 140737488355328) :
    Calls Try.prog 30 #[.int .i64 (sd k), .pointer (some ⟨A.pu, 0, none⟩), .pointer (some ⟨A.pc, 0, none⟩)] w fun e w' => e = .returned (.int .i64 ((pkV k A.C u : Nat) : Int)) ∧ St A Z w' L (pkU A.C u) ∧ Kz Z w w' := by
  have HTy : Hid (∀ u, Calls Try.prog 9 #[.int .i64 (sd k)] u fun e w' => e = .returned (.tuple #[.int .i64 (ty k), .int .i64 0]) ∧ u = w') := fun u => by
    have := types_any (w := u) (s := sd k)
    rwa [tyN_sd hk, erS_0 (by rcases sd_cases hk with q | q | q | q <;> omega)] at this
  have t1 : 1 < ty k := by
    match k, h0, hk with
    | 1, _, _ | 2, _, _ | 3, _, _ => decide
  have t10 := ty_le k
  have c0 := h.used
  have c1 := h.ch
  have f0 := h.usedf
  have hle := h.le
  by_cases hu : u < A.C.length
  · have HU : Hid (St A Z (w.setCell ⟨A.pu, 0, none⟩ (.int .i64 ((u + 1 : Nat) : Int))) L (u + 1)) := h.use hz (by omega)
    have HK : Hid (Kz Z w (w.setCell ⟨A.pu, 0, none⟩ (.int .i64 ((u + 1 : Nat) : Int)))) := Kz.set _ _ _ hz.nu _
    obtain ⟨b, o, e1, hbl, hc⟩ := h.si.form (by omega)
    have c2 := hc u hu
    have hbn : b ≠ A.pu := fun e => hz.nu (e ▸ hz.zd b o none (fun q => by rw [q] at hu; simp at hu) e1)
    have hnc : A.pc ≠ A.pu := fun e => hz.nu (e ▸ hz.zc)
    rw [e1] at c1
    have HV : Hid (((pkV k A.C u : Nat) : Int) = ((A.C.getD u 0).tmod (ty k) + ty k) % ty k) := by
      show _ = _
      rw [rem_fix (by omega)]
      unfold pkV
      rw [if_pos hu, Int.toNat_of_nonneg (Int.emod_nonneg _ (by omega))]
    have HPU : Hid (pkU A.C u = u + 1) := by show _ = _; unfold pkU; rw [if_pos hu]
    have r1 := Int.tmod_lt_of_pos (A.C.getD u 0) (show 0 < ty k by omega)
    have r2 : -ty k < (A.C.getD u 0).tmod (ty k) := by have := Int.lt_tmod_of_pos (A.C.getD u 0) (show 0 < ty k by omega); omega
    have w0 : (u : Int) < (A.C.length : Int) := by omega
    have w1 : (0 : Int) ≤ (u : Int) := by omega
    have w2 : (A.C.length : Int) ≤ 140737488355328 := by omega
    generalize A.C.getD u 0 = cv at *
    generalize hm : cv.tmod (ty k) = m at *
    generalize ty k = tk at *
    have w3 : tk ≠ 0 := by omega
    have w4 : (tk == 1) = false := by rw [beq_eq_false_iff_ne]; omega
    have hm' : Hid (m = cv.tmod tk) := hm.symm
    generalize sd k = sk at *
    have hnu : ((u : Int) == (A.C.length : Int)) = false := by rw [beq_eq_false_iff_ne]; omega
    generalize A.C.length = cl at *
    generalize A.pu = pu at *
    generalize A.pc = pc at *
    clear h hle hl hc e1 hu h0 hk
    go_enter Try.func30, Try.ntmps30
    go_wp2_with (refine (HTy.out _).mono ?_; rintro e w5 ⟨rfl, rfl⟩)
    go_ret
    exact ⟨by rw [HV.out]; rfl, by rw [HPU.out]; exact HU.out, HK.out⟩
  · have HU : Hid (St A Z w L (pkU A.C u)) := by show St _ _ _ _ _; unfold pkU; rw [if_neg hu]; exact h
    have HV : Hid (pkV k A.C u = 0) := by show _ = _; unfold pkV; rw [if_neg hu]
    have hnu : ((u : Int) == (A.C.length : Int)) = true := by rw [beq_iff_eq]; omega
    have w4 : (ty k == 1) = false := by rw [beq_eq_false_iff_ne]; omega
    generalize ty k = tk at *
    generalize sd k = sk at *
    clear h hle hl hu h0 hk
    go_enter Try.func30, Try.ntmps30
    go_wp2_with (refine (HTy.out _).mono ?_; rintro e w5 ⟨rfl, rfl⟩)
    go_ret
    exact ⟨by rw [HV.out]; rfl, HU.out, Kz.refl _ _⟩
set_option maxRecDepth 100000 in
set_option maxHeartbeats 1000000 in
theorem pick_0 {w : World} {p q : Nat} : Calls Try.prog 30 #[.int .i64 8, .pointer (some ⟨p, 0, none⟩), .pointer (some ⟨q, 0, none⟩)] w fun e w' => e = .returned (.int .i64 0) ∧ w = w' := by
  have HTy : Hid (∀ u, Calls Try.prog 9 #[.int .i64 8] u fun e w' => e = .returned (.tuple #[.int .i64 1, .int .i64 0]) ∧ u = w') := fun u => types_any (w := u) (s := 8)
  go_enter Try.func30, Try.ntmps30
  go_wp2_with (refine (HTy.out _).mono ?_; rintro e w5 ⟨rfl, rfl⟩)
  go_ret
  exact ⟨rfl, rfl⟩
end Go.Proofs.Ytjijgeeejhijhaa
