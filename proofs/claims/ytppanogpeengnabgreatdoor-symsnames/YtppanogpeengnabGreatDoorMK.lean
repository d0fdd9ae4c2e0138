/- DERIVED. Several texts in one: The walk of SymsLearn. The walks of the document's Log and Adapt. The walk of the document's Same, of two sets that have the same numbers. -/
import Derived.Test.YtppanogpeengnabGreatDoorSy
import Derived.Deep.RegionHeld3
import Derived.Test.YtppanogpeengnabGreatDoorMA
import Derived.Test.YtppanogpeengnabGreatDoorMC
namespace Go.Proofs.YtppanogpeengnabGreatDoor
open Go.RowKit L3

/-- a row of ints that came in -/
def Si (w : World) (a : Option Addr) (C : List Int) : Prop :=
  C = [] ∨ ∃ b o, a = some ⟨b, o, none⟩ ∧ b < w.heap.size ∧ ∀ j, j < C.length → w.cell? ⟨b, o + j, none⟩ = some (.int .i64 (C.getD j 0))
theorem Si.at {w : World} {a : Option Addr} {C : List Int} (h : Si w a C) {j : Nat} (hj : j < C.length) : ∃ b o, a = some ⟨b, o, none⟩ ∧ b < w.heap.size ∧ ∀ v, Below w.heap.size w v → v.cell? ⟨b, o + j, none⟩ = some (.int .i64 (C.getD j 0)) := by
  rcases h with rfl | ⟨b, o, h1, h2, h3⟩
  · simp at hj
  · exact ⟨b, o, h1, h2, fun v hv => by rw [newCell hv _ _ h2]; exact h3 j hj⟩
theorem mK_again (k : Int) : mK ((mK k : Nat) : Int) = mK k := by unfold mK; omega
theorem mC_again (k c : Int) : mC ((mK k : Nat) : Int) ((mC k c : Nat) : Int) = mC k c := by
  have h1 := mC_lt k c
  have h2 := (sC_le _ (mK_lt k)).2
  have e : mC ((mK k : Nat) : Int) ((mC k c : Nat) : Int) = (((mC k c : Nat) : Int) % 65536).toNat % sC (mK ((mK k : Nat) : Int)) := rfl
  rw [e, mK_again, show (((mC k c : Nat) : Int) % 65536).toNat = mC k c from by omega, Nat.mod_eq_of_lt h1]
theorem mW_again (k v : Int) : mW ((mK k : Nat) : Int) v = mW k v := by unfold mW; rw [mK_again]

theorem fld4 (v0 v1 v2 v3 v4 : Value) (w : World) : (Instr.field 49 (.agg #[v0, v1, v2, v3, v4]) 4).run Tryz.prog w = .ok v4 w := by kernel_rfl
/-- a table that was made into a variable of its own -/
structure Nw (w U : World) (x g c n : Nat) (m : Int) (C : List Nat) : Prop where
  c0 : U.cell? ⟨x, 0, none⟩ = some (.slice (some ⟨g, 0, none⟩) n c)
  c1 : U.cell? ⟨x, 1, none⟩ = some (.int .i64 m)
  b : Below w.heap.size w U
  sl : Sl U .u16 (some ⟨g, 0, none⟩) C
  gl : w.heap.size ≤ g
  xl : w.heap.size ≤ x ∧ x < U.heap.size
theorem Nw.callFirst {w u u' : World} {g c n : Nat} {m : Int} {C : List Nat} (hu : Below w.heap.size w u) (hs : Sl u' .u16 (some ⟨g, 0, none⟩) C) (hg : u.heap.size ≤ g) (hb : Below u.heap.size u u') : Nw w (u'.alloc (.cells #[.slice (some ⟨g, 0, none⟩) n c, .int .i64 m] 59)) u'.heap.size g c n m C :=
  ⟨by simp [go_sem], by simp [go_sem], to_alloc (below_to hu hb) _, hs.to (from_alloc _ _), Nat.le_trans hu.size hg, Nat.le_trans hu.size hb.size, by simp⟩
theorem Nw.varFirst {w u' : World} {g c n : Nat} {m : Int} {C : List Nat} (hs : Sl u' .u16 (some ⟨g, 0, none⟩) C) (hg : (w.drew.alloc (.cells #[.slice none 0 0, .int .i64 0] 59)).heap.size ≤ g) (hb : Below (w.drew.alloc (.cells #[.slice none 0 0, .int .i64 0] 59)).heap.size (w.drew.alloc (.cells #[.slice none 0 0, .int .i64 0] 59)) u') : Nw w ((u'.setCell ⟨w.heap.size, 0, none⟩ (.slice (some ⟨g, 0, none⟩) n c)).setCell ⟨w.heap.size, 1, none⟩ (.int .i64 m)) w.heap.size g c n m C := by
  have hz : (w.drew.alloc (.cells #[.slice none 0 0, .int .i64 0] 59)).heap.size = w.heap.size + 1 := by simp
  have k0 : u'.cell? ⟨w.heap.size, 0, none⟩ = some (.slice none 0 0) := by rw [newCell hb _ _ (by omega)]; simp [go_sem]
  have k1 : u'.cell? ⟨w.heap.size, 1, none⟩ = some (.int .i64 0) := by rw [newCell hb _ _ (by omega)]; simp [go_sem]
  have hne : ∀ b o, (some ⟨g, 0, none⟩ : Option Addr) = some ⟨b, o, none⟩ → C ≠ [] → b ≠ w.heap.size := fun b o e _ => by
    simp only [Option.some.injEq, Addr.mk.injEq, and_true] at e
    omega
  have hb0 : Below w.heap.size w u' := (below_drew (Below.refl _ _) : Below w.heap.size w w.drew).trans (((Below.refl w.heap.size w.drew).alloc (Nat.le_refl _) _ : Below w.heap.size w.drew (w.drew.alloc (.cells #[.slice none 0 0, .int .i64 0] 59))).trans (hb.mono (by omega)))
  refine ⟨?_, ?_, below_set (below_set hb0 (Nat.le_refl _) _) (Nat.le_refl _) _, sl_far (sl_far hs hne) hne, by omega, Nat.le_refl _, by rw [setCell_size, setCell_size]; have := hb.size; omega⟩
  · rw [World.cell?_setCell_other _ _ _ _ (by simp), World.cell?_setCell_same _ _ _ k0]
  · rw [World.cell?_setCell_same _ _ _ (by rw [World.cell?_setCell_other _ _ _ _ (by simp)]; exact k1)]
theorem upd_true (S : Sx) (kk c v : Nat) : upd S true kk c v = S.set kk ((S.getD kk []).set c (L3.ad (tb S kk c).1 (tb S kk c).2 v, adN (tb S kk c).2)) := rfl

structure LnI (W : World) (lo x bt wv len : Nat) (iv : Value) (wr : World) : Prop where
  ex : ∃ (i : Nat) (O B : Nat → Prop) (S : Sx) (T g k : Nat), i ≤ len ∧ i ≤ 60 ∧ iv = .int .i64 i ∧ Wc wr lo x O S true (i : Int) T g k ∧ k ≤ 2 * i ∧ Hs wr lo bt B S ∧ (∀ y, B y → ¬ O y) ∧ (¬ O wv ∧ ¬ B wv ∧ wv < wr.heap.size) ∧ wr.cell? ⟨wv, 0, none⟩ = some (.slice (some ⟨bt, 0, none⟩) 32 32) ∧ Below lo W wr


end Go.Proofs.YtppanogpeengnabGreatDoor

namespace Go.Proofs.YtppanogpeengnabGreatDoor.L3
open Go.RowKit

/-- how often a number can be halved -/
def lg : Nat → Nat → Nat
  | 0, _ => 0
  | f + 1, m => if 1 < m then lg f (m / 2) + 1 else 0
theorem lg_all2 : ∀ m : Nat, m < 17 → 2 ≤ m → (m < 4 → lg 20 m = 1) ∧ (¬ m < 4 → 2 ≤ lg 20 m ∧ lg 20 m ≤ 4) := by decide +kernel

set_option maxHeartbeats 1000000 in
theorem log_any (m : Nat) (w : World) (hm : m ≤ 16) : Calls Tryz.prog 99 #[.int .i64 m] w fun e w' => e = .returned (.int .i64 (lg 20 m : Nat)) ∧ w' = w := by
  go_enter Tryz.func99, Tryz.ntmps99
  go_wp2_with fail
  go_loop [0, 3] (fun mv kv => ∃ k q f : Nat, q ≤ 16 ∧ q < 2 ^ f ∧ k + f ≤ 20 ∧ mv = .int .i64 q ∧ kv = .int .i64 k ∧ k + lg f q = lg 20 m) (fun mv _ => (intOf mv).toNat)
  case atStart => exact ⟨0, m, 20, by omega, by omega, by omega, rfl, rfl, by omega⟩
  case round =>
    obtain ⟨k, q, f, hq, hqf, hkf, rfl, rfl, he⟩ := hrel
    have HE : Hid (k + lg f q = lg 20 m) := he
    have HQF : Hid (q < 2 ^ f) := hqf
    clear he hqf
    by_cases h1 : 1 < q
    · have h1' : (1 : Int) < (q : Int) := by omega
      go_wp2_with fail
      go_round
      case rel =>
        cases f with
        | zero => have := HQF.out; simp at this; omega
        | succ f =>
          have h2 := HQF.out
          have h3 := HE.out
          rw [Nat.pow_succ] at h2
          rw [lg, if_pos h1] at h3
          exact ⟨k + 1, q / 2, f, by omega, by omega, by omega, by congr 1, by go_num, by omega⟩
      case measure => simp [intOf]; omega
    · have h1' : ¬ (1 : Int) < (q : Int) := by omega
      go_wp2_with fail
      go_ret
      refine ⟨ret_int ?_, rfl⟩
      have h3 := HE.out
      have h4 : lg f q = 0 := by cases f with
        | zero => rfl
        | succ f => rw [lg, if_neg h1]
      omega

theorem pw_step (k : Nat) : (2 : Nat) ^ (k + 1) = 2 ^ k * 2 := Nat.pow_succ ..

set_option maxRecDepth 100000 in
set_option maxHeartbeats 2000000 in
theorem radapt_ok {w : World} {a : Option Addr} {c : Nat} {C : List Nat} {n : Int} {s : Nat} (h : Sl w .u16 a C) (ht : TOk C n) (hs : s < C.length) :
    Calls Tryz.prog 88 #[.agg #[.slice a C.length c, .int .i64 n], .int .i64 s] w fun e w' => Tn w w' e (ad C n s) (adN n) := by
  have HT : Hid (TOk C n) := ht
  have hhi := ht.hi
  have hlo := ht.lo
  have n0 := ht.n0
  have n1 := ht.n1
  have hi1 : ¬ (s : Int) < 0 := by omega
  have hi2 : ¬ (C.length : Int) ≤ (s : Int) := by omega
  have hL0 : Loc ((w.alloc (.cells #[.slice a C.length c, .int .i64 n] 59)).alloc (.cells #[.slice none 0 0, .int .i64 0] 59)) w.heap.size ⟨a, c, C, n⟩ := (Loc.new ⟨a, c, C, n⟩ h).to (from_alloc _ _)
  have HL0 : Hid _ := hL0
  have HZ0 : Hid (((w.alloc (.cells #[.slice a C.length c, .int .i64 n] 59)).alloc (.cells #[.slice none 0 0, .int .i64 0] 59)).cell? ⟨w.heap.size + 1, 0, none⟩ = some (.slice none 0 0) ∧ ((w.alloc (.cells #[.slice a C.length c, .int .i64 n] 59)).alloc (.cells #[.slice none 0 0, .int .i64 0] 59)).cell? ⟨w.heap.size + 1, 1, none⟩ = some (.int .i64 0) ∧ ((w.alloc (.cells #[.slice a C.length c, .int .i64 n] 59)).alloc (.cells #[.slice none 0 0, .int .i64 0] 59)).frozen? ⟨w.heap.size + 1, 0, none⟩ = false ∧ ((w.alloc (.cells #[.slice a C.length c, .int .i64 n] 59)).alloc (.cells #[.slice none 0 0, .int .i64 0] 59)).frozen? ⟨w.heap.size + 1, 1, none⟩ = false) := by unfold Hid; simp
  have HWs : Hid (((w.alloc (.cells #[.slice a C.length c, .int .i64 n] 59)).alloc (.cells #[.slice none 0 0, .int .i64 0] 59)).heap.size = w.heap.size + 2) := by unfold Hid; simp
  have HBW : Hid (Below w.heap.size w ((w.alloc (.cells #[.slice a C.length c, .int .i64 n] 59)).alloc (.cells #[.slice none 0 0, .int .i64 0] 59))) := to_alloc (from_alloc _ _) _
  have HSLw : Hid (Sl w .u16 a C) := h
  clear h ht hL0
  go_enter Tryz.func88, Tryz.ntmps88
  go_wp2_with fail
  generalize ((w.alloc (.cells #[.slice a C.length c, .int .i64 n] 59)).alloc (.cells #[.slice none 0 0, .int .i64 0] 59)) = W0 at *
  refine (rcheck_any HL0.out.sl (by show C.length ≤ _; omega)).mono ?_
  rintro e w1 ⟨rfl, hb⟩
  rw [show ck C n = 0 from ck_ok HT.out]
  have HL1 : Hid (Loc w1 w.heap.size ⟨a, c, C, n⟩) := HL0.out.to hb
  have HZ1 : Hid (w1.cell? ⟨w.heap.size + 1, 0, none⟩ = some (.slice none 0 0) ∧ w1.cell? ⟨w.heap.size + 1, 1, none⟩ = some (.int .i64 0) ∧ w1.frozen? ⟨w.heap.size + 1, 0, none⟩ = false ∧ w1.frozen? ⟨w.heap.size + 1, 1, none⟩ = false) := by
    unfold Hid
    rw [newCell hb _ _ (by rw [HWs.out]; omega), newCell hb _ _ (by rw [HWs.out]; omega), newFrozen hb _ _ (by rw [HWs.out]; omega), newFrozen hb _ _ (by rw [HWs.out]; omega)]
    exact HZ0.out
  have HS1 : Hid (w.heap.size + 2 ≤ w1.heap.size) := by have := hb.size; rw [HWs.out] at this; exact this
  have HB1 : Hid (Below w.heap.size w w1) := below_to HBW.out hb
  clear hb HL0 HZ0 HWs HBW
  have q0 : w1.cell? ⟨w.heap.size, 0, none⟩ = some (.slice a C.length c) := HL1.out.c0
  have q1 : w1.cell? ⟨w.heap.size, 1, none⟩ = some (.int .i64 n) := HL1.out.c1
  have hlg := lg_all2 C.length (by omega) hlo
  have HLG : Hid (∀ u, Calls Tryz.prog 99 #[.int .i64 (C.length : Nat)] u fun e w' => e = .returned (.int .i64 (lg 20 C.length : Nat)) ∧ w' = u) := fun u => log_any C.length u hhi
  generalize lg 20 C.length = G at *
  have hrt : rt C.length n = 3 + (if C.length < 4 then 1 else 2) + (if n > 15 then 1 else 0) + (if n > 31 then 1 else 0) := rfl
  have HRT : Hid _ := hrt
  clear hrt
  obtain ⟨m2, hm2, hm3⟩ : ∃ m2 : Int, min (G : Int) 2 = m2 ∧ m2 = (if C.length < 4 then 1 else 2 : Nat) := ⟨_, rfl, by split <;> omega⟩
  have HM3 : Hid _ := hm3
  have hm4 : 0 ≤ m2 ∧ m2 ≤ 2 := by omega
  have hm5 := hm4.1
  have hm6 := hm4.2
  clear hlg hm3 hm4
  rcases (show n ≤ 15 ∨ (15 < n ∧ n ≤ 31) ∨ (15 < n ∧ 31 < n) by omega) with hn | ⟨hn, hn'⟩ | ⟨hn, hn'⟩
  all_goals
    go_wp2_with fail
    refine (HLG.out _).mono ?_
    rintro e w2 ⟨rfl, rfl⟩
    go_wp2_with fail
    have hrr : ∀ z : Int, z = 3 + m2 + (if n > 15 then 1 else 0) + (if n > 31 then 1 else 0) → z = ((rt C.length n : Nat) : Int) := fun z hz => by
      rw [hz, HM3.out, HRT.out]
      split <;> (try split) <;> (try split) <;> omega
    first
      | rw [hrr (3 + m2 + 1 + 1) (by rw [if_pos (by omega), if_pos (by omega)])]
      | rw [hrr (3 + m2 + 1) (by rw [if_pos (by omega), if_neg (by omega)]; omega)]
      | rw [hrr (3 + m2) (by rw [if_neg (by omega), if_neg (by omega)]; omega)]
    clear hrr
    have hr := rt_cases C.length n
    have HADG : Hid (∀ i, i < C.length → (ad C n s).getD i 0 = adE C (rt C.length n) s i) := fun i hi => ad_get C n s i hi
    have HLA : Hid ((ad C n s).length = C.length) := ad_len C n s
    generalize hrv : rt C.length n = r at *
    clear hrv HRT HM3 HLG hm2 hm5 hm6 q0 q1
    go_loop [8, 9] (fun pv iv => ∃ k : Nat, k ≤ r ∧ iv = .int .i64 k ∧ pv = .int .i64 ((2 ^ k : Nat) : Int) ∧ 2 ^ k ≤ 128) (fun _ iv => r - (intOf iv).toNat)
    case atStart => exact ⟨0, by omega, rfl, rfl, by omega⟩
    case round =>
      obtain ⟨k, hk, rfl, rfl, hp⟩ := hrel
      by_cases hlt : k < r
      · have hlt' : (k : Int) < (r : Int) := by omega
        have HPS : Hid _ := pw_step k
        have HPL : Hid ((2 : Nat) ^ (k + 1) ≤ 128) := by
          have : (2 : Nat) ^ (k + 1) ≤ 2 ^ 7 := Nat.pow_le_pow_right (by omega) (by omega)
          exact this
        generalize (2 : Nat) ^ k = pk at *
        go_wp2_with fail
        go_round
        case rel => exact ⟨k + 1, by omega, by go_num, by rw [HPS.out]; congr 1, HPL.out⟩
        case measure => simp [intOf]; omega
      · have hk' : k = r := by omega
        subst hk'
        have hlt' : ¬ (k : Int) < (k : Int) := by omega
        have q1 : w2.cell? ⟨w.heap.size, 1, none⟩ = some (.int .i64 n) := HL1.out.c1
        have hgw0 : Gw (w2.alloc (.cells #[.slice none 0 0, .int .i64 (min (n + 1) 32)] 59)) (w2.heap.size + 1) w2.heap.size [] (min (n + 1) 32) none 0 (w2.alloc (.cells #[.slice none 0 0, .int .i64 (min (n + 1) 32)] 59)) := by
          have := Gw.start (W := w2.alloc (.cells #[.slice none 0 0, .int .i64 (min (n + 1) 32)] 59)) (X := w2.heap.size) (n := min (n + 1) 32) (by simp) (by simp) (by simp) (by simp)
          rw [show (w2.alloc (.cells #[.slice none 0 0, .int .i64 (min (n + 1) 32)] 59)).heap.size = w2.heap.size + 1 from by simp] at this
          exact this
        have HGW0 : Hid _ := hgw0
        have HLW : Hid (Loc (w2.alloc (.cells #[.slice none 0 0, .int .i64 (min (n + 1) 32)] 59)) w.heap.size ⟨a, c, C, n⟩) := HL1.out.to (from_alloc _ _)
        have HBW : Hid (Below w.heap.size w (w2.alloc (.cells #[.slice none 0 0, .int .i64 (min (n + 1) 32)] 59))) := to_alloc HB1.out _
        have HZW : Hid ((w2.alloc (.cells #[.slice none 0 0, .int .i64 (min (n + 1) 32)] 59)).cell? ⟨w.heap.size + 1, 0, none⟩ = some (.slice none 0 0) ∧ (w2.alloc (.cells #[.slice none 0 0, .int .i64 (min (n + 1) 32)] 59)).cell? ⟨w.heap.size + 1, 1, none⟩ = some (.int .i64 0) ∧ (w2.alloc (.cells #[.slice none 0 0, .int .i64 (min (n + 1) 32)] 59)).frozen? ⟨w.heap.size + 1, 0, none⟩ = false ∧ (w2.alloc (.cells #[.slice none 0 0, .int .i64 (min (n + 1) 32)] 59)).frozen? ⟨w.heap.size + 1, 1, none⟩ = false) := by
          have hs1 := HS1.out
          unfold Hid
          rw [newCell (from_alloc _ _) _ _ (by omega), newCell (from_alloc _ _) _ _ (by omega), newFrozen (from_alloc _ _) _ _ (by omega), newFrozen (from_alloc _ _) _ _ (by omega)]
          exact HZ1.out
        have hs1 := HS1.out
        have hll := HL1.out.low
        clear hgw0 HL1 HZ1 HB1
        have HPP : Hid (∀ i, i < C.length → adE C k s i = if i + 1 = C.length then C.getD i 0 else if s ≤ i then C.getD i 0 + (32768 - C.getD i 0) / 2 ^ k else C.getD i 0 - C.getD i 0 / 2 ^ k) := fun i hi => rfl
        have hpp0 : 0 < 2 ^ k := Nat.pos_of_ne_zero (by simp)
        generalize (2 : Nat) ^ k = pp at *
        go_wp2_with fail
        generalize w2.alloc (.cells #[.slice none 0 0, .int .i64 (min (n + 1) 32)] 59) = W at *
        generalize w2.heap.size = X at *
        clear q1
        go_loopw [11] (fun iv wr => ∃ (i : Nat) (ga : Option Addr) (gc : Nat), i ≤ C.length ∧ iv = .int .i64 i ∧ Gw W (X + 1) X ((ad C n s).take i) (min (n + 1) 32) ga gc wr) (fun iv _ => C.length - (intOf iv).toNat)
        case atStart => exact ⟨0, none, 0, by omega, rfl, by simpa using HGW0.out⟩
        case round =>
          obtain ⟨i, ga, gc, hi, rfl, hgw⟩ := hrel
          clear HGW0
          have hlen : ((ad C n s).take i).length = i := by rw [List.length_take, HLA.out]; omega
          have c0 := hgw.c0
          have c1 := hgw.c1
          have f0 := hgw.f0
          rw [hlen] at c0
          have hsB := hgw.sB
          have HLEN : Hid (((ad C n s).take i).length = i) := hlen
          have HGW : Hid (Gw W (X + 1) X ((ad C n s).take i) (min (n + 1) 32) ga gc wr) := hgw
          by_cases hit : i < C.length
          · obtain ⟨b, o, rfl, hbl, hcell⟩ := HSLw.out.form (by omega)
            have e0 : wr.cell? ⟨w.heap.size, 0, none⟩ = some (.slice (some ⟨b, o, none⟩) C.length c) := by rw [hgw.cell _ _ (by omega) (by omega)]; exact HLW.out.c0
            have e1 : wr.cell? ⟨b, o + i, none⟩ = some (.int .u16 (C.getD i 0 : Nat)) := by rw [hgw.cell _ _ (by omega) (by omega), newCell HBW.out _ _ hbl]; exact hcell i hit
            have hx := HT.out.le i
            have hadi := HPP.out i hit
            have HTK : Hid ((ad C n s).take i ++ [adE C k s i] = (ad C n s).take (i + 1)) := by
              have hh := HADG.out i hit
              unfold Hid
              rw [List.take_add_one, List.getElem?_eq_getElem (by rw [HLA.out]; exact hit)]
              rw [getD_lt _ (by rw [HLA.out]; exact hit)] at hh
              rw [hh]; rfl
            have hyle : adE C k s i ≤ 65535 := by
              have h1 : (32768 - C.getD i 0) / pp ≤ 32768 - C.getD i 0 := Nat.div_le_self _ _
              rw [hadi]; split; omega; split; omega; exact Nat.le_trans (Nat.sub_le _ _) (by omega)
            generalize hyy : adE C k s i = y at *
            clear hyy hcell hgw hlen
            generalize C.getD i 0 = x at *
            have HX : Hid (x ≤ 32768) := hx
            have b0 : 0 ≤ (i : Int) := by omega
            have b1 : (i : Int) < (C.length : Int) := by omega
            have b3 : (x : Int) ≤ 32768 := by omega
            have b4 : (0 : Int) < (pp : Int) := by omega
            have b5 : (pp : Int) ≤ 128 := by omega
            have d1 : ((32768 - x : Nat) : Int) / (pp : Int) = (((32768 - x) / pp : Nat) : Int) := (Int.natCast_ediv _ _).symm
            have d2 : (x : Int) / (pp : Int) = ((x / pp : Nat) : Int) := (Int.natCast_ediv _ _).symm
            rw [show ((32768 - x : Nat) : Int) = 32768 - (x : Int) from by omega] at d1
            have d3 : (32768 - x) / pp ≤ 32768 - x := Nat.div_le_self _ _
            have d4 : x / pp ≤ x := Nat.div_le_self _ _
            generalize (32768 - x) / pp = u1 at *
            generalize x / pp = u2 at *
            by_cases hl1 : i + 1 < C.length
            · have c4 : (i : Int) < (C.length : Int) - 1 := by omega
              rw [if_neg (by omega)] at hadi
              by_cases hsi : s ≤ i
              · have c5 : (s : Int) ≤ (i : Int) := by omega
                rw [if_pos hsi] at hadi
                have HV : Hid ((x : Int) + (u1 : Int) = (y : Int)) := by unfold Hid; omega
                have HVw : Hid (IntKind.u16.wrap ((x : Int) + (u1 : Int)) = (y : Int)) := by unfold Hid; rw [IntKind.wrap_u16]; omega
                have c6 : (u1 : Int) ≤ 32768 - (x : Int) := by omega
                clear hadi hyle hx d3 d4
                go_wp2_with (at_builtin; refine wpList_append_num _ (by rfl) _ _ (by rfl) (X + 1) i ((ad C n s).take i) (.slice ga i gc) _ y (by first | exact HV.out | exact HVw.out) HLEN.out (by have := HGW.out.own; rw [HLEN.out] at this; exact this) hsB (by omega) (by rfl) (by rfl) ?_; intro g cap w' how' hgr' hat'; have haf := HGW.out.after (by rw [HLEN.out]; exact hgr'); rw [HLEN.out] at haf; have z0 := haf.1; have z1 := haf.2.1; have z2 := haf.2.2; clear haf)
                have hst := HGW.out.step (y := y) (by rw [HLEN.out]; exact how') (by rw [HLEN.out]; exact hgr')
                rw [HTK.out, HLEN.out] at hst
                go_roundw
                case rel => exact ⟨i + 1, _, cap, by omega, by go_num, hst⟩
                case measure => simp [intOf]; omega
              · have c5 : ¬ (s : Int) ≤ (i : Int) := by omega
                rw [if_neg hsi] at hadi
                have HV : Hid ((x : Int) - (u2 : Int) = (y : Int)) := by unfold Hid; omega
                have HVw : Hid (IntKind.u16.wrap ((x : Int) - (u2 : Int)) = (y : Int)) := by unfold Hid; rw [IntKind.wrap_u16]; omega
                have c6 : (u2 : Int) ≤ (x : Int) := by omega
                clear hadi hyle hx d3 d4
                go_wp2_with (at_builtin; refine wpList_append_num _ (by rfl) _ _ (by rfl) (X + 1) i ((ad C n s).take i) (.slice ga i gc) _ y (by first | exact HV.out | exact HVw.out) HLEN.out (by have := HGW.out.own; rw [HLEN.out] at this; exact this) hsB (by omega) (by rfl) (by rfl) ?_; intro g cap w' how' hgr' hat'; have haf := HGW.out.after (by rw [HLEN.out]; exact hgr'); rw [HLEN.out] at haf; have z0 := haf.1; have z1 := haf.2.1; have z2 := haf.2.2; clear haf)
                have hst := HGW.out.step (y := y) (by rw [HLEN.out]; exact how') (by rw [HLEN.out]; exact hgr')
                rw [HTK.out, HLEN.out] at hst
                go_roundw
                case rel => exact ⟨i + 1, _, cap, by omega, by go_num, hst⟩
                case measure => simp [intOf]; omega
            · have c4 : ¬ (i : Int) < (C.length : Int) - 1 := by omega
              rw [if_pos (by omega)] at hadi
              have HV : Hid ((x : Int) = (y : Int)) := by unfold Hid; omega
              have HVw : Hid (IntKind.u16.wrap (x : Int) = (y : Int)) := by unfold Hid; rw [IntKind.wrap_u16]; omega
              clear hadi hyle hx d3 d4
              go_wp2_with (at_builtin; refine wpList_append_num _ (by rfl) _ _ (by rfl) (X + 1) i ((ad C n s).take i) (.slice ga i gc) _ y (by first | exact HV.out | exact HVw.out) HLEN.out (by have := HGW.out.own; rw [HLEN.out] at this; exact this) hsB (by omega) (by rfl) (by rfl) ?_; intro g cap w' how' hgr' hat'; have haf := HGW.out.after (by rw [HLEN.out]; exact hgr'); rw [HLEN.out] at haf; have z0 := haf.1; have z1 := haf.2.1; have z2 := haf.2.2; clear haf)
              have hst := HGW.out.step (y := y) (by rw [HLEN.out]; exact how') (by rw [HLEN.out]; exact hgr')
              rw [HTK.out, HLEN.out] at hst
              go_roundw
              case rel => exact ⟨i + 1, _, cap, by omega, by go_num, hst⟩
              case measure => simp [intOf]; omega
          · have hi' : i = C.length := by omega
            subst hi'
            have b1 : ¬ (C.length : Int) < (C.length : Int) := by omega
            rw [List.take_of_length_le (by rw [HLA.out]; exact Nat.le_refl _)] at hgw
            have z0 : wr.cell? ⟨w.heap.size + 1, 0, none⟩ = some (.slice none 0 0) := by rw [hgw.cell _ _ (by omega) (by omega)]; exact HZW.out.1
            have z1 : wr.cell? ⟨w.heap.size + 1, 1, none⟩ = some (.int .i64 0) := by rw [hgw.cell _ _ (by omega) (by omega)]; exact HZW.out.2.1
            have z2 : wr.frozen? ⟨w.heap.size + 1, 0, none⟩ = false := by rw [hgw.frozen _ _ (by omega) (by omega)]; exact HZW.out.2.2.1
            have z3 : wr.frozen? ⟨w.heap.size + 1, 1, none⟩ = false := by rw [hgw.frozen _ _ (by omega) (by omega)]; exact HZW.out.2.2.2
            obtain ⟨g, rfl, hgB⟩ : ∃ g, ga = some ⟨g, 0, none⟩ ∧ X + 1 ≤ g := by
              obtain ⟨g, cap, hv, hb, _⟩ := hgw.own.form (by rw [HLA.out]; omega)
              simp only [Value.slice.injEq] at hv
              exact ⟨g, hv.1, hb⟩
            have HSL : Hid (Ow wr (X + 1) g C.length gc (ad C n s)) := ⟨by have := hgw.own; rw [HLA.out] at this; exact this⟩
            have HBE : Hid (Below w.heap.size w wr) := hgw.below HBW.out (by omega)
            have HGB : Hid (X + 1 ≤ g) := hgB
            clear hgw hlen hgB
            go_wp2_with fail
            refine bodyPost_ret (v := .tuple #[.agg #[.slice (some ⟨g, 0, none⟩) C.length gc, .int .i64 (min (n + 1) 32)], .int .i64 0]) (by simp [results, Tryz.results88, go_sem, z0, z1]) rfl ⟨_, gc, by rw [HLA.out]; rfl, ?_, ?_⟩
            · have := HGB.out
              rw [HLA.out]
              exact ((HSL.out.far (by simp; omega) _).far (by simp; omega) _).mono (by omega)
            · exact below_set (below_set HBE.out (by simp) _) (by simp) _

end Go.Proofs.YtppanogpeengnabGreatDoor.L3

namespace Go.Proofs.YtppanogpeengnabGreatDoor
open Go.RowKit L3

set_option maxRecDepth 100000 in
set_option maxHeartbeats 8000000 in
theorem rsame_u {w : World} {lo bt lo2 bt2 cT1 cT2 : Nat} {q1 q2 : Nat → Nat} {K L : List (Nat × List Tb)} (h : Su w lo bt q1 K) (g : Su w lo2 bt2 q2 L) (ho : Okk K) (ha : Als K L) :
    Calls Tryz.prog 35 #[.agg #[.slice (some ⟨bt, 0, none⟩) 32 cT1], .agg #[.slice (some ⟨bt2, 0, none⟩) 32 cT2]] w fun e w' => e = .returned (.bool true) ∧ Below w.heap.size w w' := by
  have HST : Hid (Su w lo bt q1 K) := h
  have HSU : Hid (Su w lo2 bt2 q2 L) := g
  have HOK : Hid (Okk K) := ho
  have HAL : Hid (Als K L) := ha
  have HB0 : Hid (Below w.heap.size w ((w.alloc (.cells #[.slice (some ⟨bt, 0, none⟩) 32 cT1] 29)).alloc (.cells #[.slice (some ⟨bt2, 0, none⟩) 32 cT2] 29))) := to_alloc (from_alloc _ _) _
  have HX : Hid (∀ v, Below (w.heap.size + 2) ((w.alloc (.cells #[.slice (some ⟨bt, 0, none⟩) 32 cT1] 29)).alloc (.cells #[.slice (some ⟨bt2, 0, none⟩) 32 cT2] 29)) v → v.cell? ⟨w.heap.size, 0, none⟩ = some (.slice (some ⟨bt, 0, none⟩) 32 cT1) ∧ v.cell? ⟨w.heap.size + 1, 0, none⟩ = some (.slice (some ⟨bt2, 0, none⟩) 32 cT2)) := fun v hv => by
    rw [newCell hv _ _ (by omega), newCell hv _ _ (by omega)]
    constructor <;> simp [go_sem]
  have HB1 : Hid (Below (w.heap.size + 2) ((w.alloc (.cells #[.slice (some ⟨bt, 0, none⟩) 32 cT1] 29)).alloc (.cells #[.slice (some ⟨bt2, 0, none⟩) 32 cT2] 29)) ((w.alloc (.cells #[.slice (some ⟨bt, 0, none⟩) 32 cT1] 29)).alloc (.cells #[.slice (some ⟨bt2, 0, none⟩) 32 cT2] 29))) := Below.refl _ _
  have HZ : Hid (((w.alloc (.cells #[.slice (some ⟨bt, 0, none⟩) 32 cT1] 29)).alloc (.cells #[.slice (some ⟨bt2, 0, none⟩) 32 cT2] 29)).heap.size = w.heap.size + 2) := by show _ = _; simp
  clear h g ho ha
  go_enter Tryz.func35, Tryz.ntmps35
  go_wp2_with fail
  generalize (w.alloc (.cells #[.slice (some ⟨bt, 0, none⟩) 32 cT1] 29)).alloc (.cells #[.slice (some ⟨bt2, 0, none⟩) 32 cT2] 29) = W at *
  have HUp : Hid (∀ v, Below (w.heap.size + 2) W v → Below w.heap.size w v) := fun v hv => HB0.out.trans (hv.mono (by omega))
  obtain ⟨sy, hsy⟩ : ∃ sy, sy = w.heap.size + 1 := ⟨_, rfl⟩
  have HY : Hid (sy = w.heap.size + 1) := hsy
  rw [← hsy] at HX
  rw [← hsy]
  clear hsy
  go_loopw [5] (fun iv wr => ∃ k : Nat, k ≤ 32 ∧ iv = .int .i64 k ∧ Below (w.heap.size + 2) W wr) (fun iv _ => 32 - (intOf iv).toNat)
  case atStart => exact ⟨0, by omega, rfl, HB1.out⟩
  case round =>
    obtain ⟨k, hk, rfl, hb⟩ := hrel
    have HB : Hid (Below (w.heap.size + 2) W wr) := hb
    obtain ⟨x0, x1⟩ := HX.out _ hb
    clear hb HB0 HB1
    by_cases hlt : k < 32
    · have hkl : k < K.length := by rw [HOK.out.1]; exact hlt
      have hlL : k < L.length := by rw [HAL.out.1, HOK.out.1]; exact hlt
      have hget := List.getElem?_eq_getElem hkl
      have hgeL := List.getElem?_eq_getElem hlL
      have hoq := HOK.out.2 k _ hget
      have halq := HAL.out.2 k _ _ hget hgeL
      have hmem : K[k] ∈ K := List.getElem_mem _
      have hmeL : L[k] ∈ L := List.getElem_mem _
      have xb0 := HST.out.hd k _ hget
      have xb1 := HSU.out.hd k _ hgeL
      have hlie := (HST.out.lie _ hmem).2.1
      have hliL := (HSU.out.lie _ hmeL).2.1
      have HC0 : Hid (∀ (c : Nat) t, K[k].2[c]? = some t → w.cell? ⟨K[k].1, c * 2, none⟩ = some (.slice t.a t.C.length t.c) ∧ w.cell? ⟨K[k].1, c * 2 + 1, none⟩ = some (.int .i64 t.n) ∧ Sl w .u16 t.a t.C) := fun c t ht => ⟨HST.out.c0 _ hmem c t ht, HST.out.c1 _ hmem c t ht, HST.out.sl _ hmem t (List.mem_of_getElem? ht)⟩
      have HC1 : Hid (∀ (c : Nat) t, L[k].2[c]? = some t → w.cell? ⟨L[k].1, c * 2, none⟩ = some (.slice t.a t.C.length t.c) ∧ w.cell? ⟨L[k].1, c * 2 + 1, none⟩ = some (.int .i64 t.n) ∧ Sl w .u16 t.a t.C) := fun c t ht => ⟨HSU.out.c0 _ hmeL c t ht, HSU.out.c1 _ hmeL c t ht, HSU.out.sl _ hmeL t (List.mem_of_getElem? ht)⟩
      generalize K[k] = p at *
      generalize L[k] = q at *
      obtain ⟨pb, pt⟩ := p
      obtain ⟨qb, qt⟩ := q
      simp only at xb0 xb1 hlie hliL HC0 HC1 halq
      have HPL : Hid (pt.length = sC k) := hoq.1
      have HQL : Hid (qt.length = sC k) := halq.1.trans hoq.1
      have HPT : Hid (∀ t ∈ pt, t.C.length = sV k ∧ TOk t.C t.n) := hoq.2
      have HQT : Hid (∀ (c : Nat) s t, pt[c]? = some s → qt[c]? = some t → t.C = s.C ∧ t.n = s.n) := halq.2
      have xb : w.cell? ⟨bt, k, none⟩ = some (.slice (some ⟨pb, 0, none⟩) (sC k) (q1 k)) := by rw [HPL.out] at xb0; exact xb0
      have yb : w.cell? ⟨bt2, k, none⟩ = some (.slice (some ⟨qb, 0, none⟩) (sC k) (q2 k)) := by rw [HQL.out] at xb1; exact xb1
      have HXB : Hid (∀ v, Below (w.heap.size + 2) W v → v.cell? ⟨bt, k, none⟩ = some (.slice (some ⟨pb, 0, none⟩) (sC k) (q1 k)) ∧ v.cell? ⟨bt2, k, none⟩ = some (.slice (some ⟨qb, 0, none⟩) (sC k) (q2 k))) := fun v hv => by
        rw [newCell (HUp.out v hv) _ _ HST.out.blt, newCell (HUp.out v hv) _ _ HSU.out.blt]
        exact ⟨xb, yb⟩
      obtain ⟨xw, yw⟩ := HXB.out _ HB.out
      have b0 : 0 ≤ (k : Int) := by omega
      have b1 : (k : Int) < 32 := by omega
      have t1 : ((sC k : Int) != (sC k : Int)) = false := by simp
      clear hget hgeL hoq halq hmem hmeL xb0 xb1 hkl hlL xb yb
      go_wp2_with fail
      go_quiet (fail)
      have HBq : Hid (Below (w.heap.size + 2) W (wr.drewN nq)) := below_drewN HB.out nq
      go_wp2_with fail
      generalize wr.drewN nq = wo at *
      go_loopw [6] (fun iv wr => ∃ c : Nat, c ≤ sC k ∧ iv = .int .i64 c ∧ Below (w.heap.size + 2) W wr) (fun iv _ => sC k - (intOf iv).toNat)
      case atStart => exact ⟨0, by omega, rfl, HBq.out⟩
      case round =>
        obtain ⟨c, hc, rfl, hb⟩ := hrel
        clear HB HBq x0 x1 xw yw
        have HB : Hid (Below (w.heap.size + 2) W wr) := hb
        obtain ⟨x0, x1⟩ := HX.out _ hb
        obtain ⟨xw, yw⟩ := HXB.out _ hb
        clear hb
        by_cases hcl : c < sC k
        · have hcp : c < pt.length := by rw [HPL.out]; exact hcl
          have hcq : c < qt.length := by rw [HQL.out]; exact hcl
          have hgt := List.getElem?_eq_getElem hcp
          have hgq := List.getElem?_eq_getElem hcq
          obtain ⟨g0, g1, gs⟩ := HC0.out c _ hgt
          obtain ⟨k0, k1, ks⟩ := HC1.out c _ hgq
          have hok := (HPT.out _ (List.getElem_mem hcp)).1
          obtain ⟨e1, e2⟩ := HQT.out c _ _ hgt hgq
          generalize pt[c] = t at *
          generalize qt[c] = u at *
          obtain ⟨ta, tc, tC, tn⟩ := t
          obtain ⟨ua, uc, uC, un⟩ := u
          simp only at g0 g1 gs k0 k1 ks hok e1 e2
          subst e1 e2
          rw [hok] at g0 k0
          have z0 : wr.cell? ⟨pb, c * 2, none⟩ = some (.slice ta (sV k) tc) := by rw [newCell (HUp.out _ HB.out) _ _ hlie]; exact g0
          have z1 : wr.cell? ⟨pb, c * 2 + 1, none⟩ = some (.int .i64 un) := by rw [newCell (HUp.out _ HB.out) _ _ hlie]; exact g1
          have z2 : wr.cell? ⟨qb, c * 2, none⟩ = some (.slice ua (sV k) uc) := by rw [newCell (HUp.out _ HB.out) _ _ hliL]; exact k0
          have z3 : wr.cell? ⟨qb, c * 2 + 1, none⟩ = some (.int .i64 un) := by rw [newCell (HUp.out _ HB.out) _ _ hliL]; exact k1
          have HSL : Hid (Sl w .u16 ta uC) := gs
          have HSM : Hid (Sl w .u16 ua uC) := ks
          have HLN : Hid (uC.length = sV k) := hok
          have a0 : 0 ≤ (c : Int) := by omega
          have a1 : (c : Int) < (sC k : Int) := by omega
          have hv := (sV_le k hlt).2
          have hc14 := (sC_le k hlt).2
          have t2 : ((sV k : Int) != (sV k : Int)) = false := by simp
          have t3 : (un != un) = false := by simp
          have s0 : w.heap.size + 2 ≤ wr.heap.size := by have := HB.out.size; have := HZ.out; omega
          have hv2 := (sV_le k hlt).1
          obtain ⟨b1, o1, rfl, hb1, hc1⟩ : ∃ b o, ta = some ⟨b, o, none⟩ ∧ b < w.heap.size ∧ ∀ j, j < uC.length → w.cell? ⟨b, o + j, none⟩ = some (.int .u16 ((uC.getD j 0 : Nat) : Int)) := by
            rcases HSL.out with e | e
            · rw [e] at hok; simp at hok; omega
            · exact e
          obtain ⟨b2, o2, rfl, hb2, hc2⟩ : ∃ b o, ua = some ⟨b, o, none⟩ ∧ b < w.heap.size ∧ ∀ j, j < uC.length → w.cell? ⟨b, o + j, none⟩ = some (.int .u16 ((uC.getD j 0 : Nat) : Int)) := by
            rcases HSM.out with e | e
            · rw [e] at hok; simp at hok; omega
            · exact e
          have HC1' : Hid (∀ v, Below (w.heap.size + 2) W v → ∀ j, j < sV k → v.cell? ⟨b1, o1 + j, none⟩ = some (.int .u16 ((uC.getD j 0 : Nat) : Int))) := fun v hv j hj => by rw [newCell (HUp.out v hv) _ _ hb1]; exact hc1 j (by rw [hok]; exact hj)
          have HC2' : Hid (∀ v, Below (w.heap.size + 2) W v → ∀ j, j < sV k → v.cell? ⟨b2, o2 + j, none⟩ = some (.int .u16 ((uC.getD j 0 : Nat) : Int))) := fun v hv j hj => by rw [newCell (HUp.out v hv) _ _ hb2]; exact hc2 j (by rw [hok]; exact hj)
          clear hc1 hc2
          have s1 : bt < wr.heap.size := by have := HST.out.blt; omega
          have s2 : bt2 < wr.heap.size := by have := HSU.out.blt; omega
          have s3 : pb < wr.heap.size := by omega
          have s4 : qb < wr.heap.size := by omega
          have n1 : w.heap.size < wr.heap.size := by omega
          have n2 : sy < wr.heap.size := by have := HY.out; omega
          clear g0 g1 gs k0 k1 ks hgt hgq hok hcp hcq
          have HV1 : Hid (Tw (w.heap.size + 2) W ((wr.alloc (Obj.cells #[.slice (some ⟨b1, o1, none⟩) (sV k) tc, .int .i64 un] 59)).alloc (Obj.cells #[.slice (some ⟨b2, o2, none⟩) (sV k) uc, .int .i64 un] 59)).drew wr.heap.size (wr.heap.size + 1) (.slice (some ⟨b1, o1, none⟩) (sV k) tc) (.slice (some ⟨b2, o2, none⟩) (sV k) uc) un) := ⟨fun v hv => by
            have hv' : Below (wr.heap.size + 2) ((wr.alloc (Obj.cells #[.slice (some ⟨b1, o1, none⟩) (sV k) tc, .int .i64 un] 59)).alloc (Obj.cells #[.slice (some ⟨b2, o2, none⟩) (sV k) uc, .int .i64 un] 59)).drew v := hv.mono (by simp)
            rw [newCell hv' _ _ (by omega), newCell hv' _ _ (by omega), newCell hv' _ _ (by omega), newCell hv' _ _ (by omega)]; simp [go_sem], below_drew ((HB.out.alloc (by omega) _).alloc (by simp; omega) _)⟩
          have HV2 : Hid (Tw (w.heap.size + 2) W ((wr.alloc (Obj.cells #[.slice (some ⟨b2, o2, none⟩) (sV k) uc, .int .i64 un] 59)).alloc (Obj.cells #[.slice (some ⟨b1, o1, none⟩) (sV k) tc, .int .i64 un] 59)).drew (wr.heap.size + 1) wr.heap.size (.slice (some ⟨b1, o1, none⟩) (sV k) tc) (.slice (some ⟨b2, o2, none⟩) (sV k) uc) un) := ⟨fun v hv => by
            have hv' : Below (wr.heap.size + 2) ((wr.alloc (Obj.cells #[.slice (some ⟨b2, o2, none⟩) (sV k) uc, .int .i64 un] 59)).alloc (Obj.cells #[.slice (some ⟨b1, o1, none⟩) (sV k) tc, .int .i64 un] 59)).drew v := hv.mono (by simp)
            rw [newCell hv' _ _ (by omega), newCell hv' _ _ (by omega), newCell hv' _ _ (by omega), newCell hv' _ _ (by omega)]; simp [go_sem], below_drew ((HB.out.alloc (by omega) _).alloc (by simp; omega) _)⟩
          go_wp2_with fail
          go_region
          · as_aux_lemma =>
            have HV := HV1
            clear HV1 HV2
            generalize ((wr.alloc (Obj.cells #[.slice (some ⟨b1, o1, none⟩) (sV k) tc, .int .i64 un] 59)).alloc (Obj.cells #[.slice (some ⟨b2, o2, none⟩) (sV k) uc, .int .i64 un] 59)).drew = V at *
            clear z0 z1 z2 z3 x0 x1 xw yw
            obtain ⟨d0, d1, d2, d3⟩ := HV.out.1 V (Below.refl _ _)
            clear s0 s1 s2 s3 s4 n1 n2 hlie hliL hb1 hb2 hv2
            have y1 : ¬ wr.heap.size = wr.heap.size + 1 := by omega
            generalize wr.heap.size + 1 = yb at *
            generalize wr.heap.size = ya at *
            go_wp2_with fail
            go_loopw [9] (fun iv wr => ∃ i : Nat, i ≤ sV k ∧ iv = .int .i64 i ∧ Below V.heap.size V wr) (fun iv _ => sV k - (intOf iv).toNat)
            case atStart => exact ⟨0, by omega, rfl, Below.refl _ _⟩
            case round =>
              obtain ⟨i, hi, rfl, hb⟩ := hrel
              clear d0 d1 d2 d3
              rename World => wq
              have HBi : Hid (Below (w.heap.size + 2) W wq) := HV.out.2.trans (hb.mono (by have := HV.out.2.size; have := HZ.out; omega))
              have HBV : Hid (Below V.heap.size V wq) := hb
              obtain ⟨d0, d1, d2, d3⟩ := HV.out.1 wq hb
              clear hb
              have i0 : (0 : Int) ≤ (i : Int) := by omega
              by_cases hil : i < sV k
              · have i1 : (i : Int) < (sV k : Int) := by omega
                have f1 := HC1'.out wq HBi.out i hil
                have f2 := HC2'.out wq HBi.out i hil
                generalize uC.getD i 0 = ui at *
                have t4 : ((ui : Int) != (ui : Int)) = false := by simp
                go_wp2_with fail
                go_quiet (fail)
                have HBn : Hid (Below V.heap.size V (wq.drewN nq)) := below_drewN HBV.out nq
                go_wp2_with fail
                go_roundw
                case rel => exact ⟨i + 1, by omega, by go_num, HBn.out⟩
                case measure => simp [intOf]; omega
              · have i1 : ¬ (i : Int) < (sV k : Int) := by omega
                go_wp2_with fail
                go_roundw
                case rel => exact ⟨c + 1, by omega, by go_num, HBi.out⟩
                case measure => simp [intOf]; omega
          · as_aux_lemma =>
            have HV := HV2
            clear HV1 HV2
            generalize ((wr.alloc (Obj.cells #[.slice (some ⟨b2, o2, none⟩) (sV k) uc, .int .i64 un] 59)).alloc (Obj.cells #[.slice (some ⟨b1, o1, none⟩) (sV k) tc, .int .i64 un] 59)).drew = V at *
            clear z0 z1 z2 z3 x0 x1 xw yw
            obtain ⟨d0, d1, d2, d3⟩ := HV.out.1 V (Below.refl _ _)
            clear s0 s1 s2 s3 s4 n1 n2 hlie hliL hb1 hb2 hv2
            have y1 : ¬ wr.heap.size = wr.heap.size + 1 := by omega
            generalize wr.heap.size + 1 = yb at *
            generalize wr.heap.size = ya at *
            go_wp2_with fail
            go_loopw [9] (fun iv wr => ∃ i : Nat, i ≤ sV k ∧ iv = .int .i64 i ∧ Below V.heap.size V wr) (fun iv _ => sV k - (intOf iv).toNat)
            case atStart => exact ⟨0, by omega, rfl, Below.refl _ _⟩
            case round =>
              obtain ⟨i, hi, rfl, hb⟩ := hrel
              clear d0 d1 d2 d3
              rename World => wq
              have HBi : Hid (Below (w.heap.size + 2) W wq) := HV.out.2.trans (hb.mono (by have := HV.out.2.size; have := HZ.out; omega))
              have HBV : Hid (Below V.heap.size V wq) := hb
              obtain ⟨d0, d1, d2, d3⟩ := HV.out.1 wq hb
              clear hb
              have i0 : (0 : Int) ≤ (i : Int) := by omega
              by_cases hil : i < sV k
              · have i1 : (i : Int) < (sV k : Int) := by omega
                have f1 := HC1'.out wq HBi.out i hil
                have f2 := HC2'.out wq HBi.out i hil
                generalize uC.getD i 0 = ui at *
                have t4 : ((ui : Int) != (ui : Int)) = false := by simp
                go_wp2_with fail
                go_quiet (fail)
                have HBn : Hid (Below V.heap.size V (wq.drewN nq)) := below_drewN HBV.out nq
                go_wp2_with fail
                go_roundw
                case rel => exact ⟨i + 1, by omega, by go_num, HBn.out⟩
                case measure => simp [intOf]; omega
              · have i1 : ¬ (i : Int) < (sV k : Int) := by omega
                go_wp2_with fail
                go_roundw
                case rel => exact ⟨c + 1, by omega, by go_num, HBi.out⟩
                case measure => simp [intOf]; omega
        · have a1 : ¬ (c : Int) < (sC k : Int) := by omega
          have a0 : 0 ≤ (c : Int) := by omega
          go_wp2_with fail
          go_roundw
          case rel => exact ⟨k + 1, by omega, by go_num, HB.out⟩
          case measure => simp [intOf]; omega
    · have b1 : ¬ (k : Int) < 32 := by omega
      go_wp2_with fail
      go_ret
      exact ⟨rfl, HUp.out _ HB.out⟩

end Go.Proofs.YtppanogpeengnabGreatDoor
