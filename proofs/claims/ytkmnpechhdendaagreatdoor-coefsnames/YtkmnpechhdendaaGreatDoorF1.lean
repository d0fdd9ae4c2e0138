/- DERIVED. Several texts in one: The document's coder by plain numbers, on either side. The walks of the document's ends, length, amount. The walk of the document's amount. What the document's Code is asked; a block that it codes, in memory. -/
import Derived.Test.YtkmnpechhdendaaGreatDoorYa
import Derived.Test.YtkmnpechhdendaaGreatDoorMG
import Derived.Test.YtkmnpechhdendaaGreatDoorY2
import Derived.Test.YtkmnpechhdendaaGreatDoorL10Nd
namespace Go.Proofs.YtkmnpechhdendaaGreatDoor
open Go.RowKit L3

/-- the document's coder in memory -/
structure Fc (w : World) (lo x : Nat) (O : Nat → Prop) (s : Cs) : Prop where
  wc : s.W = true → Fw w lo x O s.S s.ad s.n s.a s.b s.c
  rc : s.W = false → Fr w lo x O s.S s.ad s.n s.zs s.a s.b s.c
  kb : s.W = true → s.c ≤ 2 * s.n
  qb : s.W = false → s.a ≤ 2 * s.n + 4
theorem Fr.ok {w : World} {lo x : Nat} {O : Nat → Prop} {S : Sx} {ad : Bool} {n : Int} {zs : List Nat} {p c g : Nat} (h : Fr w lo x O S ad n zs p c g) : OkS S := by obtain ⟨_, _, _, _, _, h, _⟩ := h; exact h.hu.ok
theorem Fr.dk {w : World} {lo x : Nat} {O : Nat → Prop} {S : Sx} {ad : Bool} {n : Int} {zs : List Nat} {p c g : Nat} (h : Fr w lo x O S ad n zs p c g) : L2.Dk c g ∧ ∀ i, zs.getD i 0 < 256 := by obtain ⟨_, _, _, _, _, h, _⟩ := h; exact ⟨h.dk, h.df.byt⟩
theorem Fc.so {w : World} {lo x : Nat} {O : Nat → Prop} {s : Cs} (h : Fc w lo x O s) : SOk s := by
  cases hW : s.W
  · exact ⟨(h.rc hW).ok, fun e => (by rw [hW] at e; cases e), fun _ => (h.rc hW).dk⟩
  · exact ⟨(h.wc hW).ok, fun _ => ⟨(h.wc hW).ev, h.kb hW⟩, fun e => (by rw [hW] at e; cases e)⟩
theorem Fc.lt {w : World} {lo x : Nat} {O : Nat → Prop} {s : Cs} (h : Fc w lo x O s) {y : Nat} (hy : O y) : lo ≤ y ∧ y < w.heap.size := by
  cases hW : s.W
  · exact (h.rc hW).lt hy
  · exact (h.wc hW).lt hy
theorem Fc.ke {P : Nat → Prop} {w w' : World} {lo x : Nat} {O : Nat → Prop} {s : Cs} (h : Fc w lo x O s) (hk : Ke P w w') (hP : ∀ b, P b → ¬ O b) : Fc w' lo x O s := ⟨fun e => (h.wc e).ke hk hP, fun e => (h.rc e).ke hk hP, h.kb, h.qb⟩
theorem Fc.to {w w' : World} {lo x : Nat} {O : Nat → Prop} {s : Cs} (h : Fc w lo x O s) (hb : Below w.heap.size w w') : Fc w' lo x O s := ⟨fun e => (h.wc e).to hb, fun e => (h.rc e).to hb, h.kb, h.qb⟩
/-- it has gone on -/
def Fg (w w' : World) (lo x : Nat) (O : Nat → Prop) (s : Cs) : Prop := ∃ O', Fc w' lo x O' s ∧ Trn O O' w w'
theorem Fg.refl {w : World} {lo x : Nat} {O : Nat → Prop} {s : Cs} (h : Fc w lo x O s) : Fg w w lo x O s := ⟨O, h, Trn.of (Below.refl _ _)⟩
theorem Fg.trans {w w' w'' : World} {lo x : Nat} {O O' : Nat → Prop} {s : Cs} (h : Trn O O' w w') (k : Fg w' w'' lo x O' s) : Fg w w'' lo x O s := by
  obtain ⟨O'', h1, h2⟩ := k
  exact ⟨O'', h1, h.trans h2⟩
theorem Fg.to {w w' w'' : World} {lo x : Nat} {O : Nat → Prop} {s : Cs} (h : Fg w w' lo x O s) (hb : Below w'.heap.size w' w'') : Fg w w'' lo x O s := by
  obtain ⟨O', h1, h2⟩ := h
  exact ⟨O', h1.to hb, h2.to hb⟩
theorem Fg.behind {w w' w'' : World} {lo x : Nat} {O : Nat → Prop} {s : Cs} (hb : Below w.heap.size w w') (h : Fg w' w'' lo x O s) : Fg w w'' lo x O s := Fg.trans (Trn.of hb) h
theorem fsymbol_fc {w : World} {lo x : Nat} {O : Nat → Prop} {s : Cs} (h : Fc w lo x O s) {kk cx : Nat} {z z' : Int} (hv : kk < 32 ∧ cx < sC kk ∧ s.n ≤ 1000000000 ∧ (s.W = true → 0 ≤ z ∧ z < (sV kk : Int))) (he : s.W = true → z' = z) :
    Calls Tryz.prog 47 #[.pointer (some ⟨x, 0, none⟩), .int .i64 kk, .int .i64 cx, .int .i64 z'] w fun e w' => e = .returned (.tuple #[.int .i64 (syA s kk cx z : Nat), .int .i64 0]) ∧ Fg w w' lo x O (syN s kk cx (syA s kk cx z)) := by
  obtain ⟨h1, h2, h3, h4⟩ := hv
  have hso := h.so
  have hso2 := sy_ok hso h1 h2 h4
  cases hW : s.W
  · have hf := sy_fd hso h1 h2 hW z
    obtain ⟨e1, e2⟩ := tb_ends hso.ok h1 h2 (sy_lt hso h1 h2 h4)
    obtain ⟨hd, hb⟩ := hso.dk hW
    have hq := h.qb hW
    have ht := L2.dTake_ok hb (q := s.a) (lo := eb (tb s.S kk cx).1 (syA s kk cx z)) (hi := ee (tb s.S kk cx).1 (syA s kk cx z)) ⟨hf.2.1, hf.2.2, e2⟩ hd.below hd.least hd.most
    refine (rsymbol_g (h.rc hW) (by omega) (by omega) (by omega) (z := z') h1 h2 hf rfl rfl).mono ?_
    rintro e w' ⟨rfl, O', r1, r2⟩
    generalize syA s kk cx z = v at *
    refine ⟨rfl, O', ?_, r2⟩
    have hn : syN s kk cx v = ⟨s.W, s.ad, upd s.S s.ad kk cx v, s.n + 1, s.zs, (L2.dTake s.zs s.b s.c s.a (eb (tb s.S kk cx).1 v) (ee (tb s.S kk cx).1 v)).2.2, (L2.dTake s.zs s.b s.c s.a (eb (tb s.S kk cx).1 v) (ee (tb s.S kk cx).1 v)).1, (L2.dTake s.zs s.b s.c s.a (eb (tb s.S kk cx).1 v) (ee (tb s.S kk cx).1 v)).2.1⟩ := by unfold syN; rw [if_neg (by rw [hW]; decide)]
    rw [hn]
    exact ⟨fun e => (by simp only at e; rw [hW] at e; cases e), fun _ => (by simpa using r1), fun e => (by simp only at e; rw [hW] at e; cases e), fun _ => (by have := ht.2.2.2.2; simp only; omega)⟩
  · rw [he hW]
    obtain ⟨v, rfl⟩ : ∃ v : Nat, z = (v : Int) := ⟨z.toNat, by have := (h4 hW).1; omega⟩
    have hv : v < sV kk := by have := (h4 hW).2; omega
    refine (rsymbol_f (h.wc hW) (by have := h.kb hW; omega) (by omega) (by omega) h1 h2 hv rfl rfl).mono ?_
    rintro e w' ⟨rfl, O', r1, r2⟩
    have ha : syA s kk cx (v : Int) = v := by unfold syA; rw [if_pos hW]; rfl
    rw [ha] at hso2 ⊢
    refine ⟨rfl, O', ?_, r2⟩
    have hk := hso2.ev (by rw [(syN_W s kk cx v).1]; exact hW)
    have hn : syN s kk cx v = ⟨s.W, s.ad, upd s.S s.ad kk cx v, s.n + 1, s.zs, (L2.ePut s.a s.b s.c (eb (tb s.S kk cx).1 v) (ee (tb s.S kk cx).1 v)).1, (L2.ePut s.a s.b s.c (eb (tb s.S kk cx).1 v) (ee (tb s.S kk cx).1 v)).2.1, (L2.ePut s.a s.b s.c (eb (tb s.S kk cx).1 v) (ee (tb s.S kk cx).1 v)).2.2⟩ := by unfold syN; rw [if_pos hW]
    refine ⟨fun _ => ?_, fun e => ?_, fun _ => hk.2, fun e => ?_⟩
    · rw [hn]; simpa using r1
    · rw [hn] at e; simp only at e; rw [hW] at e; cases e
    · rw [hn] at e; simp only at e; rw [hW] at e; cases e
theorem fbits_fc {w : World} {lo x : Nat} {O : Nat → Prop} {s : Cs} (h : Fc w lo x O s) {n : Nat} {z z' : Int} (hv : n ≤ 30 ∧ s.n ≤ 1000000000 ∧ (s.W = true → 0 ≤ z ∧ z < 2 ^ n)) (he : s.W = true → z' = z) :
    Calls Tryz.prog 50 #[.pointer (some ⟨x, 0, none⟩), .int .i64 n, .int .i64 z'] w fun e w' => e = .returned (.tuple #[.int .i64 (biA s n z : Nat), .int .i64 0]) ∧ Fg w w' lo x O (biN s n (biA s n z)) := by
  obtain ⟨h1, h3, h4⟩ := hv
  have hso := h.so
  have hso2 := bi_ok hso n z
  cases hW : s.W
  · have hq := h.qb hW
    refine (rbits_g (h.rc hW) (by omega) (by omega) (by omega) (z := z') h1).mono ?_
    rintro e w' ⟨rfl, ⟨O', r1, r2⟩, r3⟩
    have hv : biA s n z = (dBs s.zs s.a s.b s.c n).1 := by unfold biA; rw [if_neg (by rw [hW]; decide)]
    rw [hv]
    refine ⟨rfl, O', ?_, r2⟩
    have hn : biN s n (dBs s.zs s.a s.b s.c n).1 = ⟨s.W, s.ad, s.S, s.n + n, s.zs, (dBs s.zs s.a s.b s.c n).2.1, (dBs s.zs s.a s.b s.c n).2.2.1, (dBs s.zs s.a s.b s.c n).2.2.2⟩ := by unfold biN; rw [if_neg (by rw [hW]; decide)]
    rw [hn]
    exact ⟨fun e => (by simp only at e; rw [hW] at e; cases e), fun _ => (by simpa using r1), fun e => (by simp only at e; rw [hW] at e; cases e), fun _ => (by simp only; omega)⟩
  · rw [he hW]
    obtain ⟨v, rfl⟩ : ∃ v : Nat, z = (v : Int) := ⟨z.toNat, by have := (h4 hW).1; omega⟩
    have e2 : ((2 ^ n : Nat) : Int) = 2 ^ n := by simp
    have hv : v < 2 ^ n := by have := (h4 hW).2; omega
    refine (rbits_f (h.wc hW) (by have := h.kb hW; omega) (by omega) (by omega) h1 rfl hv).mono ?_
    rintro e w' ⟨rfl, O', r1, r2⟩
    have ha : biA s n (v : Int) = v := by unfold biA; rw [if_pos hW]; rfl
    rw [ha] at hso2 ⊢
    refine ⟨rfl, O', ?_, r2⟩
    have hk := hso2.ev (by rw [(biN_W s n v).1]; exact hW)
    have hn : biN s n v = ⟨s.W, s.ad, s.S, s.n + n, s.zs, (eBs s.a s.b s.c v n n).1, (eBs s.a s.b s.c v n n).2.1, (eBs s.a s.b s.c v n n).2.2⟩ := by unfold biN; rw [if_pos hW]
    refine ⟨fun _ => ?_, fun e => ?_, fun _ => hk.2, fun e => ?_⟩
    · rw [hn]; simpa using r1
    · rw [hn] at e; simp only at e; rw [hW] at e; cases e
    · rw [hn] at e; simp only at e; rw [hW] at e; cases e
theorem Fc.c0 {w : World} {lo x : Nat} {O : Nat → Prop} {s : Cs} (h : Fc w lo x O s) : (s.W = true → ∃ xe, w.cell? ⟨x, 0, none⟩ = some (.pointer (some ⟨xe, 0, none⟩))) ∧ (s.W = false → w.cell? ⟨x, 0, none⟩ = some (.pointer none)) ∧ w.cell? ⟨x, 4, none⟩ = some (.int .i64 (s.n : Int)) := by
  refine ⟨fun e => ?_, fun e => ?_, ?_⟩
  · obtain ⟨_, _, _, xe, _, h, _⟩ := h.wc e; exact ⟨xe, h.c0⟩
  · obtain ⟨_, _, _, _, _, h, _⟩ := h.rc e; exact h.c0
  · cases hW : s.W
    · obtain ⟨_, _, _, _, _, h, _⟩ := h.rc hW; exact h.c4
    · obtain ⟨_, _, _, xe, _, h, _⟩ := h.wc hW; exact h.c4
theorem fwrites_fc {w : World} {lo x : Nat} {O : Nat → Prop} {s : Cs} (h : Fc w lo x O s) : Calls Tryz.prog 46 #[.pointer (some ⟨x, 0, none⟩)] w fun e w' => e = .returned (.bool s.W) ∧ w' = w := by
  cases hW : s.W
  · have q := h.c0.2.1 hW
    clear h
    go_enter Tryz.func46, Tryz.ntmps46
    go_wp2
    go_ret
    exact ⟨rfl, rfl⟩
  · obtain ⟨xe, q⟩ := h.c0.1 hW
    clear h
    go_enter Tryz.func46, Tryz.ntmps46
    go_wp2
    go_ret
    exact ⟨rfl, rfl⟩

end Go.Proofs.YtkmnpechhdendaaGreatDoor

namespace Go.Proofs.YtkmnpechhdendaaGreatDoor
open Go.RowKit L3

set_option maxRecDepth 100000 in
set_option maxHeartbeats 1000000 in
theorem log_any {w : World} {x : Int} (h0 : 1 ≤ x) (h1 : x ≤ 1048576) : Calls Tryz.prog 107 #[.int .i64 x] w fun e w' => ∃ k : Nat, e = .returned (.int .i64 (k : Int)) ∧ Hid ((2 : Int) ^ k ≤ x ∧ x < 2 ^ (k + 1)) ∧ w' = w := by
  go_enter Tryz.func107, Tryz.ntmps107
  go_wp2_with fail
  go_loopw [0, 3] (fun xv kv wr => ∃ (y : Int) (k : Nat), xv = .int .i64 y ∧ kv = .int .i64 (k : Int) ∧ 1 ≤ y ∧ y ≤ 1048576 ∧ k ≤ 40 ∧ Hid (2 ^ k * y ≤ x ∧ x < 2 ^ k * (y + 1) ∧ y * 2 ^ k ≤ 1048576) ∧ wr = w) (fun xv _ _ => (intOf xv).toNat)
  case atStart => exact ⟨x, 0, rfl, rfl, h0, h1, by omega, ⟨by simp, by simp; omega, by simp; omega⟩, rfl⟩
  case round =>
    obtain ⟨y, k, rfl, rfl, y0, y1, hk, HI, rfl⟩ := hrel
    have k0 : (0 : Int) ≤ (k : Int) := by omega
    have k1 : (k : Int) ≤ 40 := by omega
    by_cases hy : 1 < y
    · have e1 : y.tdiv 2 = y / 2 := Int.tdiv_eq_ediv_of_nonneg (by omega)
      obtain ⟨h, hh⟩ : ∃ h, y / 2 = h := ⟨_, rfl⟩
      have e2 : y.tdiv 2 = h := by rw [e1, hh]
      have b1 : 1 ≤ h := by omega
      have b2 : h ≤ 1048576 := by omega
      have HN : Hid ((2 : Int) ^ (k + 1) * h ≤ x ∧ x < 2 ^ (k + 1) * (h + 1) ∧ h * 2 ^ (k + 1) ≤ 1048576 ∧ k + 1 ≤ 40 ∧ h < y) := by
        obtain ⟨i1, i2, i3⟩ := HI.out
        have hp : (0 : Int) < 2 ^ k := Int.pow_pos (by omega)
        have c1 : (2 : Int) ^ k * (2 * h) ≤ 2 ^ k * y := Int.mul_le_mul_of_nonneg_left (by omega) (by omega)
        have c2 : (2 : Int) ^ k * (y + 1) ≤ 2 ^ k * (2 * (h + 1)) := Int.mul_le_mul_of_nonneg_left (by omega) (by omega)
        have c3 : (2 : Int) ^ (k + 1) * h = 2 ^ k * (2 * h) := by rw [Int.pow_succ, Int.mul_assoc]
        have c4 : (2 : Int) ^ (k + 1) * (h + 1) = 2 ^ k * (2 * (h + 1)) := by rw [Int.pow_succ, Int.mul_assoc]
        have c5 : h * (2 : Int) ^ (k + 1) = 2 ^ k * (2 * h) := by rw [Int.mul_comm, c3]
        have c6 : y * (2 : Int) ^ k = 2 ^ k * y := Int.mul_comm _ _
        refine ⟨by omega, by omega, by omega, ?_, by omega⟩
        by_cases e : k + 1 ≤ 40
        · exact e
        · have := Nat.pow_le_pow_right (n := 2) (by omega) (show 40 ≤ k by omega)
          have e3 : (2 : Int) ^ k = ((2 ^ k : Nat) : Int) := by simp
          have e4 : (2 : Int) ^ k * 1 ≤ 2 ^ k * y := Int.mul_le_mul_of_nonneg_left (by omega) (by omega)
          have : (2 : Nat) ^ 40 = 1099511627776 := by decide
          omega
      clear HI hh e1
      go_wp2_with fail
      obtain ⟨n1, n2, n3, n4, n5⟩ := HN.out
      go_roundw
      case rel => exact ⟨h, k + 1, by go_num, by go_num, b1, b2, n4, ⟨n1, n2, n3⟩, (by first | trivial | rfl)⟩
      case measure => simp [intOf]; omega
    · obtain rfl : y = 1 := by omega
      have HF : Hid ((2 : Int) ^ k ≤ x ∧ x < 2 ^ (k + 1)) := by
        obtain ⟨i1, i2, _⟩ := HI.out
        exact ⟨by omega, by rw [Int.pow_succ]; omega⟩
      clear HI
      go_wp2_with fail
      go_ret
      exact ⟨k, rfl, HF, rfl⟩
theorem log_div {x : Int} {k j : Nat} (h : (2 : Int) ^ k ≤ x ∧ x < 2 ^ (k + 1)) : x / 2 ^ j = 1 ↔ j = k := by
  have hp : (0 : Int) < 2 ^ j := Int.pow_pos (by omega)
  constructor
  · intro e
    have h1 := Int.emod_add_mul_ediv x (2 ^ j)
    have h2 := Int.emod_nonneg x (show (2 : Int) ^ j ≠ 0 by omega)
    have h3 := Int.emod_lt_of_pos x hp
    rw [e, Int.mul_one] at h1
    have e2 : (2 : Int) ^ (j + 1) = 2 ^ j * 2 := Int.pow_succ _ _
    by_cases c1 : k + 1 ≤ j
    · have := L10.pow_le c1
      omega
    · by_cases c2 : j + 1 ≤ k
      · have := L10.pow_le c2
        omega
      · omega
  · rintro rfl
    have e2 : (2 : Int) ^ (j + 1) = 2 ^ j * 2 := Int.pow_succ _ _
    have h1 : 1 ≤ x / 2 ^ j := Int.le_ediv_of_mul_le hp (by omega)
    have h2 : x / 2 ^ j < 2 := Int.ediv_lt_of_lt_mul hp (by omega)
    omega
theorem ends_any {w : World} {z : Int} {n : Nat} (h : L10.Sz z n) : Calls Tryz.prog 49 #[.int .i64 z] w fun e w' => e = .returned (.int .i64 (endK z : Nat)) ∧ w' = w := by
  rcases h with ⟨rfl, _⟩ | ⟨rfl, _⟩ | ⟨rfl, _⟩ | ⟨rfl, _⟩ | ⟨rfl, _⟩
  all_goals
    go_enter Tryz.func49, Tryz.ntmps49
    go_wp2
    go_ret
    exact ⟨rfl, rfl⟩
def clip3 (x : Int) : Int := if x < 0 then 0 else if 3 < x then 3 else x
theorem clip_any {w : World} {x : Int} : Calls Tryz.prog 82 #[.int .i64 x, .int .i64 0, .int .i64 3] w fun e w' => e = .returned (.int .i64 (clip3 x)) ∧ w' = w := by
  by_cases h1 : x < 0
  · rw [show clip3 x = 0 by unfold clip3; rw [if_pos h1]]
    go_enter Tryz.func82, Tryz.ntmps82
    go_wp2
    go_ret
    exact ⟨rfl, rfl⟩
  · by_cases h2 : 3 < x
    · rw [show clip3 x = 3 by unfold clip3; rw [if_neg h1, if_pos h2]]
      go_enter Tryz.func82, Tryz.ntmps82
      go_wp2
      go_ret
      exact ⟨rfl, rfl⟩
    · rw [show clip3 x = x by unfold clip3; rw [if_neg h1, if_neg h2]]
      go_enter Tryz.func82, Tryz.ntmps82
      go_wp2
      go_ret
      exact ⟨rfl, rfl⟩
set_option maxRecDepth 100000 in
theorem abs_any {w : World} {x : Int} (h0 : -4611686018427387904 ≤ x) (h1 : x ≤ 4611686018427387904) : Calls Tryz.prog 51 #[.int .i64 x] w fun e w' => e = .returned (.int .i64 ((x.natAbs : Nat) : Int)) ∧ w' = w := by
  by_cases h : x < 0
  · have hw := wrap_small (x := -x) (by omega) (by omega)
    rw [show ((x.natAbs : Nat) : Int) = -x by omega]
    clear h0 h1
    go_enter Tryz.func51, Tryz.ntmps51
    go_wp2
    go_ret
    exact ⟨rfl, rfl⟩
  · rw [show ((x.natAbs : Nat) : Int) = x by omega]
    clear h0 h1
    go_enter Tryz.func51, Tryz.ntmps51
    go_wp2
    go_ret
    exact ⟨rfl, rfl⟩

/-- what length tells -/
def lv : Option Int → Value
  | some v => .tuple #[.int .i64 (v - 1), .int .i64 0]
  | none => .tuple #[.int .i64 0, .int .i64 4]
structure RlI (w : World) (lo y : Nat) (O : Nat → Prop) (x : Int) (W : Bool) (r : Option Int × Cs) (i : Value) (wr : World) : Prop where
  ex : ∃ (j : Nat) (O' : Nat → Prop) (s' : Cs), j ≤ 20 ∧ i = .int .i64 j ∧ Fc wr lo y O' s' ∧ Trn O O' w wr ∧ s'.W = W ∧ (lenL x (21 - j) j).Ok s' ∧ (lenL x (21 - j) j).run s' = r

set_option maxRecDepth 100000 in
set_option maxHeartbeats 4000000 in
theorem rlength_any {w : World} {lo y : Nat} {O : Nat → Prop} {s : Cs} (h : Fc w lo y O s) {x l : Int} (hl0 : 0 ≤ l) (hl1 : l ≤ 1048575) (hx : s.W = true → x = l + 1) (hok : (lenP x).Ok s) :
    Calls Tryz.prog 83 #[.pointer (some ⟨y, 0, none⟩), .int .i64 l] w fun e w' => e = .returned (lv ((lenP x).run s).1) ∧ Fg w w' lo y O ((lenP x).run s).2 := by
  have HS : Hid (RlI w lo y O x s.W ((lenP x).run s) (.int .i64 0) w) := ⟨0, O, s, by omega, rfl, h, Trn.of (Below.refl _ _), rfl, hok, rfl⟩
  generalize hr : (lenP x).run s = r at *
  have HX : Hid (s.W = true → x = l + 1) := hx
  clear h hok hr hx
  generalize s.W = W at *
  have hwl := wrap_small (x := l + 1) (by omega) (by omega)
  go_enter Tryz.func83, Tryz.ntmps83
  go_wp2_with fail
  refine (log_any (x := l + 1) (by omega) (by omega)).mono ?_
  rintro e w1 ⟨k, rfl, HK, hw1⟩
  obtain rfl : w = w1 := hw1.symm
  clear hw1
  go_wp2_with fail
  go_loopw [6] (fun i wr => RlI w lo y O x W r i wr) (fun i _ => 21 - (intOf i).toNat)
  case atStart => exact HS.out
  case round =>
    obtain ⟨j, O', s', hj, rfl, hg, ht, hW, hok, hrun⟩ := hrel
    have HT : Hid (Trn O O' w wr) := ht
    rw [show 21 - j = (20 - j) + 1 by omega, lenL] at hok hrun
    have hv := hok.1
    have hok2 := hok.2
    have hrun2 : (if biA s' 1 (bt (x / 2 ^ j = 1)) = 0 then lenL x (20 - j) (j + 1) else Prg.bits j (x - 2 ^ j) fun u => .ret (2 ^ j + (u : Int))).run (biN s' 1 (biA s' 1 (bt (x / 2 ^ j = 1)))) = r := hrun
    have hok3 : (if biA s' 1 (bt (x / 2 ^ j = 1)) = 0 then lenL x (20 - j) (j + 1) else Prg.bits j (x - 2 ^ j) fun u => .ret (2 ^ j + (u : Int))).Ok (biN s' 1 (biA s' 1 (bt (x / 2 ^ j = 1)))) := hok2
    have hlt : biA s' 1 (bt (x / 2 ^ j = 1)) < 2 := bi_lt (n := 1) hv.2.2
    have HZ : Hid (s'.W = true → (x / 2 ^ j = 1 ↔ j = k)) := fun e => by rw [HX.out (by rw [← hW]; exact e)]; exact log_div HK.out
    have HB1 : Hid (j = k → s'.W = true → (1 : Int) = bt (x / 2 ^ j = 1)) := fun e1 e2 => by rw [bt_yes ((HZ.out e2).2 e1)]
    have HB0 : Hid (j ≠ k → s'.W = true → (0 : Int) = bt (x / 2 ^ j = 1)) := fun e1 e2 => by rw [bt_no (fun e => e1 ((HZ.out e2).1 e))]
    have HSy : Hid (∀ z', (s'.W = true → z' = bt (x / 2 ^ j = 1)) → Calls Tryz.prog 50 #[.pointer (some ⟨y, 0, none⟩), .int .i64 (1 : Nat), .int .i64 z'] wr fun e w' => e = .returned (.tuple #[.int .i64 (biA s' 1 (bt (x / 2 ^ j = 1)) : Nat), .int .i64 0]) ∧ Fg wr w' lo y O' (biN s' 1 (biA s' 1 (bt (x / 2 ^ j = 1))))) := fun z' hz => fbits_fc hg hv hz
    have HWn : Hid (∀ v, (biN s' 1 v).W = W) := fun v => by rw [(biN_W s' 1 v).1]; exact hW
    obtain ⟨P, hP⟩ : ∃ P : Nat, 2 ^ j = P := ⟨_, rfl⟩
    have hP2 : (2 : Int) ^ j = (P : Int) := by rw [← hP]; simp
    have hPm : P ≤ 2 ^ 20 := by rw [← hP]; exact Nat.pow_le_pow_right (by omega) hj
    have hP0 : 1 ≤ P := by rw [← hP]; exact Nat.pow_pos (by omega)
    have HP : Hid ((2 : Int) ^ j = (P : Int)) := hP2
    have hP1 : (1 : Int) * 2 ^ j = (P : Int) := by rw [hP2]; omega
    generalize biA s' 1 (bt (x / 2 ^ j = 1)) = v at *
    generalize bt (x / 2 ^ j = 1) = zz at *
    have HJ : Hid (j ≤ 20) := hj
    have j0 : (0 : Int) ≤ (j : Int) := by omega
    have j1 : (j : Int) < 64 := by omega
    have hwP := wrap_small (x := (P : Int)) (by omega) (by omega)
    have hwx := wrap_small (x := l + 1 - (P : Int)) (by omega) (by omega)
    have HL2 : Hid (v = 0 ∨ v = 1) := by show _ ∨ _; omega
    have HR2 : Hid _ := hrun2
    have HO2 : Hid _ := hok3
    have HLt : Hid (v < 2) := hlt
    clear hg ht hok hok2 hrun hv hP hP2 hj hW HZ hrun2 hok3 hlt
    by_cases hjk : j = k
    · have HSz : Hid (Calls Tryz.prog 50 #[.pointer (some ⟨y, 0, none⟩), .int .i64 1, .int .i64 1] wr fun e w' => e = .returned (.tuple #[.int .i64 (v : Nat), .int .i64 0]) ∧ Fg wr w' lo y O' (biN s' 1 v)) := HSy.out 1 (HB1.out hjk)
      have hd : ((j : Int) == (k : Int)) = true := by rw [hjk]; simp
      clear HSy HB1 HB0 hjk
      go_wp2_with fail
      refine HSz.out.mono ?_
      rintro e wA ⟨rfl, O2, g2, t2⟩
      have HG2 : Hid (Fc wA lo y O2 (biN s' 1 v)) := g2
      have HT2 : Hid (Trn O O2 w wA) := HT.out.trans t2
      clear g2 t2 HSz hd HT
      rcases HL2.out with e0 | e0
      · have HR3 : Hid ((lenL x (20 - j) (j + 1)).run (biN s' 1 v) = r) := by have := HR2.out; rw [if_pos e0] at this; exact this
        have HO3 : Hid ((lenL x (20 - j) (j + 1)).Ok (biN s' 1 v)) := by have := HO2.out; rw [if_pos e0] at this; exact this
        have hv0 : ((v : Int) == 1) = false := by rw [e0]; rfl
        clear HR2 HO2 e0 HL2 HLt
        by_cases h20 : j = 20
        · have hgt : (20 : Int) < (j : Int) + 1 := by omega
          have HRn : Hid (r = (none, biN s' 1 v)) := by have := HR3.out; rw [h20] at this; exact this.symm
          clear HR3 HO3 h20
          go_wp2_with fail
          refine bodyPost_ret (v := .tuple #[.int .i64 0, .int .i64 4]) (by simp [results, Tryz.results83, go_sem]) rfl ?_
          rw [HRn.out]
          exact ⟨rfl, _, HG2.out, HT2.out⟩
        · have hgt : ¬ (20 : Int) < (j : Int) + 1 := by have := HJ.out; omega
          have HRn : Hid ((lenL x (21 - (j + 1)) (j + 1)).run (biN s' 1 v) = r) := by have := HR3.out; rw [show 20 - j = 21 - (j + 1) by omega] at this; exact this
          have HOn : Hid ((lenL x (21 - (j + 1)) (j + 1)).Ok (biN s' 1 v)) := by have := HO3.out; rw [show 20 - j = 21 - (j + 1) by omega] at this; exact this
          have HJ2 : Hid (j ≠ 20) := h20
          clear HR3 HO3 h20
          go_wp2_with fail
          have hj := HJ.out
          have hj2 := HJ2.out
          go_roundw
          case rel => exact ⟨⟨j + 1, O2, biN s' 1 v, by omega, by go_num, HG2.out, HT2.out, HWn.out v, HOn.out, HRn.out⟩⟩
          case measure => simp [intOf]; omega
      · have HR3 : Hid ((Prg.bits j (x - 2 ^ j) fun u => .ret (2 ^ j + (u : Int))).run (biN s' 1 v) = r) := by have := HR2.out; rw [if_neg (by omega)] at this; exact this
        have HO3 : Hid ((Prg.bits j (x - 2 ^ j) fun u => Prg.ret (2 ^ j + (u : Int))).Ok (biN s' 1 v)) := by have := HO2.out; rw [if_neg (by omega)] at this; exact this
        have hv0 : ((v : Int) == 1) = true := by rw [e0]; rfl
        have HW2 : Hid ((biN s' 1 v).W = W) := HWn.out v
        clear HR2 HO2 e0 HL2 HLt HWn
        generalize biN s' 1 v = s2 at *
        have hv := HO3.out.1
        rw [HP.out] at hv
        have HSy : Hid (∀ u z', Fc u lo y O2 s2 → (s2.W = true → z' = x - (P : Int)) → Calls Tryz.prog 50 #[.pointer (some ⟨y, 0, none⟩), .int .i64 (j : Nat), .int .i64 z'] u fun e w' => e = .returned (.tuple #[.int .i64 (biA s2 j (x - (P : Int)) : Nat), .int .i64 0]) ∧ Fg u w' lo y O2 (biN s2 j (biA s2 j (x - (P : Int))))) := fun u z' hu hz => fbits_fc hu (by rw [HP.out]; exact hv) hz
        have HRn : Hid (r = (some ((P : Int) + (biA s2 j (x - (P : Int)) : Nat)), biN s2 j (biA s2 j (x - (P : Int))))) := by
          have h1 : (some ((2 : Int) ^ j + ((biA s2 j (x - 2 ^ j) : Nat) : Int)), biN s2 j (biA s2 j (x - 2 ^ j))) = r := HR3.out
          rw [HP.out] at h1
          exact h1.symm
        have hul : biA s2 j (x - (P : Int)) < 2 ^ 20 := by
          have h1 := bi_lt (s := s2) (n := j) (z := x - (P : Int)) (by rw [HP.out]; exact hv.2.2)
          have h2 : 2 ^ j ≤ 2 ^ 20 := Nat.pow_le_pow_right (by omega) HJ.out
          omega
        have hwu := wrap_small (x := ((biA s2 j (x - (P : Int)) : Nat) : Int) + (P : Int)) (by omega) (by omega)
        have hwv := wrap_small (x := ((biA s2 j (x - (P : Int)) : Nat) : Int) + (P : Int) - 1) (by omega) (by omega)
        generalize biA s2 j (x - (P : Int)) = u at *
        clear hv HR3 HO3 hul
        go_wp2_with fail
        refine (fwrites_fc HG2.out).mono ?_
        rintro e wB ⟨rfl, hwB⟩
        obtain rfl : wA = wB := hwB.symm
        clear hwB
        cases hs2 : s2.W
        · have HSz : Hid (Calls Tryz.prog 50 #[.pointer (some ⟨y, 0, none⟩), .int .i64 (j : Nat), .int .i64 0] wA fun e w' => e = .returned (.tuple #[.int .i64 (u : Nat), .int .i64 0]) ∧ Fg wA w' lo y O2 (biN s2 j u)) := HSy.out _ 0 HG2.out (fun e => by rw [hs2] at e; cases e)
          clear HSy
          go_wp2_with fail
          refine HSz.out.mono ?_
          rintro e wD ⟨rfl, hmD⟩
          have HM : Hid (Fg wA wD lo y O2 (biN s2 j u)) := hmD
          clear hmD HSz
          go_wp2_with fail
          refine bodyPost_ret (v := .tuple #[.int .i64 ((u : Int) + (P : Int) - 1), .int .i64 0]) (by simp [results, Tryz.results83, go_sem]) rfl ?_
          rw [HRn.out]
          refine ⟨?_, Fg.trans HT2.out HM.out⟩
          show _ = Ending.returned (Value.tuple #[.int .i64 ((P : Int) + (u : Int) - 1), .int .i64 0])
          rw [show (P : Int) + (u : Int) - 1 = (u : Int) + (P : Int) - 1 by omega]
        · have HSz : Hid (Calls Tryz.prog 50 #[.pointer (some ⟨y, 0, none⟩), .int .i64 (j : Nat), .int .i64 (l + 1 - (P : Int))] wA fun e w' => e = .returned (.tuple #[.int .i64 (u : Nat), .int .i64 0]) ∧ Fg wA w' lo y O2 (biN s2 j u)) := HSy.out _ _ HG2.out (fun e => by rw [HX.out (by rw [← HW2.out]; exact e)])
          clear HSy
          go_wp2_with fail
          refine HSz.out.mono ?_
          rintro e wD ⟨rfl, hmD⟩
          have HM : Hid (Fg wA wD lo y O2 (biN s2 j u)) := hmD
          clear hmD HSz
          go_wp2_with fail
          refine bodyPost_ret (v := .tuple #[.int .i64 ((u : Int) + (P : Int) - 1), .int .i64 0]) (by simp [results, Tryz.results83, go_sem]) rfl ?_
          rw [HRn.out]
          refine ⟨?_, Fg.trans HT2.out HM.out⟩
          show _ = Ending.returned (Value.tuple #[.int .i64 ((P : Int) + (u : Int) - 1), .int .i64 0])
          rw [show (P : Int) + (u : Int) - 1 = (u : Int) + (P : Int) - 1 by omega]
    · have HSz : Hid (Calls Tryz.prog 50 #[.pointer (some ⟨y, 0, none⟩), .int .i64 1, .int .i64 0] wr fun e w' => e = .returned (.tuple #[.int .i64 (v : Nat), .int .i64 0]) ∧ Fg wr w' lo y O' (biN s' 1 v)) := HSy.out 0 (HB0.out hjk)
      have hd : ((j : Int) == (k : Int)) = false := by rw [beq_eq_false_iff_ne]; omega
      clear HSy HB1 HB0 hjk
      go_wp2_with fail
      refine HSz.out.mono ?_
      rintro e wA ⟨rfl, O2, g2, t2⟩
      have HG2 : Hid (Fc wA lo y O2 (biN s' 1 v)) := g2
      have HT2 : Hid (Trn O O2 w wA) := HT.out.trans t2
      clear g2 t2 HSz hd HT
      rcases HL2.out with e0 | e0
      · have HR3 : Hid ((lenL x (20 - j) (j + 1)).run (biN s' 1 v) = r) := by have := HR2.out; rw [if_pos e0] at this; exact this
        have HO3 : Hid ((lenL x (20 - j) (j + 1)).Ok (biN s' 1 v)) := by have := HO2.out; rw [if_pos e0] at this; exact this
        have hv0 : ((v : Int) == 1) = false := by rw [e0]; rfl
        clear HR2 HO2 e0 HL2 HLt
        by_cases h20 : j = 20
        · have hgt : (20 : Int) < (j : Int) + 1 := by omega
          have HRn : Hid (r = (none, biN s' 1 v)) := by have := HR3.out; rw [h20] at this; exact this.symm
          clear HR3 HO3 h20
          go_wp2_with fail
          refine bodyPost_ret (v := .tuple #[.int .i64 0, .int .i64 4]) (by simp [results, Tryz.results83, go_sem]) rfl ?_
          rw [HRn.out]
          exact ⟨rfl, _, HG2.out, HT2.out⟩
        · have hgt : ¬ (20 : Int) < (j : Int) + 1 := by have := HJ.out; omega
          have HRn : Hid ((lenL x (21 - (j + 1)) (j + 1)).run (biN s' 1 v) = r) := by have := HR3.out; rw [show 20 - j = 21 - (j + 1) by omega] at this; exact this
          have HOn : Hid ((lenL x (21 - (j + 1)) (j + 1)).Ok (biN s' 1 v)) := by have := HO3.out; rw [show 20 - j = 21 - (j + 1) by omega] at this; exact this
          have HJ2 : Hid (j ≠ 20) := h20
          clear HR3 HO3 h20
          go_wp2_with fail
          have hj := HJ.out
          have hj2 := HJ2.out
          go_roundw
          case rel => exact ⟨⟨j + 1, O2, biN s' 1 v, by omega, by go_num, HG2.out, HT2.out, HWn.out v, HOn.out, HRn.out⟩⟩
          case measure => simp [intOf]; omega
      · have HR3 : Hid ((Prg.bits j (x - 2 ^ j) fun u => .ret (2 ^ j + (u : Int))).run (biN s' 1 v) = r) := by have := HR2.out; rw [if_neg (by omega)] at this; exact this
        have HO3 : Hid ((Prg.bits j (x - 2 ^ j) fun u => Prg.ret (2 ^ j + (u : Int))).Ok (biN s' 1 v)) := by have := HO2.out; rw [if_neg (by omega)] at this; exact this
        have hv0 : ((v : Int) == 1) = true := by rw [e0]; rfl
        have HW2 : Hid ((biN s' 1 v).W = W) := HWn.out v
        clear HR2 HO2 e0 HL2 HLt HWn
        generalize biN s' 1 v = s2 at *
        have hv := HO3.out.1
        rw [HP.out] at hv
        have HSy : Hid (∀ u z', Fc u lo y O2 s2 → (s2.W = true → z' = x - (P : Int)) → Calls Tryz.prog 50 #[.pointer (some ⟨y, 0, none⟩), .int .i64 (j : Nat), .int .i64 z'] u fun e w' => e = .returned (.tuple #[.int .i64 (biA s2 j (x - (P : Int)) : Nat), .int .i64 0]) ∧ Fg u w' lo y O2 (biN s2 j (biA s2 j (x - (P : Int))))) := fun u z' hu hz => fbits_fc hu (by rw [HP.out]; exact hv) hz
        have HRn : Hid (r = (some ((P : Int) + (biA s2 j (x - (P : Int)) : Nat)), biN s2 j (biA s2 j (x - (P : Int))))) := by
          have h1 : (some ((2 : Int) ^ j + ((biA s2 j (x - 2 ^ j) : Nat) : Int)), biN s2 j (biA s2 j (x - 2 ^ j))) = r := HR3.out
          rw [HP.out] at h1
          exact h1.symm
        have hul : biA s2 j (x - (P : Int)) < 2 ^ 20 := by
          have h1 := bi_lt (s := s2) (n := j) (z := x - (P : Int)) (by rw [HP.out]; exact hv.2.2)
          have h2 : 2 ^ j ≤ 2 ^ 20 := Nat.pow_le_pow_right (by omega) HJ.out
          omega
        have hwu := wrap_small (x := ((biA s2 j (x - (P : Int)) : Nat) : Int) + (P : Int)) (by omega) (by omega)
        have hwv := wrap_small (x := ((biA s2 j (x - (P : Int)) : Nat) : Int) + (P : Int) - 1) (by omega) (by omega)
        generalize biA s2 j (x - (P : Int)) = u at *
        clear hv HR3 HO3 hul
        go_wp2_with fail
        refine (fwrites_fc HG2.out).mono ?_
        rintro e wB ⟨rfl, hwB⟩
        obtain rfl : wA = wB := hwB.symm
        clear hwB
        cases hs2 : s2.W
        · have HSz : Hid (Calls Tryz.prog 50 #[.pointer (some ⟨y, 0, none⟩), .int .i64 (j : Nat), .int .i64 0] wA fun e w' => e = .returned (.tuple #[.int .i64 (u : Nat), .int .i64 0]) ∧ Fg wA w' lo y O2 (biN s2 j u)) := HSy.out _ 0 HG2.out (fun e => by rw [hs2] at e; cases e)
          clear HSy
          go_wp2_with fail
          refine HSz.out.mono ?_
          rintro e wD ⟨rfl, hmD⟩
          have HM : Hid (Fg wA wD lo y O2 (biN s2 j u)) := hmD
          clear hmD HSz
          go_wp2_with fail
          refine bodyPost_ret (v := .tuple #[.int .i64 ((u : Int) + (P : Int) - 1), .int .i64 0]) (by simp [results, Tryz.results83, go_sem]) rfl ?_
          rw [HRn.out]
          refine ⟨?_, Fg.trans HT2.out HM.out⟩
          show _ = Ending.returned (Value.tuple #[.int .i64 ((P : Int) + (u : Int) - 1), .int .i64 0])
          rw [show (P : Int) + (u : Int) - 1 = (u : Int) + (P : Int) - 1 by omega]
        · have HSz : Hid (Calls Tryz.prog 50 #[.pointer (some ⟨y, 0, none⟩), .int .i64 (j : Nat), .int .i64 (l + 1 - (P : Int))] wA fun e w' => e = .returned (.tuple #[.int .i64 (u : Nat), .int .i64 0]) ∧ Fg wA w' lo y O2 (biN s2 j u)) := HSy.out _ _ HG2.out (fun e => by rw [HX.out (by rw [← HW2.out]; exact e)])
          clear HSy
          go_wp2_with fail
          refine HSz.out.mono ?_
          rintro e wD ⟨rfl, hmD⟩
          have HM : Hid (Fg wA wD lo y O2 (biN s2 j u)) := hmD
          clear hmD HSz
          go_wp2_with fail
          refine bodyPost_ret (v := .tuple #[.int .i64 ((u : Int) + (P : Int) - 1), .int .i64 0]) (by simp [results, Tryz.results83, go_sem]) rfl ?_
          rw [HRn.out]
          refine ⟨?_, Fg.trans HT2.out HM.out⟩
          show _ = Ending.returned (Value.tuple #[.int .i64 ((P : Int) + (u : Int) - 1), .int .i64 0])
          rw [show (P : Int) + (u : Int) - 1 = (u : Int) + (P : Int) - 1 by omega]

end Go.Proofs.YtkmnpechhdendaaGreatDoor

namespace Go.Proofs.YtkmnpechhdendaaGreatDoor
open Go.RowKit L3

/-- what amount tells -/
def av : Option Int → Value
  | some v => .tuple #[.int .i64 v, .int .i64 0]
  | none => .tuple #[.int .i64 15, .int .i64 4]
theorem amtL_lt {col more : Nat} {a said part : Int} (m : Nat) (h : part < 3) : amtL col more a m said part = .ret (said + part) := by
  cases m <;> rw [amtL, if_pos h]
theorem amtL_more {col more : Nat} {a said : Int} (m : Nat) : amtL col more a (m + 1) said 3 = .sym 29 (7 * col + more) (min 3 (a - (said + 3))) fun v => amtL col more a m (said + 3) (v : Int) := by
  rw [amtL, if_neg (by omega)]; rfl
theorem amtL_end {col more : Nat} {a said : Int} : amtL col more a 0 said 3 = (lenP (a - (said + 3) + 1)).bind fun l => .ret (said + 3 + (l - 1)) := by
  rw [amtL, if_neg (by omega)]
theorem clip_min {x : Int} (h : 0 ≤ x) : clip3 x = min 3 x := by
  unfold clip3
  rw [if_neg (by omega)]
  split <;> omega
structure RaI (w : World) (lo y : Nat) (O : Nat → Prop) (col more : Nat) (a : Int) (W : Bool) (r : Option Int × Cs) (sv iv : Value) (wr : World) : Prop where
  ex : ∃ (j : Nat) (sd : Int) (O' : Nat → Prop) (s' : Cs), j ≤ 4 ∧ iv = .int .i64 j ∧ sd = 3 * (j : Int) ∧ sv = .int .i64 (sd + 3) ∧ Fc wr lo y O' s' ∧ Trn O O' w wr ∧ s'.W = W ∧ (W = true → sd + 3 ≤ a) ∧ (amtL col more a (4 - j) sd 3).Ok s' ∧ (amtL col more a (4 - j) sd 3).run s' = r

set_option maxRecDepth 100000 in
set_option maxHeartbeats 4000000 in
theorem ramount_any {w : World} {lo y : Nat} {O : Nat → Prop} {s : Cs} (h : Fc w lo y O s) {col more : Nat} {a : Int} (ha0 : 0 ≤ a) (ha1 : a ≤ 1048576) {p cx : Nat} (hp : p ≤ 3) (hcx : cx = 7 * col + more) (hw : s.W = true → (p : Int) ≤ a) (hok : (amtL col more a 4 0 p).Ok s) :
    Calls Tryz.prog 54 #[.pointer (some ⟨y, 0, none⟩), .int .i64 (p : Int), .int .i64 (cx : Int), .int .i64 a] w fun e w' => e = .returned (av ((amtL col more a 4 0 p).run s).1) ∧ Fg w w' lo y O ((amtL col more a 4 0 p).run s).2 := by
  by_cases h3 : p < 3
  · have HR : Hid ((amtL col more a 4 0 p).run s = (some (p : Int), s)) := by show _ = _; rw [amtL_lt 4 (by omega)]; simp [Prg.run]
    have HG : Hid (Fc w lo y O s) := h
    have hd : (p : Int) < 3 := by omega
    clear hok hw h hcx
    go_enter Tryz.func54, Tryz.ntmps54
    go_wp2_with fail
    refine bodyPost_ret (v := .tuple #[.int .i64 (p : Int), .int .i64 0]) (by simp [results, Tryz.results54, go_sem]) rfl ?_
    rw [HR.out]
    exact ⟨rfl, Fg.refl HG.out⟩
  · obtain rfl : p = 3 := by omega
    rw [show ((3 : Nat) : Int) = 3 from rfl] at hok ⊢
    have HS : Hid (RaI w lo y O col more a s.W ((amtL col more a 4 0 3).run s) (.int .i64 3) (.int .i64 0) w) := ⟨0, 0, O, s, by omega, rfl, by omega, rfl, h, Trn.of (Below.refl _ _), rfl, fun e => by have := hw e; omega, hok, rfl⟩
    generalize hr : (amtL col more a 4 0 3).run s = r at *
    clear h hok hr hw h3
    generalize s.W = W at *
    have HCx : Hid (cx = 7 * col + more) := hcx
    clear hcx
    go_enter Tryz.func54, Tryz.ntmps54
    go_wp2_with fail
    go_loopw [10, 11] (fun sv iv wr => RaI w lo y O col more a W r sv iv wr) (fun _ i _ => 5 - (intOf i).toNat)
    case atStart => exact HS.out
    case round =>
      obtain ⟨j, sd, O', s', hj, rfl, hsd, rfl, hg, ht, hW, hwr, hok, hrun⟩ := hrel
      have HT : Hid (Trn O O' w wr) := ht
      have HWr : Hid (W = true → sd + 3 ≤ a) := hwr
      have HWs : Hid (s'.W = W) := hW
      have HG : Hid (Fc wr lo y O' s') := hg
      have HSd : Hid (sd = 3 * (j : Int)) := hsd
      by_cases h4 : j < 4
      · rw [show 4 - j = (3 - j) + 1 by omega, amtL_more, ← HCx.out] at hok hrun
        have hv := hok.1
        have hok2 : (amtL col more a (3 - j) (sd + 3) ((syA s' 29 cx (min 3 (a - (sd + 3))) : Nat) : Int)).Ok (syN s' 29 cx (syA s' 29 cx (min 3 (a - (sd + 3))))) := hok.2
        have hrun2 : (amtL col more a (3 - j) (sd + 3) ((syA s' 29 cx (min 3 (a - (sd + 3))) : Nat) : Int)).run (syN s' 29 cx (syA s' 29 cx (min 3 (a - (sd + 3))))) = r := hrun
        have hlt : syA s' 29 cx (min 3 (a - (sd + 3))) < 4 := sy_lt hg.so hv.1 hv.2.1 hv.2.2.2
        have HVw : Hid (W = true → ((syA s' 29 cx (min 3 (a - (sd + 3))) : Nat) : Int) = min 3 (a - (sd + 3))) := fun e => by
          have e1 : s'.W = true := by rw [hW]; exact e
          have := hwr e
          unfold syA
          rw [if_pos e1]
          omega
        have HSy : Hid (Calls Tryz.prog 47 #[.pointer (some ⟨y, 0, none⟩), .int .i64 (29 : Nat), .int .i64 (cx : Nat), .int .i64 (clip3 (a - (sd + 3)))] wr fun e w' => e = .returned (.tuple #[.int .i64 (syA s' 29 cx (min 3 (a - (sd + 3))) : Nat), .int .i64 0]) ∧ Fg wr w' lo y O' (syN s' 29 cx (syA s' 29 cx (min 3 (a - (sd + 3)))))) := fsymbol_fc hg hv (fun e => clip_min (by have := hwr (by rw [← hW]; exact e); omega))
        have HWn : Hid (∀ v, (syN s' 29 cx v).W = W) := fun v => by rw [(syN_W s' 29 cx v).1]; exact hW
        generalize syA s' 29 cx (min 3 (a - (sd + 3))) = v at *
        have HO2 : Hid _ := hok2
        have HR2 : Hid _ := hrun2
        have hwa := wrap_small (x := a - (sd + 3)) (by omega) (by omega)
        have hws := wrap_small (x := sd + 3 + (v : Int)) (by omega) (by omega)
        have hj4 : (j : Int) < 4 := by omega
        have HLt : Hid (v < 4) := hlt
        have HJ : Hid (j < 4) := h4
        clear hok hrun hv hok2 hrun2 hg ht hW hwr hlt hsd h4 hj
        go_wp2_with fail
        refine clip_any.mono ?_
        rintro e w1 ⟨rfl, hw1⟩
        obtain rfl : wr = w1 := hw1.symm
        clear hw1
        generalize clip3 (a - (sd + 3)) = zz at *
        go_wp2_with fail
        refine HSy.out.mono ?_
        rintro e w2 ⟨rfl, O2, g2, t2⟩
        have HG2 : Hid (Fc w2 lo y O2 (syN s' 29 cx v)) := g2
        have HT2 : Hid (Trn O O2 w w2) := HT.out.trans t2
        clear g2 t2 HSy
        by_cases hv3 : v < 3
        · have hd : (v : Int) < 3 := by omega
          have HRn : Hid (r = (some (sd + 3 + (v : Int)), syN s' 29 cx v)) := by have := HR2.out; rw [amtL_lt _ hd] at this; exact this.symm
          clear HR2 HO2 hv3 HLt
          go_wp2_with fail
          refine bodyPost_ret (v := .tuple #[.int .i64 (sd + 3 + (v : Int)), .int .i64 0]) (by simp [results, Tryz.results54, go_sem]) rfl ?_
          rw [HRn.out]
          exact ⟨rfl, _, HG2.out, HT2.out⟩
        · have hd : ¬ (v : Int) < 3 := by omega
          have e3 : (v : Int) = 3 := by have := HLt.out; omega
          have HOn : Hid ((amtL col more a (4 - (j + 1)) (sd + 3) 3).Ok (syN s' 29 cx v)) := by have := HO2.out; rw [e3, show 3 - j = 4 - (j + 1) by omega] at this; exact this
          have HRn : Hid ((amtL col more a (4 - (j + 1)) (sd + 3) 3).run (syN s' 29 cx v) = r) := by have := HR2.out; rw [e3, show 3 - j = 4 - (j + 1) by omega] at this; exact this
          have HWx : Hid (W = true → sd + 3 + 3 ≤ a) := fun e => by have := HVw.out e; omega
          have HE3 : Hid ((v : Int) = 3) := e3
          clear HR2 HO2 hv3 HLt e3 HVw
          go_wp2_with fail
          have hj := HJ.out
          have e3 := HE3.out
          have hsd := HSd.out
          go_roundw
          case rel => exact ⟨⟨j + 1, sd + 3, O2, syN s' 29 cx v, by omega, by go_num, by omega, by rw [e3], HG2.out, HT2.out, HWn.out v, HWx.out, HOn.out, HRn.out⟩⟩
          case measure => simp [intOf]; omega
      · obtain rfl : j = 4 := by omega
        rw [show 4 - 4 = 0 by rfl, amtL_end] at hok hrun
        obtain ⟨ok1, _⟩ := Prg.ok_bind _ _ _ hok
        have hs12 : sd = 12 := by omega
        rw [hs12] at ok1 hrun
        have HLn : Hid (Calls Tryz.prog 83 #[.pointer (some ⟨y, 0, none⟩), .int .i64 (max (a - 15) 0)] wr fun e w' => e = .returned (lv ((lenP (a - (12 + 3) + 1)).run s').1) ∧ Fg wr w' lo y O' ((lenP (a - (12 + 3) + 1)).run s').2) := rlength_any hg (by omega) (by omega) (fun e => by have := hwr (by rw [← hW]; exact e); omega) ok1
        have HGd : Hid (∀ v, ((lenP (a - (12 + 3) + 1)).run s').1 = some v → 1 ≤ v ∧ v < 2097152) := fun v hv => good_res _ _ _ (len_good _ 21 0 rfl) hg.so ok1 v hv
        obtain ⟨q, hq⟩ : ∃ q, (lenP (a - (12 + 3) + 1)).run s' = q := ⟨_, rfl⟩
        rw [hq] at HLn HGd
        obtain ⟨v, s2⟩ := q
        have hwa := wrap_small (x := a - 15) (by omega) (by omega)
        have hj4 : ¬ ((4 : Nat) : Int) < 4 := by omega
        cases v with
        | none =>
          have HRn : Hid (r = (none, s2)) := by have := hrun; rw [Prg.run_none hq] at this; exact this.symm
          clear hrun hok ok1 hq hg ht hW hwr hsd hs12 HGd hj h4
          go_wp2_with fail
          refine HLn.out.mono ?_
          rintro e w2 ⟨rfl, hm⟩
          have HM : Hid (Fg wr w2 lo y O' s2) := hm
          clear hm HLn
          simp only [lv]
          go_wp2_with fail
          refine bodyPost_ret (v := .tuple #[.int .i64 15, .int .i64 4]) (by simp [results, Tryz.results54, go_sem]) rfl ?_
          rw [HRn.out]
          exact ⟨rfl, Fg.trans HT.out HM.out⟩
        | some v =>
          have HRn : Hid (r = (some (12 + 3 + (v - 1)), s2)) := by have := hrun; rw [Prg.run_some hq] at this; exact this.symm
          have hv := HGd.out v rfl
          have hwv := wrap_small (x := 15 + (v - 1)) (by omega) (by omega)
          clear hrun hok ok1 hq hg ht hW hwr hsd hs12 HGd hj h4
          go_wp2_with fail
          refine HLn.out.mono ?_
          rintro e w2 ⟨rfl, hm⟩
          have HM : Hid (Fg wr w2 lo y O' s2) := hm
          clear hm HLn
          simp only [lv]
          go_wp2_with fail
          refine bodyPost_ret (v := .tuple #[.int .i64 (15 + (v - 1)), .int .i64 0]) (by simp [results, Tryz.results54, go_sem]) rfl ?_
          rw [HRn.out]
          exact ⟨rfl, Fg.trans HT.out HM.out⟩

end Go.Proofs.YtkmnpechhdendaaGreatDoor

namespace Go.Proofs.YtkmnpechhdendaaGreatDoor
open Go.RowKit L3

set_option maxRecDepth 100000 in
set_option maxHeartbeats 2000000 in
theorem asked_yes {w : World} {lo x : Nat} {O : Nat → Prop} {s : Cs} (h : Fc w lo x O s) {z : Int} {n : Nat} (hz : L10.Sz z n) {pl sg : Nat} (hp : pl ≤ 2) (hs : sg ≤ 2) {la : Option Addr} {len lc : Nat} (hl : s.W = true → len = n * n ∧ ∃ lb lf L, la = some ⟨lb, lf, none⟩ ∧ (∀ p, p < n * n → w.cell? ⟨lb, lf + p, none⟩ = some (.int .i64 (L.getD p 0))) ∧ ∀ p, -1048576 ≤ List.getD L p 0 ∧ L.getD p 0 ≤ 1048576) :
    Calls Tryz.prog 43 #[.pointer (some ⟨x, 0, none⟩), .int .i64 z, .int .i64 (pl : Int), .int .i64 (sg : Int), .slice la len lc] w fun e w' => e = .returned (.bool true) ∧ w' = w := by
  have hq : n * n ≤ 1024 := hz.sd.sq
  have hn : 4 ≤ n := hz.sd.lo
  have HSd : Hid (Calls Tryz.prog 44 #[.int .i64 z] w fun e w' => e = .returned (.int .i64 (n : Int)) ∧ w = w') := L10.side_yes hz
  have HWr : Hid (Calls Tryz.prog 46 #[.pointer (some ⟨x, 0, none⟩)] w fun e w' => e = .returned (.bool s.W) ∧ w' = w) := fwrites_fc h
  have n0 : ((n : Int) == 0) = false := by rw [beq_eq_false_iff_ne]; omega
  have p0 : ¬ (pl : Int) < 0 := by omega
  have p1 : ¬ (2 : Int) < (pl : Int) := by omega
  have s0 : ¬ (sg : Int) < 0 := by omega
  have s1 : ¬ (2 : Int) < (sg : Int) := by omega
  obtain ⟨q, hqn⟩ : ∃ q, n * n = q := ⟨_, rfl⟩
  have hqi : (n : Int) * (n : Int) = (q : Int) := by rw [← hqn]; simp
  rw [hqn] at hl
  have hwq := wrap_small (x := (q : Int)) (by omega) (by omega)
  have hq2 : (q : Int) ≤ 1024 := by omega
  clear h hz hp hs hq hn
  cases hW : s.W
  · rw [hW] at HWr
    clear hl
    go_enter Tryz.func43, Tryz.ntmps43
    go_wp2_with fail
    refine HSd.out.mono ?_
    rintro e w1 ⟨rfl, rfl⟩
    go_wp2_with fail
    refine HWr.out.mono ?_
    rintro e w1 ⟨rfl, rfl⟩
    go_wp2_with fail
    go_ret
    exact ⟨rfl, rfl⟩
  · rw [hW] at HWr
    obtain ⟨rfl, lb, lf, L, rfl, hc, hr⟩ := hl hW
    have HC : Hid (∀ p, p < len → w.cell? ⟨lb, lf + p, none⟩ = some (.int .i64 (L.getD p 0))) := hc
    have HR : Hid (∀ p, -1048576 ≤ List.getD L p 0 ∧ L.getD p 0 ≤ 1048576) := hr
    have hne : ((len : Int) == (len : Int)) = true := by simp
    clear hl hc hr hW hqn
    go_enter Tryz.func43, Tryz.ntmps43
    go_wp2_with fail
    refine HSd.out.mono ?_
    rintro e w1 ⟨rfl, rfl⟩
    go_wp2_with fail
    refine HWr.out.mono ?_
    rintro e w1 ⟨rfl, hw1⟩
    obtain rfl : w = w1 := hw1.symm
    clear hw1
    go_wp2_with fail
    go_loopw [12] (fun i wr => ∃ j : Nat, j ≤ len ∧ i = .int .i64 j ∧ wr = w) (fun i _ => len - (intOf i).toNat)
    case atStart => exact ⟨0, by omega, rfl, rfl⟩
    case round =>
      obtain ⟨j, hj, rfl, rfl⟩ := hrel
      by_cases hlt : j < len
      · have c := HC.out j hlt
        obtain ⟨r0, r1⟩ := HR.out j
        generalize L.getD j 0 = v at *
        have d0 : ¬ v < -1048576 := by omega
        have d1 : ¬ 1048576 < v := by omega
        have j0 : (0 : Int) ≤ (j : Int) := by omega
        have j1 : (j : Int) < (len : Int) := by omega
        have HJ : Hid (j < len) := hlt
        clear r0 r1 hlt hj
        go_wp2_with fail
        have hlt := HJ.out
        go_roundw
        case rel => exact ⟨j + 1, by omega, by go_num, (by first | trivial | rfl)⟩
        case measure => simp [intOf]; omega
      · have j1 : ¬ (j : Int) < (len : Int) := by omega
        clear hlt
        go_wp2_with fail
        go_ret
        exact ⟨rfl, rfl⟩

/-- what stays: the coder's least block, its own; size, side, places, colour, the sign's context; where order, out, levels lie; the levels -/
structure Pf where
  lo : Nat
  x : Nat
  z : Int
  n : Nat
  q : Nat
  col : Nat
  sg : Nat
  ob : Nat
  oc : Nat
  kb : Nat
  lb : Nat
  lc : Nat
  L : List Int
structure Gf (m : Pf) (K : List Int) (O : Nat → Prop) (s : Cs) (u : World) : Prop where
  fc : Fc u m.lo m.x O s
  olt : m.ob < u.heap.size
  llt : m.lb < u.heap.size
  od : ∀ i, i < m.q → u.cell? ⟨m.ob, i, none⟩ = some (.int .i64 ((plc m.n i : Nat) : Int))
  kn : L10.Ri 3 u m.kb K
  kl : K.length = m.q
  lv : ∀ p, p < m.q → u.cell? ⟨m.lb, p, none⟩ = some (.int .i64 (m.L.getD p 0))
  no : ¬ O m.ob
  nk : ¬ O m.kb
  nl : ¬ O m.lb
  kne : m.kb ≠ m.ob ∧ m.kb ≠ m.lb
  sz : L10.Sz m.z m.n
  hq : m.q = m.n * m.n
  hc : m.col ≤ 1
  hs : m.sg ≤ 2
theorem Gf.go {m : Pf} {K : List Int} {O O' : Nat → Prop} {s s' : Cs} {w w' : World} (h : Gf m K O s w) (hf : Fc w' m.lo m.x O' s') (ht : Trn O O' w w') : Gf m K O' s' w' := by
  have g : ∀ y, y < w.heap.size → ¬ O y → ¬ O' y := fun y hy hn e => by
    rcases ht.new y e with e2 | e2
    · exact hn e2
    · omega
  have hk := ht.ke
  exact ⟨hf, Nat.lt_of_lt_of_le h.olt hk.size, Nat.lt_of_lt_of_le h.llt hk.size, fun i hi => by rw [hk.cell _ _ h.olt h.no]; exact h.od i hi, h.kn.carry (hk.block _ h.kn.lt h.nk), h.kl, fun p hp => by rw [hk.cell _ _ h.llt h.nl]; exact h.lv p hp, g _ h.olt h.no, g _ h.kn.lt h.nk, g _ h.llt h.nl, h.kne, h.sz, h.hq, h.hc, h.hs⟩
theorem Gf.to {m : Pf} {K : List Int} {O : Nat → Prop} {s : Cs} {w w' : World} (h : Gf m K O s w) (hb : Below w.heap.size w w') : Gf m K O s w' := h.go (h.fc.to hb) (Trn.of hb)
theorem Gf.put {m : Pf} {K : List Int} {O : Nat → Prop} {s : Cs} {w : World} (h : Gf m K O s w) (k : Nat) (v : Int) : Gf m (K.set k v) O s (w.setCell ⟨m.kb, k, none⟩ (.int .i64 v)) := by
  have oth : ∀ y j, m.kb ≠ y → (w.setCell ⟨m.kb, k, none⟩ (.int .i64 v)).cell? ⟨y, j, none⟩ = w.cell? ⟨y, j, none⟩ := fun y j hy => World.cell?_setCell_other _ _ _ _ (fun e => hy (by simp only [Addr.mk.injEq, and_true] at e; exact e.1))
  exact ⟨h.fc.ke (P := fun y => y = m.kb) (Ke.set _ _ _ _ rfl) (fun b e => by subst e; exact h.nk), by rw [setCell_size]; exact h.olt, by rw [setCell_size]; exact h.llt, fun i hi => by rw [oth _ _ h.kne.1]; exact h.od i hi, h.kn.set k v, by rw [List.length_set]; exact h.kl, fun p hp => by rw [oth _ _ h.kne.2]; exact h.lv p hp, h.no, h.nk, h.nl, h.kne, h.sz, h.hq, h.hc, h.hs⟩
/-- what a call of the coder leaves of a block -/
def Sf (m : Pf) (w : World) (O : Nat → Prop) (K : List Int) (s : Cs) (u : World) : Prop := ∃ O', Gf m K O' s u ∧ Trn O O' w u ∧ w.heap.size ≤ m.kb
theorem Sf.to {m : Pf} {w : World} {O : Nat → Prop} {K : List Int} {s : Cs} {u u' : World} (h : Sf m w O K s u) (hb : Below u.heap.size u u') : Sf m w O K s u' := by
  obtain ⟨O', h1, h2, h3⟩ := h
  exact ⟨O', h1.to hb, h2.to hb, h3⟩
theorem Sf.put {m : Pf} {w : World} {O : Nat → Prop} {K : List Int} {s : Cs} {u : World} (h : Sf m w O K s u) (k : Nat) (v : Int) : Sf m w O (K.set k v) s (u.setCell ⟨m.kb, k, none⟩ (.int .i64 v)) := by
  obtain ⟨O', h1, h2, h3⟩ := h
  refine ⟨O', h1.put k v, ⟨⟨h2.ke.os, h2.ke.tape, h2.ke.output, by rw [setCell_size]; exact h2.ke.size, fun i hi hn => ?_⟩, h2.new⟩, h3⟩
  rw [Below.heap_setCell _ _ _ _ (fun e => by have e' : i = m.kb := e; omega)]
  exact h2.ke.block i hi hn
theorem Gf.sf {m : Pf} {w : World} {O O' : Nat → Prop} {K : List Int} {s s' : Cs} {u u' : World} (h1 : Gf m K O' s u) (h2 : Trn O O' w u) (h3 : w.heap.size ≤ m.kb) (hg : Fg u u' m.lo m.x O' s') : Sf m w O K s' u' := by
  obtain ⟨O2, g1, g2⟩ := hg
  exact ⟨O2, h1.go g1 g2, h2.trans g2, h3⟩
theorem sf_symbol {m : Pf} {w : World} {O : Nat → Prop} {K : List Int} {s : Cs} {u : World} (h : Sf m w O K s u) {kk cx : Nat} {z z' : Int} (hv : kk < 32 ∧ cx < sC kk ∧ s.n ≤ 1000000000 ∧ (s.W = true → 0 ≤ z ∧ z < (sV kk : Int))) (he : s.W = true → z' = z) :
    Calls Tryz.prog 47 #[.pointer (some ⟨m.x, 0, none⟩), .int .i64 kk, .int .i64 cx, .int .i64 z'] u fun e w' => e = .returned (.tuple #[.int .i64 (syA s kk cx z : Nat), .int .i64 0]) ∧ Sf m w O K (syN s kk cx (syA s kk cx z)) w' := by
  obtain ⟨O', h1, h2, h3⟩ := h
  refine (fsymbol_fc h1.fc hv he).mono ?_
  rintro e w' ⟨rfl, hg⟩
  exact ⟨rfl, h1.sf h2 h3 hg⟩
theorem sf_bits {m : Pf} {w : World} {O : Nat → Prop} {K : List Int} {s : Cs} {u : World} (h : Sf m w O K s u) {n : Nat} {z z' : Int} (hv : n ≤ 30 ∧ s.n ≤ 1000000000 ∧ (s.W = true → 0 ≤ z ∧ z < 2 ^ n)) (he : s.W = true → z' = z) :
    Calls Tryz.prog 50 #[.pointer (some ⟨m.x, 0, none⟩), .int .i64 n, .int .i64 z'] u fun e w' => e = .returned (.tuple #[.int .i64 (biA s n z : Nat), .int .i64 0]) ∧ Sf m w O K (biN s n (biA s n z)) w' := by
  obtain ⟨O', h1, h2, h3⟩ := h
  refine (fbits_fc h1.fc hv he).mono ?_
  rintro e w' ⟨rfl, hg⟩
  exact ⟨rfl, h1.sf h2 h3 hg⟩
theorem sf_amount {m : Pf} {w : World} {O : Nat → Prop} {K : List Int} {s : Cs} {u : World} (h : Sf m w O K s u) {more : Nat} {a : Int} (ha0 : 0 ≤ a) (ha1 : a ≤ 1048576) {p cx : Nat} (hp : p ≤ 3) (hcx : cx = 7 * m.col + more) (hw : s.W = true → (p : Int) ≤ a) (hok : (amtL m.col more a 4 0 p).Ok s) :
    Calls Tryz.prog 54 #[.pointer (some ⟨m.x, 0, none⟩), .int .i64 (p : Int), .int .i64 (cx : Int), .int .i64 a] u fun e w' => e = .returned (av ((amtL m.col more a 4 0 p).run s).1) ∧ Sf m w O K ((amtL m.col more a 4 0 p).run s).2 w' := by
  obtain ⟨O', h1, h2, h3⟩ := h
  refine (ramount_any h1.fc ha0 ha1 hp hcx hw hok).mono ?_
  rintro e w' ⟨rfl, hg⟩
  exact ⟨rfl, h1.sf h2 h3 hg⟩
theorem sf_base {m : Pf} {w : World} {O : Nat → Prop} {K : List Int} {s : Cs} {u : World} (h : Sf m w O K s u) {p : Nat} (hp : p < m.q) :
    Calls Tryz.prog 52 #[.slice (some ⟨m.kb, 0, none⟩) m.q m.q, .int .i64 m.z, .int .i64 (p : Int)] u fun e w' => e = .returned (.tuple #[.int .i64 (L10.bas K m.n p), .int .i64 0]) ∧ Sf m w O K s w' := by
  obtain ⟨O', h1, h2, h3⟩ := h
  refine (L10.rbase_yes h1.sz h1.kn.si h1.kl h1.hq hp).mono ?_
  rintro e w' ⟨rfl, k, rfl⟩
  exact ⟨rfl, Sf.to ⟨O', h1, h2, h3⟩ (L10.below_drewN (Below.refl _ _) k)⟩
theorem sf_more {m : Pf} {w : World} {O : Nat → Prop} {K : List Int} {s : Cs} {u : World} (h : Sf m w O K s u) {p : Nat} (hp : p < m.q) :
    Calls Tryz.prog 53 #[.slice (some ⟨m.kb, 0, none⟩) m.q m.q, .int .i64 m.z, .int .i64 (p : Int)] u fun e w' => e = .returned (.tuple #[.int .i64 (L10.mor K m.n p), .int .i64 0]) ∧ Sf m w O K s w' := by
  obtain ⟨O', h1, h2, h3⟩ := h
  refine (L10.rmore_yes h1.sz h1.kn.si h1.kl h1.hq hp).mono ?_
  rintro e w' ⟨rfl, k, rfl⟩
  exact ⟨rfl, Sf.to ⟨O', h1, h2, h3⟩ (L10.below_drewN (Below.refl _ _) k)⟩

end Go.Proofs.YtkmnpechhdendaaGreatDoor
