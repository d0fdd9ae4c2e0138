/- DERIVED. told, and what it leaves; the walk of MotionBlends. -/
import Derived.Test.YtpideemiijhkgaaDoorQc
import Derived.Test.YtpideemiijhkgaaDoorTo
import Derived.Test.YtpideemiijhkgaaDoorMh
import Derived.Test.YtpideemiijhkgaaDoorOp
import Derived.Test.YtpideemiijhkgaaDoorPa
import Derived.Deep.DeepCutAuto
import Derived.Deep.Light
namespace Go.Proofs.YtpideemiijhkgaaDoor
open Go.RowKit

/-- of the blocks of u only that of an answer has turned -/
structure Ko (a : Option Addr) (u w : World) : Prop where
  os : w.os = u.os
  tape : w.tape = u.tape
  output : w.output = u.output
  size : u.heap.size ≤ w.heap.size
  block : ∀ i, i < u.heap.size → (∀ o s, a ≠ some ⟨i, o, s⟩) → w.heap[i]? = u.heap[i]?
theorem Ko.of {a : Option Addr} {u w : World} (h : Below u.heap.size u w) : Ko a u w := ⟨h.os, h.tape, h.output, h.size, fun i hi _ => h.block i hi⟩
theorem Ko.kf {g : Nat} {u w : World} (h : Kf g u w) : Ko (some ⟨g, 0, none⟩) u w := ⟨h.os, h.tape, h.output, h.size, fun i hi hn => h.block i hi (fun e => hn 0 none (by rw [e]))⟩
theorem Ko.below {a : Option Addr} {u w : World} {B : Nat} (h : Ko a u w) (hB : B ≤ u.heap.size) (ha : ∀ b o s, a = some ⟨b, o, s⟩ → B ≤ b) : Below B u w := ⟨h.os, h.tape, h.output, h.size, fun i hi => h.block i (by omega) (fun o s e => by have := ha i o s e; omega)⟩
theorem Sl.ko {a b : Option Addr} {u w : World} {L : List Nat} (h : Sl u .u8 b L) (k : Ko a u w) (hn : ∀ i o s o' s', a = some ⟨i, o, s⟩ → b ≠ some ⟨i, o', s'⟩) : Sl w .u8 b L := by
  rcases h with h | ⟨i, o, e, hl, hc⟩
  · exact Or.inl h
  · exact Or.inr ⟨i, o, e, Nat.lt_of_lt_of_le hl k.size, fun j hj => by
      rw [World.cell?_of_block (w := u) (a := ⟨i, o + j, none⟩) (k.block i hl (fun o' s' e' => hn i o' s' o none e' e))]
      exact hc j hj⟩
theorem Rw.ko {a : Option Addr} {u w : World} {g : Nat} {L : List Nat} (h : Rw u g L) (k : Ko a u w) (hn : ∀ o s, a ≠ some ⟨g, o, s⟩) : Rw w g L := h.carry (k.block g h.lt hn)
theorem Aw.new {v u : World} {a : Option Addr} {L : List Nat} (h : Aw v u a L) : ∀ b o s, a = some ⟨b, o, s⟩ → v.heap.size ≤ b ∧ b < u.heap.size := fun b o s e => by
  rcases h with ⟨_, h⟩ | ⟨g, h, hr, hg⟩
  · rw [h] at e; cases e
  · rw [h] at e
    simp only [Option.some.injEq, Addr.mk.injEq] at e
    rw [← e.1]; exact ⟨hg, hr.lt⟩
theorem Aw.ko {a c : Option Addr} {v u w : World} {L : List Nat} (h : Aw v u c L) (k : Ko a u w) (hn : ∀ i o s, a = some ⟨i, o, s⟩ → i < v.heap.size) : Aw v w c L := by
  rcases h with h | ⟨g, e, hr, hg⟩
  · exact Or.inl h
  · exact Or.inr ⟨g, e, hr.ko k (fun o s e' => by have := hn g o s e'; omega), hg⟩

set_option maxRecDepth 100000 in
set_option maxHeartbeats 1000000 in
theorem told_ko {v u : World} {a b : Option Addr} {c d : Nat} {L : List Nat} {er : Int} (ha : Aw v u a L) (hs : Sl u .u8 b L) (hl : L.length ≤ 140737488355328) :
    Calls Tryd.prog 12 #[.slice a L.length c, .int .i64 er, .slice b L.length d, .int .i64 er] u fun e w' => e = .returned (.bool true) ∧ Ko a u w' := by
  have HE : Hid (Calls Tryd.prog 18 #[.slice a L.length c, .slice b L.length d] u fun e w' => e = .returned (.bool true) ∧ Below u.heap.size u w') := eqBytes_same ha.sl hs rfl hl
  have n1 : (L.length : Int) ≤ 140737488355328 := by omega
  have hee : (er == er) = true := by simp
  by_cases h0 : L.length = 0
  · rw [h0] at HE ⊢
    clear ha hs hl n1 h0
    go_enter Tryd.func12, Tryd.ntmps12
    go_wp2_with fail
    refine HE.out.mono ?_
    rintro e v1 ⟨rfl, hb⟩
    have HB : Hid (Ko a u v1) := Ko.of hb
    clear hb
    go_wp2_with fail
    go_loop [10] (fun i => i = .int .i64 0) (fun _ => 0)
    case atStart => rfl
    case round =>
      subst hrel
      go_wp2_with fail
      go_ret
      exact ⟨rfl, HB.out⟩
  · obtain ⟨g, rfl, hr, hg⟩ : ∃ g, a = some ⟨g, 0, none⟩ ∧ Rw u g L ∧ v.heap.size ≤ g := by
      rcases ha with ⟨h, _⟩ | h
      · rw [h] at h0; exact absurd rfl h0
      · exact h
    have HR : Hid (Rw u g L) := hr
    clear ha hs hl hr hg
    go_enter Tryd.func12, Tryd.ntmps12
    go_wp2_with fail
    refine HE.out.mono ?_
    rintro e v1 ⟨rfl, hb⟩
    have HW : Hid (Wz v1 g L.length) := (HR.out.to hb).wz
    have HB : Hid (Kf g u v1) := Kf.of g hb
    clear hb HE HR
    generalize L.length = n at *
    go_wp2_with fail
    go_loopw [10] (fun i wr => ∃ k : Nat, k ≤ n ∧ i = .int .i64 k ∧ Wz wr g n ∧ Kf g u wr) (fun i _ => n - (intOf i).toNat)
    case atStart => exact ⟨0, by omega, rfl, HW.out, HB.out⟩
    case round =>
      clear HW HB
      obtain ⟨k, hk, rfl, hw, hb⟩ := hrel
      have HB : Hid (Kf g u wr) := hb
      by_cases hlt : k < n
      · obtain ⟨z, hz⟩ := hw.cell k hlt
        have ht := hw.th k
        have HWn : Hid (∀ y, Wz (wr.setCell ⟨g, k, none⟩ (.int .u8 y)) g n) := fun y => hw.set y
        have k0 : (0 : Int) ≤ (k : Int) := by omega
        have k1 : (k : Int) < (n : Int) := by omega
        clear hw hb
        go_wp2_with fail
        go_roundw
        case rel => exact ⟨k + 1, by omega, by go_num, HWn.out _, HB.out.kb (Kb.setCell _ _ _ _)⟩
        case measure => simp [intOf]; omega
      · obtain rfl : k = n := by omega
        clear hw hb
        go_wp2_with fail
        go_ret
        exact ⟨rfl, Ko.kf HB.out⟩

theorem Sq.rs' {u w' : World} {e : Ending} {L : List Nat} (h : Sq u w' e L) : Rs u w' e L 0 := h.rs
/-- both Aboves answer alike -/
theorem both_above {C D : List Nat} (hC : Byt C) (hD : Byt D) (lC : C.length ≤ 140737488355328) (w X Y rw rh : Int) (bX : X ≤ 9223372036854775807) (bY : Y ≤ 9223372036854775807) : ∃ (L : List Nat) (er : Int), L.length ≤ 140737488355328 ∧
    (∀ (t : World) (a b : Option Addr) (c d : Nat), Sl t .u8 a C → Sl t .u8 b D → C.length ≤ c → Calls Tryd.prog 22 #[.slice a C.length c, .int .i64 w, .agg #[.int .i64 X, .int .i64 Y, .int .i64 rw, .int .i64 rh], .slice b D.length d] t fun e w' => Rs t w' e L er) ∧
    (∀ (t : World) (a b : Option Addr) (c d : Nat), Sl t .u8 a C → Sl t .u8 b D → Calls Tryd.prog 23 #[.slice a C.length c, .int .i64 w, .agg #[.int .i64 X, .int .i64 Y, .int .i64 rw, .int .i64 rh], .slice b D.length d] t fun e w' => Rx t w' e L er) := by
  by_cases h : (4 ≤ rh ∧ rh ≤ 32) ∧ BOk C w X Y rw rh D
  · obtain ⟨⟨d0, d1⟩, hb⟩ := h
    obtain ⟨w', h', X', Y', rw', rh', rfl, rfl, rfl, rfl, rfl, k0, k1, k2, k3, k4, k5, k6, k7, k8, k9⟩ := hb.nat
    exact ⟨mbL w' C X' Y' rw' rh' (fun _ y => wt rh' y) D, 0, by rw [mbL_len]; exact lC, fun t a b c d hs ht hc => (above_ok hs hC ht hD k0 k1 k2 k3 k4 hc k5 k6 k7 k8 k9 (by omega) (by omega)).mono fun _ _ k => k.rs, fun t a b c d hs ht => qabove_ok hs hC ht hD k0 k1 k2 k3 k4 k5 k6 k7 k8 k9 (by omega) (by omega)⟩
  · exact ⟨[], 2, by simp, fun t a b c d hs _ hc => (above_no hs hc lC bX bY h).mono fun _ _ k => rs_no k, fun t a b c d _ _ => (qabove_no lC h).mono fun _ _ k => rx_no k⟩
theorem both_left {C D : List Nat} (hC : Byt C) (hD : Byt D) (lC : C.length ≤ 140737488355328) (w X Y rw rh : Int) (bX : X ≤ 9223372036854775807) (bY : Y ≤ 9223372036854775807) : ∃ (L : List Nat) (er : Int), L.length ≤ 140737488355328 ∧
    (∀ (t : World) (a b : Option Addr) (c d : Nat), Sl t .u8 a C → Sl t .u8 b D → C.length ≤ c → Calls Tryd.prog 24 #[.slice a C.length c, .int .i64 w, .agg #[.int .i64 X, .int .i64 Y, .int .i64 rw, .int .i64 rh], .slice b D.length d] t fun e w' => Rs t w' e L er) ∧
    (∀ (t : World) (a b : Option Addr) (c d : Nat), Sl t .u8 a C → Sl t .u8 b D → Calls Tryd.prog 25 #[.slice a C.length c, .int .i64 w, .agg #[.int .i64 X, .int .i64 Y, .int .i64 rw, .int .i64 rh], .slice b D.length d] t fun e w' => Rx t w' e L er) := by
  by_cases h : (4 ≤ rw ∧ rw ≤ 32) ∧ BOk C w X Y rw rh D
  · obtain ⟨⟨d0, d1⟩, hb⟩ := h
    obtain ⟨w', h', X', Y', rw', rh', rfl, rfl, rfl, rfl, rfl, k0, k1, k2, k3, k4, k5, k6, k7, k8, k9⟩ := hb.nat
    exact ⟨mbL w' C X' Y' rw' rh' (fun x _ => wt rw' x) D, 0, by rw [mbL_len]; exact lC, fun t a b c d hs ht hc => (left_ok hs hC ht hD k0 k1 k2 k3 k4 hc k5 k6 k7 k8 k9 (by omega) (by omega)).mono fun _ _ k => k.rs, fun t a b c d hs ht => qleft_ok hs hC ht hD k0 k1 k2 k3 k4 k5 k6 k7 k8 k9 (by omega) (by omega)⟩
  · exact ⟨[], 2, by simp, fun t a b c d hs _ hc => (left_no hs hc lC bX bY h).mono fun _ _ k => rs_no k, fun t a b c d _ _ => (qleft_no lC h).mono fun _ _ k => rx_no k⟩
/-- a blend in a block -/
structure Bd (p : Nat) (a : Option Addr) (n c : Nat) (bw X Y w ht : Int) (b : Option Addr) (m d : Nat) (t : World) : Prop where
  c0 : t.cell? ⟨p, 0, none⟩ = some (.slice a n c)
  c1 : t.cell? ⟨p, 1, none⟩ = some (.int .i64 bw)
  c2 : t.cell? ⟨p, 2, none⟩ = some (.int .i64 X)
  c3 : t.cell? ⟨p, 3, none⟩ = some (.int .i64 Y)
  c4 : t.cell? ⟨p, 4, none⟩ = some (.int .i64 w)
  c5 : t.cell? ⟨p, 5, none⟩ = some (.int .i64 ht)
  c6 : t.cell? ⟨p, 6, none⟩ = some (.slice b m d)
theorem Bd.below {p : Nat} {a b : Option Addr} {n c m d : Nat} {bw X Y w ht : Int} {B : Nat} {t t' : World} (h : Bd p a n c bw X Y w ht b m d t) (hp : p < B) (hb : Below B t t') : Bd p a n c bw X Y w ht b m d t' := by
  refine ⟨?_, ?_, ?_, ?_, ?_, ?_, ?_⟩ <;> rw [newCell hb _ _ hp]
  · exact h.c0
  · exact h.c1
  · exact h.c2
  · exact h.c3
  · exact h.c4
  · exact h.c5
  · exact h.c6
theorem Bd.built (u : World) (a b : Option Addr) (n c m d : Nat) (bw X Y w ht : Int) : Bd u.heap.size a n c bw X Y w ht b m d (u.alloc (.cells #[.slice a n c, .int .i64 bw, .int .i64 X, .int .i64 Y, .int .i64 w, .int .i64 ht, .slice b m d] 51)) := by
  refine ⟨?_, ?_, ?_, ?_, ?_, ?_, ?_⟩ <;> simp [go_sem]

end Go.Proofs.YtpideemiijhkgaaDoor
