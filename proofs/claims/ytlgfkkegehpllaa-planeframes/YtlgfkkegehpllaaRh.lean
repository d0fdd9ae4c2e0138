/- DERIVED. Cut, Lay and Pad: the program and the document side by side; told. -/
import Derived.Test.YtlgfkkegehpllaaRg
import Derived.Test.YtlgfkkegehpllaaRf
import Derived.Test.YtlgfkkegehpllaaRd
import Derived.Test.YtlgfkkegehpllaaPg
import Derived.Test.YtlgfkkegehpllaaPh
namespace Go.Proofs.Ytlgfkkegehpllaa
open Go.RowKit

/-- nothing, or a row alone in a new block -/
def Rn (u w' : World) (a : Option Addr) (L : List Nat) : Prop := (L = [] ∧ a = none) ∨ (∃ g, a = some ⟨g, 0, none⟩ ∧ u.heap.size ≤ g ∧ Rw w' g L)
theorem Rn.to {u w w' : World} {a : Option Addr} {L : List Nat} (h : Rn u w a L) (hb : Below w.heap.size w w') : Rn u w' a L := by
  rcases h with h | ⟨g, h1, h2, h3⟩
  · exact Or.inl h
  · exact Or.inr ⟨g, h1, h2, h3.to hb⟩
theorem Rn.sl {u w : World} {a : Option Addr} {L : List Nat} (h : Rn u w a L) : Sl w .u8 a L := by
  rcases h with h | ⟨g, rfl, h2, h3⟩
  · exact Or.inl (by rw [h.1])
  · exact h3.sl

theorem told_any {u0 u : World} {a b : Option Addr} {c d : Nat} {C : List Nat} {W H e : Int} (h : Rn u0 u a C) (h0 : u0.heap.size ≤ u.heap.size) (h2 : Sl u .u8 b C) (hl : C.length ≤ 140737488355328) :
    Calls Try.prog 20 #[.agg #[.int .i64 W, .int .i64 H, .slice a C.length c], .int .i64 e, .agg #[.int .i64 W, .int .i64 H, .slice b C.length d], .int .i64 e] u fun r w' => r = .returned (.bool true) ∧ Below u0.heap.size u w' := by
  rcases h with ⟨rfl, rfl⟩ | ⟨g, rfl, hg, hr⟩
  · exact told_nil.mono (by rintro r w' ⟨rfl, hb⟩; exact ⟨rfl, hb.mono h0⟩)
  · exact (told_rw hr h2 hl).mono (by rintro r w' ⟨rfl, hb⟩; exact ⟨rfl, hb.below hg h0⟩)

theorem Win.nat {W H X Y w h : Int} (k : Win W H X Y w h) : ∃ X' Y' w' h' : Nat, X = (X' : Int) ∧ Y = (Y' : Int) ∧ w = (w' : Int) ∧ h = (h' : Int) := ⟨X.toNat, Y.toNat, w.toNat, h.toNat, by have := k.x0; omega, by have := k.y0; omega, by have := k.w0; omega, by have := k.h0; omega⟩

theorem cut_both (W H : Int) (C : List Nat) (X Y w h : Int) (bX : X ≤ 9223372036854775807) (bY : Y ≤ 9223372036854775807) : ∃ (L : List Nat) (er : Int), L.length ≤ 262144 ∧
    (∀ (u : World) (a : Option Addr) (c : Nat), Sl u .u8 a C → C.length ≤ c → Calls Try.prog 23 #[.agg #[.int .i64 W, .int .i64 H, .slice a C.length c], .agg #[.int .i64 X, .int .i64 Y, .int .i64 w, .int .i64 h]] u fun e w' => ∃ a', e = .returned (.tuple #[.slice a' L.length L.length, .int .i64 er]) ∧ Rn u w' a' L ∧ Below u.heap.size u w') ∧
    (∀ (u : World) (a : Option Addr) (c : Nat), Sl u .u8 a C → Calls Try.prog 24 #[.agg #[.int .i64 W, .int .i64 H, .slice a C.length c], .agg #[.int .i64 X, .int .i64 Y, .int .i64 w, .int .i64 h]] u fun e w' => ∃ a' c', e = .returned (.tuple #[.slice a' L.length c', .int .i64 er]) ∧ Sl w' .u8 a' L ∧ Below u.heap.size u w') := by
  by_cases hp : POk W H C
  · by_cases hk : Win W H X Y w h
    · obtain ⟨x, y, rfl, rfl, q1, q2, q3, q4, q5⟩ := hp.nat
      obtain ⟨X', Y', w', h', rfl, rfl, rfl, rfl⟩ := hk.nat
      have k1 := hk.wx
      have k2 := hk.hy
      have k3 := hk.w0
      have k4 := hk.h0
      refine ⟨cutL x C X' Y' w' h', 0, by rw [cutL_len]; exact prod_le (by omega) (by omega), fun u a c hs hc => ?_, fun u a c hs => ?_⟩
      · exact (cut_ok hs q1 q2 q3 q4 q5 hc (by omega) (by omega) (by omega) (by omega)).mono (by rintro e v ⟨g, rfl, hg, hr, hb⟩; exact ⟨_, rfl, Or.inr ⟨g, rfl, hg, hr⟩, hb⟩)
      · exact (rcut_ok hs q1 q2 q3 q4 q5 (by omega) (by omega) (by omega) (by omega)).mono (by rintro e v ⟨a', c', rfl, hr, hb⟩; exact ⟨a', c', by rw [cutL_len], hr, hb⟩)
    · refine ⟨[], 2, by simp, fun u a c hs hc => ?_, fun u a c hs => ?_⟩
      · exact (cut_out hp hk bX bY).mono (by rintro e v ⟨rfl, hb⟩; exact ⟨none, rfl, Or.inl ⟨rfl, rfl⟩, hb⟩)
      · exact (rcut_out hp hk).mono (by rintro e v ⟨rfl, hb⟩; exact ⟨none, 0, rfl, Or.inl rfl, hb⟩)
  · refine ⟨[], 2, by simp, fun u a c hs hc => ?_, fun u a c hs => ?_⟩
    · exact (cut_bad hp).mono (by rintro e v ⟨rfl, hb⟩; exact ⟨none, rfl, Or.inl ⟨rfl, rfl⟩, hb⟩)
    · exact (rcut_bad hp).mono (by rintro e v ⟨rfl, hb⟩; exact ⟨none, 0, rfl, Or.inl rfl, hb⟩)

theorem lay_both (W H : Int) (C B : List Nat) (X Y w h : Int) (bX : X ≤ 9223372036854775807) (bY : Y ≤ 9223372036854775807) (hB : B.length ≤ 140737488355328) : ∃ (W' H' : Int) (L : List Nat) (er : Int), L.length ≤ 262144 ∧
    (∀ (u : World) (a ab : Option Addr) (c cb : Nat), Sl u .u8 a C → Sl u .u8 ab B → B.length ≤ cb → Calls Try.prog 26 #[.agg #[.int .i64 W, .int .i64 H, .slice a C.length c], .agg #[.int .i64 X, .int .i64 Y, .int .i64 w, .int .i64 h], .slice ab B.length cb] u fun e w' => ∃ a', e = .returned (.tuple #[.agg #[.int .i64 W', .int .i64 H', .slice a' L.length L.length], .int .i64 er]) ∧ Rn u w' a' L ∧ Below u.heap.size u w') ∧
    (∀ (u : World) (a ab : Option Addr) (c cb : Nat), Sl u .u8 a C → Sl u .u8 ab B → Calls Try.prog 27 #[.agg #[.int .i64 W, .int .i64 H, .slice a C.length c], .agg #[.int .i64 X, .int .i64 Y, .int .i64 w, .int .i64 h], .slice ab B.length cb] u fun e w' => ∃ a' c', e = .returned (.tuple #[.agg #[.int .i64 W', .int .i64 H', .slice a' L.length c'], .int .i64 er]) ∧ Sl w' .u8 a' L ∧ Below u.heap.size u w') := by
  by_cases hp : POk W H C
  · by_cases hk : Win W H X Y w h
    · by_cases hm : (B.length : Int) = w * h
      · obtain ⟨x, y, rfl, rfl, q1, q2, q3, q4, q5⟩ := hp.nat
        obtain ⟨X', Y', w', h', rfl, rfl, rfl, rfl⟩ := hk.nat
        have k1 := hk.wx
        have k2 := hk.hy
        have k3 := hk.w0
        have k4 := hk.h0
        have hm' : B.length = w' * h' := by rw [← Int.natCast_mul] at hm; exact Int.ofNat.inj hm
        refine ⟨x, y, layL x C X' Y' w' B h', 0, by rw [layL_len, q5]; exact prod_le q2 q4, fun u a ab c cb hs hsB hc => ?_, fun u a ab c cb hs hsB => ?_⟩
        · exact (lay_ok hs q1 q2 q3 q4 q5 (by omega) (by omega) (by omega) (by omega) hsB hm' hc).mono (by rintro e v ⟨g, rfl, hg, hr, hb⟩; exact ⟨_, rfl, Or.inr ⟨g, rfl, hg, hr⟩, hb⟩)
        · exact (rlay_ok hs q1 q2 q3 q4 q5 (by omega) (by omega) (by omega) (by omega) hsB hm').mono (by rintro e v ⟨a', c', rfl, hr, hb⟩; exact ⟨a', c', by rw [layL_len], hr, hb⟩)
      · refine ⟨0, 0, [], 2, by simp, fun u a ab c cb hs hsB hc => ?_, fun u a ab c cb hs hsB => ?_⟩
        · exact (lay_len hp hk hm hB).mono (by rintro e v ⟨rfl, hb⟩; exact ⟨none, rfl, Or.inl ⟨rfl, rfl⟩, hb⟩)
        · exact (rlay_len hp hk hm hB).mono (by rintro e v ⟨rfl, hb⟩; exact ⟨none, 0, rfl, Or.inl rfl, hb⟩)
    · refine ⟨0, 0, [], 2, by simp, fun u a ab c cb hs hsB hc => ?_, fun u a ab c cb hs hsB => ?_⟩
      · exact (lay_out hp hk bX bY).mono (by rintro e v ⟨rfl, hb⟩; exact ⟨none, rfl, Or.inl ⟨rfl, rfl⟩, hb⟩)
      · exact (rlay_out hp hk).mono (by rintro e v ⟨rfl, hb⟩; exact ⟨none, 0, rfl, Or.inl rfl, hb⟩)
  · refine ⟨0, 0, [], 2, by simp, fun u a ab c cb hs hsB hc => ?_, fun u a ab c cb hs hsB => ?_⟩
    · exact (lay_bad hp).mono (by rintro e v ⟨rfl, hb⟩; exact ⟨none, rfl, Or.inl ⟨rfl, rfl⟩, hb⟩)
    · exact (rlay_bad hp).mono (by rintro e v ⟨rfl, hb⟩; exact ⟨none, 0, rfl, Or.inl rfl, hb⟩)

theorem pad_both (W H : Int) (C : List Nat) (w h : Int) : ∃ (W' H' : Int) (L : List Nat) (er : Int), L.length ≤ 262144 ∧
    (∀ (u : World) (a : Option Addr) (c : Nat), Sl u .u8 a C → C.length ≤ c → Calls Try.prog 28 #[.agg #[.int .i64 W, .int .i64 H, .slice a C.length c], .int .i64 w, .int .i64 h] u fun e w' => ∃ a', e = .returned (.tuple #[.agg #[.int .i64 W', .int .i64 H', .slice a' L.length L.length], .int .i64 er]) ∧ Rn u w' a' L ∧ Below u.heap.size u w') ∧
    (∀ (u : World) (a : Option Addr) (c : Nat), Sl u .u8 a C → Calls Try.prog 29 #[.agg #[.int .i64 W, .int .i64 H, .slice a C.length c], .int .i64 w, .int .i64 h] u fun e w' => ∃ a' c', e = .returned (.tuple #[.agg #[.int .i64 W', .int .i64 H', .slice a' L.length c'], .int .i64 er]) ∧ Sl w' .u8 a' L ∧ Below u.heap.size u w') := by
  by_cases hp : POk W H C
  · by_cases hk : W ≤ w ∧ w ≤ 512 ∧ H ≤ h ∧ h ≤ 512
    · obtain ⟨x, y, rfl, rfl, q1, q2, q3, q4, q5⟩ := hp.nat
      obtain ⟨k1, k2, k3, k4⟩ := hk
      obtain ⟨w', rfl⟩ : ∃ n : Nat, w = (n : Int) := ⟨w.toNat, by omega⟩
      obtain ⟨h', rfl⟩ : ∃ n : Nat, h = (n : Int) := ⟨h.toNat, by omega⟩
      refine ⟨w', h', padL x y C w' h', 0, by unfold padL; rw [tab_len]; exact prod_le (by omega) (by omega), fun u a c hs hc => ?_, fun u a c hs => ?_⟩
      · exact (pad_ok hs q1 q2 q3 q4 q5 hc (by omega) (by omega) (by omega) (by omega)).mono (by rintro e v ⟨g, rfl, hg, hr, hb⟩; exact ⟨_, rfl, Or.inr ⟨g, rfl, hg, hr⟩, hb⟩)
      · exact (rpad_ok hs q1 q2 q3 q4 q5 (by omega) (by omega) (by omega) (by omega)).mono (by rintro e v ⟨g, rfl, hg, hr, hb⟩; exact ⟨_, _, rfl, hr.sl, hb⟩)
    · refine ⟨0, 0, [], 2, by simp, fun u a c hs hc => ?_, fun u a c hs => ?_⟩
      · exact (pad_out hp hk).mono (by rintro e v ⟨rfl, hb⟩; exact ⟨none, rfl, Or.inl ⟨rfl, rfl⟩, hb⟩)
      · exact (rpad_out hp hk).mono (by rintro e v ⟨rfl, hb⟩; exact ⟨none, 0, rfl, Or.inl rfl, hb⟩)
  · refine ⟨0, 0, [], 2, by simp, fun u a c hs hc => ?_, fun u a c hs => ?_⟩
    · exact (pad_bad hp).mono (by rintro e v ⟨rfl, hb⟩; exact ⟨none, rfl, Or.inl ⟨rfl, rfl⟩, hb⟩)
    · exact (rpad_bad hp).mono (by rintro e v ⟨rfl, hb⟩; exact ⟨none, 0, rfl, Or.inl rfl, hb⟩)

end Go.Proofs.Ytlgfkkegehpllaa
