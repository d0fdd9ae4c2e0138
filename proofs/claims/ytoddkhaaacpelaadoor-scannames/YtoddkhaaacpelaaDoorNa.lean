/- DERIVED. The table of neighbours; the walks of amount, some, asked, around. -/
import Derived.Test.YtoddkhaaacpelaaDoorCd
import Derived.Test.YtoddkhaaacpelaaDoorBc
namespace Go.Proofs.YtoddkhaaacpelaaDoor
open Go.RowKit

/-- the table of neighbours lies in its block -/
structure Nt (w : World) : Prop where
  low : 0 < w.heap.size
  d : ∀ k, k < 5 → w.cell? ⟨0, k * 2, none⟩ = some (.int .i64 (dn k : Nat))
  r : ∀ k, k < 5 → w.cell? ⟨0, k * 2 + 1, none⟩ = some (.int .i64 (rt k : Nat))
theorem Nt.below {B : Nat} {w w' : World} (h : Nt w) (hb : Below B w w') (hB : 0 < B) : Nt w' := ⟨Nat.lt_of_lt_of_le h.low hb.size, fun k hk => by rw [newCell hb _ _ hB]; exact h.d k hk, fun k hk => by rw [newCell hb _ _ hB]; exact h.r k hk⟩
theorem Nt.to {w w' : World} (h : Nt w) (hb : Below w.heap.size w w') : Nt w' := h.below hb h.low

set_option maxRecDepth 100000 in
theorem amount_any {w : World} {v m : Int} (h0 : 0 ≤ m) (h1 : m ≤ 15) : Calls Tryd.prog 24 #[.int .i64 v, .int .i64 m] w fun e w' => e = .returned (.int .i64 (amt v m)) ∧ w = w' := by
  by_cases ha : v < -m
  · have HA : Hid (amt v m = m) := by show _ = _; rw [amt, if_pos (Or.inl ha)]
    go_enter Tryd.func24, Tryd.ntmps24
    go_wp2
    go_ret
    exact ⟨by rw [HA.out]; rfl, rfl⟩
  · by_cases hb : m < v
    · have HA : Hid (amt v m = m) := by show _ = _; rw [amt, if_pos (Or.inr hb)]
      go_enter Tryd.func24, Tryd.ntmps24
      go_wp2
      go_ret
      exact ⟨by rw [HA.out]; rfl, rfl⟩
    · by_cases hc : v < 0
      · have HA : Hid (amt v m = -v) := by show _ = _; rw [amt, if_neg (by omega), if_pos hc]
        have hd : v < -v := by omega
        have hd2 : ¬ -v < v := by omega
        go_enter Tryd.func24, Tryd.ntmps24
        go_wp2
        all_goals
          go_ret
          exact ⟨by rw [HA.out]; first | rfl | (congr 1; omega), rfl⟩
      · have HA : Hid (amt v m = v) := by show _ = _; rw [amt, if_neg (by omega), if_neg hc]
        have hd : ¬ v < -v := by omega
        go_enter Tryd.func24, Tryd.ntmps24
        go_wp2
        all_goals
          go_ret
          exact ⟨by rw [HA.out]; first | rfl | (congr 1; omega), rfl⟩

/-- a slice's cell by its index -/
theorem Si.at {w : World} {a : Option Addr} {C : List Int} (h : Si w a C) (h0 : 0 < C.length) : ∃ b o, a = some ⟨b, o, none⟩ ∧ ∀ j, j < C.length → w.cell? ⟨b, o + j, none⟩ = some (.int .i64 (C.getD j 0)) := by
  obtain ⟨b, o, h1, _, h3⟩ := h.form h0
  exact ⟨b, o, h1, h3⟩

set_option maxRecDepth 100000 in
set_option maxHeartbeats 1000000 in
theorem some_any {w : World} {a : Option Addr} {cp q n r c : Nat} {L : List Int} {m : Int} (hs : Si w a L) (hl : L.length = q) (hq : q = n * n) (hn0 : 0 < n) (hn : n ≤ 32) (h0 : 0 ≤ m) (h1 : m ≤ 15) :
    Calls Tryd.prog 18 #[.slice a q cp, .int .i64 (n : Int), .int .i64 (r : Int), .int .i64 (c : Int), .int .i64 m] w fun e w' => e = .returned (.int .i64 (som L n r c m)) ∧ w = w' := by
  have hq0 : 0 < q := by rw [hq]; exact Nat.mul_pos hn0 hn0
  obtain ⟨b, o, rfl, hcell⟩ := hs.at (by omega)
  by_cases hrn : r < n
  · have r1 : ¬ (n : Int) ≤ (r : Int) := by omega
    by_cases hcn : c < n
    · have c1 : ¬ (n : Int) ≤ (c : Int) := by omega
      obtain ⟨p, hp⟩ : ∃ p : Nat, p = r * n := ⟨_, rfl⟩
      have ep : (r : Int) * (n : Int) = (p : Int) := by rw [hp]; simp
      have hlt := rc_lt hrn hcn
      have p1 : p + c < q := by omega
      have p3 : (p : Int) ≤ 1024 := by have : n * n ≤ 32 * 32 := Nat.mul_le_mul hn hn; omega
      obtain ⟨x, hx⟩ : ∃ x : Nat, x = p + c := ⟨_, rfl⟩
      have ex : (p : Int) + (c : Int) = (x : Int) := by omega
      have x0 : (0 : Int) ≤ (x : Int) := by omega
      have x1 : (x : Int) < (q : Int) := by omega
      have hv := hcell x (by omega)
      have HS : Hid (som L n r c m = amt (L.getD x 0) m) := by show _ = _; rw [som_in hrn hcn, hx, hp]
      generalize L.getD x 0 = v at *
      clear hcell hs hl hq p1 hx hp hlt
      by_cases hb : m < v
      · have HA : Hid (amt v m = m) := by show _ = _; rw [amt, if_pos (Or.inr hb)]
        go_enter Tryd.func18, Tryd.ntmps18
        go_wp2
        go_ret
        exact ⟨by rw [HS.out, HA.out]; rfl, rfl⟩
      · by_cases ha : v < -m
        · have HA : Hid (amt v m = m) := by show _ = _; rw [amt, if_pos (Or.inl ha)]
          go_enter Tryd.func18, Tryd.ntmps18
          go_wp2
          go_ret
          exact ⟨by rw [HS.out, HA.out]; rfl, rfl⟩
        · by_cases hv0 : v < 0
          · have HA : Hid (amt v m = -v) := by show _ = _; rw [amt, if_neg (by omega), if_pos hv0]
            go_enter Tryd.func18, Tryd.ntmps18
            go_wp2
            go_ret
            exact ⟨by rw [HS.out, HA.out]; rfl, rfl⟩
          · have HA : Hid (amt v m = v) := by show _ = _; rw [amt, if_neg (by omega), if_neg hv0]
            go_enter Tryd.func18, Tryd.ntmps18
            go_wp2
            go_ret
            exact ⟨by rw [HS.out, HA.out]; rfl, rfl⟩
    · have c1 : (n : Int) ≤ (c : Int) := by omega
      have HS : Hid (som L n r c m = 0) := som_out (by omega)
      clear hcell hs hl
      go_enter Tryd.func18, Tryd.ntmps18
      go_wp2
      go_ret
      exact ⟨by rw [HS.out]; rfl, rfl⟩
  · have r1 : (n : Int) ≤ (r : Int) := by omega
    have HS : Hid (som L n r c m = 0) := som_out (by omega)
    clear hcell hs hl
    go_enter Tryd.func18, Tryd.ntmps18
    go_wp2
    go_ret
    exact ⟨by rw [HS.out]; rfl, rfl⟩

end Go.Proofs.YtoddkhaaacpelaaDoor
