/- DERIVED. The document's Skip and Inter. -/
import Derived.Test.YtppofodijlofdaaDj
namespace Go.Proofs.Ytppofodijlofdaa
open Go.RowKit

theorem nb1_cn (q : Bl → Bool) (L : List Bl) (X Y : Int) : (nb1 L X Y).countP q = cn q L X Y := by
  unfold nb1 cn
  cases atK L X Y
  · simp
  · cases hq : q (atB L X Y) <;> simp [hq]
theorem nb1_len (L : List Bl) (X Y : Int) : (nb1 L X Y).length ≤ 1 := by unfold nb1; split <;> simp
theorem countP_take (q : Bl → Bool) (M : List Bl) (k : Nat) (hk : k < M.length) : (M.take (k + 1)).countP q = (M.take k).countP q + (if q (M.getD k bz) = true then 1 else 0) := by
  rw [List.take_add_one, List.countP_append, List.getElem?_eq_getElem hk, List.getD_eq_getElem?_getD, List.getElem?_eq_getElem hk]
  simp [List.countP_cons]
set_option maxRecDepth 100000 in
set_option maxHeartbeats 4000000 in
theorem rskip_ok {w : World} {p : Nat} {T : Rc} {v : Value} {L : List Bl} {X Y : Int} (hg : Rd w p T v L) (ha : ask T X Y 8 = true) (hL : L.length ≤ 1000000) :
    Calls Try.prog 31 #[.pointer (some ⟨p, 0, none⟩), .int .i64 X, .int .i64 Y] w fun e w' => e = .returned (.tuple #[.int .i64 ((cn (fun b => b.sk) L X (Y - 1) : Nat) + (cn (fun b => b.sk) L (X - 1) Y : Nat) : Int), .int .i64 0]) ∧ Below w.heap.size w w' := by
  have HT : Hid (Calls Try.prog 49 #[.pointer (some ⟨p, 0, none⟩), .int .i64 X, .int .i64 Y] w fun e w' => Tq w w' e (nb1 L (X - 1) Y ++ nb1 L X (Y - 1))) := two_ok hg ha hL
  have hn : (nb1 L (X - 1) Y ++ nb1 L X (Y - 1)).length ≤ 2 := by have := nb1_len L (X - 1) Y; have := nb1_len L X (Y - 1); rw [List.length_append]; omega
  have hc : ((cn (fun b => b.sk) L X (Y - 1) : Nat) + (cn (fun b => b.sk) L (X - 1) Y : Nat) : Int) = (((nb1 L (X - 1) Y ++ nb1 L X (Y - 1)).countP (fun b => b.sk) : Nat) : Int) := by
    rw [List.countP_append, nb1_cn, nb1_cn]; omega
  rw [hc]
  clear hg ha hL hc
  generalize nb1 L (X - 1) Y ++ nb1 L X (Y - 1) = M at *
  go_enter Try.func31, Try.ntmps31
  go_wp2_with fail
  refine HT.out.mono ?_
  rintro e w1 ⟨s, rfl, ho, hb⟩
  obtain ⟨a, c, rfl, hc, hsb, -⟩ := ho.form
  have HB1 : Hid (Below w.heap.size w w1) := hb
  have HSb : Hid (Sb w1 a M) := hsb
  clear hb ho hc hsb HT
  generalize hm : M.length = m at *
  have HM : Hid (M.length = m) := hm
  clear hm
  have hm2 : (m : Int) ≤ 2 := by omega
  go_wp2_with fail
  go_loopw [10, 11] (fun n i wr => ∃ k : Nat, k ≤ m ∧ i = .int .i64 (k : Int) ∧ n = .int .i64 (((M.take k).countP (fun b => b.sk) : Nat) : Int) ∧ wr = w1) (fun _ i _ => m - (intOf i).toNat)
  case atStart => exact ⟨0, by omega, by simp, by simp, rfl⟩
  case round =>
    obtain ⟨k, hk, rfl, rfl, rfl⟩ := hrel
    by_cases hlt : k < m
    · obtain ⟨g, o', rfl, hgl, hgc⟩ := HSb.out.form (by have := HM.out; omega)
      have c4 : wr.cell? ⟨g, o' + k * 23 + 4, none⟩ = some (.bool (M.getD k bz).sk) := (hgc k (by have := HM.out; omega)).at 4 _ rfl
      have HN : Hid ((M.take (k + 1)).countP (fun b => b.sk) = (M.take k).countP (fun b => b.sk) + (if (M.getD k bz).sk = true then 1 else 0)) := countP_take (fun b => b.sk) M k (by have := HM.out; omega)
      have hle : (M.take k).countP (fun b => b.sk) ≤ k := Nat.le_trans List.countP_le_length (by rw [List.length_take]; omega)
      have n0 : (0 : Int) ≤ (((M.take k).countP (fun b => b.sk) : Nat) : Int) := by omega
      have n1 : (((M.take k).countP (fun b => b.sk) : Nat) : Int) ≤ 2 := by omega
      have k0 : (0 : Int) ≤ (k : Int) := by omega
      have k1 : (k : Int) < (m : Int) := by omega
      have HK : Hid (k < m) := hlt
      clear hlt hk hgc hgl hle
      generalize hq : (M.take k).countP (fun b => b.sk) = n at *
      have HQ : Hid _ := hq
      clear hq
      cases hx : (M.getD k bz).sk
      · rw [hx] at c4 HN
        have HN' : Hid ((M.take (k + 1)).countP (fun b => b.sk) = n) := by show _ = _; rw [HN.out]; simp
        clear HN hx
        go_wp2_with fail
        go_roundw
        case rel => exact ⟨k + 1, by have := HK.out; omega, by go_num, by rw [HN'.out], by first | rfl | trivial⟩
        case measure => have := HK.out; simp [intOf]; omega
      · rw [hx] at c4 HN
        have HN' : Hid ((M.take (k + 1)).countP (fun b => b.sk) = n + 1) := by show _ = _; rw [HN.out]; simp
        clear HN hx
        go_wp2_with fail
        go_roundw
        case rel => exact ⟨k + 1, by have := HK.out; omega, by go_num, by rw [HN'.out] <;> go_num, by first | rfl | trivial⟩
        case measure => have := HK.out; simp [intOf]; omega
    · obtain rfl : k = m := by omega
      have HF : Hid (M.take k = M) := List.take_of_length_le (by have := HM.out; omega)
      clear hlt hk
      go_wp2_with fail
      go_ret2
      exact ⟨by rw [HF.out]; rfl, HB1.out⟩
set_option maxRecDepth 100000 in
theorem rskip_no {w : World} {p : Nat} {T : Rc} {v : Value} {L : List Bl} {X Y : Int} (hg : Rd w p T v L) (ha : ask T X Y 8 = false) :
    Calls Try.prog 31 #[.pointer (some ⟨p, 0, none⟩), .int .i64 X, .int .i64 Y] w fun e w' => e = .returned (.tuple #[.int .i64 0, .int .i64 2]) ∧ Below w.heap.size w w' := by
  have HT : Hid (Calls Try.prog 49 #[.pointer (some ⟨p, 0, none⟩), .int .i64 X, .int .i64 Y] w fun e w' => e = .returned (.tuple #[.slice none 0 0, .int .i64 2]) ∧ Below w.heap.size w w') := two_no hg ha
  clear hg ha
  go_enter Try.func31, Try.ntmps31
  go_wp2_with fail
  refine HT.out.mono ?_
  rintro e w1 ⟨rfl, hb⟩
  have HB1 : Hid (Below w.heap.size w w1) := hb
  clear hb HT
  go_wp2_with fail
  go_loopw [10, 11] (fun n i wr => n = .int .i64 0 ∧ i = .int .i64 0 ∧ wr = w1) (fun _ i _ => 0)
  case atStart => exact ⟨rfl, rfl, rfl⟩
  case round =>
    obtain ⟨rfl, rfl, rfl⟩ := hrel
    go_wp2_with fail
    go_ret2
    exact ⟨rfl, HB1.out⟩
set_option maxRecDepth 100000 in
set_option maxHeartbeats 4000000 in
theorem rinter_ok {w : World} {p : Nat} {T : Rc} {v : Value} {L : List Bl} {X Y : Int} (hg : Rd w p T v L) (ha : ask T X Y 8 = true) (hL : L.length ≤ 1000000) :
    Calls Try.prog 32 #[.pointer (some ⟨p, 0, none⟩), .int .i64 X, .int .i64 Y] w fun e w' => e = .returned (.tuple #[.int .i64 ((cn (fun b => b.it) L X (Y - 1) : Nat) + (cn (fun b => b.it) L (X - 1) Y : Nat) : Int), .int .i64 0]) ∧ Below w.heap.size w w' := by
  have HT : Hid (Calls Try.prog 49 #[.pointer (some ⟨p, 0, none⟩), .int .i64 X, .int .i64 Y] w fun e w' => Tq w w' e (nb1 L (X - 1) Y ++ nb1 L X (Y - 1))) := two_ok hg ha hL
  have hn : (nb1 L (X - 1) Y ++ nb1 L X (Y - 1)).length ≤ 2 := by have := nb1_len L (X - 1) Y; have := nb1_len L X (Y - 1); rw [List.length_append]; omega
  have hc : ((cn (fun b => b.it) L X (Y - 1) : Nat) + (cn (fun b => b.it) L (X - 1) Y : Nat) : Int) = (((nb1 L (X - 1) Y ++ nb1 L X (Y - 1)).countP (fun b => b.it) : Nat) : Int) := by
    rw [List.countP_append, nb1_cn, nb1_cn]; omega
  rw [hc]
  clear hg ha hL hc
  generalize nb1 L (X - 1) Y ++ nb1 L X (Y - 1) = M at *
  go_enter Try.func32, Try.ntmps32
  go_wp2_with fail
  refine HT.out.mono ?_
  rintro e w1 ⟨s, rfl, ho, hb⟩
  obtain ⟨a, c, rfl, hc, hsb, -⟩ := ho.form
  have HB1 : Hid (Below w.heap.size w w1) := hb
  have HSb : Hid (Sb w1 a M) := hsb
  clear hb ho hc hsb HT
  generalize hm : M.length = m at *
  have HM : Hid (M.length = m) := hm
  clear hm
  have hm2 : (m : Int) ≤ 2 := by omega
  go_wp2_with fail
  go_loopw [10, 11] (fun n i wr => ∃ k : Nat, k ≤ m ∧ i = .int .i64 (k : Int) ∧ n = .int .i64 (((M.take k).countP (fun b => b.it) : Nat) : Int) ∧ wr = w1) (fun _ i _ => m - (intOf i).toNat)
  case atStart => exact ⟨0, by omega, by simp, by simp, rfl⟩
  case round =>
    obtain ⟨k, hk, rfl, rfl, rfl⟩ := hrel
    by_cases hlt : k < m
    · obtain ⟨g, o', rfl, hgl, hgc⟩ := HSb.out.form (by have := HM.out; omega)
      have c4 : wr.cell? ⟨g, o' + k * 23 + 5, none⟩ = some (.bool (M.getD k bz).it) := (hgc k (by have := HM.out; omega)).at 5 _ rfl
      have HN : Hid ((M.take (k + 1)).countP (fun b => b.it) = (M.take k).countP (fun b => b.it) + (if (M.getD k bz).it = true then 1 else 0)) := countP_take (fun b => b.it) M k (by have := HM.out; omega)
      have hle : (M.take k).countP (fun b => b.it) ≤ k := Nat.le_trans List.countP_le_length (by rw [List.length_take]; omega)
      have n0 : (0 : Int) ≤ (((M.take k).countP (fun b => b.it) : Nat) : Int) := by omega
      have n1 : (((M.take k).countP (fun b => b.it) : Nat) : Int) ≤ 2 := by omega
      have k0 : (0 : Int) ≤ (k : Int) := by omega
      have k1 : (k : Int) < (m : Int) := by omega
      have HK : Hid (k < m) := hlt
      clear hlt hk hgc hgl hle
      generalize hq : (M.take k).countP (fun b => b.it) = n at *
      have HQ : Hid _ := hq
      clear hq
      cases hx : (M.getD k bz).it
      · rw [hx] at c4 HN
        have HN' : Hid ((M.take (k + 1)).countP (fun b => b.it) = n) := by show _ = _; rw [HN.out]; simp
        clear HN hx
        go_wp2_with fail
        go_roundw
        case rel => exact ⟨k + 1, by have := HK.out; omega, by go_num, by rw [HN'.out], by first | rfl | trivial⟩
        case measure => have := HK.out; simp [intOf]; omega
      · rw [hx] at c4 HN
        have HN' : Hid ((M.take (k + 1)).countP (fun b => b.it) = n + 1) := by show _ = _; rw [HN.out]; simp
        clear HN hx
        go_wp2_with fail
        go_roundw
        case rel => exact ⟨k + 1, by have := HK.out; omega, by go_num, by rw [HN'.out] <;> go_num, by first | rfl | trivial⟩
        case measure => have := HK.out; simp [intOf]; omega
    · obtain rfl : k = m := by omega
      have HF : Hid (M.take k = M) := List.take_of_length_le (by have := HM.out; omega)
      clear hlt hk
      go_wp2_with fail
      go_ret2
      exact ⟨by rw [HF.out]; rfl, HB1.out⟩
set_option maxRecDepth 100000 in
theorem rinter_no {w : World} {p : Nat} {T : Rc} {v : Value} {L : List Bl} {X Y : Int} (hg : Rd w p T v L) (ha : ask T X Y 8 = false) :
    Calls Try.prog 32 #[.pointer (some ⟨p, 0, none⟩), .int .i64 X, .int .i64 Y] w fun e w' => e = .returned (.tuple #[.int .i64 0, .int .i64 2]) ∧ Below w.heap.size w w' := by
  have HT : Hid (Calls Try.prog 49 #[.pointer (some ⟨p, 0, none⟩), .int .i64 X, .int .i64 Y] w fun e w' => e = .returned (.tuple #[.slice none 0 0, .int .i64 2]) ∧ Below w.heap.size w w') := two_no hg ha
  clear hg ha
  go_enter Try.func32, Try.ntmps32
  go_wp2_with fail
  refine HT.out.mono ?_
  rintro e w1 ⟨rfl, hb⟩
  have HB1 : Hid (Below w.heap.size w w1) := hb
  clear hb HT
  go_wp2_with fail
  go_loopw [10, 11] (fun n i wr => n = .int .i64 0 ∧ i = .int .i64 0 ∧ wr = w1) (fun _ i _ => 0)
  case atStart => exact ⟨rfl, rfl, rfl⟩
  case round =>
    obtain ⟨rfl, rfl, rfl⟩ := hrel
    go_wp2_with fail
    go_ret2
    exact ⟨rfl, HB1.out⟩
end Go.Proofs.Ytppofodijlofdaa
