/- DERIVED. Samples that are all alike; some calls of each. -/
import Derived.Test.YtpideemiijhkgabDoorMc
import Derived.Test.YtpideemiijhkgabDoorMd
import Derived.Test.YtpideemiijhkgabDoorMf
namespace Go.Proofs.YtpideemiijhkgabDoor
open Go.RowKit

theorem eqBytes_at {w : World} {a b : Option Addr} {c d n m : Nat} {C D : List Nat} (h1 : Sl w .u8 a C) (h2 : Sl w .u8 b D) (e1 : C.length = n) (e2 : D.length = m) (hl : n ≤ 140737488355328) (hl2 : m ≤ 140737488355328) :
    Calls Tryd.prog 10 #[.slice a n c, .slice b m d] w fun e w' => e = .returned (.bool (eqB C D)) ∧ Below w.heap.size w w' := by
  subst e1 e2; exact eqBytes_any h1 h2 hl hl2
theorem eqBytes_same {w : World} {a b : Option Addr} {c d n : Nat} {C : List Nat} (h1 : Sl w .u8 a C) (h2 : Sl w .u8 b C) (e1 : C.length = n) (hl : n ≤ 140737488355328) :
    Calls Tryd.prog 10 #[.slice a n c, .slice b n d] w fun e w' => e = .returned (.bool true) ∧ Below w.heap.size w w' := by
  have := eqBytes_at (c := c) (d := d) h1 h2 e1 e1 hl hl
  rwa [eqB_self] at this

set_option maxRecDepth 100000 in
set_option maxHeartbeats 1000000 in
theorem flat_any {u : World} {n v : Nat} (hn : n ≤ 1048576) :
    Calls Tryd.prog 15 #[.int .i64 (n : Int), .int .u8 (v : Int)] u fun e w' => e = .returned (.slice (some ⟨u.heap.size, 0, none⟩) n n) ∧ Rw w' u.heap.size (List.replicate n v) ∧ Below u.heap.size u w' := by
  have mk := fun t => mk_row (n := n) (by omega) t
  have n1 : (n : Int) ≤ 1048576 := by omega
  have H0 : Hid (fiL (List.replicate n 0) v 0 = List.replicate n 0) := (eq_tab rfl fun j _ => by rw [if_neg (by omega)]).symm
  have HA : Hid (fiL (List.replicate n 0) v n = List.replicate n v) := list_eq_of_getD (by rw [fiL, tab_len]; simp) fun j hj => by
    rw [fiL, tab_len, List.length_replicate] at hj; unfold fiL; rw [tab_get _ (by simpa using hj), if_pos hj, rep_get hj]
  have HS : Hid (∀ k, k < n → (fiL (List.replicate n 0) v k).set k v = fiL (List.replicate n 0) v (k + 1)) := fun k hk => tab_set (by simpa using hk) (by rw [if_pos (by omega)]) fun j _ hne => by
    by_cases e : j < k
    · rw [if_pos e, if_pos (by omega)]
    · rw [if_neg e, if_neg (by omega)]
  have HL : Hid (∀ k, (fiL (List.replicate n 0) v k).length = n) := fun k => by rw [fiL, tab_len]; simp
  have HR : Hid (Rw (u.alloc (.cells (madeCells #[.int .u8 0] n) 5)) u.heap.size (fiL (List.replicate n 0) v 0)) := by show Rw _ _ _; rw [H0.out]; exact Rw.made u n
  have HB : Hid (Below u.heap.size u (u.alloc (.cells (madeCells #[.int .u8 0] n) 5))) := from_alloc _ _
  clear H0 hn
  go_enter Tryd.func15, Tryd.ntmps15
  go_wp2_with fail
  generalize (u.alloc (.cells (madeCells #[.int .u8 0] n) 5)) = V at *
  clear mk
  go_loopw [6] (fun i wr => ∃ k : Nat, k ≤ n ∧ i = .int .i64 k ∧ Rw wr u.heap.size (fiL (List.replicate n 0) v k) ∧ Below u.heap.size u wr) (fun i _ => n - (intOf i).toNat)
  case atStart => exact ⟨0, by omega, rfl, HR.out, HB.out⟩
  case round =>
    clear HR HB
    obtain ⟨k, hk, rfl, hr, hb⟩ := hrel
    have HR2 : Hid _ := hr
    have HB2 : Hid _ := hb
    by_cases hlt : k < n
    · have c1 := hr.cell k (by rw [HL.out]; exact hlt)
      have c2 := hr.thaw k
      generalize (fiL (List.replicate n 0) v k).getD k 0 = old at c1
      have b0 : 0 ≤ (k : Int) := by omega
      have b1 : (k : Int) < (n : Int) := by omega
      clear hr hb
      go_wp2_with fail
      go_roundw
      case rel => exact ⟨k + 1, by omega, by go_num, by rw [← HS.out k hlt]; exact HR2.out.set _ _, below_set HB2.out (by simp) _⟩
      case measure => simp [intOf]; omega
    · obtain rfl : k = n := by omega
      clear hr hb
      go_wp2_with fail
      go_ret
      exact ⟨rfl, by rw [← HA.out]; exact HR2.out, HB2.out⟩

/-- n samples are answered, in new memory -/
def So (u w' : World) (e : Ending) (n : Nat) (L : List Nat) : Prop := ∃ g, e = .returned (.tuple #[.slice (some ⟨g, 0, none⟩) n n, .int .i64 0]) ∧ Rw w' g L ∧ u.heap.size ≤ g ∧ Below u.heap.size u w'
theorem Sq.so {u w' : World} {e : Ending} {n : Nat} {L L' : List Nat} (h : Sq u w' e L) (hL : L = L') (hn : L'.length = n) : So u w' e n L' := by
  subst hL
  obtain ⟨g, rfl, hg, hr, hb⟩ := h
  exact ⟨g, by rw [hn], hr, hg, hb⟩
theorem rep_byt {n v : Nat} (h : v < 256) : Byt (List.replicate n v) := fun j => by
  by_cases hj : j < n
  · rw [rep_get hj]; exact h
  · rw [List.getD_eq_getElem?_getD, List.getElem?_eq_none (by simp; omega)]; exact Nat.zero_lt_succ _
theorem byt3 {a b c : Nat} (h0 : a < 256) (h1 : b < 256) (h2 : c < 256) : Byt [a, b, c] := fun j => by
  match j with
  | 0 => exact h0
  | 1 => exact h1
  | 2 => exact h2
  | j + 3 => simp
set_option maxRecDepth 100000 in
theorem ex_above : mbL 2 (List.replicate 8 100) 0 0 1 4 (fun _ y => wt 4 y) (List.replicate 4 0) = [56, 100, 69, 100, 81, 100, 94, 100] := by decide +kernel
set_option maxRecDepth 100000 in
theorem ex_left : mbL 4 (List.replicate 8 100) 0 1 4 1 (fun x _ => wt 4 x) (List.replicate 4 200) = [100, 100, 100, 100, 144, 131, 119, 106] := by decide +kernel
theorem ex_pair : prL [0, 1, 255] [1, 2, 255] = [1, 2, 255] := by decide +kernel
set_option maxRecDepth 100000 in
theorem ex_single : fe (List.replicate 64 9) 8 8 (16 * 0 + 5) (16 * 0 + -7) 4 4 0 = List.replicate 16 9 := by decide +kernel
theorem litb (w : World) (L : List Nat) {cs : Array Value} (h : cs = (ns .u8 L).toArray) : Rw (w.alloc (.cells cs 5)) w.heap.size L := by subst h; exact ⟨heap_alloc_new w _⟩
theorem litg {w : World} {L : List Nat} {g : Nat} {cs : Array Value} (hg : w.heap.size = g) (h : cs = (ns .u8 L).toArray) : Rw (w.alloc (.cells cs 5)) g L := by subst hg; exact litb w L h
theorem vs16 : Vs ((16 : Nat) : Int) := ⟨by omega, by omega, by omega⟩

end Go.Proofs.YtpideemiijhkgabDoor
