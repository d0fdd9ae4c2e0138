/- DERIVED. Inverse and Forward, of any kind. -/
import Derived.Test.YtddnnlofdicgkabDoorCf
namespace Go.Proofs.YtddnnlofdicgkabDoor
open Go.RowKit

/-- the longest row of a kind -/
def kL (k : Int) : Nat := if k = 0 then 64 else if k = 1 then 16 else if k = 2 then 32 else if k = 3 then 4 else 0
theorem kL_le (k : Int) : kL k ≤ 64 := by unfold kL; split; omega; split; omega; split; omega; split; omega; omega
def kW (k : Int) (n : Nat) : Nat → Nat → Int := if k = 0 then dctW n else if k = 1 then adstW n else idW n
def invR (k : Int) (C : List Int) : List Int := if k = 3 then whtI (C.getD 0 0) (C.getD 1 0) (C.getD 2 0) (C.getD 3 0) else wr (kW k C.length) C
def fwdR (k : Int) (C : List Int) : List Int := if k = 3 then whtF (C.getD 0 0) (C.getD 1 0) (C.getD 2 0) (C.getD 3 0) else wr (fun i j => kW k C.length j i) C

theorem inv_yes {w : World} {a : Option Addr} {c : Nat} {k : Int} {C : List Int} (hq : Qt w) (hs : Si w a C) (hm : tkB (kL k) C = true) :
    Calls Tryd.prog 35 #[.int .i64 k, .slice a C.length c] w fun e w' => N2 w w' e (invR k C) := by
  obtain ⟨l0, l1, l2, l3⟩ := tkB_yes hm
  have hL := kL_le k
  have hl : C.length ≤ 140737488355328 := by omega
  by_cases h0 : k = 0
  · subst h0
    exact inv_fn_yes (L := 64) (wf_dct hq (by omega) (by omega)) hs hl (by omega) hm tr_0
  by_cases h1 : k = 1
  · subst h1
    exact inv_fn_yes (L := 16) (wf_adst hq (by omega) (by omega)) hs hl (by omega) hm tr_1
  by_cases h2 : k = 2
  · subst h2
    exact inv_fn_yes (L := 32) wf_ident hs hl (by omega) hm tr_2
  by_cases h3 : k = 3
  · subst h3
    exact inv_nil_yes (L := 4) (by have : kL 3 = 4 := rfl; omega) hs hl (by omega) hm tr_3
  have : kL k = 0 := by unfold kL; rw [if_neg h0, if_neg h1, if_neg h2, if_neg h3]
  omega

theorem inv_no {w : World} {a : Option Addr} {c : Nat} {k : Int} {C : List Int} (hs : Si w a C) (hl : C.length ≤ 140737488355328) (hm : tkB (kL k) C = false) :
    Calls Tryd.prog 35 #[.int .i64 k, .slice a C.length c] w fun e w' => N0 w w' e := by
  by_cases h0 : k = 0
  · subst h0
    exact inv_fn_no (L := 64) hs hl (by omega) hm tr_0
  by_cases h1 : k = 1
  · subst h1
    exact inv_fn_no (L := 16) hs hl (by omega) hm tr_1
  by_cases h2 : k = 2
  · subst h2
    exact inv_fn_no (L := 32) hs hl (by omega) hm tr_2
  by_cases h3 : k = 3
  · subst h3
    exact inv_nil_no (L := 4) hs hl (by omega) hm tr_3
  have : kL k = 0 := by unfold kL; rw [if_neg h0, if_neg h1, if_neg h2, if_neg h3]
  rw [this] at hm
  exact inv_nil_no (L := 0) hs hl (by omega) hm (tr_no (by omega))

theorem fwd_yes {w : World} {a : Option Addr} {c : Nat} {k : Int} {C : List Int} (hq : Qt w) (hs : Si w a C) (hm : tkB (kL k) C = true) :
    Calls Tryd.prog 37 #[.int .i64 k, .slice a C.length c] w fun e w' => N2 w w' e (fwdR k C) := by
  obtain ⟨l0, l1, l2, l3⟩ := tkB_yes hm
  have hL := kL_le k
  have hl : C.length ≤ 140737488355328 := by omega
  by_cases h0 : k = 0
  · subst h0
    exact fwd_fn_yes (L := 64) (wf_dct hq (by omega) (by omega)) hs hl (by omega) hm tr_0
  by_cases h1 : k = 1
  · subst h1
    exact fwd_fn_yes (L := 16) (wf_adst hq (by omega) (by omega)) hs hl (by omega) hm tr_1
  by_cases h2 : k = 2
  · subst h2
    exact fwd_fn_yes (L := 32) wf_ident hs hl (by omega) hm tr_2
  by_cases h3 : k = 3
  · subst h3
    exact fwd_nil_yes (L := 4) (by have : kL 3 = 4 := rfl; omega) hs hl (by omega) hm tr_3
  have : kL k = 0 := by unfold kL; rw [if_neg h0, if_neg h1, if_neg h2, if_neg h3]
  omega

theorem fwd_no {w : World} {a : Option Addr} {c : Nat} {k : Int} {C : List Int} (hs : Si w a C) (hl : C.length ≤ 140737488355328) (hm : tkB (kL k) C = false) :
    Calls Tryd.prog 37 #[.int .i64 k, .slice a C.length c] w fun e w' => N0 w w' e := by
  by_cases h0 : k = 0
  · subst h0
    exact fwd_fn_no (L := 64) hs hl (by omega) hm tr_0
  by_cases h1 : k = 1
  · subst h1
    exact fwd_fn_no (L := 16) hs hl (by omega) hm tr_1
  by_cases h2 : k = 2
  · subst h2
    exact fwd_fn_no (L := 32) hs hl (by omega) hm tr_2
  by_cases h3 : k = 3
  · subst h3
    exact fwd_nil_no (L := 4) hs hl (by omega) hm tr_3
  have : kL k = 0 := by unfold kL; rw [if_neg h0, if_neg h1, if_neg h2, if_neg h3]
  rw [this] at hm
  exact fwd_nil_no (L := 0) hs hl (by omega) hm (tr_no (by omega))

end Go.Proofs.YtddnnlofdicgkabDoor
