/-
  NARROWER THAN 'FOR EVERY INPUT', by the rows' own cells (each row's printed sentence says how): SubpelParts: laid · SubpelBetween: laid · SubpelKnown: laid.
  DERIVED. THE GIVEN ROWS OF THIS SEAT. 3 by the template 'for every input the law returns true; each argument reads behind the call as it read before'; 0 by the template 'total and deterministic' (their statements: YtgmdanipcnkhdabDoorTotals.lean).
  GIVEN WITH THE SEED: the statements are not yours to turn. If you find one false, say at which input.
  Laid BY PROGRAM, IN A SANDBOX (cutbox-rows.mjs): the forced cells as the released guide's own fill.sh prints them over the translation 56eb9d921e37c0b5… (all of the seat's roots in one cut). By AI agents, Wed Nov 11 2026. No macro, syntax, notation, axiom, sorry.
-/
import Derived.Test.YtgmdanipcnkhdabDoorChecked
import GoSem.Claim
import GoSem.ClaimJoined
import GoSem.ClaimMapViews
import Derived.JoinedTies
import Derived.KernelRfl
namespace Go.Proofs.YtgmdanipcnkhdabDoor
/- THE CELL 'sum', in the pinned program and in every row, IS THE sha256 OF THE DUMP (.gsa) THAT YtgmdanipcnkhdabDoorProg.lean LOADS. Nothing in Lean hashes anything: it is a label: what it is worth is what the hold of that sum in a sandbox is worth. -/
noncomputable def Tryd.pinned : Pinned := { name := "ytgmdanipcnkhdabdoor", sum := "56eb9d921e37c0b5772c1f0fb204ea59b978ae4a255293bf39f9d7b05a7e268e", checked := Tryd.checked }
namespace Rows
def none {H : Type} : Left H := { results := [], args := [] }

/- WHAT THE LISTED PACKAGE-LEVEL VARIABLES READ AS WHEN THE CALL BEGINS. Each datum BY PROGRAM (the guide's laid-datum.mjs) off the statement by which the dump's own 'gosem.cut.vars' lays the variable. In a bare row this is a premise. The card (YtgmdanipcnkhdabDoorCards.lean) ties it to the program's text. -/
def laid_zoetrope_subpel_regular {H : Type} : DataW H := .agg [.agg [.lit (.int .i64 0), .lit (.int .i64 0), .lit (.int .i64 0), .lit (.int .i64 128), .lit (.int .i64 0), .lit (.int .i64 0), .lit (.int .i64 0), .lit (.int .i64 0)], .agg [.lit (.int .i64 0), .lit (.int .i64 2), .lit (.int .i64 (-6)), .lit (.int .i64 126), .lit (.int .i64 8), .lit (.int .i64 (-2)), .lit (.int .i64 0), .lit (.int .i64 0)], .agg [.lit (.int .i64 0), .lit (.int .i64 2), .lit (.int .i64 (-10)), .lit (.int .i64 122), .lit (.int .i64 18), .lit (.int .i64 (-4)), .lit (.int .i64 0), .lit (.int .i64 0)], .agg [.lit (.int .i64 0), .lit (.int .i64 2), .lit (.int .i64 (-12)), .lit (.int .i64 116), .lit (.int .i64 28), .lit (.int .i64 (-8)), .lit (.int .i64 2), .lit (.int .i64 0)], .agg [.lit (.int .i64 0), .lit (.int .i64 2), .lit (.int .i64 (-14)), .lit (.int .i64 110), .lit (.int .i64 38), .lit (.int .i64 (-10)), .lit (.int .i64 2), .lit (.int .i64 0)], .agg [.lit (.int .i64 0), .lit (.int .i64 2), .lit (.int .i64 (-14)), .lit (.int .i64 102), .lit (.int .i64 48), .lit (.int .i64 (-12)), .lit (.int .i64 2), .lit (.int .i64 0)], .agg [.lit (.int .i64 0), .lit (.int .i64 2), .lit (.int .i64 (-16)), .lit (.int .i64 94), .lit (.int .i64 58), .lit (.int .i64 (-12)), .lit (.int .i64 2), .lit (.int .i64 0)], .agg [.lit (.int .i64 0), .lit (.int .i64 2), .lit (.int .i64 (-14)), .lit (.int .i64 84), .lit (.int .i64 66), .lit (.int .i64 (-12)), .lit (.int .i64 2), .lit (.int .i64 0)], .agg [.lit (.int .i64 0), .lit (.int .i64 2), .lit (.int .i64 (-14)), .lit (.int .i64 76), .lit (.int .i64 76), .lit (.int .i64 (-14)), .lit (.int .i64 2), .lit (.int .i64 0)]]
def laid_zoetrope_subpel_smooth {H : Type} : DataW H := .agg [.agg [.lit (.int .i64 0), .lit (.int .i64 0), .lit (.int .i64 0), .lit (.int .i64 128), .lit (.int .i64 0), .lit (.int .i64 0), .lit (.int .i64 0), .lit (.int .i64 0)], .agg [.lit (.int .i64 0), .lit (.int .i64 2), .lit (.int .i64 28), .lit (.int .i64 62), .lit (.int .i64 34), .lit (.int .i64 2), .lit (.int .i64 0), .lit (.int .i64 0)], .agg [.lit (.int .i64 0), .lit (.int .i64 0), .lit (.int .i64 26), .lit (.int .i64 62), .lit (.int .i64 36), .lit (.int .i64 4), .lit (.int .i64 0), .lit (.int .i64 0)], .agg [.lit (.int .i64 0), .lit (.int .i64 0), .lit (.int .i64 22), .lit (.int .i64 62), .lit (.int .i64 40), .lit (.int .i64 4), .lit (.int .i64 0), .lit (.int .i64 0)], .agg [.lit (.int .i64 0), .lit (.int .i64 0), .lit (.int .i64 20), .lit (.int .i64 60), .lit (.int .i64 42), .lit (.int .i64 6), .lit (.int .i64 0), .lit (.int .i64 0)], .agg [.lit (.int .i64 0), .lit (.int .i64 0), .lit (.int .i64 18), .lit (.int .i64 58), .lit (.int .i64 44), .lit (.int .i64 8), .lit (.int .i64 0), .lit (.int .i64 0)], .agg [.lit (.int .i64 0), .lit (.int .i64 0), .lit (.int .i64 16), .lit (.int .i64 56), .lit (.int .i64 46), .lit (.int .i64 10), .lit (.int .i64 0), .lit (.int .i64 0)], .agg [.lit (.int .i64 0), .lit (.int .i64 (-2)), .lit (.int .i64 16), .lit (.int .i64 54), .lit (.int .i64 48), .lit (.int .i64 12), .lit (.int .i64 0), .lit (.int .i64 0)], .agg [.lit (.int .i64 0), .lit (.int .i64 (-2)), .lit (.int .i64 14), .lit (.int .i64 52), .lit (.int .i64 52), .lit (.int .i64 14), .lit (.int .i64 (-2)), .lit (.int .i64 0)]]

/-- 'zoetropelaw14.SubpelParts': WHATEVER THE INPUT: true; the input reads as it did. -/
def subpelPartsSpec : ChangeSpec := { name := "subpelParts", fn := fun _ => fun
  | [d1, d2, d3] => { results := [.lit (.bool true)], args := [d1, d2, d3] }
  | _ => none }
def subpelPartsRow : OpenClaim := { program := "ytgmdanipcnkhdabdoor", sum := "56eb9d921e37c0b5772c1f0fb204ea59b978ae4a255293bf39f9d7b05a7e268e", func := "zoetrope/zoetropelaw14.SubpelParts", spec := "subpelParts", unfollowed := true, recurses := true, named := ["zoetrope/subpel.smooth", "zoetrope/subpel.regular"], apart := false, laid := [("zoetrope/subpel.regular", laid_zoetrope_subpel_regular), ("zoetrope/subpel.smooth", laid_zoetrope_subpel_smooth)] }
def SubpelPartsSaid : Prop := subpelPartsRow.holds Tryd.pinned (OpenSpec.ofChange subpelPartsSpec)

/-- ITS FALSE NEIGHBOUR: 'it returns false'. Refute it at one input. -/
def subpelPartsWrong : ChangeSpec := { name := "subpelParts", fn := fun _ => fun
  | [d1, d2, d3] => { results := [.lit (.bool false)], args := [d1, d2, d3] }
  | _ => none }
def SubpelPartsWrongFalsely : Prop := subpelPartsRow.holds Tryd.pinned (OpenSpec.ofChange subpelPartsWrong)

/-- 'zoetropelaw14.SubpelBetween': WHATEVER THE INPUT: true; the input reads as it did. -/
def subpelBetweenSpec : ChangeSpec := { name := "subpelBetween", fn := fun _ => fun
  | [d1, d2] => { results := [.lit (.bool true)], args := [d1, d2] }
  | _ => none }
def subpelBetweenRow : OpenClaim := { program := "ytgmdanipcnkhdabdoor", sum := "56eb9d921e37c0b5772c1f0fb204ea59b978ae4a255293bf39f9d7b05a7e268e", func := "zoetrope/zoetropelaw14.SubpelBetween", spec := "subpelBetween", unfollowed := true, recurses := true, named := ["zoetrope/subpel.smooth", "zoetrope/subpel.regular"], apart := false, laid := [("zoetrope/subpel.regular", laid_zoetrope_subpel_regular), ("zoetrope/subpel.smooth", laid_zoetrope_subpel_smooth)] }
def SubpelBetweenSaid : Prop := subpelBetweenRow.holds Tryd.pinned (OpenSpec.ofChange subpelBetweenSpec)

/-- ITS FALSE NEIGHBOUR: 'it returns false'. Refute it at one input. -/
def subpelBetweenWrong : ChangeSpec := { name := "subpelBetween", fn := fun _ => fun
  | [d1, d2] => { results := [.lit (.bool false)], args := [d1, d2] }
  | _ => none }
def SubpelBetweenWrongFalsely : Prop := subpelBetweenRow.holds Tryd.pinned (OpenSpec.ofChange subpelBetweenWrong)

/-- 'zoetropelaw14.SubpelKnown': WHATEVER THE INPUT: true; the input reads as it did. -/
def subpelKnownSpec : ChangeSpec := { name := "subpelKnown", fn := fun _ => fun
  | [] => { results := [.lit (.bool true)], args := [] }
  | _ => none }
def subpelKnownRow : OpenClaim := { program := "ytgmdanipcnkhdabdoor", sum := "56eb9d921e37c0b5772c1f0fb204ea59b978ae4a255293bf39f9d7b05a7e268e", func := "zoetrope/zoetropelaw14.SubpelKnown", spec := "subpelKnown", unfollowed := true, recurses := true, named := ["zoetrope/subpel.smooth", "zoetrope/subpel.regular"], apart := false, laid := [("zoetrope/subpel.regular", laid_zoetrope_subpel_regular), ("zoetrope/subpel.smooth", laid_zoetrope_subpel_smooth)] }
def SubpelKnownSaid : Prop := subpelKnownRow.holds Tryd.pinned (OpenSpec.ofChange subpelKnownSpec)

/-- ITS FALSE NEIGHBOUR: 'it returns false'. Refute it at one input. -/
def subpelKnownWrong : ChangeSpec := { name := "subpelKnown", fn := fun _ => fun
  | [] => { results := [.lit (.bool false)], args := [] }
  | _ => none }
def SubpelKnownWrongFalsely : Prop := subpelKnownRow.holds Tryd.pinned (OpenSpec.ofChange subpelKnownWrong)

/- THE SECOND FORM. 'bulk': how many values and letters a reading holds, each counted each time it is reached (what is shared counts as often as it is met; a slice's spare places count too). A statement '..UptoSaid' is the law's where the arguments, and the package variables that the reading takes, are together of bulk at most 1048576: NARROWER than '..Said'. Prove '..Said' where nothing that the law and all that it calls make is longer than what came in: it says more and counts as full. Else prove '..UptoSaid'. A law counts once. -/
mutual
def uptoBulk {H : Type} : DataW H → Nat
  | .lit (.string bytes) => bytes.length + 1
  | .lit _ => 1
  | .nil => 1
  | .ptr d => uptoBulk d + 1
  | .slice elems spare => uptoBulkAll elems + uptoBulkAll spare + 1
  | .agg parts => uptoBulkAll parts + 1
  | .iface _ d => uptoBulk d + 1
  | .map entries => uptoBulkEntries entries + 1
  | .held _ => 1
def uptoBulkAll {H : Type} : List (DataW H) → Nat
  | [] => 0
  | d :: r => uptoBulk d + uptoBulkAll r
def uptoBulkEntries {H : Type} : List (Lit × DataW H) → Nat
  | [] => 0
  | x :: r => uptoBulkEntry x + uptoBulkEntries r
def uptoBulkEntry {H : Type} : Lit × DataW H → Nat
  | (.string bytes, d) => bytes.length + uptoBulk d + 1
  | (_, d) => uptoBulk d + 1
 end
def uptoSmall : (H : Type) → List (DataW H) → Bool := fun _ ds => decide (uptoBulkAll ds ≤ 1048576)
def OpenSpec.upto (s : _root_.Go.ChangeSpec) : _root_.Go.OpenSpec := { _root_.Go.OpenSpec.ofChange s with cond := some uptoSmall }

/-- 'zoetropelaw14.SubpelParts', WHERE WHAT IT READS IS OF BULK AT MOST 1048576: true; the input reads as it did. -/
def subpelPartsUptoRow : OpenClaim := { program := "ytgmdanipcnkhdabdoor", sum := "56eb9d921e37c0b5772c1f0fb204ea59b978ae4a255293bf39f9d7b05a7e268e", func := "zoetrope/zoetropelaw14.SubpelParts", spec := "subpelParts", unfollowed := true, recurses := true, named := ["zoetrope/subpel.smooth", "zoetrope/subpel.regular"], apart := false, laid := [("zoetrope/subpel.regular", laid_zoetrope_subpel_regular), ("zoetrope/subpel.smooth", laid_zoetrope_subpel_smooth)], narrowed := true }
def SubpelPartsUptoSaid : Prop := subpelPartsUptoRow.holds Tryd.pinned (OpenSpec.upto subpelPartsSpec)

/-- 'zoetropelaw14.SubpelBetween', WHERE WHAT IT READS IS OF BULK AT MOST 1048576: true; the input reads as it did. -/
def subpelBetweenUptoRow : OpenClaim := { program := "ytgmdanipcnkhdabdoor", sum := "56eb9d921e37c0b5772c1f0fb204ea59b978ae4a255293bf39f9d7b05a7e268e", func := "zoetrope/zoetropelaw14.SubpelBetween", spec := "subpelBetween", unfollowed := true, recurses := true, named := ["zoetrope/subpel.smooth", "zoetrope/subpel.regular"], apart := false, laid := [("zoetrope/subpel.regular", laid_zoetrope_subpel_regular), ("zoetrope/subpel.smooth", laid_zoetrope_subpel_smooth)], narrowed := true }
def SubpelBetweenUptoSaid : Prop := subpelBetweenUptoRow.holds Tryd.pinned (OpenSpec.upto subpelBetweenSpec)

/-- 'zoetropelaw14.SubpelKnown', WHERE WHAT IT READS IS OF BULK AT MOST 1048576: true; the input reads as it did. -/
def subpelKnownUptoRow : OpenClaim := { program := "ytgmdanipcnkhdabdoor", sum := "56eb9d921e37c0b5772c1f0fb204ea59b978ae4a255293bf39f9d7b05a7e268e", func := "zoetrope/zoetropelaw14.SubpelKnown", spec := "subpelKnown", unfollowed := true, recurses := true, named := ["zoetrope/subpel.smooth", "zoetrope/subpel.regular"], apart := false, laid := [("zoetrope/subpel.regular", laid_zoetrope_subpel_regular), ("zoetrope/subpel.smooth", laid_zoetrope_subpel_smooth)], narrowed := true }
def SubpelKnownUptoSaid : Prop := subpelKnownUptoRow.holds Tryd.pinned (OpenSpec.upto subpelKnownSpec)

end Rows
end Go.Proofs.YtgmdanipcnkhdabDoor
