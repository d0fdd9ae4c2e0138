/-
  NARROWER THAN 'FOR EVERY INPUT', by the rows' own cells (each row's printed sentence says how): SubpelTaps: laid · SubpelFetches: laid · SubpelKinds: laid · SubpelWhole: laid · SubpelFlat: laid · SubpelTurned: laid.
  DERIVED. THE GIVEN ROWS OF THIS SEAT. 6 by the template 'for every input the law returns true; each argument reads behind the call as it read before'; 0 by the template 'total and deterministic' (their statements: YtgmdanipcnkhdaaDoorTotals.lean).
  GIVEN WITH THE SEED: the statements are not yours to turn. If you find one false, say at which input.
  Laid BY PROGRAM, IN A SANDBOX (cutbox-rows.mjs): the forced cells as the released guide's own fill.sh prints them over the translation f8ca02819e7ee2fe… (all of the seat's roots in one cut). By AI agents, Wed Nov 11 2026. No macro, syntax, notation, axiom, sorry.
-/
import Derived.Test.YtgmdanipcnkhdaaDoorChecked
import GoSem.Claim
import GoSem.ClaimJoined
import GoSem.ClaimMapViews
import Derived.JoinedTies
import Derived.KernelRfl
namespace Go.Proofs.YtgmdanipcnkhdaaDoor
/- THE CELL 'sum', in the pinned program and in every row, IS THE sha256 OF THE DUMP (.gsa) THAT YtgmdanipcnkhdaaDoorProg.lean LOADS. Nothing in Lean hashes anything: it is a label: what it is worth is what the hold of that sum in a sandbox is worth. -/
noncomputable def Tryd.pinned : Pinned := { name := "ytgmdanipcnkhdaadoor", sum := "f8ca02819e7ee2fecd620901ab7931cd5bc8fa964b5de4fc10d07300cf9e0b8c", checked := Tryd.checked }
namespace Rows
def none {H : Type} : Left H := { results := [], args := [] }

/- WHAT THE LISTED PACKAGE-LEVEL VARIABLES READ AS WHEN THE CALL BEGINS. Each datum BY PROGRAM (the guide's laid-datum.mjs) off the statement by which the dump's own 'gosem.cut.vars' lays the variable. In a bare row this is a premise. The card (YtgmdanipcnkhdaaDoorCards.lean) ties it to the program's text. -/
def laid_zoetrope_subpel_regular {H : Type} : DataW H := .agg [.agg [.lit (.int .i64 0), .lit (.int .i64 0), .lit (.int .i64 0), .lit (.int .i64 128), .lit (.int .i64 0), .lit (.int .i64 0), .lit (.int .i64 0), .lit (.int .i64 0)], .agg [.lit (.int .i64 0), .lit (.int .i64 2), .lit (.int .i64 (-6)), .lit (.int .i64 126), .lit (.int .i64 8), .lit (.int .i64 (-2)), .lit (.int .i64 0), .lit (.int .i64 0)], .agg [.lit (.int .i64 0), .lit (.int .i64 2), .lit (.int .i64 (-10)), .lit (.int .i64 122), .lit (.int .i64 18), .lit (.int .i64 (-4)), .lit (.int .i64 0), .lit (.int .i64 0)], .agg [.lit (.int .i64 0), .lit (.int .i64 2), .lit (.int .i64 (-12)), .lit (.int .i64 116), .lit (.int .i64 28), .lit (.int .i64 (-8)), .lit (.int .i64 2), .lit (.int .i64 0)], .agg [.lit (.int .i64 0), .lit (.int .i64 2), .lit (.int .i64 (-14)), .lit (.int .i64 110), .lit (.int .i64 38), .lit (.int .i64 (-10)), .lit (.int .i64 2), .lit (.int .i64 0)], .agg [.lit (.int .i64 0), .lit (.int .i64 2), .lit (.int .i64 (-14)), .lit (.int .i64 102), .lit (.int .i64 48), .lit (.int .i64 (-12)), .lit (.int .i64 2), .lit (.int .i64 0)], .agg [.lit (.int .i64 0), .lit (.int .i64 2), .lit (.int .i64 (-16)), .lit (.int .i64 94), .lit (.int .i64 58), .lit (.int .i64 (-12)), .lit (.int .i64 2), .lit (.int .i64 0)], .agg [.lit (.int .i64 0), .lit (.int .i64 2), .lit (.int .i64 (-14)), .lit (.int .i64 84), .lit (.int .i64 66), .lit (.int .i64 (-12)), .lit (.int .i64 2), .lit (.int .i64 0)], .agg [.lit (.int .i64 0), .lit (.int .i64 2), .lit (.int .i64 (-14)), .lit (.int .i64 76), .lit (.int .i64 76), .lit (.int .i64 (-14)), .lit (.int .i64 2), .lit (.int .i64 0)]]
def laid_zoetrope_subpel_smooth {H : Type} : DataW H := .agg [.agg [.lit (.int .i64 0), .lit (.int .i64 0), .lit (.int .i64 0), .lit (.int .i64 128), .lit (.int .i64 0), .lit (.int .i64 0), .lit (.int .i64 0), .lit (.int .i64 0)], .agg [.lit (.int .i64 0), .lit (.int .i64 2), .lit (.int .i64 28), .lit (.int .i64 62), .lit (.int .i64 34), .lit (.int .i64 2), .lit (.int .i64 0), .lit (.int .i64 0)], .agg [.lit (.int .i64 0), .lit (.int .i64 0), .lit (.int .i64 26), .lit (.int .i64 62), .lit (.int .i64 36), .lit (.int .i64 4), .lit (.int .i64 0), .lit (.int .i64 0)], .agg [.lit (.int .i64 0), .lit (.int .i64 0), .lit (.int .i64 22), .lit (.int .i64 62), .lit (.int .i64 40), .lit (.int .i64 4), .lit (.int .i64 0), .lit (.int .i64 0)], .agg [.lit (.int .i64 0), .lit (.int .i64 0), .lit (.int .i64 20), .lit (.int .i64 60), .lit (.int .i64 42), .lit (.int .i64 6), .lit (.int .i64 0), .lit (.int .i64 0)], .agg [.lit (.int .i64 0), .lit (.int .i64 0), .lit (.int .i64 18), .lit (.int .i64 58), .lit (.int .i64 44), .lit (.int .i64 8), .lit (.int .i64 0), .lit (.int .i64 0)], .agg [.lit (.int .i64 0), .lit (.int .i64 0), .lit (.int .i64 16), .lit (.int .i64 56), .lit (.int .i64 46), .lit (.int .i64 10), .lit (.int .i64 0), .lit (.int .i64 0)], .agg [.lit (.int .i64 0), .lit (.int .i64 (-2)), .lit (.int .i64 16), .lit (.int .i64 54), .lit (.int .i64 48), .lit (.int .i64 12), .lit (.int .i64 0), .lit (.int .i64 0)], .agg [.lit (.int .i64 0), .lit (.int .i64 (-2)), .lit (.int .i64 14), .lit (.int .i64 52), .lit (.int .i64 52), .lit (.int .i64 14), .lit (.int .i64 (-2)), .lit (.int .i64 0)]]

/-- 'zoetropelaw14.SubpelTaps': WHATEVER THE INPUT: true; the input reads as it did. -/
def subpelTapsSpec : ChangeSpec := { name := "subpelTaps", fn := fun _ => fun
  | [d1, d2] => { results := [.lit (.bool true)], args := [d1, d2] }
  | _ => none }
def subpelTapsRow : OpenClaim := { program := "ytgmdanipcnkhdaadoor", sum := "f8ca02819e7ee2fecd620901ab7931cd5bc8fa964b5de4fc10d07300cf9e0b8c", func := "zoetrope/zoetropelaw14.SubpelTaps", spec := "subpelTaps", unfollowed := true, recurses := true, named := ["zoetrope/subpel.smooth", "zoetrope/subpel.regular"], apart := false, laid := [("zoetrope/subpel.regular", laid_zoetrope_subpel_regular), ("zoetrope/subpel.smooth", laid_zoetrope_subpel_smooth)] }
def SubpelTapsSaid : Prop := subpelTapsRow.holds Tryd.pinned (OpenSpec.ofChange subpelTapsSpec)

/-- ITS FALSE NEIGHBOUR: 'it returns false'. Refute it at one input. -/
def subpelTapsWrong : ChangeSpec := { name := "subpelTaps", fn := fun _ => fun
  | [d1, d2] => { results := [.lit (.bool false)], args := [d1, d2] }
  | _ => none }
def SubpelTapsWrongFalsely : Prop := subpelTapsRow.holds Tryd.pinned (OpenSpec.ofChange subpelTapsWrong)

/-- 'zoetropelaw14.SubpelFetches': WHATEVER THE INPUT: true; the input reads as it did. -/
def subpelFetchesSpec : ChangeSpec := { name := "subpelFetches", fn := fun _ => fun
  | [d1, d2] => { results := [.lit (.bool true)], args := [d1, d2] }
  | _ => none }
def subpelFetchesRow : OpenClaim := { program := "ytgmdanipcnkhdaadoor", sum := "f8ca02819e7ee2fecd620901ab7931cd5bc8fa964b5de4fc10d07300cf9e0b8c", func := "zoetrope/zoetropelaw14.SubpelFetches", spec := "subpelFetches", unfollowed := true, recurses := true, named := ["zoetrope/subpel.smooth", "zoetrope/subpel.regular"], apart := false, laid := [("zoetrope/subpel.regular", laid_zoetrope_subpel_regular), ("zoetrope/subpel.smooth", laid_zoetrope_subpel_smooth)] }
def SubpelFetchesSaid : Prop := subpelFetchesRow.holds Tryd.pinned (OpenSpec.ofChange subpelFetchesSpec)

/-- ITS FALSE NEIGHBOUR: 'it returns false'. Refute it at one input. -/
def subpelFetchesWrong : ChangeSpec := { name := "subpelFetches", fn := fun _ => fun
  | [d1, d2] => { results := [.lit (.bool false)], args := [d1, d2] }
  | _ => none }
def SubpelFetchesWrongFalsely : Prop := subpelFetchesRow.holds Tryd.pinned (OpenSpec.ofChange subpelFetchesWrong)

/-- 'zoetropelaw14.SubpelKinds': WHATEVER THE INPUT: true; the input reads as it did. -/
def subpelKindsSpec : ChangeSpec := { name := "subpelKinds", fn := fun _ => fun
  | [d1, d2, d3] => { results := [.lit (.bool true)], args := [d1, d2, d3] }
  | _ => none }
def subpelKindsRow : OpenClaim := { program := "ytgmdanipcnkhdaadoor", sum := "f8ca02819e7ee2fecd620901ab7931cd5bc8fa964b5de4fc10d07300cf9e0b8c", func := "zoetrope/zoetropelaw14.SubpelKinds", spec := "subpelKinds", unfollowed := true, recurses := true, named := ["zoetrope/subpel.smooth", "zoetrope/subpel.regular"], apart := false, laid := [("zoetrope/subpel.regular", laid_zoetrope_subpel_regular), ("zoetrope/subpel.smooth", laid_zoetrope_subpel_smooth)] }
def SubpelKindsSaid : Prop := subpelKindsRow.holds Tryd.pinned (OpenSpec.ofChange subpelKindsSpec)

/-- ITS FALSE NEIGHBOUR: 'it returns false'. Refute it at one input. -/
def subpelKindsWrong : ChangeSpec := { name := "subpelKinds", fn := fun _ => fun
  | [d1, d2, d3] => { results := [.lit (.bool false)], args := [d1, d2, d3] }
  | _ => none }
def SubpelKindsWrongFalsely : Prop := subpelKindsRow.holds Tryd.pinned (OpenSpec.ofChange subpelKindsWrong)

/-- 'zoetropelaw14.SubpelWhole': WHATEVER THE INPUT: true; the input reads as it did. -/
def subpelWholeSpec : ChangeSpec := { name := "subpelWhole", fn := fun _ => fun
  | [d1, d2] => { results := [.lit (.bool true)], args := [d1, d2] }
  | _ => none }
def subpelWholeRow : OpenClaim := { program := "ytgmdanipcnkhdaadoor", sum := "f8ca02819e7ee2fecd620901ab7931cd5bc8fa964b5de4fc10d07300cf9e0b8c", func := "zoetrope/zoetropelaw14.SubpelWhole", spec := "subpelWhole", unfollowed := true, recurses := true, named := ["zoetrope/subpel.smooth", "zoetrope/subpel.regular"], apart := false, laid := [("zoetrope/subpel.regular", laid_zoetrope_subpel_regular), ("zoetrope/subpel.smooth", laid_zoetrope_subpel_smooth)] }
def SubpelWholeSaid : Prop := subpelWholeRow.holds Tryd.pinned (OpenSpec.ofChange subpelWholeSpec)

/-- ITS FALSE NEIGHBOUR: 'it returns false'. Refute it at one input. -/
def subpelWholeWrong : ChangeSpec := { name := "subpelWhole", fn := fun _ => fun
  | [d1, d2] => { results := [.lit (.bool false)], args := [d1, d2] }
  | _ => none }
def SubpelWholeWrongFalsely : Prop := subpelWholeRow.holds Tryd.pinned (OpenSpec.ofChange subpelWholeWrong)

/-- 'zoetropelaw14.SubpelFlat': WHATEVER THE INPUT: true; the input reads as it did. -/
def subpelFlatSpec : ChangeSpec := { name := "subpelFlat", fn := fun _ => fun
  | [d1, d2, d3] => { results := [.lit (.bool true)], args := [d1, d2, d3] }
  | _ => none }
def subpelFlatRow : OpenClaim := { program := "ytgmdanipcnkhdaadoor", sum := "f8ca02819e7ee2fecd620901ab7931cd5bc8fa964b5de4fc10d07300cf9e0b8c", func := "zoetrope/zoetropelaw14.SubpelFlat", spec := "subpelFlat", unfollowed := true, recurses := true, named := ["zoetrope/subpel.smooth", "zoetrope/subpel.regular"], apart := false, laid := [("zoetrope/subpel.regular", laid_zoetrope_subpel_regular), ("zoetrope/subpel.smooth", laid_zoetrope_subpel_smooth)] }
def SubpelFlatSaid : Prop := subpelFlatRow.holds Tryd.pinned (OpenSpec.ofChange subpelFlatSpec)

/-- ITS FALSE NEIGHBOUR: 'it returns false'. Refute it at one input. -/
def subpelFlatWrong : ChangeSpec := { name := "subpelFlat", fn := fun _ => fun
  | [d1, d2, d3] => { results := [.lit (.bool false)], args := [d1, d2, d3] }
  | _ => none }
def SubpelFlatWrongFalsely : Prop := subpelFlatRow.holds Tryd.pinned (OpenSpec.ofChange subpelFlatWrong)

/-- 'zoetropelaw14.SubpelTurned': WHATEVER THE INPUT: true; the input reads as it did. -/
def subpelTurnedSpec : ChangeSpec := { name := "subpelTurned", fn := fun _ => fun
  | [d1, d2] => { results := [.lit (.bool true)], args := [d1, d2] }
  | _ => none }
def subpelTurnedRow : OpenClaim := { program := "ytgmdanipcnkhdaadoor", sum := "f8ca02819e7ee2fecd620901ab7931cd5bc8fa964b5de4fc10d07300cf9e0b8c", func := "zoetrope/zoetropelaw14.SubpelTurned", spec := "subpelTurned", unfollowed := true, recurses := true, named := ["zoetrope/subpel.smooth", "zoetrope/subpel.regular"], apart := false, laid := [("zoetrope/subpel.regular", laid_zoetrope_subpel_regular), ("zoetrope/subpel.smooth", laid_zoetrope_subpel_smooth)] }
def SubpelTurnedSaid : Prop := subpelTurnedRow.holds Tryd.pinned (OpenSpec.ofChange subpelTurnedSpec)

/-- ITS FALSE NEIGHBOUR: 'it returns false'. Refute it at one input. -/
def subpelTurnedWrong : ChangeSpec := { name := "subpelTurned", fn := fun _ => fun
  | [d1, d2] => { results := [.lit (.bool false)], args := [d1, d2] }
  | _ => none }
def SubpelTurnedWrongFalsely : Prop := subpelTurnedRow.holds Tryd.pinned (OpenSpec.ofChange subpelTurnedWrong)

/- THE SECOND FORM. 'bulk': how many values and letters a reading holds, each counted each time it is reached (what is shared counts as often as it is met; a slice's spare places count too). A statement '..UptoSaid' is the law's where the arguments, and the package variables that the reading takes, are together of bulk at most 1048576: NARROWER than '..Said'. Prove '..Said' where nothing that the law and all that it calls make is longer than what came in: it says more and counts as full. Else prove '..UptoSaid'. A law counts once. -/
mutual
def uptoBulk {H : Type} : DataW H → Nat
  | .lit (.string bytes) => bytes.length + 1
  | .lit _ => 1
  | .nil => 1
  | .ptr d => uptoBulk d + 1
  | .slice elems spare => uptoBulkAll elems + uptoBulkAll spare + 1
  | .agg parts => uptoBulkAll parts + 1
  | .iface _ d => uptoBulk d + 1
  | .map entries => uptoBulkEntries entries + 1
  | .held _ => 1
def uptoBulkAll {H : Type} : List (DataW H) → Nat
  | [] => 0
  | d :: r => uptoBulk d + uptoBulkAll r
def uptoBulkEntries {H : Type} : List (Lit × DataW H) → Nat
  | [] => 0
  | x :: r => uptoBulkEntry x + uptoBulkEntries r
def uptoBulkEntry {H : Type} : Lit × DataW H → Nat
  | (.string bytes, d) => bytes.length + uptoBulk d + 1
  | (_, d) => uptoBulk d + 1
 end
def uptoSmall : (H : Type) → List (DataW H) → Bool := fun _ ds => decide (uptoBulkAll ds ≤ 1048576)
def OpenSpec.upto (s : _root_.Go.ChangeSpec) : _root_.Go.OpenSpec := { _root_.Go.OpenSpec.ofChange s with cond := some uptoSmall }

/-- 'zoetropelaw14.SubpelTaps', WHERE WHAT IT READS IS OF BULK AT MOST 1048576: true; the input reads as it did. -/
def subpelTapsUptoRow : OpenClaim := { program := "ytgmdanipcnkhdaadoor", sum := "f8ca02819e7ee2fecd620901ab7931cd5bc8fa964b5de4fc10d07300cf9e0b8c", func := "zoetrope/zoetropelaw14.SubpelTaps", spec := "subpelTaps", unfollowed := true, recurses := true, named := ["zoetrope/subpel.smooth", "zoetrope/subpel.regular"], apart := false, laid := [("zoetrope/subpel.regular", laid_zoetrope_subpel_regular), ("zoetrope/subpel.smooth", laid_zoetrope_subpel_smooth)], narrowed := true }
def SubpelTapsUptoSaid : Prop := subpelTapsUptoRow.holds Tryd.pinned (OpenSpec.upto subpelTapsSpec)

/-- 'zoetropelaw14.SubpelFetches', WHERE WHAT IT READS IS OF BULK AT MOST 1048576: true; the input reads as it did. -/
def subpelFetchesUptoRow : OpenClaim := { program := "ytgmdanipcnkhdaadoor", sum := "f8ca02819e7ee2fecd620901ab7931cd5bc8fa964b5de4fc10d07300cf9e0b8c", func := "zoetrope/zoetropelaw14.SubpelFetches", spec := "subpelFetches", unfollowed := true, recurses := true, named := ["zoetrope/subpel.smooth", "zoetrope/subpel.regular"], apart := false, laid := [("zoetrope/subpel.regular", laid_zoetrope_subpel_regular), ("zoetrope/subpel.smooth", laid_zoetrope_subpel_smooth)], narrowed := true }
def SubpelFetchesUptoSaid : Prop := subpelFetchesUptoRow.holds Tryd.pinned (OpenSpec.upto subpelFetchesSpec)

/-- 'zoetropelaw14.SubpelKinds', WHERE WHAT IT READS IS OF BULK AT MOST 1048576: true; the input reads as it did. -/
def subpelKindsUptoRow : OpenClaim := { program := "ytgmdanipcnkhdaadoor", sum := "f8ca02819e7ee2fecd620901ab7931cd5bc8fa964b5de4fc10d07300cf9e0b8c", func := "zoetrope/zoetropelaw14.SubpelKinds", spec := "subpelKinds", unfollowed := true, recurses := true, named := ["zoetrope/subpel.smooth", "zoetrope/subpel.regular"], apart := false, laid := [("zoetrope/subpel.regular", laid_zoetrope_subpel_regular), ("zoetrope/subpel.smooth", laid_zoetrope_subpel_smooth)], narrowed := true }
def SubpelKindsUptoSaid : Prop := subpelKindsUptoRow.holds Tryd.pinned (OpenSpec.upto subpelKindsSpec)

/-- 'zoetropelaw14.SubpelWhole', WHERE WHAT IT READS IS OF BULK AT MOST 1048576: true; the input reads as it did. -/
def subpelWholeUptoRow : OpenClaim := { program := "ytgmdanipcnkhdaadoor", sum := "f8ca02819e7ee2fecd620901ab7931cd5bc8fa964b5de4fc10d07300cf9e0b8c", func := "zoetrope/zoetropelaw14.SubpelWhole", spec := "subpelWhole", unfollowed := true, recurses := true, named := ["zoetrope/subpel.smooth", "zoetrope/subpel.regular"], apart := false, laid := [("zoetrope/subpel.regular", laid_zoetrope_subpel_regular), ("zoetrope/subpel.smooth", laid_zoetrope_subpel_smooth)], narrowed := true }
def SubpelWholeUptoSaid : Prop := subpelWholeUptoRow.holds Tryd.pinned (OpenSpec.upto subpelWholeSpec)

/-- 'zoetropelaw14.SubpelFlat', WHERE WHAT IT READS IS OF BULK AT MOST 1048576: true; the input reads as it did. -/
def subpelFlatUptoRow : OpenClaim := { program := "ytgmdanipcnkhdaadoor", sum := "f8ca02819e7ee2fecd620901ab7931cd5bc8fa964b5de4fc10d07300cf9e0b8c", func := "zoetrope/zoetropelaw14.SubpelFlat", spec := "subpelFlat", unfollowed := true, recurses := true, named := ["zoetrope/subpel.smooth", "zoetrope/subpel.regular"], apart := false, laid := [("zoetrope/subpel.regular", laid_zoetrope_subpel_regular), ("zoetrope/subpel.smooth", laid_zoetrope_subpel_smooth)], narrowed := true }
def SubpelFlatUptoSaid : Prop := subpelFlatUptoRow.holds Tryd.pinned (OpenSpec.upto subpelFlatSpec)

/-- 'zoetropelaw14.SubpelTurned', WHERE WHAT IT READS IS OF BULK AT MOST 1048576: true; the input reads as it did. -/
def subpelTurnedUptoRow : OpenClaim := { program := "ytgmdanipcnkhdaadoor", sum := "f8ca02819e7ee2fecd620901ab7931cd5bc8fa964b5de4fc10d07300cf9e0b8c", func := "zoetrope/zoetropelaw14.SubpelTurned", spec := "subpelTurned", unfollowed := true, recurses := true, named := ["zoetrope/subpel.smooth", "zoetrope/subpel.regular"], apart := false, laid := [("zoetrope/subpel.regular", laid_zoetrope_subpel_regular), ("zoetrope/subpel.smooth", laid_zoetrope_subpel_smooth)], narrowed := true }
def SubpelTurnedUptoSaid : Prop := subpelTurnedUptoRow.holds Tryd.pinned (OpenSpec.upto subpelTurnedSpec)

end Rows
end Go.Proofs.YtgmdanipcnkhdaaDoor
