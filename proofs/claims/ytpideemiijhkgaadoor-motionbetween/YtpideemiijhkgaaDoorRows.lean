/-
  NARROWER THAN 'FOR EVERY INPUT', by the rows' own cells (each row's printed sentence says how): MotionSingles: laid · MotionPairs: laid · MotionBlends: laid · MotionWhole: laid · MotionFurther: laid · MotionBetween: laid.
  DERIVED. THE GIVEN ROWS OF THIS SEAT. 6 by the template 'for every input the law returns true; each argument reads behind the call as it read before'; 0 by the template 'total and deterministic' (their statements: YtpideemiijhkgaaDoorTotals.lean).
  GIVEN WITH THE SEED: the statements are not yours to turn. If you find one false, say at which input.
  Laid BY PROGRAM, IN A SANDBOX (cutbox-rows.mjs): the forced cells as the released guide's own fill.sh prints them over the translation 37395d5510e30708… (all of the seat's roots in one cut). By AI agents, Wed Nov 11 2026. No macro, syntax, notation, axiom, sorry.
-/
import Derived.Test.YtpideemiijhkgaaDoorChecked
import GoSem.Claim
import GoSem.ClaimJoined
import GoSem.ClaimMapViews
import Derived.JoinedTies
import Derived.KernelRfl
namespace Go.Proofs.YtpideemiijhkgaaDoor
/- THE CELL 'sum', in the pinned program and in every row, IS THE sha256 OF THE DUMP (.gsa) THAT YtpideemiijhkgaaDoorProg.lean LOADS. Nothing in Lean hashes anything: it is a label: what it is worth is what the hold of that sum in a sandbox is worth. -/
noncomputable def Tryd.pinned : Pinned := { name := "ytpideemiijhkgaadoor", sum := "37395d5510e3070811e7ac73e127f02728d04cb5d54160951b711964efde70fa", checked := Tryd.checked }
namespace Rows
def none {H : Type} : Left H := { results := [], args := [] }

/- WHAT THE LISTED PACKAGE-LEVEL VARIABLES READ AS WHEN THE CALL BEGINS. Each datum BY PROGRAM (the guide's laid-datum.mjs) off the statement by which the dump's own 'gosem.cut.vars' lays the variable. In a bare row this is a premise. The card (YtpideemiijhkgaaDoorCards.lean) ties it to the program's text. -/
def laid_zoetrope_subpel_regular {H : Type} : DataW H := .agg [.agg [.lit (.int .i64 0), .lit (.int .i64 0), .lit (.int .i64 0), .lit (.int .i64 128), .lit (.int .i64 0), .lit (.int .i64 0), .lit (.int .i64 0), .lit (.int .i64 0)], .agg [.lit (.int .i64 0), .lit (.int .i64 2), .lit (.int .i64 (-6)), .lit (.int .i64 126), .lit (.int .i64 8), .lit (.int .i64 (-2)), .lit (.int .i64 0), .lit (.int .i64 0)], .agg [.lit (.int .i64 0), .lit (.int .i64 2), .lit (.int .i64 (-10)), .lit (.int .i64 122), .lit (.int .i64 18), .lit (.int .i64 (-4)), .lit (.int .i64 0), .lit (.int .i64 0)], .agg [.lit (.int .i64 0), .lit (.int .i64 2), .lit (.int .i64 (-12)), .lit (.int .i64 116), .lit (.int .i64 28), .lit (.int .i64 (-8)), .lit (.int .i64 2), .lit (.int .i64 0)], .agg [.lit (.int .i64 0), .lit (.int .i64 2), .lit (.int .i64 (-14)), .lit (.int .i64 110), .lit (.int .i64 38), .lit (.int .i64 (-10)), .lit (.int .i64 2), .lit (.int .i64 0)], .agg [.lit (.int .i64 0), .lit (.int .i64 2), .lit (.int .i64 (-14)), .lit (.int .i64 102), .lit (.int .i64 48), .lit (.int .i64 (-12)), .lit (.int .i64 2), .lit (.int .i64 0)], .agg [.lit (.int .i64 0), .lit (.int .i64 2), .lit (.int .i64 (-16)), .lit (.int .i64 94), .lit (.int .i64 58), .lit (.int .i64 (-12)), .lit (.int .i64 2), .lit (.int .i64 0)], .agg [.lit (.int .i64 0), .lit (.int .i64 2), .lit (.int .i64 (-14)), .lit (.int .i64 84), .lit (.int .i64 66), .lit (.int .i64 (-12)), .lit (.int .i64 2), .lit (.int .i64 0)], .agg [.lit (.int .i64 0), .lit (.int .i64 2), .lit (.int .i64 (-14)), .lit (.int .i64 76), .lit (.int .i64 76), .lit (.int .i64 (-14)), .lit (.int .i64 2), .lit (.int .i64 0)]]
def laid_zoetrope_subpel_smooth {H : Type} : DataW H := .agg [.agg [.lit (.int .i64 0), .lit (.int .i64 0), .lit (.int .i64 0), .lit (.int .i64 128), .lit (.int .i64 0), .lit (.int .i64 0), .lit (.int .i64 0), .lit (.int .i64 0)], .agg [.lit (.int .i64 0), .lit (.int .i64 2), .lit (.int .i64 28), .lit (.int .i64 62), .lit (.int .i64 34), .lit (.int .i64 2), .lit (.int .i64 0), .lit (.int .i64 0)], .agg [.lit (.int .i64 0), .lit (.int .i64 0), .lit (.int .i64 26), .lit (.int .i64 62), .lit (.int .i64 36), .lit (.int .i64 4), .lit (.int .i64 0), .lit (.int .i64 0)], .agg [.lit (.int .i64 0), .lit (.int .i64 0), .lit (.int .i64 22), .lit (.int .i64 62), .lit (.int .i64 40), .lit (.int .i64 4), .lit (.int .i64 0), .lit (.int .i64 0)], .agg [.lit (.int .i64 0), .lit (.int .i64 0), .lit (.int .i64 20), .lit (.int .i64 60), .lit (.int .i64 42), .lit (.int .i64 6), .lit (.int .i64 0), .lit (.int .i64 0)], .agg [.lit (.int .i64 0), .lit (.int .i64 0), .lit (.int .i64 18), .lit (.int .i64 58), .lit (.int .i64 44), .lit (.int .i64 8), .lit (.int .i64 0), .lit (.int .i64 0)], .agg [.lit (.int .i64 0), .lit (.int .i64 0), .lit (.int .i64 16), .lit (.int .i64 56), .lit (.int .i64 46), .lit (.int .i64 10), .lit (.int .i64 0), .lit (.int .i64 0)], .agg [.lit (.int .i64 0), .lit (.int .i64 (-2)), .lit (.int .i64 16), .lit (.int .i64 54), .lit (.int .i64 48), .lit (.int .i64 12), .lit (.int .i64 0), .lit (.int .i64 0)], .agg [.lit (.int .i64 0), .lit (.int .i64 (-2)), .lit (.int .i64 14), .lit (.int .i64 52), .lit (.int .i64 52), .lit (.int .i64 14), .lit (.int .i64 (-2)), .lit (.int .i64 0)]]

/-- 'zoetropelaw15.MotionSingles': WHATEVER THE INPUT: true; the input reads as it did. -/
def motionSinglesSpec : ChangeSpec := { name := "motionSingles", fn := fun _ => fun
  | [d1, d2] => { results := [.lit (.bool true)], args := [d1, d2] }
  | _ => none }
def motionSinglesRow : OpenClaim := { program := "ytpideemiijhkgaadoor", sum := "37395d5510e3070811e7ac73e127f02728d04cb5d54160951b711964efde70fa", func := "zoetrope/zoetropelaw15.MotionSingles", spec := "motionSingles", unfollowed := true, recurses := true, named := ["zoetrope/subpel.smooth", "zoetrope/subpel.regular"], apart := false, laid := [("zoetrope/subpel.regular", laid_zoetrope_subpel_regular), ("zoetrope/subpel.smooth", laid_zoetrope_subpel_smooth)] }
def MotionSinglesSaid : Prop := motionSinglesRow.holds Tryd.pinned (OpenSpec.ofChange motionSinglesSpec)

/-- ITS FALSE NEIGHBOUR: 'it returns false'. Refute it at one input. -/
def motionSinglesWrong : ChangeSpec := { name := "motionSingles", fn := fun _ => fun
  | [d1, d2] => { results := [.lit (.bool false)], args := [d1, d2] }
  | _ => none }
def MotionSinglesWrongFalsely : Prop := motionSinglesRow.holds Tryd.pinned (OpenSpec.ofChange motionSinglesWrong)

/-- 'zoetropelaw15.MotionPairs': WHATEVER THE INPUT: true; the input reads as it did. -/
def motionPairsSpec : ChangeSpec := { name := "motionPairs", fn := fun _ => fun
  | [d1, d2, d3] => { results := [.lit (.bool true)], args := [d1, d2, d3] }
  | _ => none }
def motionPairsRow : OpenClaim := { program := "ytpideemiijhkgaadoor", sum := "37395d5510e3070811e7ac73e127f02728d04cb5d54160951b711964efde70fa", func := "zoetrope/zoetropelaw15.MotionPairs", spec := "motionPairs", unfollowed := true, recurses := true, named := ["zoetrope/subpel.smooth", "zoetrope/subpel.regular"], apart := false, laid := [("zoetrope/subpel.regular", laid_zoetrope_subpel_regular), ("zoetrope/subpel.smooth", laid_zoetrope_subpel_smooth)] }
def MotionPairsSaid : Prop := motionPairsRow.holds Tryd.pinned (OpenSpec.ofChange motionPairsSpec)

/-- ITS FALSE NEIGHBOUR: 'it returns false'. Refute it at one input. -/
def motionPairsWrong : ChangeSpec := { name := "motionPairs", fn := fun _ => fun
  | [d1, d2, d3] => { results := [.lit (.bool false)], args := [d1, d2, d3] }
  | _ => none }
def MotionPairsWrongFalsely : Prop := motionPairsRow.holds Tryd.pinned (OpenSpec.ofChange motionPairsWrong)

/-- 'zoetropelaw15.MotionBlends': WHATEVER THE INPUT: true; the input reads as it did. -/
def motionBlendsSpec : ChangeSpec := { name := "motionBlends", fn := fun _ => fun
  | [d] => { results := [.lit (.bool true)], args := [d] }
  | _ => none }
def motionBlendsRow : OpenClaim := { program := "ytpideemiijhkgaadoor", sum := "37395d5510e3070811e7ac73e127f02728d04cb5d54160951b711964efde70fa", func := "zoetrope/zoetropelaw15.MotionBlends", spec := "motionBlends", unfollowed := true, recurses := true, named := ["zoetrope/subpel.smooth", "zoetrope/subpel.regular"], apart := false, laid := [("zoetrope/subpel.regular", laid_zoetrope_subpel_regular), ("zoetrope/subpel.smooth", laid_zoetrope_subpel_smooth)] }
def MotionBlendsSaid : Prop := motionBlendsRow.holds Tryd.pinned (OpenSpec.ofChange motionBlendsSpec)

/-- ITS FALSE NEIGHBOUR: 'it returns false'. Refute it at one input. -/
def motionBlendsWrong : ChangeSpec := { name := "motionBlends", fn := fun _ => fun
  | [d] => { results := [.lit (.bool false)], args := [d] }
  | _ => none }
def MotionBlendsWrongFalsely : Prop := motionBlendsRow.holds Tryd.pinned (OpenSpec.ofChange motionBlendsWrong)

/-- 'zoetropelaw15.MotionWhole': WHATEVER THE INPUT: true; the input reads as it did. -/
def motionWholeSpec : ChangeSpec := { name := "motionWhole", fn := fun _ => fun
  | [d1, d2] => { results := [.lit (.bool true)], args := [d1, d2] }
  | _ => none }
def motionWholeRow : OpenClaim := { program := "ytpideemiijhkgaadoor", sum := "37395d5510e3070811e7ac73e127f02728d04cb5d54160951b711964efde70fa", func := "zoetrope/zoetropelaw15.MotionWhole", spec := "motionWhole", unfollowed := true, recurses := true, named := ["zoetrope/subpel.smooth", "zoetrope/subpel.regular"], apart := false, laid := [("zoetrope/subpel.regular", laid_zoetrope_subpel_regular), ("zoetrope/subpel.smooth", laid_zoetrope_subpel_smooth)] }
def MotionWholeSaid : Prop := motionWholeRow.holds Tryd.pinned (OpenSpec.ofChange motionWholeSpec)

/-- ITS FALSE NEIGHBOUR: 'it returns false'. Refute it at one input. -/
def motionWholeWrong : ChangeSpec := { name := "motionWhole", fn := fun _ => fun
  | [d1, d2] => { results := [.lit (.bool false)], args := [d1, d2] }
  | _ => none }
def MotionWholeWrongFalsely : Prop := motionWholeRow.holds Tryd.pinned (OpenSpec.ofChange motionWholeWrong)

/-- 'zoetropelaw15.MotionFurther': WHATEVER THE INPUT: true; the input reads as it did. -/
def motionFurtherSpec : ChangeSpec := { name := "motionFurther", fn := fun _ => fun
  | [d1, d2, d3] => { results := [.lit (.bool true)], args := [d1, d2, d3] }
  | _ => none }
def motionFurtherRow : OpenClaim := { program := "ytpideemiijhkgaadoor", sum := "37395d5510e3070811e7ac73e127f02728d04cb5d54160951b711964efde70fa", func := "zoetrope/zoetropelaw15.MotionFurther", spec := "motionFurther", unfollowed := true, recurses := true, named := ["zoetrope/subpel.smooth", "zoetrope/subpel.regular"], apart := false, laid := [("zoetrope/subpel.regular", laid_zoetrope_subpel_regular), ("zoetrope/subpel.smooth", laid_zoetrope_subpel_smooth)] }
def MotionFurtherSaid : Prop := motionFurtherRow.holds Tryd.pinned (OpenSpec.ofChange motionFurtherSpec)

/-- ITS FALSE NEIGHBOUR: 'it returns false'. Refute it at one input. -/
def motionFurtherWrong : ChangeSpec := { name := "motionFurther", fn := fun _ => fun
  | [d1, d2, d3] => { results := [.lit (.bool false)], args := [d1, d2, d3] }
  | _ => none }
def MotionFurtherWrongFalsely : Prop := motionFurtherRow.holds Tryd.pinned (OpenSpec.ofChange motionFurtherWrong)

/-- 'zoetropelaw15.MotionBetween': WHATEVER THE INPUT: true; the input reads as it did. -/
def motionBetweenSpec : ChangeSpec := { name := "motionBetween", fn := fun _ => fun
  | [d1, d2] => { results := [.lit (.bool true)], args := [d1, d2] }
  | _ => none }
def motionBetweenRow : OpenClaim := { program := "ytpideemiijhkgaadoor", sum := "37395d5510e3070811e7ac73e127f02728d04cb5d54160951b711964efde70fa", func := "zoetrope/zoetropelaw15.MotionBetween", spec := "motionBetween", unfollowed := true, recurses := true, named := ["zoetrope/subpel.smooth", "zoetrope/subpel.regular"], apart := false, laid := [("zoetrope/subpel.regular", laid_zoetrope_subpel_regular), ("zoetrope/subpel.smooth", laid_zoetrope_subpel_smooth)] }
def MotionBetweenSaid : Prop := motionBetweenRow.holds Tryd.pinned (OpenSpec.ofChange motionBetweenSpec)

/-- ITS FALSE NEIGHBOUR: 'it returns false'. Refute it at one input. -/
def motionBetweenWrong : ChangeSpec := { name := "motionBetween", fn := fun _ => fun
  | [d1, d2] => { results := [.lit (.bool false)], args := [d1, d2] }
  | _ => none }
def MotionBetweenWrongFalsely : Prop := motionBetweenRow.holds Tryd.pinned (OpenSpec.ofChange motionBetweenWrong)

/- THE SECOND FORM. 'bulk': how many values and letters a reading holds, each counted each time it is reached (what is shared counts as often as it is met; a slice's spare places count too). A statement '..UptoSaid' is the law's where the arguments, and the package variables that the reading takes, are together of bulk at most 1048576: NARROWER than '..Said'. Prove '..Said' where nothing that the law and all that it calls make is longer than what came in: it says more and counts as full. Else prove '..UptoSaid'. A law counts once. -/
mutual
def uptoBulk {H : Type} : DataW H → Nat
  | .lit (.string bytes) => bytes.length + 1
  | .lit _ => 1
  | .nil => 1
  | .ptr d => uptoBulk d + 1
  | .slice elems spare => uptoBulkAll elems + uptoBulkAll spare + 1
  | .agg parts => uptoBulkAll parts + 1
  | .iface _ d => uptoBulk d + 1
  | .map entries => uptoBulkEntries entries + 1
  | .held _ => 1
def uptoBulkAll {H : Type} : List (DataW H) → Nat
  | [] => 0
  | d :: r => uptoBulk d + uptoBulkAll r
def uptoBulkEntries {H : Type} : List (Lit × DataW H) → Nat
  | [] => 0
  | x :: r => uptoBulkEntry x + uptoBulkEntries r
def uptoBulkEntry {H : Type} : Lit × DataW H → Nat
  | (.string bytes, d) => bytes.length + uptoBulk d + 1
  | (_, d) => uptoBulk d + 1
 end
def uptoSmall : (H : Type) → List (DataW H) → Bool := fun _ ds => decide (uptoBulkAll ds ≤ 1048576)
def OpenSpec.upto (s : _root_.Go.ChangeSpec) : _root_.Go.OpenSpec := { _root_.Go.OpenSpec.ofChange s with cond := some uptoSmall }

/-- 'zoetropelaw15.MotionSingles', WHERE WHAT IT READS IS OF BULK AT MOST 1048576: true; the input reads as it did. -/
def motionSinglesUptoRow : OpenClaim := { program := "ytpideemiijhkgaadoor", sum := "37395d5510e3070811e7ac73e127f02728d04cb5d54160951b711964efde70fa", func := "zoetrope/zoetropelaw15.MotionSingles", spec := "motionSingles", unfollowed := true, recurses := true, named := ["zoetrope/subpel.smooth", "zoetrope/subpel.regular"], apart := false, laid := [("zoetrope/subpel.regular", laid_zoetrope_subpel_regular), ("zoetrope/subpel.smooth", laid_zoetrope_subpel_smooth)], narrowed := true }
def MotionSinglesUptoSaid : Prop := motionSinglesUptoRow.holds Tryd.pinned (OpenSpec.upto motionSinglesSpec)

/-- 'zoetropelaw15.MotionPairs', WHERE WHAT IT READS IS OF BULK AT MOST 1048576: true; the input reads as it did. -/
def motionPairsUptoRow : OpenClaim := { program := "ytpideemiijhkgaadoor", sum := "37395d5510e3070811e7ac73e127f02728d04cb5d54160951b711964efde70fa", func := "zoetrope/zoetropelaw15.MotionPairs", spec := "motionPairs", unfollowed := true, recurses := true, named := ["zoetrope/subpel.smooth", "zoetrope/subpel.regular"], apart := false, laid := [("zoetrope/subpel.regular", laid_zoetrope_subpel_regular), ("zoetrope/subpel.smooth", laid_zoetrope_subpel_smooth)], narrowed := true }
def MotionPairsUptoSaid : Prop := motionPairsUptoRow.holds Tryd.pinned (OpenSpec.upto motionPairsSpec)

/-- 'zoetropelaw15.MotionBlends', WHERE WHAT IT READS IS OF BULK AT MOST 1048576: true; the input reads as it did. -/
def motionBlendsUptoRow : OpenClaim := { program := "ytpideemiijhkgaadoor", sum := "37395d5510e3070811e7ac73e127f02728d04cb5d54160951b711964efde70fa", func := "zoetrope/zoetropelaw15.MotionBlends", spec := "motionBlends", unfollowed := true, recurses := true, named := ["zoetrope/subpel.smooth", "zoetrope/subpel.regular"], apart := false, laid := [("zoetrope/subpel.regular", laid_zoetrope_subpel_regular), ("zoetrope/subpel.smooth", laid_zoetrope_subpel_smooth)], narrowed := true }
def MotionBlendsUptoSaid : Prop := motionBlendsUptoRow.holds Tryd.pinned (OpenSpec.upto motionBlendsSpec)

/-- 'zoetropelaw15.MotionWhole', WHERE WHAT IT READS IS OF BULK AT MOST 1048576: true; the input reads as it did. -/
def motionWholeUptoRow : OpenClaim := { program := "ytpideemiijhkgaadoor", sum := "37395d5510e3070811e7ac73e127f02728d04cb5d54160951b711964efde70fa", func := "zoetrope/zoetropelaw15.MotionWhole", spec := "motionWhole", unfollowed := true, recurses := true, named := ["zoetrope/subpel.smooth", "zoetrope/subpel.regular"], apart := false, laid := [("zoetrope/subpel.regular", laid_zoetrope_subpel_regular), ("zoetrope/subpel.smooth", laid_zoetrope_subpel_smooth)], narrowed := true }
def MotionWholeUptoSaid : Prop := motionWholeUptoRow.holds Tryd.pinned (OpenSpec.upto motionWholeSpec)

/-- 'zoetropelaw15.MotionFurther', WHERE WHAT IT READS IS OF BULK AT MOST 1048576: true; the input reads as it did. -/
def motionFurtherUptoRow : OpenClaim := { program := "ytpideemiijhkgaadoor", sum := "37395d5510e3070811e7ac73e127f02728d04cb5d54160951b711964efde70fa", func := "zoetrope/zoetropelaw15.MotionFurther", spec := "motionFurther", unfollowed := true, recurses := true, named := ["zoetrope/subpel.smooth", "zoetrope/subpel.regular"], apart := false, laid := [("zoetrope/subpel.regular", laid_zoetrope_subpel_regular), ("zoetrope/subpel.smooth", laid_zoetrope_subpel_smooth)], narrowed := true }
def MotionFurtherUptoSaid : Prop := motionFurtherUptoRow.holds Tryd.pinned (OpenSpec.upto motionFurtherSpec)

/-- 'zoetropelaw15.MotionBetween', WHERE WHAT IT READS IS OF BULK AT MOST 1048576: true; the input reads as it did. -/
def motionBetweenUptoRow : OpenClaim := { program := "ytpideemiijhkgaadoor", sum := "37395d5510e3070811e7ac73e127f02728d04cb5d54160951b711964efde70fa", func := "zoetrope/zoetropelaw15.MotionBetween", spec := "motionBetween", unfollowed := true, recurses := true, named := ["zoetrope/subpel.smooth", "zoetrope/subpel.regular"], apart := false, laid := [("zoetrope/subpel.regular", laid_zoetrope_subpel_regular), ("zoetrope/subpel.smooth", laid_zoetrope_subpel_smooth)], narrowed := true }
def MotionBetweenUptoSaid : Prop := motionBetweenUptoRow.holds Tryd.pinned (OpenSpec.upto motionBetweenSpec)

end Rows
end Go.Proofs.YtpideemiijhkgaaDoor
