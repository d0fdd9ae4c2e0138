/-
  NARROWER THAN 'FOR EVERY INPUT', by the rows' own cells (each row's printed sentence says how): MotionTurned: laid · MotionKnown: laid.
  DERIVED. THE GIVEN ROWS OF THIS SEAT. 2 by the template 'for every input the law returns true; each argument reads behind the call as it read before'; 0 by the template 'total and deterministic' (their statements: YtpideemiijhkgabDoorTotals.lean).
  GIVEN WITH THE SEED: the statements are not yours to turn. If you find one false, say at which input.
  Laid BY PROGRAM, IN A SANDBOX (cutbox-rows.mjs): the forced cells as the released guide's own fill.sh prints them over the translation 93774b0216d24672… (all of the seat's roots in one cut). By AI agents, Wed Nov 11 2026. No macro, syntax, notation, axiom, sorry.
-/
import Derived.Test.YtpideemiijhkgabDoorChecked
import GoSem.Claim
import GoSem.ClaimJoined
import GoSem.ClaimMapViews
import Derived.JoinedTies
import Derived.KernelRfl
namespace Go.Proofs.YtpideemiijhkgabDoor
/- THE CELL 'sum', in the pinned program and in every row, IS THE sha256 OF THE DUMP (.gsa) THAT YtpideemiijhkgabDoorProg.lean LOADS. Nothing in Lean hashes anything: it is a label: what it is worth is what the hold of that sum in a sandbox is worth. -/
noncomputable def Tryd.pinned : Pinned := { name := "ytpideemiijhkgabdoor", sum := "93774b0216d246724889fe77f86b534e3e00118a576abf8661b29b0de1fb9407", checked := Tryd.checked }
namespace Rows
def none {H : Type} : Left H := { results := [], args := [] }

/- WHAT THE LISTED PACKAGE-LEVEL VARIABLES READ AS WHEN THE CALL BEGINS. Each datum BY PROGRAM (the guide's laid-datum.mjs) off the statement by which the dump's own 'gosem.cut.vars' lays the variable. In a bare row this is a premise. The card (YtpideemiijhkgabDoorCards.lean) ties it to the program's text. -/
def laid_zoetrope_subpel_regular {H : Type} : DataW H := .agg [.agg [.lit (.int .i64 0), .lit (.int .i64 0), .lit (.int .i64 0), .lit (.int .i64 128), .lit (.int .i64 0), .lit (.int .i64 0), .lit (.int .i64 0), .lit (.int .i64 0)], .agg [.lit (.int .i64 0), .lit (.int .i64 2), .lit (.int .i64 (-6)), .lit (.int .i64 126), .lit (.int .i64 8), .lit (.int .i64 (-2)), .lit (.int .i64 0), .lit (.int .i64 0)], .agg [.lit (.int .i64 0), .lit (.int .i64 2), .lit (.int .i64 (-10)), .lit (.int .i64 122), .lit (.int .i64 18), .lit (.int .i64 (-4)), .lit (.int .i64 0), .lit (.int .i64 0)], .agg [.lit (.int .i64 0), .lit (.int .i64 2), .lit (.int .i64 (-12)), .lit (.int .i64 116), .lit (.int .i64 28), .lit (.int .i64 (-8)), .lit (.int .i64 2), .lit (.int .i64 0)], .agg [.lit (.int .i64 0), .lit (.int .i64 2), .lit (.int .i64 (-14)), .lit (.int .i64 110), .lit (.int .i64 38), .lit (.int .i64 (-10)), .lit (.int .i64 2), .lit (.int .i64 0)], .agg [.lit (.int .i64 0), .lit (.int .i64 2), .lit (.int .i64 (-14)), .lit (.int .i64 102), .lit (.int .i64 48), .lit (.int .i64 (-12)), .lit (.int .i64 2), .lit (.int .i64 0)], .agg [.lit (.int .i64 0), .lit (.int .i64 2), .lit (.int .i64 (-16)), .lit (.int .i64 94), .lit (.int .i64 58), .lit (.int .i64 (-12)), .lit (.int .i64 2), .lit (.int .i64 0)], .agg [.lit (.int .i64 0), .lit (.int .i64 2), .lit (.int .i64 (-14)), .lit (.int .i64 84), .lit (.int .i64 66), .lit (.int .i64 (-12)), .lit (.int .i64 2), .lit (.int .i64 0)], .agg [.lit (.int .i64 0), .lit (.int .i64 2), .lit (.int .i64 (-14)), .lit (.int .i64 76), .lit (.int .i64 76), .lit (.int .i64 (-14)), .lit (.int .i64 2), .lit (.int .i64 0)]]
def laid_zoetrope_subpel_smooth {H : Type} : DataW H := .agg [.agg [.lit (.int .i64 0), .lit (.int .i64 0), .lit (.int .i64 0), .lit (.int .i64 128), .lit (.int .i64 0), .lit (.int .i64 0), .lit (.int .i64 0), .lit (.int .i64 0)], .agg [.lit (.int .i64 0), .lit (.int .i64 2), .lit (.int .i64 28), .lit (.int .i64 62), .lit (.int .i64 34), .lit (.int .i64 2), .lit (.int .i64 0), .lit (.int .i64 0)], .agg [.lit (.int .i64 0), .lit (.int .i64 0), .lit (.int .i64 26), .lit (.int .i64 62), .lit (.int .i64 36), .lit (.int .i64 4), .lit (.int .i64 0), .lit (.int .i64 0)], .agg [.lit (.int .i64 0), .lit (.int .i64 0), .lit (.int .i64 22), .lit (.int .i64 62), .lit (.int .i64 40), .lit (.int .i64 4), .lit (.int .i64 0), .lit (.int .i64 0)], .agg [.lit (.int .i64 0), .lit (.int .i64 0), .lit (.int .i64 20), .lit (.int .i64 60), .lit (.int .i64 42), .lit (.int .i64 6), .lit (.int .i64 0), .lit (.int .i64 0)], .agg [.lit (.int .i64 0), .lit (.int .i64 0), .lit (.int .i64 18), .lit (.int .i64 58), .lit (.int .i64 44), .lit (.int .i64 8), .lit (.int .i64 0), .lit (.int .i64 0)], .agg [.lit (.int .i64 0), .lit (.int .i64 0), .lit (.int .i64 16), .lit (.int .i64 56), .lit (.int .i64 46), .lit (.int .i64 10), .lit (.int .i64 0), .lit (.int .i64 0)], .agg [.lit (.int .i64 0), .lit (.int .i64 (-2)), .lit (.int .i64 16), .lit (.int .i64 54), .lit (.int .i64 48), .lit (.int .i64 12), .lit (.int .i64 0), .lit (.int .i64 0)], .agg [.lit (.int .i64 0), .lit (.int .i64 (-2)), .lit (.int .i64 14), .lit (.int .i64 52), .lit (.int .i64 52), .lit (.int .i64 14), .lit (.int .i64 (-2)), .lit (.int .i64 0)]]

/-- 'zoetropelaw15.MotionTurned': WHATEVER THE INPUT: true; the input reads as it did. -/
def motionTurnedSpec : ChangeSpec := { name := "motionTurned", fn := fun _ => fun
  | [d] => { results := [.lit (.bool true)], args := [d] }
  | _ => none }
def motionTurnedRow : OpenClaim := { program := "ytpideemiijhkgabdoor", sum := "93774b0216d246724889fe77f86b534e3e00118a576abf8661b29b0de1fb9407", func := "zoetrope/zoetropelaw15.MotionTurned", spec := "motionTurned", unfollowed := true, recurses := true, named := ["zoetrope/subpel.smooth", "zoetrope/subpel.regular"], apart := false, laid := [("zoetrope/subpel.regular", laid_zoetrope_subpel_regular), ("zoetrope/subpel.smooth", laid_zoetrope_subpel_smooth)] }
def MotionTurnedSaid : Prop := motionTurnedRow.holds Tryd.pinned (OpenSpec.ofChange motionTurnedSpec)

/-- ITS FALSE NEIGHBOUR: 'it returns false'. Refute it at one input. -/
def motionTurnedWrong : ChangeSpec := { name := "motionTurned", fn := fun _ => fun
  | [d] => { results := [.lit (.bool false)], args := [d] }
  | _ => none }
def MotionTurnedWrongFalsely : Prop := motionTurnedRow.holds Tryd.pinned (OpenSpec.ofChange motionTurnedWrong)

/-- 'zoetropelaw15.MotionKnown': WHATEVER THE INPUT: true; the input reads as it did. -/
def motionKnownSpec : ChangeSpec := { name := "motionKnown", fn := fun _ => fun
  | [] => { results := [.lit (.bool true)], args := [] }
  | _ => none }
def motionKnownRow : OpenClaim := { program := "ytpideemiijhkgabdoor", sum := "93774b0216d246724889fe77f86b534e3e00118a576abf8661b29b0de1fb9407", func := "zoetrope/zoetropelaw15.MotionKnown", spec := "motionKnown", unfollowed := true, recurses := true, named := ["zoetrope/subpel.smooth", "zoetrope/subpel.regular"], apart := false, laid := [("zoetrope/subpel.regular", laid_zoetrope_subpel_regular), ("zoetrope/subpel.smooth", laid_zoetrope_subpel_smooth)] }
def MotionKnownSaid : Prop := motionKnownRow.holds Tryd.pinned (OpenSpec.ofChange motionKnownSpec)

/-- ITS FALSE NEIGHBOUR: 'it returns false'. Refute it at one input. -/
def motionKnownWrong : ChangeSpec := { name := "motionKnown", fn := fun _ => fun
  | [] => { results := [.lit (.bool false)], args := [] }
  | _ => none }
def MotionKnownWrongFalsely : Prop := motionKnownRow.holds Tryd.pinned (OpenSpec.ofChange motionKnownWrong)

/- THE SECOND FORM. 'bulk': how many values and letters a reading holds, each counted each time it is reached (what is shared counts as often as it is met; a slice's spare places count too). A statement '..UptoSaid' is the law's where the arguments, and the package variables that the reading takes, are together of bulk at most 1048576: NARROWER than '..Said'. Prove '..Said' where nothing that the law and all that it calls make is longer than what came in: it says more and counts as full. Else prove '..UptoSaid'. A law counts once. -/
mutual
def uptoBulk {H : Type} : DataW H → Nat
  | .lit (.string bytes) => bytes.length + 1
  | .lit _ => 1
  | .nil => 1
  | .ptr d => uptoBulk d + 1
  | .slice elems spare => uptoBulkAll elems + uptoBulkAll spare + 1
  | .agg parts => uptoBulkAll parts + 1
  | .iface _ d => uptoBulk d + 1
  | .map entries => uptoBulkEntries entries + 1
  | .held _ => 1
def uptoBulkAll {H : Type} : List (DataW H) → Nat
  | [] => 0
  | d :: r => uptoBulk d + uptoBulkAll r
def uptoBulkEntries {H : Type} : List (Lit × DataW H) → Nat
  | [] => 0
  | x :: r => uptoBulkEntry x + uptoBulkEntries r
def uptoBulkEntry {H : Type} : Lit × DataW H → Nat
  | (.string bytes, d) => bytes.length + uptoBulk d + 1
  | (_, d) => uptoBulk d + 1
 end
def uptoSmall : (H : Type) → List (DataW H) → Bool := fun _ ds => decide (uptoBulkAll ds ≤ 1048576)
def OpenSpec.upto (s : _root_.Go.ChangeSpec) : _root_.Go.OpenSpec := { _root_.Go.OpenSpec.ofChange s with cond := some uptoSmall }

/-- 'zoetropelaw15.MotionTurned', WHERE WHAT IT READS IS OF BULK AT MOST 1048576: true; the input reads as it did. -/
def motionTurnedUptoRow : OpenClaim := { program := "ytpideemiijhkgabdoor", sum := "93774b0216d246724889fe77f86b534e3e00118a576abf8661b29b0de1fb9407", func := "zoetrope/zoetropelaw15.MotionTurned", spec := "motionTurned", unfollowed := true, recurses := true, named := ["zoetrope/subpel.smooth", "zoetrope/subpel.regular"], apart := false, laid := [("zoetrope/subpel.regular", laid_zoetrope_subpel_regular), ("zoetrope/subpel.smooth", laid_zoetrope_subpel_smooth)], narrowed := true }
def MotionTurnedUptoSaid : Prop := motionTurnedUptoRow.holds Tryd.pinned (OpenSpec.upto motionTurnedSpec)

/-- 'zoetropelaw15.MotionKnown', WHERE WHAT IT READS IS OF BULK AT MOST 1048576: true; the input reads as it did. -/
def motionKnownUptoRow : OpenClaim := { program := "ytpideemiijhkgabdoor", sum := "93774b0216d246724889fe77f86b534e3e00118a576abf8661b29b0de1fb9407", func := "zoetrope/zoetropelaw15.MotionKnown", spec := "motionKnown", unfollowed := true, recurses := true, named := ["zoetrope/subpel.smooth", "zoetrope/subpel.regular"], apart := false, laid := [("zoetrope/subpel.regular", laid_zoetrope_subpel_regular), ("zoetrope/subpel.smooth", laid_zoetrope_subpel_smooth)], narrowed := true }
def MotionKnownUptoSaid : Prop := motionKnownUptoRow.holds Tryd.pinned (OpenSpec.upto motionKnownSpec)

end Rows
end Go.Proofs.YtpideemiijhkgabDoor
