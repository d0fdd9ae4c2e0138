/-
  NARROWER THAN 'FOR EVERY INPUT', by the rows' own cells (each row's printed sentence says how): TxfmBounded: laid · TxfmKnown: laid.
  DERIVED. THE GIVEN ROWS OF THIS SEAT. 2 by the template 'for every input the law returns true; each argument reads behind the call as it read before'; 0 by the template 'total and deterministic' (their statements: YtddnnlofdicgkabDoorTotals.lean).
  GIVEN WITH THE SEED: the statements are not yours to turn. If you find one false, say at which input.
  Laid BY PROGRAM, IN A SANDBOX (cutbox-rows.mjs): the forced cells as the released guide's own fill.sh prints them over the translation 44dbbc5321bc06f9… (all of the seat's roots in one cut). By AI agents, Wed Nov 11 2026. No macro, syntax, notation, axiom, sorry.
-/
import Derived.Test.YtddnnlofdicgkabDoorChecked
import GoSem.Claim
import GoSem.ClaimJoined
import GoSem.ClaimMapViews
import Derived.JoinedTies
import Derived.KernelRfl
namespace Go.Proofs.YtddnnlofdicgkabDoor
/- THE CELL 'sum', in the pinned program and in every row, IS THE sha256 OF THE DUMP (.gsa) THAT YtddnnlofdicgkabDoorProg.lean LOADS. Nothing in Lean hashes anything: it is a label: what it is worth is what the hold of that sum in a sandbox is worth. -/
noncomputable def Tryd.pinned : Pinned := { name := "ytddnnlofdicgkabdoor", sum := "44dbbc5321bc06f97132a2b8c5f3aa71029f0fec9368de02e93189edc9f83ab1", checked := Tryd.checked }
namespace Rows
def none {H : Type} : Left H := { results := [], args := [] }

/- WHAT THE LISTED PACKAGE-LEVEL VARIABLES READ AS WHEN THE CALL BEGINS. Each datum BY PROGRAM (the guide's laid-datum.mjs) off the statement by which the dump's own 'gosem.cut.vars' lays the variable. In a bare row this is a premise. The card (YtddnnlofdicgkabDoorCards.lean) ties it to the program's text. -/
def laid_zoetrope_basis_quarter {H : Type} : DataW H := .agg [.lit (.int .i64 4096), .lit (.int .i64 4095), .lit (.int .i64 4091), .lit (.int .i64 4085), .lit (.int .i64 4076), .lit (.int .i64 4065), .lit (.int .i64 4052), .lit (.int .i64 4036), .lit (.int .i64 4017), .lit (.int .i64 3996), .lit (.int .i64 3973), .lit (.int .i64 3948), .lit (.int .i64 3920), .lit (.int .i64 3889), .lit (.int .i64 3857), .lit (.int .i64 3822), .lit (.int .i64 3784), .lit (.int .i64 3745), .lit (.int .i64 3703), .lit (.int .i64 3659), .lit (.int .i64 3612), .lit (.int .i64 3564), .lit (.int .i64 3513), .lit (.int .i64 3461), .lit (.int .i64 3406), .lit (.int .i64 3349), .lit (.int .i64 3290), .lit (.int .i64 3229), .lit (.int .i64 3166), .lit (.int .i64 3102), .lit (.int .i64 3035), .lit (.int .i64 2967), .lit (.int .i64 2896), .lit (.int .i64 2824), .lit (.int .i64 2751), .lit (.int .i64 2675), .lit (.int .i64 2598), .lit (.int .i64 2520), .lit (.int .i64 2440), .lit (.int .i64 2359), .lit (.int .i64 2276), .lit (.int .i64 2191), .lit (.int .i64 2106), .lit (.int .i64 2019), .lit (.int .i64 1931), .lit (.int .i64 1842), .lit (.int .i64 1751), .lit (.int .i64 1660), .lit (.int .i64 1567), .lit (.int .i64 1474), .lit (.int .i64 1380), .lit (.int .i64 1285), .lit (.int .i64 1189), .lit (.int .i64 1092), .lit (.int .i64 995), .lit (.int .i64 897), .lit (.int .i64 799), .lit (.int .i64 700), .lit (.int .i64 601), .lit (.int .i64 501), .lit (.int .i64 401), .lit (.int .i64 301), .lit (.int .i64 201), .lit (.int .i64 101), .lit (.int .i64 0)]

/-- 'zoetropelaw08.TxfmBounded': WHATEVER THE INPUT: true; the input reads as it did. -/
def txfmBoundedSpec : ChangeSpec := { name := "txfmBounded", fn := fun _ => fun
  | [d1, d2] => { results := [.lit (.bool true)], args := [d1, d2] }
  | _ => none }
def txfmBoundedRow : OpenClaim := { program := "ytddnnlofdicgkabdoor", sum := "44dbbc5321bc06f97132a2b8c5f3aa71029f0fec9368de02e93189edc9f83ab1", func := "zoetrope/zoetropelaw08.TxfmBounded", spec := "txfmBounded", unfollowed := true, recurses := true, named := ["zoetrope/basis.quarter"], apart := false, laid := [("zoetrope/basis.quarter", laid_zoetrope_basis_quarter)] }
def TxfmBoundedSaid : Prop := txfmBoundedRow.holds Tryd.pinned (OpenSpec.ofChange txfmBoundedSpec)

/-- ITS FALSE NEIGHBOUR: 'it returns false'. Refute it at one input. -/
def txfmBoundedWrong : ChangeSpec := { name := "txfmBounded", fn := fun _ => fun
  | [d1, d2] => { results := [.lit (.bool false)], args := [d1, d2] }
  | _ => none }
def TxfmBoundedWrongFalsely : Prop := txfmBoundedRow.holds Tryd.pinned (OpenSpec.ofChange txfmBoundedWrong)

/-- 'zoetropelaw08.TxfmKnown': WHATEVER THE INPUT: true; the input reads as it did. -/
def txfmKnownSpec : ChangeSpec := { name := "txfmKnown", fn := fun _ => fun
  | [] => { results := [.lit (.bool true)], args := [] }
  | _ => none }
def txfmKnownRow : OpenClaim := { program := "ytddnnlofdicgkabdoor", sum := "44dbbc5321bc06f97132a2b8c5f3aa71029f0fec9368de02e93189edc9f83ab1", func := "zoetrope/zoetropelaw08.TxfmKnown", spec := "txfmKnown", unfollowed := true, recurses := true, named := ["zoetrope/basis.quarter"], apart := false, laid := [("zoetrope/basis.quarter", laid_zoetrope_basis_quarter)] }
def TxfmKnownSaid : Prop := txfmKnownRow.holds Tryd.pinned (OpenSpec.ofChange txfmKnownSpec)

/-- ITS FALSE NEIGHBOUR: 'it returns false'. Refute it at one input. -/
def txfmKnownWrong : ChangeSpec := { name := "txfmKnown", fn := fun _ => fun
  | [] => { results := [.lit (.bool false)], args := [] }
  | _ => none }
def TxfmKnownWrongFalsely : Prop := txfmKnownRow.holds Tryd.pinned (OpenSpec.ofChange txfmKnownWrong)

/- THE SECOND FORM. 'bulk': how many values and letters a reading holds, each counted each time it is reached (what is shared counts as often as it is met; a slice's spare places count too). A statement '..UptoSaid' is the law's where the arguments, and the package variables that the reading takes, are together of bulk at most 1048576: NARROWER than '..Said'. Prove '..Said' where nothing that the law and all that it calls make is longer than what came in: it says more and counts as full. Else prove '..UptoSaid'. A law counts once. -/
mutual
def uptoBulk {H : Type} : DataW H → Nat
  | .lit (.string bytes) => bytes.length + 1
  | .lit _ => 1
  | .nil => 1
  | .ptr d => uptoBulk d + 1
  | .slice elems spare => uptoBulkAll elems + uptoBulkAll spare + 1
  | .agg parts => uptoBulkAll parts + 1
  | .iface _ d => uptoBulk d + 1
  | .map entries => uptoBulkEntries entries + 1
  | .held _ => 1
def uptoBulkAll {H : Type} : List (DataW H) → Nat
  | [] => 0
  | d :: r => uptoBulk d + uptoBulkAll r
def uptoBulkEntries {H : Type} : List (Lit × DataW H) → Nat
  | [] => 0
  | x :: r => uptoBulkEntry x + uptoBulkEntries r
def uptoBulkEntry {H : Type} : Lit × DataW H → Nat
  | (.string bytes, d) => bytes.length + uptoBulk d + 1
  | (_, d) => uptoBulk d + 1
 end
def uptoSmall : (H : Type) → List (DataW H) → Bool := fun _ ds => decide (uptoBulkAll ds ≤ 1048576)
def OpenSpec.upto (s : _root_.Go.ChangeSpec) : _root_.Go.OpenSpec := { _root_.Go.OpenSpec.ofChange s with cond := some uptoSmall }

/-- 'zoetropelaw08.TxfmBounded', WHERE WHAT IT READS IS OF BULK AT MOST 1048576: true; the input reads as it did. -/
def txfmBoundedUptoRow : OpenClaim := { program := "ytddnnlofdicgkabdoor", sum := "44dbbc5321bc06f97132a2b8c5f3aa71029f0fec9368de02e93189edc9f83ab1", func := "zoetrope/zoetropelaw08.TxfmBounded", spec := "txfmBounded", unfollowed := true, recurses := true, named := ["zoetrope/basis.quarter"], apart := false, laid := [("zoetrope/basis.quarter", laid_zoetrope_basis_quarter)], narrowed := true }
def TxfmBoundedUptoSaid : Prop := txfmBoundedUptoRow.holds Tryd.pinned (OpenSpec.upto txfmBoundedSpec)

/-- 'zoetropelaw08.TxfmKnown', WHERE WHAT IT READS IS OF BULK AT MOST 1048576: true; the input reads as it did. -/
def txfmKnownUptoRow : OpenClaim := { program := "ytddnnlofdicgkabdoor", sum := "44dbbc5321bc06f97132a2b8c5f3aa71029f0fec9368de02e93189edc9f83ab1", func := "zoetrope/zoetropelaw08.TxfmKnown", spec := "txfmKnown", unfollowed := true, recurses := true, named := ["zoetrope/basis.quarter"], apart := false, laid := [("zoetrope/basis.quarter", laid_zoetrope_basis_quarter)], narrowed := true }
def TxfmKnownUptoSaid : Prop := txfmKnownUptoRow.holds Tryd.pinned (OpenSpec.upto txfmKnownSpec)

end Rows
end Go.Proofs.YtddnnlofdicgkabDoor
