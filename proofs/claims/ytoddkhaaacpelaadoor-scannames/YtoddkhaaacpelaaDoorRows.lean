/-
  NARROWER THAN 'FOR EVERY INPUT', by the rows' own cells (each row's printed sentence says how): ScanContexts: laid · ScanSigns: laid · ScanNames: laid.
  DERIVED. THE GIVEN ROWS OF THIS SEAT. 3 by the template 'for every input the law returns true; each argument reads behind the call as it read before'; 0 by the template 'total and deterministic' (their statements: YtoddkhaaacpelaaDoorTotals.lean).
  GIVEN WITH THE SEED: the statements are not yours to turn. If you find one false, say at which input.
  Laid BY PROGRAM, IN A SANDBOX (cutbox-rows.mjs): the forced cells as the released guide's own fill.sh prints them over the translation 56303f4b44f2e8ee… (all of the seat's roots in one cut). By AI agents, Wed Nov 11 2026. No macro, syntax, notation, axiom, sorry.
-/
import Derived.Test.YtoddkhaaacpelaaDoorChecked
import GoSem.Claim
import GoSem.ClaimJoined
import GoSem.ClaimMapViews
import Derived.JoinedTies
import Derived.KernelRfl
namespace Go.Proofs.YtoddkhaaacpelaaDoor
/- THE CELL 'sum', in the pinned program and in every row, IS THE sha256 OF THE DUMP (.gsa) THAT YtoddkhaaacpelaaDoorProg.lean LOADS. Nothing in Lean hashes anything: it is a label: what it is worth is what the hold of that sum in a sandbox is worth. -/
noncomputable def Tryd.pinned : Pinned := { name := "ytoddkhaaacpelaadoor", sum := "56303f4b44f2e8ee71a2f943a475778830cab05859876b9f6193d75ebb7a5e3a", checked := Tryd.checked }
namespace Rows
def none {H : Type} : Left H := { results := [], args := [] }

/- WHAT THE LISTED PACKAGE-LEVEL VARIABLES READ AS WHEN THE CALL BEGINS. Each datum BY PROGRAM (the guide's laid-datum.mjs) off the statement by which the dump's own 'gosem.cut.vars' lays the variable. In a bare row this is a premise. The card (YtoddkhaaacpelaaDoorCards.lean) ties it to the program's text. -/
def laid_zoetrope_scan_near {H : Type} : DataW H := .agg [.agg [.lit (.int .i64 0), .lit (.int .i64 1)], .agg [.lit (.int .i64 1), .lit (.int .i64 0)], .agg [.lit (.int .i64 1), .lit (.int .i64 1)], .agg [.lit (.int .i64 0), .lit (.int .i64 2)], .agg [.lit (.int .i64 2), .lit (.int .i64 0)]]

/-- 'zoetropelaw10.ScanContexts': WHATEVER THE INPUT: true; the input reads as it did. -/
def scanContextsSpec : ChangeSpec := { name := "scanContexts", fn := fun _ => fun
  | [d1, d2, d3] => { results := [.lit (.bool true)], args := [d1, d2, d3] }
  | _ => none }
def scanContextsRow : OpenClaim := { program := "ytoddkhaaacpelaadoor", sum := "56303f4b44f2e8ee71a2f943a475778830cab05859876b9f6193d75ebb7a5e3a", func := "zoetrope/zoetropelaw10.ScanContexts", spec := "scanContexts", named := ["zoetrope/scan.near"], apart := false, laid := [("zoetrope/scan.near", laid_zoetrope_scan_near)] }
def ScanContextsSaid : Prop := scanContextsRow.holds Tryd.pinned (OpenSpec.ofChange scanContextsSpec)

/-- ITS FALSE NEIGHBOUR: 'it returns false'. Refute it at one input. -/
def scanContextsWrong : ChangeSpec := { name := "scanContexts", fn := fun _ => fun
  | [d1, d2, d3] => { results := [.lit (.bool false)], args := [d1, d2, d3] }
  | _ => none }
def ScanContextsWrongFalsely : Prop := scanContextsRow.holds Tryd.pinned (OpenSpec.ofChange scanContextsWrong)

/-- 'zoetropelaw10.ScanSigns': WHATEVER THE INPUT: true; the input reads as it did. -/
def scanSignsSpec : ChangeSpec := { name := "scanSigns", fn := fun _ => fun
  | [d1, d2, d3] => { results := [.lit (.bool true)], args := [d1, d2, d3] }
  | _ => none }
def scanSignsRow : OpenClaim := { program := "ytoddkhaaacpelaadoor", sum := "56303f4b44f2e8ee71a2f943a475778830cab05859876b9f6193d75ebb7a5e3a", func := "zoetrope/zoetropelaw10.ScanSigns", spec := "scanSigns", named := ["zoetrope/scan.near"], apart := false, laid := [("zoetrope/scan.near", laid_zoetrope_scan_near)] }
def ScanSignsSaid : Prop := scanSignsRow.holds Tryd.pinned (OpenSpec.ofChange scanSignsSpec)

/-- ITS FALSE NEIGHBOUR: 'it returns false'. Refute it at one input. -/
def scanSignsWrong : ChangeSpec := { name := "scanSigns", fn := fun _ => fun
  | [d1, d2, d3] => { results := [.lit (.bool false)], args := [d1, d2, d3] }
  | _ => none }
def ScanSignsWrongFalsely : Prop := scanSignsRow.holds Tryd.pinned (OpenSpec.ofChange scanSignsWrong)

/-- 'zoetropelaw10.ScanNames': WHATEVER THE INPUT: true; the input reads as it did. -/
def scanNamesSpec : ChangeSpec := { name := "scanNames", fn := fun _ => fun
  | [] => { results := [.lit (.bool true)], args := [] }
  | _ => none }
def scanNamesRow : OpenClaim := { program := "ytoddkhaaacpelaadoor", sum := "56303f4b44f2e8ee71a2f943a475778830cab05859876b9f6193d75ebb7a5e3a", func := "zoetrope/zoetropelaw10.ScanNames", spec := "scanNames", named := ["zoetrope/scan.near"], apart := false, laid := [("zoetrope/scan.near", laid_zoetrope_scan_near)] }
def ScanNamesSaid : Prop := scanNamesRow.holds Tryd.pinned (OpenSpec.ofChange scanNamesSpec)

/-- ITS FALSE NEIGHBOUR: 'it returns false'. Refute it at one input. -/
def scanNamesWrong : ChangeSpec := { name := "scanNames", fn := fun _ => fun
  | [] => { results := [.lit (.bool false)], args := [] }
  | _ => none }
def ScanNamesWrongFalsely : Prop := scanNamesRow.holds Tryd.pinned (OpenSpec.ofChange scanNamesWrong)

/- THE SECOND FORM. 'bulk': how many values and letters a reading holds, each counted each time it is reached (what is shared counts as often as it is met; a slice's spare places count too). A statement '..UptoSaid' is the law's where the arguments, and the package variables that the reading takes, are together of bulk at most 1048576: NARROWER than '..Said'. Prove '..Said' where nothing that the law and all that it calls make is longer than what came in: it says more and counts as full. Else prove '..UptoSaid'. A law counts once. -/
mutual
def uptoBulk {H : Type} : DataW H → Nat
  | .lit (.string bytes) => bytes.length + 1
  | .lit _ => 1
  | .nil => 1
  | .ptr d => uptoBulk d + 1
  | .slice elems spare => uptoBulkAll elems + uptoBulkAll spare + 1
  | .agg parts => uptoBulkAll parts + 1
  | .iface _ d => uptoBulk d + 1
  | .map entries => uptoBulkEntries entries + 1
  | .held _ => 1
def uptoBulkAll {H : Type} : List (DataW H) → Nat
  | [] => 0
  | d :: r => uptoBulk d + uptoBulkAll r
def uptoBulkEntries {H : Type} : List (Lit × DataW H) → Nat
  | [] => 0
  | x :: r => uptoBulkEntry x + uptoBulkEntries r
def uptoBulkEntry {H : Type} : Lit × DataW H → Nat
  | (.string bytes, d) => bytes.length + uptoBulk d + 1
  | (_, d) => uptoBulk d + 1
 end
def uptoSmall : (H : Type) → List (DataW H) → Bool := fun _ ds => decide (uptoBulkAll ds ≤ 1048576)
def OpenSpec.upto (s : _root_.Go.ChangeSpec) : _root_.Go.OpenSpec := { _root_.Go.OpenSpec.ofChange s with cond := some uptoSmall }

/-- 'zoetropelaw10.ScanContexts', WHERE WHAT IT READS IS OF BULK AT MOST 1048576: true; the input reads as it did. -/
def scanContextsUptoRow : OpenClaim := { program := "ytoddkhaaacpelaadoor", sum := "56303f4b44f2e8ee71a2f943a475778830cab05859876b9f6193d75ebb7a5e3a", func := "zoetrope/zoetropelaw10.ScanContexts", spec := "scanContexts", named := ["zoetrope/scan.near"], apart := false, laid := [("zoetrope/scan.near", laid_zoetrope_scan_near)], narrowed := true }
def ScanContextsUptoSaid : Prop := scanContextsUptoRow.holds Tryd.pinned (OpenSpec.upto scanContextsSpec)

/-- 'zoetropelaw10.ScanSigns', WHERE WHAT IT READS IS OF BULK AT MOST 1048576: true; the input reads as it did. -/
def scanSignsUptoRow : OpenClaim := { program := "ytoddkhaaacpelaadoor", sum := "56303f4b44f2e8ee71a2f943a475778830cab05859876b9f6193d75ebb7a5e3a", func := "zoetrope/zoetropelaw10.ScanSigns", spec := "scanSigns", named := ["zoetrope/scan.near"], apart := false, laid := [("zoetrope/scan.near", laid_zoetrope_scan_near)], narrowed := true }
def ScanSignsUptoSaid : Prop := scanSignsUptoRow.holds Tryd.pinned (OpenSpec.upto scanSignsSpec)

/-- 'zoetropelaw10.ScanNames', WHERE WHAT IT READS IS OF BULK AT MOST 1048576: true; the input reads as it did. -/
def scanNamesUptoRow : OpenClaim := { program := "ytoddkhaaacpelaadoor", sum := "56303f4b44f2e8ee71a2f943a475778830cab05859876b9f6193d75ebb7a5e3a", func := "zoetrope/zoetropelaw10.ScanNames", spec := "scanNames", named := ["zoetrope/scan.near"], apart := false, laid := [("zoetrope/scan.near", laid_zoetrope_scan_near)], narrowed := true }
def ScanNamesUptoSaid : Prop := scanNamesUptoRow.holds Tryd.pinned (OpenSpec.upto scanNamesSpec)

end Rows
end Go.Proofs.YtoddkhaaacpelaaDoor
