/-
  NARROWER THAN 'FOR EVERY INPUT', by the rows' own cells (each row's printed sentence says how): CoefsWrites: laid · CoefsReads: laid · CoefsNames: laid.
  DERIVED. THE GIVEN ROWS OF THIS SEAT. 3 by the template 'for every input the law returns true; each argument reads behind the call as it read before'; 0 by the template 'total and deterministic' (their statements: YtkmnpechhdendaaGreatDoorTotals.lean).
  GIVEN WITH THE SEED: the statements are not yours to turn. If you find one false, say at which input.
  Laid BY PROGRAM, IN A SANDBOX (cutbox-rows.mjs): the forced cells as the released guide's own fill.sh prints them over the translation 7e2615a740634f7c… (all of the seat's roots in one cut). By AI agents, Wed Nov 11 2026. No macro, syntax, notation, axiom, sorry.
-/
import Derived.Test.YtkmnpechhdendaaGreatDoorChecked
import GoSem.PinnedTables
import GoSem.Claim
import GoSem.ClaimJoined
import GoSem.ClaimMapViews
import Derived.JoinedTies
import Derived.KernelRfl
namespace Go.Proofs.YtkmnpechhdendaaGreatDoor
/- THE CELL 'sum', in the pinned program and in every row, IS THE sha256 OF THE DUMP (.gsa) THAT YtkmnpechhdendaaGreatDoorProg.lean LOADS. Nothing in Lean hashes anything: it is a label: what it is worth is what the hold of that sum in a sandbox is worth. -/
noncomputable def Tryz.pinned : Pinned := { name := "ytkmnpechhdendaagreatdoor", sum := "7e2615a740634f7cb85f39c7de2d16e9f28186164446a6b5d5b2c2c0c7464d0b", checked := Tryz.checked }
namespace Rows
def none {H : Type} : Left H := { results := [], args := [] }

/- WHAT THE LISTED PACKAGE-LEVEL VARIABLES READ AS WHEN THE CALL BEGINS. Each datum BY PROGRAM (the guide's laid-datum.mjs) off the statement by which the dump's own 'gosem.cut.vars' lays the variable. In a bare row this is a premise. The card (YtkmnpechhdendaaGreatDoorCards.lean) ties it to the program's text. -/
def laid_unicode_utf8_acceptRanges {H : Type} : DataW H := .agg [.agg [.lit (.int .u8 128), .lit (.int .u8 191)], .agg [.lit (.int .u8 160), .lit (.int .u8 191)], .agg [.lit (.int .u8 128), .lit (.int .u8 159)], .agg [.lit (.int .u8 144), .lit (.int .u8 191)], .agg [.lit (.int .u8 128), .lit (.int .u8 143)], .agg [.lit (.int .u8 0), .lit (.int .u8 0)], .agg [.lit (.int .u8 0), .lit (.int .u8 0)], .agg [.lit (.int .u8 0), .lit (.int .u8 0)], .agg [.lit (.int .u8 0), .lit (.int .u8 0)], .agg [.lit (.int .u8 0), .lit (.int .u8 0)], .agg [.lit (.int .u8 0), .lit (.int .u8 0)], .agg [.lit (.int .u8 0), .lit (.int .u8 0)], .agg [.lit (.int .u8 0), .lit (.int .u8 0)], .agg [.lit (.int .u8 0), .lit (.int .u8 0)], .agg [.lit (.int .u8 0), .lit (.int .u8 0)], .agg [.lit (.int .u8 0), .lit (.int .u8 0)]]
def laid_zoetrope_scan_near {H : Type} : DataW H := .agg [.agg [.lit (.int .i64 0), .lit (.int .i64 1)], .agg [.lit (.int .i64 1), .lit (.int .i64 0)], .agg [.lit (.int .i64 1), .lit (.int .i64 1)], .agg [.lit (.int .i64 0), .lit (.int .i64 2)], .agg [.lit (.int .i64 2), .lit (.int .i64 0)]]
def laid_zoetrope_syms_shapes {H : Type} : DataW H := .agg [.agg [.lit (.int .i64 8), .lit (.int .i64 10), .lit (.bool false)], .agg [.lit (.int .i64 4), .lit (.int .i64 8), .lit (.bool false)], .agg [.lit (.int .i64 3), .lit (.int .i64 2), .lit (.bool false)], .agg [.lit (.int .i64 3), .lit (.int .i64 2), .lit (.bool false)], .agg [.lit (.int .i64 4), .lit (.int .i64 13), .lit (.bool false)], .agg [.lit (.int .i64 8), .lit (.int .i64 7), .lit (.bool false)], .agg [.lit (.int .i64 1), .lit (.int .i64 13), .lit (.bool false)], .agg [.lit (.int .i64 1), .lit (.int .i64 14), .lit (.bool false)], .agg [.lit (.int .i64 1), .lit (.int .i64 8), .lit (.bool false)], .agg [.lit (.int .i64 2), .lit (.int .i64 16), .lit (.bool true)], .agg [.lit (.int .i64 1), .lit (.int .i64 2), .lit (.bool false)], .agg [.lit (.int .i64 3), .lit (.int .i64 3), .lit (.bool false)], .agg [.lit (.int .i64 3), .lit (.int .i64 9), .lit (.bool false)], .agg [.lit (.int .i64 1), .lit (.int .i64 2), .lit (.bool false)], .agg [.lit (.int .i64 3), .lit (.int .i64 3), .lit (.bool false)], .agg [.lit (.int .i64 1), .lit (.int .i64 2), .lit (.bool false)], .agg [.lit (.int .i64 3), .lit (.int .i64 4), .lit (.bool false)], .agg [.lit (.int .i64 1), .lit (.int .i64 4), .lit (.bool false)], .agg [.lit (.int .i64 2), .lit (.int .i64 11), .lit (.bool true)], .agg [.lit (.int .i64 2), .lit (.int .i64 8), .lit (.bool false)], .agg [.lit (.int .i64 1), .lit (.int .i64 3), .lit (.bool false)], .agg [.lit (.int .i64 1), .lit (.int .i64 2), .lit (.bool false)], .agg [.lit (.int .i64 4), .lit (.int .i64 2), .lit (.bool false)], .agg [.lit (.int .i64 2), .lit (.int .i64 5), .lit (.bool false)], .agg [.lit (.int .i64 2), .lit (.int .i64 7), .lit (.bool false)], .agg [.lit (.int .i64 2), .lit (.int .i64 9), .lit (.bool false)], .agg [.lit (.int .i64 2), .lit (.int .i64 11), .lit (.bool false)], .agg [.lit (.int .i64 2), .lit (.int .i64 3), .lit (.bool true)], .agg [.lit (.int .i64 10), .lit (.int .i64 4), .lit (.bool true)], .agg [.lit (.int .i64 14), .lit (.int .i64 4), .lit (.bool true)], .agg [.lit (.int .i64 6), .lit (.int .i64 2), .lit (.bool false)], .agg [.lit (.int .i64 3), .lit (.int .i64 2), .lit (.bool false)]]
/-- One of Go's own tables, pinned by name: the form's constant. -/
def laid_unicode_utf8_first : DataW Unit := Go.Pinned.utf8First

/-- 'zoetropelaw11.CoefsWrites': WHATEVER THE INPUT: true; the input reads as it did. -/
def coefsWritesSpec : ChangeSpec := { name := "coefsWrites", fn := fun _ => fun
  | [d1, d2] => { results := [.lit (.bool true)], args := [d1, d2] }
  | _ => none }
def coefsWritesRow : OpenClaim := { program := "ytkmnpechhdendaagreatdoor", sum := "7e2615a740634f7cb85f39c7de2d16e9f28186164446a6b5d5b2c2c0c7464d0b", func := "zoetrope/zoetropelaw11.CoefsWrites", spec := "coefsWrites", unfollowed := true, recurses := true, named := ["zoetrope/syms.shapes", "zoetrope/scan.near", "unicode/utf8.first", "unicode/utf8.acceptRanges"], apart := false, laid := [("unicode/utf8.acceptRanges", laid_unicode_utf8_acceptRanges), ("zoetrope/scan.near", laid_zoetrope_scan_near), ("zoetrope/syms.shapes", laid_zoetrope_syms_shapes), ("unicode/utf8.first", laid_unicode_utf8_first)] }
def CoefsWritesSaid : Prop := coefsWritesRow.holds Tryz.pinned (OpenSpec.ofChange coefsWritesSpec)

/-- ITS FALSE NEIGHBOUR: 'it returns false'. Refute it at one input. -/
def coefsWritesWrong : ChangeSpec := { name := "coefsWrites", fn := fun _ => fun
  | [d1, d2] => { results := [.lit (.bool false)], args := [d1, d2] }
  | _ => none }
def CoefsWritesWrongFalsely : Prop := coefsWritesRow.holds Tryz.pinned (OpenSpec.ofChange coefsWritesWrong)

/-- 'zoetropelaw11.CoefsReads': WHATEVER THE INPUT: true; the input reads as it did. -/
def coefsReadsSpec : ChangeSpec := { name := "coefsReads", fn := fun _ => fun
  | [d1, d2] => { results := [.lit (.bool true)], args := [d1, d2] }
  | _ => none }
def coefsReadsRow : OpenClaim := { program := "ytkmnpechhdendaagreatdoor", sum := "7e2615a740634f7cb85f39c7de2d16e9f28186164446a6b5d5b2c2c0c7464d0b", func := "zoetrope/zoetropelaw11.CoefsReads", spec := "coefsReads", unfollowed := true, recurses := true, named := ["zoetrope/syms.shapes", "zoetrope/scan.near", "unicode/utf8.first", "unicode/utf8.acceptRanges"], apart := false, laid := [("unicode/utf8.acceptRanges", laid_unicode_utf8_acceptRanges), ("zoetrope/scan.near", laid_zoetrope_scan_near), ("zoetrope/syms.shapes", laid_zoetrope_syms_shapes), ("unicode/utf8.first", laid_unicode_utf8_first)] }
def CoefsReadsSaid : Prop := coefsReadsRow.holds Tryz.pinned (OpenSpec.ofChange coefsReadsSpec)

/-- ITS FALSE NEIGHBOUR: 'it returns false'. Refute it at one input. -/
def coefsReadsWrong : ChangeSpec := { name := "coefsReads", fn := fun _ => fun
  | [d1, d2] => { results := [.lit (.bool false)], args := [d1, d2] }
  | _ => none }
def CoefsReadsWrongFalsely : Prop := coefsReadsRow.holds Tryz.pinned (OpenSpec.ofChange coefsReadsWrong)

/-- 'zoetropelaw11.CoefsNames': WHATEVER THE INPUT: true; the input reads as it did. -/
def coefsNamesSpec : ChangeSpec := { name := "coefsNames", fn := fun _ => fun
  | [] => { results := [.lit (.bool true)], args := [] }
  | _ => none }
def coefsNamesRow : OpenClaim := { program := "ytkmnpechhdendaagreatdoor", sum := "7e2615a740634f7cb85f39c7de2d16e9f28186164446a6b5d5b2c2c0c7464d0b", func := "zoetrope/zoetropelaw11.CoefsNames", spec := "coefsNames", unfollowed := true, recurses := true, named := ["zoetrope/syms.shapes", "zoetrope/scan.near", "unicode/utf8.first", "unicode/utf8.acceptRanges"], apart := false, laid := [("unicode/utf8.acceptRanges", laid_unicode_utf8_acceptRanges), ("zoetrope/scan.near", laid_zoetrope_scan_near), ("zoetrope/syms.shapes", laid_zoetrope_syms_shapes), ("unicode/utf8.first", laid_unicode_utf8_first)] }
def CoefsNamesSaid : Prop := coefsNamesRow.holds Tryz.pinned (OpenSpec.ofChange coefsNamesSpec)

/-- ITS FALSE NEIGHBOUR: 'it returns false'. Refute it at one input. -/
def coefsNamesWrong : ChangeSpec := { name := "coefsNames", fn := fun _ => fun
  | [] => { results := [.lit (.bool false)], args := [] }
  | _ => none }
def CoefsNamesWrongFalsely : Prop := coefsNamesRow.holds Tryz.pinned (OpenSpec.ofChange coefsNamesWrong)

/- THE SECOND FORM. 'bulk': how many values and letters a reading holds, each counted each time it is reached (what is shared counts as often as it is met; a slice's spare places count too). A statement '..UptoSaid' is the law's where the arguments, and the package variables that the reading takes, are together of bulk at most 1048576: NARROWER than '..Said'. Prove '..Said' where nothing that the law and all that it calls make is longer than what came in: it says more and counts as full. Else prove '..UptoSaid'. A law counts once. -/
mutual
def uptoBulk {H : Type} : DataW H → Nat
  | .lit (.string bytes) => bytes.length + 1
  | .lit _ => 1
  | .nil => 1
  | .ptr d => uptoBulk d + 1
  | .slice elems spare => uptoBulkAll elems + uptoBulkAll spare + 1
  | .agg parts => uptoBulkAll parts + 1
  | .iface _ d => uptoBulk d + 1
  | .map entries => uptoBulkEntries entries + 1
  | .held _ => 1
def uptoBulkAll {H : Type} : List (DataW H) → Nat
  | [] => 0
  | d :: r => uptoBulk d + uptoBulkAll r
def uptoBulkEntries {H : Type} : List (Lit × DataW H) → Nat
  | [] => 0
  | x :: r => uptoBulkEntry x + uptoBulkEntries r
def uptoBulkEntry {H : Type} : Lit × DataW H → Nat
  | (.string bytes, d) => bytes.length + uptoBulk d + 1
  | (_, d) => uptoBulk d + 1
 end
def uptoSmall : (H : Type) → List (DataW H) → Bool := fun _ ds => decide (uptoBulkAll ds ≤ 1048576)
def OpenSpec.upto (s : _root_.Go.ChangeSpec) : _root_.Go.OpenSpec := { _root_.Go.OpenSpec.ofChange s with cond := some uptoSmall }

/-- 'zoetropelaw11.CoefsWrites', WHERE WHAT IT READS IS OF BULK AT MOST 1048576: true; the input reads as it did. -/
def coefsWritesUptoRow : OpenClaim := { program := "ytkmnpechhdendaagreatdoor", sum := "7e2615a740634f7cb85f39c7de2d16e9f28186164446a6b5d5b2c2c0c7464d0b", func := "zoetrope/zoetropelaw11.CoefsWrites", spec := "coefsWrites", unfollowed := true, recurses := true, named := ["zoetrope/syms.shapes", "zoetrope/scan.near", "unicode/utf8.first", "unicode/utf8.acceptRanges"], apart := false, laid := [("unicode/utf8.acceptRanges", laid_unicode_utf8_acceptRanges), ("zoetrope/scan.near", laid_zoetrope_scan_near), ("zoetrope/syms.shapes", laid_zoetrope_syms_shapes), ("unicode/utf8.first", laid_unicode_utf8_first)], narrowed := true }
def CoefsWritesUptoSaid : Prop := coefsWritesUptoRow.holds Tryz.pinned (OpenSpec.upto coefsWritesSpec)

/-- 'zoetropelaw11.CoefsReads', WHERE WHAT IT READS IS OF BULK AT MOST 1048576: true; the input reads as it did. -/
def coefsReadsUptoRow : OpenClaim := { program := "ytkmnpechhdendaagreatdoor", sum := "7e2615a740634f7cb85f39c7de2d16e9f28186164446a6b5d5b2c2c0c7464d0b", func := "zoetrope/zoetropelaw11.CoefsReads", spec := "coefsReads", unfollowed := true, recurses := true, named := ["zoetrope/syms.shapes", "zoetrope/scan.near", "unicode/utf8.first", "unicode/utf8.acceptRanges"], apart := false, laid := [("unicode/utf8.acceptRanges", laid_unicode_utf8_acceptRanges), ("zoetrope/scan.near", laid_zoetrope_scan_near), ("zoetrope/syms.shapes", laid_zoetrope_syms_shapes), ("unicode/utf8.first", laid_unicode_utf8_first)], narrowed := true }
def CoefsReadsUptoSaid : Prop := coefsReadsUptoRow.holds Tryz.pinned (OpenSpec.upto coefsReadsSpec)

/-- 'zoetropelaw11.CoefsNames', WHERE WHAT IT READS IS OF BULK AT MOST 1048576: true; the input reads as it did. -/
def coefsNamesUptoRow : OpenClaim := { program := "ytkmnpechhdendaagreatdoor", sum := "7e2615a740634f7cb85f39c7de2d16e9f28186164446a6b5d5b2c2c0c7464d0b", func := "zoetrope/zoetropelaw11.CoefsNames", spec := "coefsNames", unfollowed := true, recurses := true, named := ["zoetrope/syms.shapes", "zoetrope/scan.near", "unicode/utf8.first", "unicode/utf8.acceptRanges"], apart := false, laid := [("unicode/utf8.acceptRanges", laid_unicode_utf8_acceptRanges), ("zoetrope/scan.near", laid_zoetrope_scan_near), ("zoetrope/syms.shapes", laid_zoetrope_syms_shapes), ("unicode/utf8.first", laid_unicode_utf8_first)], narrowed := true }
def CoefsNamesUptoSaid : Prop := coefsNamesUptoRow.holds Tryz.pinned (OpenSpec.upto coefsNamesSpec)

end Rows
end Go.Proofs.YtkmnpechhdendaaGreatDoor
