/-
  NARROWER THAN 'FOR EVERY INPUT', by the rows' own cells (each row's printed sentence says how): SymsWrites: laid · SymsReads: laid · SymsSets: laid · SymsBack: laid · SymsAny: laid · SymsLearn: laid.
  DERIVED. THE GIVEN ROWS OF THIS SEAT. 6 by the template 'for every input the law returns true; each argument reads behind the call as it read before'; 0 by the template 'total and deterministic' (their statements: YtppanogpeengnaaDoorTotals.lean).
  GIVEN WITH THE SEED: the statements are not yours to turn. If you find one false, say at which input.
  Laid BY PROGRAM, IN A SANDBOX (cutbox-rows.mjs): the forced cells as the released guide's own fill.sh prints them over the translation 71ba4442a3e1274b… (all of the seat's roots in one cut). By AI agents, Wed Nov 11 2026. No macro, syntax, notation, axiom, sorry.
-/
import Derived.Test.YtppanogpeengnaaDoorChecked
import GoSem.PinnedTables
import GoSem.Claim
import GoSem.ClaimJoined
import GoSem.ClaimMapViews
import Derived.JoinedTies
import Derived.KernelRfl
namespace Go.Proofs.YtppanogpeengnaaDoor
/- THE CELL 'sum', in the pinned program and in every row, IS THE sha256 OF THE DUMP (.gsa) THAT YtppanogpeengnaaDoorProg.lean LOADS. Nothing in Lean hashes anything: it is a label: what it is worth is what the hold of that sum in a sandbox is worth. -/
noncomputable def Tryd.pinned : Pinned := { name := "ytppanogpeengnaadoor", sum := "71ba4442a3e1274bcad8c69cda225f6f5e5dea294f79fcb648c79e8627ab54e2", checked := Tryd.checked }
namespace Rows
def none {H : Type} : Left H := { results := [], args := [] }

/- WHAT THE LISTED PACKAGE-LEVEL VARIABLES READ AS WHEN THE CALL BEGINS. Each datum BY PROGRAM (the guide's laid-datum.mjs) off the statement by which the dump's own 'gosem.cut.vars' lays the variable. In a bare row this is a premise. The card (YtppanogpeengnaaDoorCards.lean) ties it to the program's text. -/
def laid_unicode_utf8_acceptRanges {H : Type} : DataW H := .agg [.agg [.lit (.int .u8 128), .lit (.int .u8 191)], .agg [.lit (.int .u8 160), .lit (.int .u8 191)], .agg [.lit (.int .u8 128), .lit (.int .u8 159)], .agg [.lit (.int .u8 144), .lit (.int .u8 191)], .agg [.lit (.int .u8 128), .lit (.int .u8 143)], .agg [.lit (.int .u8 0), .lit (.int .u8 0)], .agg [.lit (.int .u8 0), .lit (.int .u8 0)], .agg [.lit (.int .u8 0), .lit (.int .u8 0)], .agg [.lit (.int .u8 0), .lit (.int .u8 0)], .agg [.lit (.int .u8 0), .lit (.int .u8 0)], .agg [.lit (.int .u8 0), .lit (.int .u8 0)], .agg [.lit (.int .u8 0), .lit (.int .u8 0)], .agg [.lit (.int .u8 0), .lit (.int .u8 0)], .agg [.lit (.int .u8 0), .lit (.int .u8 0)], .agg [.lit (.int .u8 0), .lit (.int .u8 0)], .agg [.lit (.int .u8 0), .lit (.int .u8 0)]]
def laid_zoetrope_syms_shapes {H : Type} : DataW H := .agg [.agg [.lit (.int .i64 8), .lit (.int .i64 10), .lit (.bool false)], .agg [.lit (.int .i64 4), .lit (.int .i64 8), .lit (.bool false)], .agg [.lit (.int .i64 3), .lit (.int .i64 2), .lit (.bool false)], .agg [.lit (.int .i64 3), .lit (.int .i64 2), .lit (.bool false)], .agg [.lit (.int .i64 4), .lit (.int .i64 13), .lit (.bool false)], .agg [.lit (.int .i64 8), .lit (.int .i64 7), .lit (.bool false)], .agg [.lit (.int .i64 1), .lit (.int .i64 13), .lit (.bool false)], .agg [.lit (.int .i64 1), .lit (.int .i64 14), .lit (.bool false)], .agg [.lit (.int .i64 1), .lit (.int .i64 8), .lit (.bool false)], .agg [.lit (.int .i64 2), .lit (.int .i64 16), .lit (.bool true)], .agg [.lit (.int .i64 1), .lit (.int .i64 2), .lit (.bool false)], .agg [.lit (.int .i64 3), .lit (.int .i64 3), .lit (.bool false)], .agg [.lit (.int .i64 3), .lit (.int .i64 9), .lit (.bool false)], .agg [.lit (.int .i64 1), .lit (.int .i64 2), .lit (.bool false)], .agg [.lit (.int .i64 3), .lit (.int .i64 3), .lit (.bool false)], .agg [.lit (.int .i64 1), .lit (.int .i64 2), .lit (.bool false)], .agg [.lit (.int .i64 3), .lit (.int .i64 4), .lit (.bool false)], .agg [.lit (.int .i64 1), .lit (.int .i64 4), .lit (.bool false)], .agg [.lit (.int .i64 2), .lit (.int .i64 11), .lit (.bool true)], .agg [.lit (.int .i64 2), .lit (.int .i64 8), .lit (.bool false)], .agg [.lit (.int .i64 1), .lit (.int .i64 3), .lit (.bool false)], .agg [.lit (.int .i64 1), .lit (.int .i64 2), .lit (.bool false)], .agg [.lit (.int .i64 4), .lit (.int .i64 2), .lit (.bool false)], .agg [.lit (.int .i64 2), .lit (.int .i64 5), .lit (.bool false)], .agg [.lit (.int .i64 2), .lit (.int .i64 7), .lit (.bool false)], .agg [.lit (.int .i64 2), .lit (.int .i64 9), .lit (.bool false)], .agg [.lit (.int .i64 2), .lit (.int .i64 11), .lit (.bool false)], .agg [.lit (.int .i64 2), .lit (.int .i64 3), .lit (.bool true)], .agg [.lit (.int .i64 10), .lit (.int .i64 4), .lit (.bool true)], .agg [.lit (.int .i64 14), .lit (.int .i64 4), .lit (.bool true)], .agg [.lit (.int .i64 6), .lit (.int .i64 2), .lit (.bool false)], .agg [.lit (.int .i64 3), .lit (.int .i64 2), .lit (.bool false)]]
/-- One of Go's own tables, pinned by name: the form's constant. -/
def laid_unicode_utf8_first : DataW Unit := Go.Pinned.utf8First

/-- 'zoetropelaw04.SymsWrites': WHATEVER THE INPUT: true; the input reads as it did. -/
def symsWritesSpec : ChangeSpec := { name := "symsWrites", fn := fun _ => fun
  | [d1, d2, d3] => { results := [.lit (.bool true)], args := [d1, d2, d3] }
  | _ => none }
def symsWritesRow : OpenClaim := { program := "ytppanogpeengnaadoor", sum := "71ba4442a3e1274bcad8c69cda225f6f5e5dea294f79fcb648c79e8627ab54e2", func := "zoetrope/zoetropelaw04.SymsWrites", spec := "symsWrites", unfollowed := true, recurses := true, named := ["zoetrope/syms.shapes", "unicode/utf8.first", "unicode/utf8.acceptRanges"], apart := false, laid := [("unicode/utf8.acceptRanges", laid_unicode_utf8_acceptRanges), ("zoetrope/syms.shapes", laid_zoetrope_syms_shapes), ("unicode/utf8.first", laid_unicode_utf8_first)] }
def SymsWritesSaid : Prop := symsWritesRow.holds Tryd.pinned (OpenSpec.ofChange symsWritesSpec)

/-- ITS FALSE NEIGHBOUR: 'it returns false'. Refute it at one input. -/
def symsWritesWrong : ChangeSpec := { name := "symsWrites", fn := fun _ => fun
  | [d1, d2, d3] => { results := [.lit (.bool false)], args := [d1, d2, d3] }
  | _ => none }
def SymsWritesWrongFalsely : Prop := symsWritesRow.holds Tryd.pinned (OpenSpec.ofChange symsWritesWrong)

/-- 'zoetropelaw04.SymsReads': WHATEVER THE INPUT: true; the input reads as it did. -/
def symsReadsSpec : ChangeSpec := { name := "symsReads", fn := fun _ => fun
  | [d1, d2, d3] => { results := [.lit (.bool true)], args := [d1, d2, d3] }
  | _ => none }
def symsReadsRow : OpenClaim := { program := "ytppanogpeengnaadoor", sum := "71ba4442a3e1274bcad8c69cda225f6f5e5dea294f79fcb648c79e8627ab54e2", func := "zoetrope/zoetropelaw04.SymsReads", spec := "symsReads", unfollowed := true, recurses := true, named := ["zoetrope/syms.shapes", "unicode/utf8.first", "unicode/utf8.acceptRanges"], apart := false, laid := [("unicode/utf8.acceptRanges", laid_unicode_utf8_acceptRanges), ("zoetrope/syms.shapes", laid_zoetrope_syms_shapes), ("unicode/utf8.first", laid_unicode_utf8_first)] }
def SymsReadsSaid : Prop := symsReadsRow.holds Tryd.pinned (OpenSpec.ofChange symsReadsSpec)

/-- ITS FALSE NEIGHBOUR: 'it returns false'. Refute it at one input. -/
def symsReadsWrong : ChangeSpec := { name := "symsReads", fn := fun _ => fun
  | [d1, d2, d3] => { results := [.lit (.bool false)], args := [d1, d2, d3] }
  | _ => none }
def SymsReadsWrongFalsely : Prop := symsReadsRow.holds Tryd.pinned (OpenSpec.ofChange symsReadsWrong)

/-- 'zoetropelaw04.SymsSets': WHATEVER THE INPUT: true; the input reads as it did. -/
def symsSetsSpec : ChangeSpec := { name := "symsSets", fn := fun _ => fun
  | [d1, d2, d3] => { results := [.lit (.bool true)], args := [d1, d2, d3] }
  | _ => none }
def symsSetsRow : OpenClaim := { program := "ytppanogpeengnaadoor", sum := "71ba4442a3e1274bcad8c69cda225f6f5e5dea294f79fcb648c79e8627ab54e2", func := "zoetrope/zoetropelaw04.SymsSets", spec := "symsSets", unfollowed := true, recurses := true, named := ["zoetrope/syms.shapes", "unicode/utf8.first", "unicode/utf8.acceptRanges"], apart := false, laid := [("unicode/utf8.acceptRanges", laid_unicode_utf8_acceptRanges), ("zoetrope/syms.shapes", laid_zoetrope_syms_shapes), ("unicode/utf8.first", laid_unicode_utf8_first)] }
def SymsSetsSaid : Prop := symsSetsRow.holds Tryd.pinned (OpenSpec.ofChange symsSetsSpec)

/-- ITS FALSE NEIGHBOUR: 'it returns false'. Refute it at one input. -/
def symsSetsWrong : ChangeSpec := { name := "symsSets", fn := fun _ => fun
  | [d1, d2, d3] => { results := [.lit (.bool false)], args := [d1, d2, d3] }
  | _ => none }
def SymsSetsWrongFalsely : Prop := symsSetsRow.holds Tryd.pinned (OpenSpec.ofChange symsSetsWrong)

/-- 'zoetropelaw04.SymsBack': WHATEVER THE INPUT: true; the input reads as it did. -/
def symsBackSpec : ChangeSpec := { name := "symsBack", fn := fun _ => fun
  | [d1, d2] => { results := [.lit (.bool true)], args := [d1, d2] }
  | _ => none }
def symsBackRow : OpenClaim := { program := "ytppanogpeengnaadoor", sum := "71ba4442a3e1274bcad8c69cda225f6f5e5dea294f79fcb648c79e8627ab54e2", func := "zoetrope/zoetropelaw04.SymsBack", spec := "symsBack", unfollowed := true, recurses := true, named := ["zoetrope/syms.shapes", "unicode/utf8.first", "unicode/utf8.acceptRanges"], apart := false, laid := [("unicode/utf8.acceptRanges", laid_unicode_utf8_acceptRanges), ("zoetrope/syms.shapes", laid_zoetrope_syms_shapes), ("unicode/utf8.first", laid_unicode_utf8_first)] }
def SymsBackSaid : Prop := symsBackRow.holds Tryd.pinned (OpenSpec.ofChange symsBackSpec)

/-- ITS FALSE NEIGHBOUR: 'it returns false'. Refute it at one input. -/
def symsBackWrong : ChangeSpec := { name := "symsBack", fn := fun _ => fun
  | [d1, d2] => { results := [.lit (.bool false)], args := [d1, d2] }
  | _ => none }
def SymsBackWrongFalsely : Prop := symsBackRow.holds Tryd.pinned (OpenSpec.ofChange symsBackWrong)

/-- 'zoetropelaw04.SymsAny': WHATEVER THE INPUT: true; the input reads as it did. -/
def symsAnySpec : ChangeSpec := { name := "symsAny", fn := fun _ => fun
  | [d1, d2] => { results := [.lit (.bool true)], args := [d1, d2] }
  | _ => none }
def symsAnyRow : OpenClaim := { program := "ytppanogpeengnaadoor", sum := "71ba4442a3e1274bcad8c69cda225f6f5e5dea294f79fcb648c79e8627ab54e2", func := "zoetrope/zoetropelaw04.SymsAny", spec := "symsAny", unfollowed := true, recurses := true, named := ["zoetrope/syms.shapes", "unicode/utf8.first", "unicode/utf8.acceptRanges"], apart := false, laid := [("unicode/utf8.acceptRanges", laid_unicode_utf8_acceptRanges), ("zoetrope/syms.shapes", laid_zoetrope_syms_shapes), ("unicode/utf8.first", laid_unicode_utf8_first)] }
def SymsAnySaid : Prop := symsAnyRow.holds Tryd.pinned (OpenSpec.ofChange symsAnySpec)

/-- ITS FALSE NEIGHBOUR: 'it returns false'. Refute it at one input. -/
def symsAnyWrong : ChangeSpec := { name := "symsAny", fn := fun _ => fun
  | [d1, d2] => { results := [.lit (.bool false)], args := [d1, d2] }
  | _ => none }
def SymsAnyWrongFalsely : Prop := symsAnyRow.holds Tryd.pinned (OpenSpec.ofChange symsAnyWrong)

/-- 'zoetropelaw04.SymsLearn': WHATEVER THE INPUT: true; the input reads as it did. -/
def symsLearnSpec : ChangeSpec := { name := "symsLearn", fn := fun _ => fun
  | [d1, d2, d3] => { results := [.lit (.bool true)], args := [d1, d2, d3] }
  | _ => none }
def symsLearnRow : OpenClaim := { program := "ytppanogpeengnaadoor", sum := "71ba4442a3e1274bcad8c69cda225f6f5e5dea294f79fcb648c79e8627ab54e2", func := "zoetrope/zoetropelaw04.SymsLearn", spec := "symsLearn", unfollowed := true, recurses := true, named := ["zoetrope/syms.shapes", "unicode/utf8.first", "unicode/utf8.acceptRanges"], apart := false, laid := [("unicode/utf8.acceptRanges", laid_unicode_utf8_acceptRanges), ("zoetrope/syms.shapes", laid_zoetrope_syms_shapes), ("unicode/utf8.first", laid_unicode_utf8_first)] }
def SymsLearnSaid : Prop := symsLearnRow.holds Tryd.pinned (OpenSpec.ofChange symsLearnSpec)

/-- ITS FALSE NEIGHBOUR: 'it returns false'. Refute it at one input. -/
def symsLearnWrong : ChangeSpec := { name := "symsLearn", fn := fun _ => fun
  | [d1, d2, d3] => { results := [.lit (.bool false)], args := [d1, d2, d3] }
  | _ => none }
def SymsLearnWrongFalsely : Prop := symsLearnRow.holds Tryd.pinned (OpenSpec.ofChange symsLearnWrong)

/- THE SECOND FORM. 'bulk': how many values and letters a reading holds, each counted each time it is reached (what is shared counts as often as it is met; a slice's spare places count too). A statement '..UptoSaid' is the law's where the arguments, and the package variables that the reading takes, are together of bulk at most 1048576: NARROWER than '..Said'. Prove '..Said' where nothing that the law and all that it calls make is longer than what came in: it says more and counts as full. Else prove '..UptoSaid'. A law counts once. -/
mutual
def uptoBulk {H : Type} : DataW H → Nat
  | .lit (.string bytes) => bytes.length + 1
  | .lit _ => 1
  | .nil => 1
  | .ptr d => uptoBulk d + 1
  | .slice elems spare => uptoBulkAll elems + uptoBulkAll spare + 1
  | .agg parts => uptoBulkAll parts + 1
  | .iface _ d => uptoBulk d + 1
  | .map entries => uptoBulkEntries entries + 1
  | .held _ => 1
def uptoBulkAll {H : Type} : List (DataW H) → Nat
  | [] => 0
  | d :: r => uptoBulk d + uptoBulkAll r
def uptoBulkEntries {H : Type} : List (Lit × DataW H) → Nat
  | [] => 0
  | x :: r => uptoBulkEntry x + uptoBulkEntries r
def uptoBulkEntry {H : Type} : Lit × DataW H → Nat
  | (.string bytes, d) => bytes.length + uptoBulk d + 1
  | (_, d) => uptoBulk d + 1
 end
def uptoSmall : (H : Type) → List (DataW H) → Bool := fun _ ds => decide (uptoBulkAll ds ≤ 1048576)
def OpenSpec.upto (s : _root_.Go.ChangeSpec) : _root_.Go.OpenSpec := { _root_.Go.OpenSpec.ofChange s with cond := some uptoSmall }

/-- 'zoetropelaw04.SymsWrites', WHERE WHAT IT READS IS OF BULK AT MOST 1048576: true; the input reads as it did. -/
def symsWritesUptoRow : OpenClaim := { program := "ytppanogpeengnaadoor", sum := "71ba4442a3e1274bcad8c69cda225f6f5e5dea294f79fcb648c79e8627ab54e2", func := "zoetrope/zoetropelaw04.SymsWrites", spec := "symsWrites", unfollowed := true, recurses := true, named := ["zoetrope/syms.shapes", "unicode/utf8.first", "unicode/utf8.acceptRanges"], apart := false, laid := [("unicode/utf8.acceptRanges", laid_unicode_utf8_acceptRanges), ("zoetrope/syms.shapes", laid_zoetrope_syms_shapes), ("unicode/utf8.first", laid_unicode_utf8_first)], narrowed := true }
def SymsWritesUptoSaid : Prop := symsWritesUptoRow.holds Tryd.pinned (OpenSpec.upto symsWritesSpec)

/-- 'zoetropelaw04.SymsReads', WHERE WHAT IT READS IS OF BULK AT MOST 1048576: true; the input reads as it did. -/
def symsReadsUptoRow : OpenClaim := { program := "ytppanogpeengnaadoor", sum := "71ba4442a3e1274bcad8c69cda225f6f5e5dea294f79fcb648c79e8627ab54e2", func := "zoetrope/zoetropelaw04.SymsReads", spec := "symsReads", unfollowed := true, recurses := true, named := ["zoetrope/syms.shapes", "unicode/utf8.first", "unicode/utf8.acceptRanges"], apart := false, laid := [("unicode/utf8.acceptRanges", laid_unicode_utf8_acceptRanges), ("zoetrope/syms.shapes", laid_zoetrope_syms_shapes), ("unicode/utf8.first", laid_unicode_utf8_first)], narrowed := true }
def SymsReadsUptoSaid : Prop := symsReadsUptoRow.holds Tryd.pinned (OpenSpec.upto symsReadsSpec)

/-- 'zoetropelaw04.SymsSets', WHERE WHAT IT READS IS OF BULK AT MOST 1048576: true; the input reads as it did. -/
def symsSetsUptoRow : OpenClaim := { program := "ytppanogpeengnaadoor", sum := "71ba4442a3e1274bcad8c69cda225f6f5e5dea294f79fcb648c79e8627ab54e2", func := "zoetrope/zoetropelaw04.SymsSets", spec := "symsSets", unfollowed := true, recurses := true, named := ["zoetrope/syms.shapes", "unicode/utf8.first", "unicode/utf8.acceptRanges"], apart := false, laid := [("unicode/utf8.acceptRanges", laid_unicode_utf8_acceptRanges), ("zoetrope/syms.shapes", laid_zoetrope_syms_shapes), ("unicode/utf8.first", laid_unicode_utf8_first)], narrowed := true }
def SymsSetsUptoSaid : Prop := symsSetsUptoRow.holds Tryd.pinned (OpenSpec.upto symsSetsSpec)

/-- 'zoetropelaw04.SymsBack', WHERE WHAT IT READS IS OF BULK AT MOST 1048576: true; the input reads as it did. -/
def symsBackUptoRow : OpenClaim := { program := "ytppanogpeengnaadoor", sum := "71ba4442a3e1274bcad8c69cda225f6f5e5dea294f79fcb648c79e8627ab54e2", func := "zoetrope/zoetropelaw04.SymsBack", spec := "symsBack", unfollowed := true, recurses := true, named := ["zoetrope/syms.shapes", "unicode/utf8.first", "unicode/utf8.acceptRanges"], apart := false, laid := [("unicode/utf8.acceptRanges", laid_unicode_utf8_acceptRanges), ("zoetrope/syms.shapes", laid_zoetrope_syms_shapes), ("unicode/utf8.first", laid_unicode_utf8_first)], narrowed := true }
def SymsBackUptoSaid : Prop := symsBackUptoRow.holds Tryd.pinned (OpenSpec.upto symsBackSpec)

/-- 'zoetropelaw04.SymsAny', WHERE WHAT IT READS IS OF BULK AT MOST 1048576: true; the input reads as it did. -/
def symsAnyUptoRow : OpenClaim := { program := "ytppanogpeengnaadoor", sum := "71ba4442a3e1274bcad8c69cda225f6f5e5dea294f79fcb648c79e8627ab54e2", func := "zoetrope/zoetropelaw04.SymsAny", spec := "symsAny", unfollowed := true, recurses := true, named := ["zoetrope/syms.shapes", "unicode/utf8.first", "unicode/utf8.acceptRanges"], apart := false, laid := [("unicode/utf8.acceptRanges", laid_unicode_utf8_acceptRanges), ("zoetrope/syms.shapes", laid_zoetrope_syms_shapes), ("unicode/utf8.first", laid_unicode_utf8_first)], narrowed := true }
def SymsAnyUptoSaid : Prop := symsAnyUptoRow.holds Tryd.pinned (OpenSpec.upto symsAnySpec)

/-- 'zoetropelaw04.SymsLearn', WHERE WHAT IT READS IS OF BULK AT MOST 1048576: true; the input reads as it did. -/
def symsLearnUptoRow : OpenClaim := { program := "ytppanogpeengnaadoor", sum := "71ba4442a3e1274bcad8c69cda225f6f5e5dea294f79fcb648c79e8627ab54e2", func := "zoetrope/zoetropelaw04.SymsLearn", spec := "symsLearn", unfollowed := true, recurses := true, named := ["zoetrope/syms.shapes", "unicode/utf8.first", "unicode/utf8.acceptRanges"], apart := false, laid := [("unicode/utf8.acceptRanges", laid_unicode_utf8_acceptRanges), ("zoetrope/syms.shapes", laid_zoetrope_syms_shapes), ("unicode/utf8.first", laid_unicode_utf8_first)], narrowed := true }
def SymsLearnUptoSaid : Prop := symsLearnUptoRow.holds Tryd.pinned (OpenSpec.upto symsLearnSpec)

end Rows
end Go.Proofs.YtppanogpeengnaaDoor
