/-
  No cell of these rows narrows 'for every input' (looked for: loops, veiled, ifaces, maps, wideKeys, modest, calm, conditions, laid).
  DERIVED. THE GIVEN ROWS OF THIS SEAT. 6 by the template 'for every input the law returns true; each argument reads behind the call as it read before'; 0 by the template 'total and deterministic' (their statements: YtdiphgkgehpgiaaTotals.lean).
  GIVEN WITH THE SEED: the statements are not yours to turn. If you find one false, say at which input.
  Laid BY PROGRAM, IN A SANDBOX (cutbox-rows.mjs): the forced cells as the released guide's own fill.sh prints them over the translation de3cdbc7c39205a4… (all of the seat's roots in one cut). By AI agents, Wed Nov 11 2026. No macro, syntax, notation, axiom, sorry.
-/
import Derived.Test.YtdiphgkgehpgiaaChecked
import GoSem.Claim
import GoSem.ClaimJoined
import GoSem.ClaimMapViews
import Derived.JoinedTies
import Derived.KernelRfl
namespace Go.Proofs.Ytdiphgkgehpgiaa
/- THE CELL 'sum', in the pinned program and in every row, IS THE sha256 OF THE DUMP (.gsa) THAT YtdiphgkgehpgiaaProg.lean LOADS. Nothing in Lean hashes anything: it is a label: what it is worth is what the hold of that sum in a sandbox is worth. -/
noncomputable def Try.pinned : Pinned := { name := "ytdiphgkgehpgiaa", sum := "de3cdbc7c39205a45b46e1a3ebb18296fec8fe2d079335f2e212debadbe5aeac", checked := Try.checked }
namespace Rows
def none {H : Type} : Left H := { results := [], args := [] }

/-- 'zoetropelaw06.ScoreRatios': WHATEVER THE INPUT: true; the input reads as it did. -/
def scoreRatiosSpec : ChangeSpec := { name := "scoreRatios", fn := fun _ => fun
  | [d1, d2] => { results := [.lit (.bool true)], args := [d1, d2] }
  | _ => none }
def scoreRatiosRow : OpenClaim := { program := "ytdiphgkgehpgiaa", sum := "de3cdbc7c39205a45b46e1a3ebb18296fec8fe2d079335f2e212debadbe5aeac", func := "zoetrope/zoetropelaw06.ScoreRatios", spec := "scoreRatios", inPlace := ["math.Float64bits", "math.Float64frombits"], apart := false }
def ScoreRatiosSaid : Prop := scoreRatiosRow.holds Try.pinned (OpenSpec.ofChange scoreRatiosSpec)

/-- ITS FALSE NEIGHBOUR: 'it returns false'. Refute it at one input. -/
def scoreRatiosWrong : ChangeSpec := { name := "scoreRatios", fn := fun _ => fun
  | [d1, d2] => { results := [.lit (.bool false)], args := [d1, d2] }
  | _ => none }
def ScoreRatiosWrongFalsely : Prop := scoreRatiosRow.holds Try.pinned (OpenSpec.ofChange scoreRatiosWrong)

/-- 'zoetropelaw06.ScoreCosts': WHATEVER THE INPUT: true; the input reads as it did. -/
def scoreCostsSpec : ChangeSpec := { name := "scoreCosts", fn := fun _ => fun
  | [d1, d2, d3] => { results := [.lit (.bool true)], args := [d1, d2, d3] }
  | _ => none }
def scoreCostsRow : OpenClaim := { program := "ytdiphgkgehpgiaa", sum := "de3cdbc7c39205a45b46e1a3ebb18296fec8fe2d079335f2e212debadbe5aeac", func := "zoetrope/zoetropelaw06.ScoreCosts", spec := "scoreCosts", inPlace := ["math.Float64bits", "math.Float64frombits"], apart := false }
def ScoreCostsSaid : Prop := scoreCostsRow.holds Try.pinned (OpenSpec.ofChange scoreCostsSpec)

/-- ITS FALSE NEIGHBOUR: 'it returns false'. Refute it at one input. -/
def scoreCostsWrong : ChangeSpec := { name := "scoreCosts", fn := fun _ => fun
  | [d1, d2, d3] => { results := [.lit (.bool false)], args := [d1, d2, d3] }
  | _ => none }
def ScoreCostsWrongFalsely : Prop := scoreCostsRow.holds Try.pinned (OpenSpec.ofChange scoreCostsWrong)

/-- 'zoetropelaw06.ScoreLists': WHATEVER THE INPUT: true; the input reads as it did. -/
def scoreListsSpec : ChangeSpec := { name := "scoreLists", fn := fun _ => fun
  | [d] => { results := [.lit (.bool true)], args := [d] }
  | _ => none }
def scoreListsRow : OpenClaim := { program := "ytdiphgkgehpgiaa", sum := "de3cdbc7c39205a45b46e1a3ebb18296fec8fe2d079335f2e212debadbe5aeac", func := "zoetrope/zoetropelaw06.ScoreLists", spec := "scoreLists", inPlace := ["math.Float64bits", "math.Float64frombits"], apart := false }
def ScoreListsSaid : Prop := scoreListsRow.holds Try.pinned (OpenSpec.ofChange scoreListsSpec)

/-- ITS FALSE NEIGHBOUR: 'it returns false'. Refute it at one input. -/
def scoreListsWrong : ChangeSpec := { name := "scoreLists", fn := fun _ => fun
  | [d] => { results := [.lit (.bool false)], args := [d] }
  | _ => none }
def ScoreListsWrongFalsely : Prop := scoreListsRow.holds Try.pinned (OpenSpec.ofChange scoreListsWrong)

/-- 'zoetropelaw06.ScoreAlike': WHATEVER THE INPUT: true; the input reads as it did. -/
def scoreAlikeSpec : ChangeSpec := { name := "scoreAlike", fn := fun _ => fun
  | [d1, d2, d3] => { results := [.lit (.bool true)], args := [d1, d2, d3] }
  | _ => none }
def scoreAlikeRow : OpenClaim := { program := "ytdiphgkgehpgiaa", sum := "de3cdbc7c39205a45b46e1a3ebb18296fec8fe2d079335f2e212debadbe5aeac", func := "zoetrope/zoetropelaw06.ScoreAlike", spec := "scoreAlike", inPlace := ["math.Float64bits", "math.Float64frombits"], apart := false }
def ScoreAlikeSaid : Prop := scoreAlikeRow.holds Try.pinned (OpenSpec.ofChange scoreAlikeSpec)

/-- ITS FALSE NEIGHBOUR: 'it returns false'. Refute it at one input. -/
def scoreAlikeWrong : ChangeSpec := { name := "scoreAlike", fn := fun _ => fun
  | [d1, d2, d3] => { results := [.lit (.bool false)], args := [d1, d2, d3] }
  | _ => none }
def ScoreAlikeWrongFalsely : Prop := scoreAlikeRow.holds Try.pinned (OpenSpec.ofChange scoreAlikeWrong)

/-- 'zoetropelaw06.ScoreDearer': WHATEVER THE INPUT: true; the input reads as it did. -/
def scoreDearerSpec : ChangeSpec := { name := "scoreDearer", fn := fun _ => fun
  | [d1, d2, d3] => { results := [.lit (.bool true)], args := [d1, d2, d3] }
  | _ => none }
def scoreDearerRow : OpenClaim := { program := "ytdiphgkgehpgiaa", sum := "de3cdbc7c39205a45b46e1a3ebb18296fec8fe2d079335f2e212debadbe5aeac", func := "zoetrope/zoetropelaw06.ScoreDearer", spec := "scoreDearer", inPlace := ["math.Float64bits", "math.Float64frombits"], apart := false }
def ScoreDearerSaid : Prop := scoreDearerRow.holds Try.pinned (OpenSpec.ofChange scoreDearerSpec)

/-- ITS FALSE NEIGHBOUR: 'it returns false'. Refute it at one input. -/
def scoreDearerWrong : ChangeSpec := { name := "scoreDearer", fn := fun _ => fun
  | [d1, d2, d3] => { results := [.lit (.bool false)], args := [d1, d2, d3] }
  | _ => none }
def ScoreDearerWrongFalsely : Prop := scoreDearerRow.holds Try.pinned (OpenSpec.ofChange scoreDearerWrong)

/-- 'zoetropelaw06.ScoreBest': WHATEVER THE INPUT: true; the input reads as it did. -/
def scoreBestSpec : ChangeSpec := { name := "scoreBest", fn := fun _ => fun
  | [d] => { results := [.lit (.bool true)], args := [d] }
  | _ => none }
def scoreBestRow : OpenClaim := { program := "ytdiphgkgehpgiaa", sum := "de3cdbc7c39205a45b46e1a3ebb18296fec8fe2d079335f2e212debadbe5aeac", func := "zoetrope/zoetropelaw06.ScoreBest", spec := "scoreBest", inPlace := ["math.Float64bits", "math.Float64frombits"], apart := false }
def ScoreBestSaid : Prop := scoreBestRow.holds Try.pinned (OpenSpec.ofChange scoreBestSpec)

/-- ITS FALSE NEIGHBOUR: 'it returns false'. Refute it at one input. -/
def scoreBestWrong : ChangeSpec := { name := "scoreBest", fn := fun _ => fun
  | [d] => { results := [.lit (.bool false)], args := [d] }
  | _ => none }
def ScoreBestWrongFalsely : Prop := scoreBestRow.holds Try.pinned (OpenSpec.ofChange scoreBestWrong)

/- THE SECOND FORM. 'bulk': how many values and letters a reading holds, each counted each time it is reached (what is shared counts as often as it is met; a slice's spare places count too). A statement '..UptoSaid' is the law's where the arguments, and the package variables that the reading takes, are together of bulk at most 1048576: NARROWER than '..Said'. Prove '..Said' where nothing that the law and all that it calls make is longer than what came in: it says more and counts as full. Else prove '..UptoSaid'. A law counts once. -/
mutual
def uptoBulk {H : Type} : DataW H → Nat
  | .lit (.string bytes) => bytes.length + 1
  | .lit _ => 1
  | .nil => 1
  | .ptr d => uptoBulk d + 1
  | .slice elems spare => uptoBulkAll elems + uptoBulkAll spare + 1
  | .agg parts => uptoBulkAll parts + 1
  | .iface _ d => uptoBulk d + 1
  | .map entries => uptoBulkEntries entries + 1
  | .held _ => 1
def uptoBulkAll {H : Type} : List (DataW H) → Nat
  | [] => 0
  | d :: r => uptoBulk d + uptoBulkAll r
def uptoBulkEntries {H : Type} : List (Lit × DataW H) → Nat
  | [] => 0
  | x :: r => uptoBulkEntry x + uptoBulkEntries r
def uptoBulkEntry {H : Type} : Lit × DataW H → Nat
  | (.string bytes, d) => bytes.length + uptoBulk d + 1
  | (_, d) => uptoBulk d + 1
 end
def uptoSmall : (H : Type) → List (DataW H) → Bool := fun _ ds => decide (uptoBulkAll ds ≤ 1048576)
def OpenSpec.upto (s : _root_.Go.ChangeSpec) : _root_.Go.OpenSpec := { _root_.Go.OpenSpec.ofChange s with cond := some uptoSmall }

/-- 'zoetropelaw06.ScoreRatios', WHERE WHAT IT READS IS OF BULK AT MOST 1048576: true; the input reads as it did. -/
def scoreRatiosUptoRow : OpenClaim := { program := "ytdiphgkgehpgiaa", sum := "de3cdbc7c39205a45b46e1a3ebb18296fec8fe2d079335f2e212debadbe5aeac", func := "zoetrope/zoetropelaw06.ScoreRatios", spec := "scoreRatios", inPlace := ["math.Float64bits", "math.Float64frombits"], apart := false, narrowed := true }
def ScoreRatiosUptoSaid : Prop := scoreRatiosUptoRow.holds Try.pinned (OpenSpec.upto scoreRatiosSpec)

/-- 'zoetropelaw06.ScoreCosts', WHERE WHAT IT READS IS OF BULK AT MOST 1048576: true; the input reads as it did. -/
def scoreCostsUptoRow : OpenClaim := { program := "ytdiphgkgehpgiaa", sum := "de3cdbc7c39205a45b46e1a3ebb18296fec8fe2d079335f2e212debadbe5aeac", func := "zoetrope/zoetropelaw06.ScoreCosts", spec := "scoreCosts", inPlace := ["math.Float64bits", "math.Float64frombits"], apart := false, narrowed := true }
def ScoreCostsUptoSaid : Prop := scoreCostsUptoRow.holds Try.pinned (OpenSpec.upto scoreCostsSpec)

/-- 'zoetropelaw06.ScoreLists', WHERE WHAT IT READS IS OF BULK AT MOST 1048576: true; the input reads as it did. -/
def scoreListsUptoRow : OpenClaim := { program := "ytdiphgkgehpgiaa", sum := "de3cdbc7c39205a45b46e1a3ebb18296fec8fe2d079335f2e212debadbe5aeac", func := "zoetrope/zoetropelaw06.ScoreLists", spec := "scoreLists", inPlace := ["math.Float64bits", "math.Float64frombits"], apart := false, narrowed := true }
def ScoreListsUptoSaid : Prop := scoreListsUptoRow.holds Try.pinned (OpenSpec.upto scoreListsSpec)

/-- 'zoetropelaw06.ScoreAlike', WHERE WHAT IT READS IS OF BULK AT MOST 1048576: true; the input reads as it did. -/
def scoreAlikeUptoRow : OpenClaim := { program := "ytdiphgkgehpgiaa", sum := "de3cdbc7c39205a45b46e1a3ebb18296fec8fe2d079335f2e212debadbe5aeac", func := "zoetrope/zoetropelaw06.ScoreAlike", spec := "scoreAlike", inPlace := ["math.Float64bits", "math.Float64frombits"], apart := false, narrowed := true }
def ScoreAlikeUptoSaid : Prop := scoreAlikeUptoRow.holds Try.pinned (OpenSpec.upto scoreAlikeSpec)

/-- 'zoetropelaw06.ScoreDearer', WHERE WHAT IT READS IS OF BULK AT MOST 1048576: true; the input reads as it did. -/
def scoreDearerUptoRow : OpenClaim := { program := "ytdiphgkgehpgiaa", sum := "de3cdbc7c39205a45b46e1a3ebb18296fec8fe2d079335f2e212debadbe5aeac", func := "zoetrope/zoetropelaw06.ScoreDearer", spec := "scoreDearer", inPlace := ["math.Float64bits", "math.Float64frombits"], apart := false, narrowed := true }
def ScoreDearerUptoSaid : Prop := scoreDearerUptoRow.holds Try.pinned (OpenSpec.upto scoreDearerSpec)

/-- 'zoetropelaw06.ScoreBest', WHERE WHAT IT READS IS OF BULK AT MOST 1048576: true; the input reads as it did. -/
def scoreBestUptoRow : OpenClaim := { program := "ytdiphgkgehpgiaa", sum := "de3cdbc7c39205a45b46e1a3ebb18296fec8fe2d079335f2e212debadbe5aeac", func := "zoetrope/zoetropelaw06.ScoreBest", spec := "scoreBest", inPlace := ["math.Float64bits", "math.Float64frombits"], apart := false, narrowed := true }
def ScoreBestUptoSaid : Prop := scoreBestUptoRow.holds Try.pinned (OpenSpec.upto scoreBestSpec)

end Rows
end Go.Proofs.Ytdiphgkgehpgiaa
