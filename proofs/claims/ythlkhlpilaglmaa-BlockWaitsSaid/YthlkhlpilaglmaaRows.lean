/-
  No cell of these rows narrows 'for every input' (looked for: loops, veiled, ifaces, maps, wideKeys, modest, calm, conditions, laid).
  DERIVED. THE GIVEN ROWS OF THIS SEAT. 4 by the template 'for every input the law returns true; each argument reads behind the call as it read before'; 0 by the template 'total and deterministic' (their statements: YthlkhlpilaglmaaTotals.lean).
  GIVEN WITH THE SEED: the statements are not yours to turn. If you find one false, say at which input.
  Laid BY PROGRAM, IN A SANDBOX (cutbox-rows.mjs): the forced cells as the released guide's own fill.sh prints them over the translation fd6798122d3d5a37… (all of the seat's roots in one cut). By AI agents, Wed Nov 11 2026. No macro, syntax, notation, axiom, sorry.
-/
import Derived.Test.YthlkhlpilaglmaaChecked
import GoSem.Claim
import GoSem.ClaimJoined
import GoSem.ClaimMapViews
import Derived.JoinedTies
import Derived.KernelRfl
namespace Go.Proofs.Ythlkhlpilaglmaa
/- THE CELL 'sum', in the pinned program and in every row, IS THE sha256 OF THE DUMP (.gsa) THAT YthlkhlpilaglmaaProg.lean LOADS. Nothing in Lean hashes anything: it is a label: what it is worth is what the hold of that sum in a sandbox is worth. -/
noncomputable def Try.pinned : Pinned := { name := "ythlkhlpilaglmaa", sum := "fd6798122d3d5a371d827ee281d7352b352b1449a38537b6268f3e29941a8bd9", checked := Try.checked }
namespace Rows
def none {H : Type} : Left H := { results := [], args := [] }

/-- 'governorlaw10.BlockTells': WHATEVER THE INPUT: true; the input reads as it did. -/
def blockTellsSpec : ChangeSpec := { name := "blockTells", fn := fun _ => fun
  | [d1, d2, d3, d4] => { results := [.lit (.bool true)], args := [d1, d2, d3, d4] }
  | _ => none }
def blockTellsRow : OpenClaim := { program := "ythlkhlpilaglmaa", sum := "fd6798122d3d5a371d827ee281d7352b352b1449a38537b6268f3e29941a8bd9", func := "governor/governorlaw10.BlockTells", spec := "blockTells", apart := false }
def BlockTellsSaid : Prop := blockTellsRow.holds Try.pinned (OpenSpec.ofChange blockTellsSpec)

/-- ITS FALSE NEIGHBOUR: 'it returns false'. Refute it at one input. -/
def blockTellsWrong : ChangeSpec := { name := "blockTells", fn := fun _ => fun
  | [d1, d2, d3, d4] => { results := [.lit (.bool false)], args := [d1, d2, d3, d4] }
  | _ => none }
def BlockTellsWrongFalsely : Prop := blockTellsRow.holds Try.pinned (OpenSpec.ofChange blockTellsWrong)

/-- 'governorlaw10.BlockTimers': WHATEVER THE INPUT: true; the input reads as it did. -/
def blockTimersSpec : ChangeSpec := { name := "blockTimers", fn := fun _ => fun
  | [d1, d2] => { results := [.lit (.bool true)], args := [d1, d2] }
  | _ => none }
def blockTimersRow : OpenClaim := { program := "ythlkhlpilaglmaa", sum := "fd6798122d3d5a371d827ee281d7352b352b1449a38537b6268f3e29941a8bd9", func := "governor/governorlaw10.BlockTimers", spec := "blockTimers", apart := false }
def BlockTimersSaid : Prop := blockTimersRow.holds Try.pinned (OpenSpec.ofChange blockTimersSpec)

/-- ITS FALSE NEIGHBOUR: 'it returns false'. Refute it at one input. -/
def blockTimersWrong : ChangeSpec := { name := "blockTimers", fn := fun _ => fun
  | [d1, d2] => { results := [.lit (.bool false)], args := [d1, d2] }
  | _ => none }
def BlockTimersWrongFalsely : Prop := blockTimersRow.holds Try.pinned (OpenSpec.ofChange blockTimersWrong)

/-- 'governorlaw10.BlockEdges': WHATEVER THE INPUT: true; the input reads as it did. -/
def blockEdgesSpec : ChangeSpec := { name := "blockEdges", fn := fun _ => fun
  | [d1, d2] => { results := [.lit (.bool true)], args := [d1, d2] }
  | _ => none }
def blockEdgesRow : OpenClaim := { program := "ythlkhlpilaglmaa", sum := "fd6798122d3d5a371d827ee281d7352b352b1449a38537b6268f3e29941a8bd9", func := "governor/governorlaw10.BlockEdges", spec := "blockEdges", apart := false }
def BlockEdgesSaid : Prop := blockEdgesRow.holds Try.pinned (OpenSpec.ofChange blockEdgesSpec)

/-- ITS FALSE NEIGHBOUR: 'it returns false'. Refute it at one input. -/
def blockEdgesWrong : ChangeSpec := { name := "blockEdges", fn := fun _ => fun
  | [d1, d2] => { results := [.lit (.bool false)], args := [d1, d2] }
  | _ => none }
def BlockEdgesWrongFalsely : Prop := blockEdgesRow.holds Try.pinned (OpenSpec.ofChange blockEdgesWrong)

/-- 'governorlaw10.BlockWaits': WHATEVER THE INPUT: true; the input reads as it did. -/
def blockWaitsSpec : ChangeSpec := { name := "blockWaits", fn := fun _ => fun
  | [d1, d2, d3, d4, d5] => { results := [.lit (.bool true)], args := [d1, d2, d3, d4, d5] }
  | _ => none }
def blockWaitsRow : OpenClaim := { program := "ythlkhlpilaglmaa", sum := "fd6798122d3d5a371d827ee281d7352b352b1449a38537b6268f3e29941a8bd9", func := "governor/governorlaw10.BlockWaits", spec := "blockWaits", apart := false }
def BlockWaitsSaid : Prop := blockWaitsRow.holds Try.pinned (OpenSpec.ofChange blockWaitsSpec)

/-- ITS FALSE NEIGHBOUR: 'it returns false'. Refute it at one input. -/
def blockWaitsWrong : ChangeSpec := { name := "blockWaits", fn := fun _ => fun
  | [d1, d2, d3, d4, d5] => { results := [.lit (.bool false)], args := [d1, d2, d3, d4, d5] }
  | _ => none }
def BlockWaitsWrongFalsely : Prop := blockWaitsRow.holds Try.pinned (OpenSpec.ofChange blockWaitsWrong)

/- THE SECOND FORM. 'bulk': how many values and letters a reading holds, each counted each time it is reached (what is shared counts as often as it is met; a slice's spare places count too). A statement '..UptoSaid' is the law's where the arguments, and the package variables that the reading takes, are together of bulk at most 1048576: NARROWER than '..Said'. Prove '..Said' where nothing that the law and all that it calls make is longer than what came in: it says more and counts as full. Else prove '..UptoSaid'. A law counts once. -/
mutual
def uptoBulk {H : Type} : DataW H → Nat
  | .lit (.string bytes) => bytes.length + 1
  | .lit _ => 1
  | .nil => 1
  | .ptr d => uptoBulk d + 1
  | .slice elems spare => uptoBulkAll elems + uptoBulkAll spare + 1
  | .agg parts => uptoBulkAll parts + 1
  | .iface _ d => uptoBulk d + 1
  | .map entries => uptoBulkEntries entries + 1
  | .held _ => 1
def uptoBulkAll {H : Type} : List (DataW H) → Nat
  | [] => 0
  | d :: r => uptoBulk d + uptoBulkAll r
def uptoBulkEntries {H : Type} : List (Lit × DataW H) → Nat
  | [] => 0
  | x :: r => uptoBulkEntry x + uptoBulkEntries r
def uptoBulkEntry {H : Type} : Lit × DataW H → Nat
  | (.string bytes, d) => bytes.length + uptoBulk d + 1
  | (_, d) => uptoBulk d + 1
 end
def uptoSmall : (H : Type) → List (DataW H) → Bool := fun _ ds => decide (uptoBulkAll ds ≤ 1048576)
def OpenSpec.upto (s : _root_.Go.ChangeSpec) : _root_.Go.OpenSpec := { _root_.Go.OpenSpec.ofChange s with cond := some uptoSmall }

/-- 'governorlaw10.BlockTells', WHERE WHAT IT READS IS OF BULK AT MOST 1048576: true; the input reads as it did. -/
def blockTellsUptoRow : OpenClaim := { program := "ythlkhlpilaglmaa", sum := "fd6798122d3d5a371d827ee281d7352b352b1449a38537b6268f3e29941a8bd9", func := "governor/governorlaw10.BlockTells", spec := "blockTells", apart := false, narrowed := true }
def BlockTellsUptoSaid : Prop := blockTellsUptoRow.holds Try.pinned (OpenSpec.upto blockTellsSpec)

/-- 'governorlaw10.BlockTimers', WHERE WHAT IT READS IS OF BULK AT MOST 1048576: true; the input reads as it did. -/
def blockTimersUptoRow : OpenClaim := { program := "ythlkhlpilaglmaa", sum := "fd6798122d3d5a371d827ee281d7352b352b1449a38537b6268f3e29941a8bd9", func := "governor/governorlaw10.BlockTimers", spec := "blockTimers", apart := false, narrowed := true }
def BlockTimersUptoSaid : Prop := blockTimersUptoRow.holds Try.pinned (OpenSpec.upto blockTimersSpec)

/-- 'governorlaw10.BlockEdges', WHERE WHAT IT READS IS OF BULK AT MOST 1048576: true; the input reads as it did. -/
def blockEdgesUptoRow : OpenClaim := { program := "ythlkhlpilaglmaa", sum := "fd6798122d3d5a371d827ee281d7352b352b1449a38537b6268f3e29941a8bd9", func := "governor/governorlaw10.BlockEdges", spec := "blockEdges", apart := false, narrowed := true }
def BlockEdgesUptoSaid : Prop := blockEdgesUptoRow.holds Try.pinned (OpenSpec.upto blockEdgesSpec)

/-- 'governorlaw10.BlockWaits', WHERE WHAT IT READS IS OF BULK AT MOST 1048576: true; the input reads as it did. -/
def blockWaitsUptoRow : OpenClaim := { program := "ythlkhlpilaglmaa", sum := "fd6798122d3d5a371d827ee281d7352b352b1449a38537b6268f3e29941a8bd9", func := "governor/governorlaw10.BlockWaits", spec := "blockWaits", apart := false, narrowed := true }
def BlockWaitsUptoSaid : Prop := blockWaitsUptoRow.holds Try.pinned (OpenSpec.upto blockWaitsSpec)

end Rows
end Go.Proofs.Ythlkhlpilaglmaa
