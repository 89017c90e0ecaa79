/-
  NARROWER THAN 'FOR EVERY INPUT', by the rows' own cells (each row's printed sentence says how): TableTells: loops · TableIs: loops · TableGrows: loops · TypingFits: loops · TypingTells: loops · TypingBodies: loops · TypingJoins: loops · TypingNests: loops.
  DERIVED. THE GIVEN ROWS OF THIS SEAT. 8 by the template 'for every input the law returns true; each argument reads behind the call as it read before'; 0 by the template 'total and deterministic' (their statements: YtnjfbcoddbeggaaTotals.lean).
  GIVEN WITH THE SEED: the statements are not yours to turn. If you find one false, say at which input.
  Laid BY PROGRAM, IN A SANDBOX (cutbox-rows.mjs): the forced cells as the released guide's own fill.sh prints them over the translation 47fa6ca7766487d9… (all of the seat's roots in one cut). By AI agents, Wed Nov 11 2026. No macro, syntax, notation, axiom, sorry.
-/
import Derived.Test.YtnjfbcoddbeggaaChecked
import GoSem.Claim
import GoSem.ClaimJoined
import GoSem.ClaimMapViews
import Derived.JoinedTies
import Derived.KernelRfl
namespace Go.Proofs.Ytnjfbcoddbeggaa
/- THE CELL 'sum', in the pinned program and in every row, IS THE sha256 OF THE DUMP (.gsa) THAT YtnjfbcoddbeggaaProg.lean LOADS. Nothing in Lean hashes anything: it is a label: what it is worth is what the hold of that sum in a sandbox is worth. -/
noncomputable def Try.pinned : Pinned := { name := "ytnjfbcoddbeggaa", sum := "47fa6ca7766487d9725a616646d4283e4ca214eb2da08efb6aa8fe1862cd8b20", checked := Try.checked }
namespace Rows
def none {H : Type} : Left H := { results := [], args := [] }

/-- 'governorlaw6.TableTells': WHATEVER THE INPUT: true; the input reads as it did. -/
def tableTellsSpec : ChangeSpec := { name := "tableTells", fn := fun _ => fun
  | [d1, d2, d3, d4] => { results := [.lit (.bool true)], args := [d1, d2, d3, d4] }
  | _ => none }
def tableTellsRow : OpenClaim := { program := "ytnjfbcoddbeggaa", sum := "47fa6ca7766487d9725a616646d4283e4ca214eb2da08efb6aa8fe1862cd8b20", func := "governor/governorlaw6.TableTells", spec := "tableTells", unfollowed := true, recurses := true, loops := true, plainKeys := false, apart := false }
def TableTellsSaid : Prop := tableTellsRow.holds Try.pinned (OpenSpec.ofChange tableTellsSpec)

/-- ITS FALSE NEIGHBOUR: 'it returns false'. Refute it at one input. -/
def tableTellsWrong : ChangeSpec := { name := "tableTells", fn := fun _ => fun
  | [d1, d2, d3, d4] => { results := [.lit (.bool false)], args := [d1, d2, d3, d4] }
  | _ => none }
def TableTellsWrongFalsely : Prop := tableTellsRow.holds Try.pinned (OpenSpec.ofChange tableTellsWrong)

/-- 'governorlaw6.TableIs': WHATEVER THE INPUT: true; the input reads as it did. -/
def tableIsSpec : ChangeSpec := { name := "tableIs", fn := fun _ => fun
  | [d1, d2, d3, d4] => { results := [.lit (.bool true)], args := [d1, d2, d3, d4] }
  | _ => none }
def tableIsRow : OpenClaim := { program := "ytnjfbcoddbeggaa", sum := "47fa6ca7766487d9725a616646d4283e4ca214eb2da08efb6aa8fe1862cd8b20", func := "governor/governorlaw6.TableIs", spec := "tableIs", unfollowed := true, recurses := true, loops := true, plainKeys := false, apart := false }
def TableIsSaid : Prop := tableIsRow.holds Try.pinned (OpenSpec.ofChange tableIsSpec)

/-- ITS FALSE NEIGHBOUR: 'it returns false'. Refute it at one input. -/
def tableIsWrong : ChangeSpec := { name := "tableIs", fn := fun _ => fun
  | [d1, d2, d3, d4] => { results := [.lit (.bool false)], args := [d1, d2, d3, d4] }
  | _ => none }
def TableIsWrongFalsely : Prop := tableIsRow.holds Try.pinned (OpenSpec.ofChange tableIsWrong)

/-- 'governorlaw6.TableGrows': WHATEVER THE INPUT: true; the input reads as it did. -/
def tableGrowsSpec : ChangeSpec := { name := "tableGrows", fn := fun _ => fun
  | [d1, d2, d3, d4, d5] => { results := [.lit (.bool true)], args := [d1, d2, d3, d4, d5] }
  | _ => none }
def tableGrowsRow : OpenClaim := { program := "ytnjfbcoddbeggaa", sum := "47fa6ca7766487d9725a616646d4283e4ca214eb2da08efb6aa8fe1862cd8b20", func := "governor/governorlaw6.TableGrows", spec := "tableGrows", unfollowed := true, recurses := true, loops := true, plainKeys := false, apart := false }
def TableGrowsSaid : Prop := tableGrowsRow.holds Try.pinned (OpenSpec.ofChange tableGrowsSpec)

/-- ITS FALSE NEIGHBOUR: 'it returns false'. Refute it at one input. -/
def tableGrowsWrong : ChangeSpec := { name := "tableGrows", fn := fun _ => fun
  | [d1, d2, d3, d4, d5] => { results := [.lit (.bool false)], args := [d1, d2, d3, d4, d5] }
  | _ => none }
def TableGrowsWrongFalsely : Prop := tableGrowsRow.holds Try.pinned (OpenSpec.ofChange tableGrowsWrong)

/-- 'governorlaw7.TypingFits': WHATEVER THE INPUT: true; the input reads as it did. -/
def typingFitsSpec : ChangeSpec := { name := "typingFits", fn := fun _ => fun
  | [d1, d2, d3, d4, d5, d6] => { results := [.lit (.bool true)], args := [d1, d2, d3, d4, d5, d6] }
  | _ => none }
def typingFitsRow : OpenClaim := { program := "ytnjfbcoddbeggaa", sum := "47fa6ca7766487d9725a616646d4283e4ca214eb2da08efb6aa8fe1862cd8b20", func := "governor/governorlaw7.TypingFits", spec := "typingFits", unfollowed := true, recurses := true, loops := true, plainKeys := false, apart := false }
def TypingFitsSaid : Prop := typingFitsRow.holds Try.pinned (OpenSpec.ofChange typingFitsSpec)

/-- ITS FALSE NEIGHBOUR: 'it returns false'. Refute it at one input. -/
def typingFitsWrong : ChangeSpec := { name := "typingFits", fn := fun _ => fun
  | [d1, d2, d3, d4, d5, d6] => { results := [.lit (.bool false)], args := [d1, d2, d3, d4, d5, d6] }
  | _ => none }
def TypingFitsWrongFalsely : Prop := typingFitsRow.holds Try.pinned (OpenSpec.ofChange typingFitsWrong)

/-- 'governorlaw7.TypingTells': WHATEVER THE INPUT: true; the input reads as it did. -/
def typingTellsSpec : ChangeSpec := { name := "typingTells", fn := fun _ => fun
  | [d1, d2, d3, d4] => { results := [.lit (.bool true)], args := [d1, d2, d3, d4] }
  | _ => none }
def typingTellsRow : OpenClaim := { program := "ytnjfbcoddbeggaa", sum := "47fa6ca7766487d9725a616646d4283e4ca214eb2da08efb6aa8fe1862cd8b20", func := "governor/governorlaw7.TypingTells", spec := "typingTells", unfollowed := true, recurses := true, loops := true, plainKeys := false, apart := false }
def TypingTellsSaid : Prop := typingTellsRow.holds Try.pinned (OpenSpec.ofChange typingTellsSpec)

/-- ITS FALSE NEIGHBOUR: 'it returns false'. Refute it at one input. -/
def typingTellsWrong : ChangeSpec := { name := "typingTells", fn := fun _ => fun
  | [d1, d2, d3, d4] => { results := [.lit (.bool false)], args := [d1, d2, d3, d4] }
  | _ => none }
def TypingTellsWrongFalsely : Prop := typingTellsRow.holds Try.pinned (OpenSpec.ofChange typingTellsWrong)

/-- 'governorlaw7.TypingBodies': WHATEVER THE INPUT: true; the input reads as it did. -/
def typingBodiesSpec : ChangeSpec := { name := "typingBodies", fn := fun _ => fun
  | [d] => { results := [.lit (.bool true)], args := [d] }
  | _ => none }
def typingBodiesRow : OpenClaim := { program := "ytnjfbcoddbeggaa", sum := "47fa6ca7766487d9725a616646d4283e4ca214eb2da08efb6aa8fe1862cd8b20", func := "governor/governorlaw7.TypingBodies", spec := "typingBodies", unfollowed := true, recurses := true, loops := true, plainKeys := false, apart := false }
def TypingBodiesSaid : Prop := typingBodiesRow.holds Try.pinned (OpenSpec.ofChange typingBodiesSpec)

/-- ITS FALSE NEIGHBOUR: 'it returns false'. Refute it at one input. -/
def typingBodiesWrong : ChangeSpec := { name := "typingBodies", fn := fun _ => fun
  | [d] => { results := [.lit (.bool false)], args := [d] }
  | _ => none }
def TypingBodiesWrongFalsely : Prop := typingBodiesRow.holds Try.pinned (OpenSpec.ofChange typingBodiesWrong)

/-- 'governorlaw7.TypingJoins': WHATEVER THE INPUT: true; the input reads as it did. -/
def typingJoinsSpec : ChangeSpec := { name := "typingJoins", fn := fun _ => fun
  | [d1, d2, d3, d4] => { results := [.lit (.bool true)], args := [d1, d2, d3, d4] }
  | _ => none }
def typingJoinsRow : OpenClaim := { program := "ytnjfbcoddbeggaa", sum := "47fa6ca7766487d9725a616646d4283e4ca214eb2da08efb6aa8fe1862cd8b20", func := "governor/governorlaw7.TypingJoins", spec := "typingJoins", unfollowed := true, recurses := true, loops := true, plainKeys := false, apart := false }
def TypingJoinsSaid : Prop := typingJoinsRow.holds Try.pinned (OpenSpec.ofChange typingJoinsSpec)

/-- ITS FALSE NEIGHBOUR: 'it returns false'. Refute it at one input. -/
def typingJoinsWrong : ChangeSpec := { name := "typingJoins", fn := fun _ => fun
  | [d1, d2, d3, d4] => { results := [.lit (.bool false)], args := [d1, d2, d3, d4] }
  | _ => none }
def TypingJoinsWrongFalsely : Prop := typingJoinsRow.holds Try.pinned (OpenSpec.ofChange typingJoinsWrong)

/-- 'governorlaw7.TypingNests': WHATEVER THE INPUT: true; the input reads as it did. -/
def typingNestsSpec : ChangeSpec := { name := "typingNests", fn := fun _ => fun
  | [d1, d2, d3] => { results := [.lit (.bool true)], args := [d1, d2, d3] }
  | _ => none }
def typingNestsRow : OpenClaim := { program := "ytnjfbcoddbeggaa", sum := "47fa6ca7766487d9725a616646d4283e4ca214eb2da08efb6aa8fe1862cd8b20", func := "governor/governorlaw7.TypingNests", spec := "typingNests", unfollowed := true, recurses := true, loops := true, plainKeys := false, apart := false }
def TypingNestsSaid : Prop := typingNestsRow.holds Try.pinned (OpenSpec.ofChange typingNestsSpec)

/-- ITS FALSE NEIGHBOUR: 'it returns false'. Refute it at one input. -/
def typingNestsWrong : ChangeSpec := { name := "typingNests", fn := fun _ => fun
  | [d1, d2, d3] => { results := [.lit (.bool false)], args := [d1, d2, d3] }
  | _ => none }
def TypingNestsWrongFalsely : Prop := typingNestsRow.holds Try.pinned (OpenSpec.ofChange typingNestsWrong)

/- THE SECOND FORM. 'bulk': how many values and letters a reading holds, each counted each time it is reached (what is shared counts as often as it is met; a slice's spare places count too). A statement '..UptoSaid' is the law's where the arguments, and the package variables that the reading takes, are together of bulk at most 1048576: NARROWER than '..Said'. Prove '..Said' where nothing that the law and all that it calls make is longer than what came in: it says more and counts as full. Else prove '..UptoSaid'. A law counts once. -/
mutual
def uptoBulk {H : Type} : DataW H → Nat
  | .lit (.string bytes) => bytes.length + 1
  | .lit _ => 1
  | .nil => 1
  | .ptr d => uptoBulk d + 1
  | .slice elems spare => uptoBulkAll elems + uptoBulkAll spare + 1
  | .agg parts => uptoBulkAll parts + 1
  | .iface _ d => uptoBulk d + 1
  | .map entries => uptoBulkEntries entries + 1
  | .held _ => 1
def uptoBulkAll {H : Type} : List (DataW H) → Nat
  | [] => 0
  | d :: r => uptoBulk d + uptoBulkAll r
def uptoBulkEntries {H : Type} : List (Lit × DataW H) → Nat
  | [] => 0
  | x :: r => uptoBulkEntry x + uptoBulkEntries r
def uptoBulkEntry {H : Type} : Lit × DataW H → Nat
  | (.string bytes, d) => bytes.length + uptoBulk d + 1
  | (_, d) => uptoBulk d + 1
 end
def uptoSmall : (H : Type) → List (DataW H) → Bool := fun _ ds => decide (uptoBulkAll ds ≤ 1048576)
def OpenSpec.upto (s : _root_.Go.ChangeSpec) : _root_.Go.OpenSpec := { _root_.Go.OpenSpec.ofChange s with cond := some uptoSmall }

/-- 'governorlaw6.TableTells', WHERE WHAT IT READS IS OF BULK AT MOST 1048576: true; the input reads as it did. -/
def tableTellsUptoRow : OpenClaim := { program := "ytnjfbcoddbeggaa", sum := "47fa6ca7766487d9725a616646d4283e4ca214eb2da08efb6aa8fe1862cd8b20", func := "governor/governorlaw6.TableTells", spec := "tableTells", unfollowed := true, recurses := true, loops := true, plainKeys := false, apart := false, narrowed := true }
def TableTellsUptoSaid : Prop := tableTellsUptoRow.holds Try.pinned (OpenSpec.upto tableTellsSpec)

/-- 'governorlaw6.TableIs', WHERE WHAT IT READS IS OF BULK AT MOST 1048576: true; the input reads as it did. -/
def tableIsUptoRow : OpenClaim := { program := "ytnjfbcoddbeggaa", sum := "47fa6ca7766487d9725a616646d4283e4ca214eb2da08efb6aa8fe1862cd8b20", func := "governor/governorlaw6.TableIs", spec := "tableIs", unfollowed := true, recurses := true, loops := true, plainKeys := false, apart := false, narrowed := true }
def TableIsUptoSaid : Prop := tableIsUptoRow.holds Try.pinned (OpenSpec.upto tableIsSpec)

/-- 'governorlaw6.TableGrows', WHERE WHAT IT READS IS OF BULK AT MOST 1048576: true; the input reads as it did. -/
def tableGrowsUptoRow : OpenClaim := { program := "ytnjfbcoddbeggaa", sum := "47fa6ca7766487d9725a616646d4283e4ca214eb2da08efb6aa8fe1862cd8b20", func := "governor/governorlaw6.TableGrows", spec := "tableGrows", unfollowed := true, recurses := true, loops := true, plainKeys := false, apart := false, narrowed := true }
def TableGrowsUptoSaid : Prop := tableGrowsUptoRow.holds Try.pinned (OpenSpec.upto tableGrowsSpec)

/-- 'governorlaw7.TypingFits', WHERE WHAT IT READS IS OF BULK AT MOST 1048576: true; the input reads as it did. -/
def typingFitsUptoRow : OpenClaim := { program := "ytnjfbcoddbeggaa", sum := "47fa6ca7766487d9725a616646d4283e4ca214eb2da08efb6aa8fe1862cd8b20", func := "governor/governorlaw7.TypingFits", spec := "typingFits", unfollowed := true, recurses := true, loops := true, plainKeys := false, apart := false, narrowed := true }
def TypingFitsUptoSaid : Prop := typingFitsUptoRow.holds Try.pinned (OpenSpec.upto typingFitsSpec)

/-- 'governorlaw7.TypingTells', WHERE WHAT IT READS IS OF BULK AT MOST 1048576: true; the input reads as it did. -/
def typingTellsUptoRow : OpenClaim := { program := "ytnjfbcoddbeggaa", sum := "47fa6ca7766487d9725a616646d4283e4ca214eb2da08efb6aa8fe1862cd8b20", func := "governor/governorlaw7.TypingTells", spec := "typingTells", unfollowed := true, recurses := true, loops := true, plainKeys := false, apart := false, narrowed := true }
def TypingTellsUptoSaid : Prop := typingTellsUptoRow.holds Try.pinned (OpenSpec.upto typingTellsSpec)

/-- 'governorlaw7.TypingBodies', WHERE WHAT IT READS IS OF BULK AT MOST 1048576: true; the input reads as it did. -/
def typingBodiesUptoRow : OpenClaim := { program := "ytnjfbcoddbeggaa", sum := "47fa6ca7766487d9725a616646d4283e4ca214eb2da08efb6aa8fe1862cd8b20", func := "governor/governorlaw7.TypingBodies", spec := "typingBodies", unfollowed := true, recurses := true, loops := true, plainKeys := false, apart := false, narrowed := true }
def TypingBodiesUptoSaid : Prop := typingBodiesUptoRow.holds Try.pinned (OpenSpec.upto typingBodiesSpec)

/-- 'governorlaw7.TypingJoins', WHERE WHAT IT READS IS OF BULK AT MOST 1048576: true; the input reads as it did. -/
def typingJoinsUptoRow : OpenClaim := { program := "ytnjfbcoddbeggaa", sum := "47fa6ca7766487d9725a616646d4283e4ca214eb2da08efb6aa8fe1862cd8b20", func := "governor/governorlaw7.TypingJoins", spec := "typingJoins", unfollowed := true, recurses := true, loops := true, plainKeys := false, apart := false, narrowed := true }
def TypingJoinsUptoSaid : Prop := typingJoinsUptoRow.holds Try.pinned (OpenSpec.upto typingJoinsSpec)

/-- 'governorlaw7.TypingNests', WHERE WHAT IT READS IS OF BULK AT MOST 1048576: true; the input reads as it did. -/
def typingNestsUptoRow : OpenClaim := { program := "ytnjfbcoddbeggaa", sum := "47fa6ca7766487d9725a616646d4283e4ca214eb2da08efb6aa8fe1862cd8b20", func := "governor/governorlaw7.TypingNests", spec := "typingNests", unfollowed := true, recurses := true, loops := true, plainKeys := false, apart := false, narrowed := true }
def TypingNestsUptoSaid : Prop := typingNestsUptoRow.holds Try.pinned (OpenSpec.upto typingNestsSpec)

end Rows
end Go.Proofs.Ytnjfbcoddbeggaa
