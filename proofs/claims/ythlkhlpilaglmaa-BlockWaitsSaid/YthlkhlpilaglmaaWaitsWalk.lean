/-
  BlockWaits: the walk, whatever the kind.
-/
import Derived.Test.YthlkhlpilaglmaaWaits0
import Derived.Test.YthlkhlpilaglmaaWaits1
import Derived.Test.YthlkhlpilaglmaaWaits2
namespace Go.Proofs.Ythlkhlpilaglmaa
open Go.ChangeShapes Go.WideShapes Go.ChangeAt Go.RowKit

theorem waits_walk (k : Int) (q l o : Bool) (c : Int) (i : Bool) (p x y : Int) (w : World) :
    Calls Try.prog 6 #[blk k q l o c, .bool i, .int .i64 p, .int .i64 x, .int .i64 y] w fun e w' => e = .returned (.bool true) ∧ Below w.heap.size w w' := by
  have h := low_bd k 3 (by omega)
  have h3 : low k 3 = 0 ∨ low k 3 = 1 ∨ low k 3 = 2 := by omega
  rcases h3 with h3 | h3 | h3
  · exact waits_0 k q l o c i p x y w h3
  · exact waits_1 k q l o c i p x y w h3
  · exact waits_2 k q l o c i p x y w h3
end Go.Proofs.Ythlkhlpilaglmaa
