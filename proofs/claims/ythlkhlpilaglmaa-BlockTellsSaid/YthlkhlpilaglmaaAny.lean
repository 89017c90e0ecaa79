/-
  Package block: Step, of any kind: one contract for the program's, one for the document's.
-/
import Derived.Test.YthlkhlpilaglmaaRefA
import Derived.Test.YthlkhlpilaglmaaRefB
import Derived.Test.YthlkhlpilaglmaaRefC
namespace Go.Proofs.Ythlkhlpilaglmaa
open Go.ChangeShapes Go.WideShapes Go.ChangeAt Go.RowKit

structure St where
  q : Bool
  l : Bool
  o : Bool
  c : Int
def st (k : Int) (q l o : Bool) (c : Int) (i : Bool) (p d : Int) : St :=
  if k = 1 then ⟨(onT o c i (clamp 32767 p) (clamp 1000 d)).1, i, (onT o c i (clamp 32767 p) (clamp 1000 d)).2.1, (onT o c i (clamp 32767 p) (clamp 1000 d)).2.2⟩
  else if k = 2 then ⟨(offT q c i (clamp 32767 p) (clamp 1000 d)).1, i, o, (offT q c i (clamp 32767 p) (clamp 1000 d)).2⟩
  else if k = 3 then ⟨pulO o c (i && !l) (clamp 32767 p) (clamp 1000 d), i, pulO o c (i && !l) (clamp 32767 p) (clamp 1000 d), pulC o c (i && !l) (clamp 32767 p) (clamp 1000 d)⟩
  else if k = 4 then ⟨decide ((clamp 32767 p) ≤ upC l c i), i, o, upC l c i⟩
  else if k = 5 then ⟨dnC o c (i && !l) (clamp 32767 p) == 0, i, true, dnC o c (i && !l) (clamp 32767 p)⟩
  else if k = 6 then ⟨i && !l, i, o, c⟩
  else if k = 7 then ⟨!i && l, i, o, c⟩
  else ⟨q, l, o, c⟩

def stV (k : Int) (s : St) : Value := blk k s.q s.l s.o s.c

theorem step_any (k : Int) (q l o : Bool) (c : Int) (i : Bool) (p d : Int) (w : World) :
    Calls Try.prog 7 #[blk k q l o c, .bool i, .int .i64 p, .int .i64 d] w fun e w' => e = .returned (blk k (st k q l o c i p d).q (st k q l o c i p d).l (st k q l o c i p d).o (st k q l o c i p d).c) ∧ Below w.heap.size w w' := by
  by_cases h1 : k = 1
  · subst h1; exact (step1 q l o c i p d w).mono fun _ _ h => by simpa [st] using h
  by_cases h2 : k = 2
  · subst h2; exact (step2 q l o c i p d w).mono fun _ _ h => by simpa [st] using h
  by_cases h3 : k = 3
  · subst h3; exact (step3 q l o c i p d w).mono fun _ _ h => by simpa [st] using h
  by_cases h4 : k = 4
  · subst h4; exact (step4 q l o c i p d w).mono fun _ _ h => by simpa [st] using h
  by_cases h5 : k = 5
  · subst h5; exact (step5 q l o c i p d w).mono fun _ _ h => by simpa [st] using h
  by_cases h6 : k = 6
  · subst h6; exact (step6 q l o c i p d w).mono fun _ _ h => by simpa [st] using h
  by_cases h7 : k = 7
  · subst h7; exact (step7 q l o c i p d w).mono fun _ _ h => by simpa [st] using h
  exact (step0 k q l o c i p d (by omega) w).mono fun _ _ h => by simpa [st, h1, h2, h3, h4, h5, h6, h7] using h

theorem rstep_any (k : Int) (q l o : Bool) (c : Int) (i : Bool) (p d : Int) (w : World) :
    Calls Try.prog 8 #[blk k q l o c, .bool i, .int .i64 p, .int .i64 d] w fun e w' => e = .returned (blk k (st k q l o c i p d).q (st k q l o c i p d).l (st k q l o c i p d).o (st k q l o c i p d).c) ∧ Below w.heap.size w w' := by
  by_cases h1 : k = 1
  · subst h1; exact (rstep1 q l o c i p d w).mono fun _ _ h => by simpa [st] using h
  by_cases h2 : k = 2
  · subst h2; exact (rstep2 q l o c i p d w).mono fun _ _ h => by simpa [st] using h
  by_cases h3 : k = 3
  · subst h3; exact (rstep3 q l o c i p d w).mono fun _ _ h => by simpa [st] using h
  by_cases h4 : k = 4
  · subst h4; exact (rstep4 q l o c i p d w).mono fun _ _ h => by simpa [st] using h
  by_cases h5 : k = 5
  · subst h5; exact (rstep5 q l o c i p d w).mono fun _ _ h => by simpa [st] using h
  by_cases h6 : k = 6
  · subst h6; exact (rstep6 q l o c i p d w).mono fun _ _ h => by simpa [st] using h
  by_cases h7 : k = 7
  · subst h7; exact (rstep7 q l o c i p d w).mono fun _ _ h => by simpa [st] using h
  exact (rstep0 k q l o c i p d (by omega) w).mono fun _ _ h => by simpa [st, h1, h2, h3, h4, h5, h6, h7] using h
end Go.Proofs.Ythlkhlpilaglmaa
