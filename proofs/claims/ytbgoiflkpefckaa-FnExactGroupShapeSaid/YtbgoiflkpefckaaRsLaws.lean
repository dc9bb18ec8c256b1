/- The cores of the laws with ints in and an int and a bool out (written by wip/gen/lawint.py). -/
import Derived.Test.YtbgoiflkpefckaaMem
namespace Go.Proofs.Ytbgoiflkpefckaa
open Go.RowKit Go.Joins

theorem givesIntOk_of {P : Program} {f : Nat} {args : Array Value} {w : World} {r : Int} {ok : Bool} (h : Calls P f args w fun e w' => e = .returned (.tuple #[.int .i64 r, .bool ok]) ∧ w = w') : Calls P f args w (GivesIntOk w r ok) :=
  h.mono fun _ _ ⟨h1, h2⟩ => ⟨h1, h2 ▸ Below.refl _ _⟩
theorem givesBool_of {P : Program} {f : Nat} {args : Array Value} {w : World} {ok : Bool} (h : Calls P f args w fun e w' => e = .returned (.bool ok) ∧ w = w') : Calls P f args w (GivesBool w ok) :=
  h.mono fun _ _ ⟨h1, h2⟩ => ⟨h1, h2 ▸ Below.refl _ _⟩
end Go.Proofs.Ytbgoiflkpefckaa
