
/-
  The slot that has a cycle, its phase, who may begin a step, whose slot begins: the specification's own functions. Conditions: the slots lie in memory; the tables are sound.
-/
import Derived.Test.YtmgopppgckgglaaGreatDoorBas
import Derived.Test.YtmgopppgckgglaaGreatDoorTia
namespace Go.Proofs.YtmgopppgckgglaaGreatDoor
open Go.ChangeShapes Go.WideShapes Go.ChangeAt Go.RowKit Go.Deep Go.Joins
set_option linter.unusedVariables false

end Go.Proofs.YtmgopppgckgglaaGreatDoor
