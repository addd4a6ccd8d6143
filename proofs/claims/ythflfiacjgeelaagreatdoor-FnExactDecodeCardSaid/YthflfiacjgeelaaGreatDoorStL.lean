/- The laws' own way to a state, and two states held against each other. -/
import Derived.Test.YthflfiacjgeelaaGreatDoorStA
import Derived.Test.YthflfiacjgeelaaGreatDoorTokG
namespace Go.Proofs.YthflfiacjgeelaaGreatDoor
open Go.RowKit

end Go.Proofs.YthflfiacjgeelaaGreatDoor
