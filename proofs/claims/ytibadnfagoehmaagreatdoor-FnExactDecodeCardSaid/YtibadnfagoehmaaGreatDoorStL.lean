/- The laws' own way to a state, and two states held against each other. -/
import Derived.Test.YtibadnfagoehmaaGreatDoorStA
import Derived.Test.YtibadnfagoehmaaGreatDoorTokG
namespace Go.Proofs.YtibadnfagoehmaaGreatDoor
open Go.RowKit

end Go.Proofs.YtibadnfagoehmaaGreatDoor
