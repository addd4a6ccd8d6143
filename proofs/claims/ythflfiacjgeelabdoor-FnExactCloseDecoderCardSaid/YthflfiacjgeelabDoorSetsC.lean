/- The registry: contracts of the specification's functions over sets, continued. -/
import Derived.Test.YthflfiacjgeelabDoorSetsB
namespace Go.Proofs.YthflfiacjgeelabDoor
open Go.RowKit

end Go.Proofs.YthflfiacjgeelabDoor
