/- The registry: contracts of the specification's functions over sets, continued. -/
import Derived.Test.YtanceljhdccepaaDoorSetsB
namespace Go.Proofs.YtanceljhdccepaaDoor
open Go.RowKit

end Go.Proofs.YtanceljhdccepaaDoor
