/- The registry: contracts of the specification's functions over sets, continued. -/
import Derived.Test.YtplejoojleogcaaDoorSetsB
namespace Go.Proofs.YtplejoojleogcaaDoor
open Go.RowKit

end Go.Proofs.YtplejoojleogcaaDoor
