/- The registry: contracts of the specification's functions over sets, continued. -/
import Derived.Test.YtbamjhldebobhaaDoorSetsB
namespace Go.Proofs.YtbamjhldebobhaaDoor
open Go.RowKit

end Go.Proofs.YtbamjhldebobhaaDoor
