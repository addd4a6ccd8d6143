/- The registry: contracts of the specification's functions over sets, continued. -/
import Derived.Test.YthflfiacjgeelaaDoorSetsB
namespace Go.Proofs.YthflfiacjgeelaaDoor
open Go.RowKit

end Go.Proofs.YthflfiacjgeelaaDoor
