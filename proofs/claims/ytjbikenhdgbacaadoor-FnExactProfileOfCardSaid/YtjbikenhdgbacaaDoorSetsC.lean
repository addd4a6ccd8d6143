/- The registry: contracts of the specification's functions over sets, continued. -/
import Derived.Test.YtjbikenhdgbacaaDoorSetsB
namespace Go.Proofs.YtjbikenhdgbacaaDoor
open Go.RowKit

end Go.Proofs.YtjbikenhdgbacaaDoor
