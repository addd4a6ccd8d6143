/- The laws' own way to a state, and two states held against each other. -/
import Derived.Test.YtplejoojleogcaaDoorStA
import Derived.Test.YtplejoojleogcaaDoorTokG
namespace Go.Proofs.YtplejoojleogcaaDoor
open Go.RowKit

end Go.Proofs.YtplejoojleogcaaDoor
