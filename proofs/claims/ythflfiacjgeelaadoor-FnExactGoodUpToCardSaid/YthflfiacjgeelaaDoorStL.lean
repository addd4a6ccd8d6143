/- The laws' own way to a state, and two states held against each other. -/
import Derived.Test.YthflfiacjgeelaaDoorStA
import Derived.Test.YthflfiacjgeelaaDoorTokG
namespace Go.Proofs.YthflfiacjgeelaaDoor
open Go.RowKit

end Go.Proofs.YthflfiacjgeelaaDoor
