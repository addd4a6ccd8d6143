/- The registry: contracts of the specification's functions over sets, continued. -/
import Derived.Test.YtdngpgllanhgdaaSetsB
namespace Go.Proofs.Ytdngpgllanhgdaa
open Go.RowKit

end Go.Proofs.Ytdngpgllanhgdaa
