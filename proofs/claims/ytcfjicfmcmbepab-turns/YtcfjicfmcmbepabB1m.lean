import Derived.Test.YtcfjicfmcmbepabB1
import Derived.Test.YtcfjicfmcmbepabK8
namespace Go.Proofs.Ytcfjicfmcmbepab
open Go.RowKit Fl

end Go.Proofs.Ytcfjicfmcmbepab
