import Derived.Test.YtcfjicfmcmbepabK6
namespace Go.Proofs.Ytcfjicfmcmbepab
open Go.RowKit Fl

end Go.Proofs.Ytcfjicfmcmbepab
