import Derived.Test.YtacnclofbnafiaaB2
import Derived.Test.YtacnclofbnafiaaC3
namespace Go.Proofs.Ytacnclofbnafiaa
open Go.RowKit Fl

end Go.Proofs.Ytacnclofbnafiaa
