import Derived.Test.YtacnclofbnafiaaB1
import Derived.Test.YtacnclofbnafiaaK8
namespace Go.Proofs.Ytacnclofbnafiaa
open Go.RowKit Fl

end Go.Proofs.Ytacnclofbnafiaa
