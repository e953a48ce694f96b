import Derived.Test.YtacnclofbnafiaaSPP
import Derived.Test.YtacnclofbnafiaaK7b
namespace Go.Proofs.Ytacnclofbnafiaa
open Go.RowKit Fl

end Go.Proofs.Ytacnclofbnafiaa
