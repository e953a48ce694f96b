import Derived.Test.YtacnclofbnafiaaK5
namespace Go.Proofs.Ytacnclofbnafiaa
open Go.RowKit Fl

end Go.Proofs.Ytacnclofbnafiaa
