import Derived.Test.YtacnclofbnafiaaK5
import Derived.Deep.DeepCutAuto
namespace Go.Proofs.Ytacnclofbnafiaa
open Go.RowKit Fl

end Go.Proofs.Ytacnclofbnafiaa
