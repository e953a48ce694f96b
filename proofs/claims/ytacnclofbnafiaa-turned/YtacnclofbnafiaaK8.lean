import Derived.Test.YtacnclofbnafiaaK6
import Derived.Deep.DeepCutAuto
namespace Go.Proofs.Ytacnclofbnafiaa
open Go.RowKit Fl

end Go.Proofs.Ytacnclofbnafiaa
