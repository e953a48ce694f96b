import Derived.Test.YtacnclofbnafiabK6
import Derived.Deep.DeepCutAuto
namespace Go.Proofs.Ytacnclofbnafiab
open Go.RowKit Fl

end Go.Proofs.Ytacnclofbnafiab
