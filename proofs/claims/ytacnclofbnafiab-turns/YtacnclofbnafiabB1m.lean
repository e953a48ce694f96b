import Derived.Test.YtacnclofbnafiabB1
import Derived.Test.YtacnclofbnafiabK8
namespace Go.Proofs.Ytacnclofbnafiab
open Go.RowKit Fl

end Go.Proofs.Ytacnclofbnafiab
