import Derived.Test.YtacnclofbnafiabC3
import Derived.Test.YtacnclofbnafiabK9
namespace Go.Proofs.Ytacnclofbnafiab
open Go.RowKit Fl

end Go.Proofs.Ytacnclofbnafiab
