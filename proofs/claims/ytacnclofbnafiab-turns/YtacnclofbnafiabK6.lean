import Derived.Test.YtacnclofbnafiabK5
namespace Go.Proofs.Ytacnclofbnafiab
open Go.RowKit Fl

end Go.Proofs.Ytacnclofbnafiab
