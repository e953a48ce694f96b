import Derived.Test.YtacnclofbnafiabK6
namespace Go.Proofs.Ytacnclofbnafiab
open Go.RowKit Fl

end Go.Proofs.Ytacnclofbnafiab
