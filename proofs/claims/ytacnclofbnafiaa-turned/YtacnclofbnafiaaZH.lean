import Derived.Test.YtacnclofbnafiaaZ9
import Derived.Test.YtacnclofbnafiaaT1
import Derived.Laws.ComplexArith
namespace Go.Proofs.Ytacnclofbnafiaa
open Go.RowKit Fl

end Go.Proofs.Ytacnclofbnafiaa
