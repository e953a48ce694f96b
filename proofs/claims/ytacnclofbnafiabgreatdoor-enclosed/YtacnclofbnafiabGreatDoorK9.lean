import Derived.Test.YtacnclofbnafiabGreatDoorK5
import Derived.Deep.DeepCutAuto
namespace Go.Proofs.YtacnclofbnafiabGreatDoor
open Go.RowKit Fl

end Go.Proofs.YtacnclofbnafiabGreatDoor
