import Derived.Test.YtacnclofbnafiabGreatDoorK9
namespace Go.Proofs.YtacnclofbnafiabGreatDoor
open Go.RowKit Fl

end Go.Proofs.YtacnclofbnafiabGreatDoor
