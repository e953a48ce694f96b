import Derived.Test.YtacnclofbnafiabGreatDoorB2
namespace Go.Proofs.YtacnclofbnafiabGreatDoor
open Go.RowKit Fl

end Go.Proofs.YtacnclofbnafiabGreatDoor
