/- The words of a house: what a door, the register and a change say, as the program reads them. -/
import Derived.Test.YtpfgldbmihbiiaaDoor
import Derived.Deep.RegionHeld
import Derived.Below
namespace Go.Proofs.Ytpfgldbmihbiiaa.Words
open Go.ChangeShapes Go.WideShapes Go.ChangeAt Go.RowKit

end Go.Proofs.Ytpfgldbmihbiiaa.Words
