/- The words of a house, further: doors, the register, changes, made and read by the program; doors and changes made by the specification. -/
import Derived.Test.YtpfgldbmihbiiaaCell
namespace Go.Proofs.Ytpfgldbmihbiiaa.Words
open Go.ChangeShapes Go.WideShapes Go.ChangeAt Go.RowKit

def doorV (st sl ep : Int) : Int := fit st 2 + fit sl 7 * 4 + fit ep 4095 * 32
def regV (st ep : Int) : Int := fit st 2 + fit ep 4095 * 4
def entryV (a v : Int) : Int := fit a 4095 * 1048576 + fit v 1048575

end Go.Proofs.Ytpfgldbmihbiiaa.Words
