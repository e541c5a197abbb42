/- Books that are held against each other, marked, and looked at. Conditions: at most 1,000,000,000 numbers in all. -/
import Derived.Test.YtpfgldbmihbiiaaBk2
namespace Go.Proofs.Ytpfgldbmihbiiaa.Book
open Go.ChangeShapes Go.WideShapes Go.ChangeAt Go.RowKit
open Go.Proofs.Ytpfgldbmihbiiaa.Aid Go.Proofs.Ytpfgldbmihbiiaa.Lst

end Go.Proofs.Ytpfgldbmihbiiaa.Book
