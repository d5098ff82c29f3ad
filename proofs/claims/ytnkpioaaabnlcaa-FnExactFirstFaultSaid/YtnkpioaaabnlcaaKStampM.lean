/- Contracts of stamps, made, in the program. -/
import Derived.Test.YtnkpioaaabnlcaaKStamp
namespace Go.Proofs.Ytnkpioaaabnlcaa.KStampM
open Go.ChangeShapes Go.WideShapes Go.ChangeAt Go.RowKit Go.Shelf Sl St Fnd Kn Kr Ki Km Ko SlStamp Ti KStamp
end Go.Proofs.Ytnkpioaaabnlcaa.KStampM
