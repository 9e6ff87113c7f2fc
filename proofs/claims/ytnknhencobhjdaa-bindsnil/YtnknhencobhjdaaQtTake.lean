/- quota.Book's Has, Close, Take, Give: their contracts; no statement is proved in this text. -/
import Derived.Test.YtnknhencobhjdaaQtBook
namespace Go.Proofs.Ytnknhencobhjdaa.Qt
open Go.ChangeShapes Go.WideShapes Go.ChangeAt Go.RowKit Go.Deep

end Go.Proofs.Ytnknhencobhjdaa.Qt
