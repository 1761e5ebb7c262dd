/- The program's least element and join of an order (grid.least, grid.join). -/
import Derived.Test.YtcjcfnldehimpaaBottom
namespace Go.Proofs.Ytcjcfnldehimpaa
open Go.RowKit Go.Deep Go.Shelf

end Go.Proofs.Ytcjcfnldehimpaa
