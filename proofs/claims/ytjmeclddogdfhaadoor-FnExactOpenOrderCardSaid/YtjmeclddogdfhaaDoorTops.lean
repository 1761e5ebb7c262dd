/- The program's least element and join of an order (grid.least, grid.join). -/
import Derived.Test.YtjmeclddogdfhaaDoorBottom
namespace Go.Proofs.YtjmeclddogdfhaaDoor
open Go.RowKit Go.Deep Go.Shelf

end Go.Proofs.YtjmeclddogdfhaaDoor
