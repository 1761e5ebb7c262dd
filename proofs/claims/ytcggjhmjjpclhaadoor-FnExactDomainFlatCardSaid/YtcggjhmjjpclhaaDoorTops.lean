/- The program's least element and join of an order (grid.least, grid.join). -/
import Derived.Test.YtcggjhmjjpclhaaDoorBottom
namespace Go.Proofs.YtcggjhmjjpclhaaDoor
open Go.RowKit Go.Deep Go.Shelf

end Go.Proofs.YtcggjhmjjpclhaaDoor
