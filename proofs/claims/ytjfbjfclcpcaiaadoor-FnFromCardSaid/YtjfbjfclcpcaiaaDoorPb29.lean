/- The walks of rowsOf and built at chain. -/
import Derived.Test.YtjfbjfclcpcaiaaDoorPb23
import Derived.Test.YtjfbjfclcpcaiaaDoorPb20
namespace Go.Proofs.YtjfbjfclcpcaiaaDoor
open Go.RowKit Go.Deep Go.Shelf

end Go.Proofs.YtjfbjfclcpcaiaaDoor


