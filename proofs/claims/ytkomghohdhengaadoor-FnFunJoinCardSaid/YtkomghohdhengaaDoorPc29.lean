/- The walks of rowsOf and built at chain. -/
import Derived.Test.YtkomghohdhengaaDoorPc22
import Derived.Test.YtkomghohdhengaaDoorPc19
namespace Go.Proofs.YtkomghohdhengaaDoor
open Go.RowKit Go.Deep Go.Shelf

end Go.Proofs.YtkomghohdhengaaDoor


