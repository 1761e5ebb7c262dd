/- The program's isElement; a new variable that holds a grid. -/
import Derived.Test.YtcjcfnldehimpaaGridOf
namespace Go.Proofs.Ytcjcfnldehimpaa
open Go.RowKit Go.Deep

end Go.Proofs.Ytcjcfnldehimpaa
