/- The copy of a list of ints. -/
import Derived.Test.YtfhofleeeiknjaaDoorKz
import Derived.Laws.AppendOwnNone
namespace Go.Proofs.YtfhofleeeiknjaaDoor
open Go.RowKit

end Go.Proofs.YtfhofleeeiknjaaDoor
