/- The copy of a list of ints. -/
import Derived.Test.YtjimjbilmlnipaaDoorKz
import Derived.Laws.AppendOwnNone
namespace Go.Proofs.YtjimjbilmlnipaaDoor
open Go.RowKit

end Go.Proofs.YtjimjbilmlnipaaDoor
