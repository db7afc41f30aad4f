/- The copy of a list of ints. -/
import Derived.Test.YtijbjahedfmfgabDoorKz
import Derived.Laws.AppendOwnNone
namespace Go.Proofs.YtijbjahedfmfgabDoor
open Go.RowKit

end Go.Proofs.YtijbjahedfmfgabDoor
