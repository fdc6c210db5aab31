/- Texts put together: Shelf. -/
import Derived.Shelf.Lay
import Derived.Shelf.LaySoft
import Derived.Test.YtflamedbeagjlaaProg
namespace Go.Proofs.Ytflamedbeagjlaa
open Go.Shelf
end Go.Proofs.Ytflamedbeagjlaa
