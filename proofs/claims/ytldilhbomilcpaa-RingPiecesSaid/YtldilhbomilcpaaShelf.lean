/- The contracts of the library that this seat has, as theorems in plain words; where it has none, nothing. -/
import Derived.Shelf.Lay
import Derived.Shelf.LaySoft

import Derived.Test.YtldilhbomilcpaaProg
namespace Go.Proofs.Ytldilhbomilcpaa
open Go.Shelf
end Go.Proofs.Ytldilhbomilcpaa
