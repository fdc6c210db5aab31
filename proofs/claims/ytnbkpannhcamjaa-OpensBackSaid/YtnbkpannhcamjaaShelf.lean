/- The contracts of the library that this seat has, as theorems in plain words; where it has none, nothing. -/
import Derived.Shelf.Lay
import Derived.Shelf.LaySoft

import Derived.Test.YtnbkpannhcamjaaProg
namespace Go.Proofs.Ytnbkpannhcamjaa
open Go.Shelf
end Go.Proofs.Ytnbkpannhcamjaa
