/- Texts put together: Shelf. -/
import Derived.Shelf.Lay
import Derived.Shelf.LaySoft
import Derived.Test.YtlolnjgcffjfkaaProg
namespace Go.Proofs.Ytlolnjgcffjfkaa
open Go.Shelf
end Go.Proofs.Ytlolnjgcffjfkaa
