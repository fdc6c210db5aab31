/- All behind conf's laws. -/
import Derived.Test.YtingjembjpckcaaGreatDoorG31
import Derived.Test.YtingjembjpckcaaGreatDoorG33
import Derived.Test.YtingjembjpckcaaGreatDoorG35
namespace Go.Proofs.YtingjembjpckcaaGreatDoor
theorem nz_here : True := trivial
end Go.Proofs.YtingjembjpckcaaGreatDoor
