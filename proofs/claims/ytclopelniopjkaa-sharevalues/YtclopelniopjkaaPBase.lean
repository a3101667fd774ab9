/- What the walks of a seat without limbs begin with. Nothing of the program. -/
import Derived.Test.YtclopelniopjkaaMem
import Derived.Test.YtclopelniopjkaaChecked
import Derived.BigQuiet
import Derived.WalkSmall
import Derived.Deep.QuietTactic
import Derived.Deep.RegionWith
import Derived.Deep.Cut
import Derived.RegionTactic
namespace Go.Proofs.Ytclopelniopjkaa
open Go.RowKit
theorem hide {p : Prop} (h : p) : Hid p := h
end Go.Proofs.Ytclopelniopjkaa
