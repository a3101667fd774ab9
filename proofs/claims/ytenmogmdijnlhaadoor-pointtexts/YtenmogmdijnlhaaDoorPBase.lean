/- What the walks of a seat without limbs begin with. Nothing of the program. -/
import Derived.Test.YtenmogmdijnlhaaDoorMem
import Derived.Test.YtenmogmdijnlhaaDoorChecked
import Derived.BigQuiet
import Derived.WalkSmall
import Derived.Deep.QuietTactic
import Derived.Deep.RegionWith
import Derived.Deep.Cut
import Derived.RegionTactic
namespace Go.Proofs.YtenmogmdijnlhaaDoor
open Go.RowKit
theorem hide {p : Prop} (h : p) : Hid p := h
end Go.Proofs.YtenmogmdijnlhaaDoor
