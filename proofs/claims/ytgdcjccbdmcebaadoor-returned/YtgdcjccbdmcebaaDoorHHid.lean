/- A fact kept from the walk. -/
import Derived.Below
namespace Go.Proofs.YtgdcjccbdmcebaaDoor
open Go.RowKit

theorem Hid.mk {p : Prop} (h : p) : Hid p := h
end Go.Proofs.YtgdcjccbdmcebaaDoor
