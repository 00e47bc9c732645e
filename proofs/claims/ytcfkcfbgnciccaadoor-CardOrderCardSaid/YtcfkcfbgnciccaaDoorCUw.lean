/- CardOrder: with the frame. -/
import Derived.Test.YtcfkcfbgnciccaaDoorCU
import Derived.Test.YtcfkcfbgnciccaaDoorCT
