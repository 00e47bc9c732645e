/- CardLess: with the frame. -/
import Derived.Test.YtcfkcfbgnciccaaDoorCQ
import Derived.Test.YtcfkcfbgnciccaaDoorCT
