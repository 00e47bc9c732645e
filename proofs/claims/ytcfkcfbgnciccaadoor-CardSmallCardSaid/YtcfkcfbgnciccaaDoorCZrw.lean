/- CardSmall: with the frame. -/
import Derived.Test.YtcfkcfbgnciccaaDoorCZr
import Derived.Test.YtcfkcfbgnciccaaDoorCT
