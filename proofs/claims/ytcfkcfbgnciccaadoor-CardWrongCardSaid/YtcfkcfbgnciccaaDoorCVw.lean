/- CardWrong: with the frame. -/
import Derived.Test.YtcfkcfbgnciccaaDoorCV
import Derived.Test.YtcfkcfbgnciccaaDoorCT
