/- CardSets: with the frame. -/
import Derived.Test.YtcfkcfbgnciccaaDoorCZn
import Derived.Test.YtcfkcfbgnciccaaDoorCT
