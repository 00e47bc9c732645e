/- CardTells: with the frame. -/
import Derived.Test.YtcfkcfbgnciccaaDoorCZb
import Derived.Test.YtcfkcfbgnciccaaDoorCT
