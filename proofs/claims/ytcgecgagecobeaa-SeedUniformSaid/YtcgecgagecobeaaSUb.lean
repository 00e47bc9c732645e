/- Chunks 25 to 49. -/
import Derived.Test.YtcgecgagecobeaaSU1
namespace Go.Proofs.Ytcgecgagecobeaa
set_option maxRecDepth 100000
theorem low_25 : chunks 1024 120 1507342310 1297505139 7 643275596 = true := by decide +kernel
theorem low_26 : chunks 1024 120 1507342310 1297505139 7 1122980528 = true := by decide +kernel
theorem low_27 : chunks 1024 120 1507342310 1297505139 7 1028520274 = true := by decide +kernel
theorem low_28 : chunks 1024 120 1507342310 1297505139 7 578389903 = true := by decide +kernel
theorem low_29 : chunks 1024 120 1507342310 1297505139 7 304549338 = true := by decide +kernel
theorem low_30 : chunks 1024 120 1507342310 1297505139 7 1700531014 = true := by decide +kernel
theorem low_31 : chunks 1024 120 1507342310 1297505139 7 1075197901 = true := by decide +kernel
theorem low_32 : chunks 1024 120 1507342310 1297505139 7 684987251 = true := by decide +kernel
theorem low_33 : chunks 1024 120 1507342310 1297505139 7 1284762399 = true := by decide +kernel
theorem low_34 : chunks 1024 120 1507342310 1297505139 7 152823903 = true := by decide +kernel
theorem low_35 : chunks 1024 120 1507342310 1297505139 7 25763862 = true := by decide +kernel
theorem low_36 : chunks 1024 120 1507342310 1297505139 7 1329345889 = true := by decide +kernel
theorem low_37 : chunks 1024 120 1507342310 1297505139 7 253348352 = true := by decide +kernel
theorem low_38 : chunks 1024 120 1507342310 1297505139 7 2140822518 = true := by decide +kernel
theorem low_39 : chunks 1024 120 1507342310 1297505139 7 1262819183 = true := by decide +kernel
theorem low_40 : chunks 1024 120 1507342310 1297505139 7 785148241 = true := by decide +kernel
theorem low_41 : chunks 1024 120 1507342310 1297505139 7 1452265074 = true := by decide +kernel
theorem low_42 : chunks 1024 120 1507342310 1297505139 7 379216994 = true := by decide +kernel
theorem low_43 : chunks 1024 120 1507342310 1297505139 7 1060784478 = true := by decide +kernel
theorem low_44 : chunks 1024 120 1507342310 1297505139 7 297889248 = true := by decide +kernel
theorem low_45 : chunks 1024 120 1507342310 1297505139 7 1569214764 = true := by decide +kernel
theorem low_46 : chunks 1024 120 1507342310 1297505139 7 1498661296 = true := by decide +kernel
theorem low_47 : chunks 1024 120 1507342310 1297505139 7 547182016 = true := by decide +kernel
theorem low_48 : chunks 1024 120 1507342310 1297505139 7 2138079705 = true := by decide +kernel
theorem low_49 : chunks 1024 120 1507342310 1297505139 7 1978398792 = true := by decide +kernel
end Go.Proofs.Ytcgecgagecobeaa
