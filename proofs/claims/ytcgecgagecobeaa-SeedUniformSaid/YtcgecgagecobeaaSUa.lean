/- Chunks 0 to 24. -/
import Derived.Test.YtcgecgagecobeaaSU1
namespace Go.Proofs.Ytcgecgagecobeaa
set_option maxRecDepth 100000
theorem low_0 : chunks 1024 120 1507342310 1297505139 7 1 = true := by decide +kernel
theorem low_1 : chunks 1024 120 1507342310 1297505139 7 459571432 = true := by decide +kernel
theorem low_2 : chunks 1024 120 1507342310 1297505139 7 1812301707 = true := by decide +kernel
theorem low_3 : chunks 1024 120 1507342310 1297505139 7 1530024362 = true := by decide +kernel
theorem low_4 : chunks 1024 120 1507342310 1297505139 7 911948401 = true := by decide +kernel
theorem low_5 : chunks 1024 120 1507342310 1297505139 7 715875007 = true := by decide +kernel
theorem low_6 : chunks 1024 120 1507342310 1297505139 7 493790410 = true := by decide +kernel
theorem low_7 : chunks 1024 120 1507342310 1297505139 7 836684263 = true := by decide +kernel
theorem low_8 : chunks 1024 120 1507342310 1297505139 7 1556258869 = true := by decide +kernel
theorem low_9 : chunks 1024 120 1507342310 1297505139 7 537498443 = true := by decide +kernel
theorem low_10 : chunks 1024 120 1507342310 1297505139 7 1266297032 = true := by decide +kernel
theorem low_11 : chunks 1024 120 1507342310 1297505139 7 291503437 = true := by decide +kernel
theorem low_12 : chunks 1024 120 1507342310 1297505139 7 1383068083 = true := by decide +kernel
theorem low_13 : chunks 1024 120 1507342310 1297505139 7 182247854 = true := by decide +kernel
theorem low_14 : chunks 1024 120 1507342310 1297505139 7 1296999627 = true := by decide +kernel
theorem low_15 : chunks 1024 120 1507342310 1297505139 7 981606918 = true := by decide +kernel
theorem low_16 : chunks 1024 120 1507342310 1297505139 7 265238836 = true := by decide +kernel
theorem low_17 : chunks 1024 120 1507342310 1297505139 7 1209530113 = true := by decide +kernel
theorem low_18 : chunks 1024 120 1507342310 1297505139 7 2013921877 = true := by decide +kernel
theorem low_19 : chunks 1024 120 1507342310 1297505139 7 1143011899 = true := by decide +kernel
theorem low_20 : chunks 1024 120 1507342310 1297505139 7 1101052064 = true := by decide +kernel
theorem low_21 : chunks 1024 120 1507342310 1297505139 7 1652735897 = true := by decide +kernel
theorem low_22 : chunks 1024 120 1507342310 1297505139 7 908267629 = true := by decide +kernel
theorem low_23 : chunks 1024 120 1507342310 1297505139 7 220678697 = true := by decide +kernel
theorem low_24 : chunks 1024 120 1507342310 1297505139 7 1585730237 = true := by decide +kernel
end Go.Proofs.Ytcgecgagecobeaa
