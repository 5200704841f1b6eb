/-
  Blocks of numbers (no program in sight).
-/
import Derived.Test.YthgiekeiljflaaaDoorNmAid
import Derived.Test.YthgiekeiljflaaaDoorPtPut
