/-
  One block of cells, held by its number: as PtPut has it.
-/
import Derived.Test.YtlknemfnacnleaaDoorNmAid
import Derived.Test.YtlknemfnacnleaaDoorPtPut
