/- Slices of texts that are read; what P2.2 says of a batch. -/
import Derived.Test.YtcmlmmlcebemgaaIns
import Derived.Test.YtcmlmmlcebemgaaSx
import Derived.Test.YtcmlmmlcebemgaaStrsAt
import Derived.Test.YtcmlmmlcebemgaaStrsF
