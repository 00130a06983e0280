/- Slices of texts that are read; what P2.2 says of a batch. -/
import Derived.Test.YtdddimkankdmdaaIns
import Derived.Test.YtdddimkankdmdaaSx
import Derived.Test.YtdddimkankdmdaaStrsAt
import Derived.Test.YtdddimkankdmdaaStrsF
