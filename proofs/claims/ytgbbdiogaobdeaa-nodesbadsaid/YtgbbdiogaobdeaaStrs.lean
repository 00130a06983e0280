/- Slices of texts that are read; what P2.2 says of a batch. -/
import Derived.Test.YtgbbdiogaobdeaaIns
import Derived.Test.YtgbbdiogaobdeaaSx
import Derived.Test.YtgbbdiogaobdeaaStrsAt
import Derived.Test.YtgbbdiogaobdeaaStrsF
