/- Slices of texts that are read; what P2.2 says of a batch. -/
import Derived.Test.YtjlhglaebkhhdaaIns
import Derived.Test.YtjlhglaebkhhdaaSx
import Derived.Test.YtjlhglaebkhhdaaStrsAt
import Derived.Test.YtjlhglaebkhhdaaStrsF
