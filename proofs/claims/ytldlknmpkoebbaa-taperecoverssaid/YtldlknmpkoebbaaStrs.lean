/- Slices of texts that are read; what P2.2 says of a batch. -/
import Derived.Test.YtldlknmpkoebbaaIns
import Derived.Test.YtldlknmpkoebbaaSx
import Derived.Test.YtldlknmpkoebbaaStrsAt
import Derived.Test.YtldlknmpkoebbaaStrsF
