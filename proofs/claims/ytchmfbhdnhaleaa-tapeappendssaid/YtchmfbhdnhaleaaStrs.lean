/- Slices of texts that are read; what P2.2 says of a batch. -/
import Derived.Test.YtchmfbhdnhaleaaIns
import Derived.Test.YtchmfbhdnhaleaaSx
import Derived.Test.YtchmfbhdnhaleaaStrsAt
import Derived.Test.YtchmfbhdnhaleaaStrsF
