/- Slices of texts that are read; what P2.2 says of a batch. -/
import Derived.Test.YtbmodfegcmaieaaDoorIns
import Derived.Test.YtbmodfegcmaieaaDoorSx
import Derived.Test.YtbmodfegcmaieaaDoorStrsAt
import Derived.Test.YtbmodfegcmaieaaDoorStrsF
