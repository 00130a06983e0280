/- Slices of texts that are read; what P2.2 says of a batch. -/
import Derived.Test.YtikolpdedmhljaaIns
import Derived.Test.YtikolpdedmhljaaSx
import Derived.Test.YtikolpdedmhljaaStrsAt
import Derived.Test.YtikolpdedmhljaaStrsF
