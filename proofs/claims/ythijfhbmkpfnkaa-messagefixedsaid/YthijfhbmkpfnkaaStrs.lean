/- Slices of texts that are read; what P2.2 says of a batch. -/
import Derived.Test.YthijfhbmkpfnkaaIns
import Derived.Test.YthijfhbmkpfnkaaSx
import Derived.Test.YthijfhbmkpfnkaaStrsAt
import Derived.Test.YthijfhbmkpfnkaaStrsF
