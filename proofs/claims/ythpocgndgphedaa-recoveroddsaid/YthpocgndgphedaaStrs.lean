/- Slices of texts that are read; what P2.2 says of a batch. -/
import Derived.Test.YthpocgndgphedaaIns
import Derived.Test.YthpocgndgphedaaSx
import Derived.Test.YthpocgndgphedaaStrsAt
import Derived.Test.YthpocgndgphedaaStrsF
