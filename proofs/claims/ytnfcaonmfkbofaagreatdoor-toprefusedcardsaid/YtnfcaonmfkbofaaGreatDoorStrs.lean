/- Slices of texts that are read; what P2.2 says of a batch. -/
import Derived.Test.YtnfcaonmfkbofaaGreatDoorIns
import Derived.Test.YtnfcaonmfkbofaaGreatDoorSx
import Derived.Test.YtnfcaonmfkbofaaGreatDoorStrsAt
import Derived.Test.YtnfcaonmfkbofaaGreatDoorStrsF
