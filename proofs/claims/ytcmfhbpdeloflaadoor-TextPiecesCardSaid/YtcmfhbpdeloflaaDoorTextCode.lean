/- What text's calls answer, all together. -/
import Derived.Test.YtcmfhbpdeloflaaDoorTextRefRead
import Derived.Test.YtcmfhbpdeloflaaDoorTextNumCode
import Derived.Test.YtcmfhbpdeloflaaDoorTextByteCode
import Derived.Test.YtcmfhbpdeloflaaDoorTextPieceCode
import Derived.Test.YtcmfhbpdeloflaaDoorTextJoinCode
