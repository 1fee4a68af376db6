/- What impl's wheels answer: all of it. -/
import Derived.Test.YtcmgaaopkhjelacImplCancel
import Derived.Test.YtcmgaaopkhjelacImplAdvance
import Derived.Test.YtcmgaaopkhjelacImplArm
