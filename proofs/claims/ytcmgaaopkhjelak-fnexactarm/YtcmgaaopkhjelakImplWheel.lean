/- What impl's wheels answer: all of it. -/
import Derived.Test.YtcmgaaopkhjelakImplCancel
import Derived.Test.YtcmgaaopkhjelakImplAdvance
import Derived.Test.YtcmgaaopkhjelakImplArm
