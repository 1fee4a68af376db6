/- What impl's wheels answer: all of it. -/
import Derived.Test.YtdgefdjgpneanacImplCancel
import Derived.Test.YtdgefdjgpneanacImplAdvance
import Derived.Test.YtdgefdjgpneanacImplArm
