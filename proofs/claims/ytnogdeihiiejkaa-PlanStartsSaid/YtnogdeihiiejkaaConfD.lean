import Derived.Test.YtnogdeihiiejkaaConfC
import Derived.Test.YtnogdeihiiejkaaObj
import Derived.Deep.RegionHeld3
