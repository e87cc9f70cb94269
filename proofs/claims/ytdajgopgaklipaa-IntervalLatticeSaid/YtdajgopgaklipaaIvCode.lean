/- All contracts of package interval. No condition. -/
import Derived.Test.YtdajgopgaklipaaIcDo
import Derived.Test.YtdajgopgaklipaaIvRefine
import Derived.Test.YtdajgopgaklipaaWdRef
