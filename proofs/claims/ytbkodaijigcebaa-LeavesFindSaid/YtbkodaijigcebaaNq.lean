/- What leaves' functions answer, all together. -/
import Derived.Test.YtbkodaijigcebaaNe
import Derived.Test.YtbkodaijigcebaaNf
import Derived.Test.YtbkodaijigcebaaUh
import Derived.Test.YtbkodaijigcebaaPs
import Derived.Test.YtbkodaijigcebaaMT
import Derived.Test.YtbkodaijigcebaaEz
