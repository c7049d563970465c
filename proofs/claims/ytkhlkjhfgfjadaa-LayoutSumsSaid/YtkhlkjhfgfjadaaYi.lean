/- What the program's Sections, With, Glue and Cut answer. -/
import Derived.Test.YtkhlkjhfgfjadaaYg
import Derived.Test.YtkhlkjhfgfjadaaYh
import Derived.Test.YtkhlkjhfgfjadaaPd
import Derived.Test.YtkhlkjhfgfjadaaPf
