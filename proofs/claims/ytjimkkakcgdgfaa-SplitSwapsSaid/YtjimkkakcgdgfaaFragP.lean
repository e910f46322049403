/- What the program's Right, Encode, Decode, Cut and Join do: all five, in one place. -/
import Derived.Test.YtjimkkakcgdgfaaFragPb
import Derived.Test.YtjimkkakcgdgfaaFragPd
import Derived.Test.YtjimkkakcgdgfaaFragPk
import Derived.Test.YtjimkkakcgdgfaaFragL
