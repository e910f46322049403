/- What the program's Right, Encode, Decode, Cut and Join do: all five, in one place. -/
import Derived.Test.YtjcgckhheegonaaFragPb
import Derived.Test.YtjcgckhheegonaaFragPk
import Derived.Test.YtjcgckhheegonaaFragL
