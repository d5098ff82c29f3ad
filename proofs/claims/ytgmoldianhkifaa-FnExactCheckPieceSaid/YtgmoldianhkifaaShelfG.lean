/- (nothing is laid at this seat) -/
import Derived.Test.YtgmoldianhkifaaProg
