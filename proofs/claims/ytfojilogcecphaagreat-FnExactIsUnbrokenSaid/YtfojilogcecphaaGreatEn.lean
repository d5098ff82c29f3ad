/- What a seat's program is, once for all its laws: it may enter, its memory is laid out, its maps are rowed. -/
import Derived.Test.YtfojilogcecphaaGreatRows
import Derived.JoinedCond
import Derived.KernelRfl
namespace Go.Proofs.YtfojilogcecphaaGreat.En
set_option maxRecDepth 100000
theorem enters : Tryz.prog.mayEnter = true := by kernel_rfl
theorem laidOut : laidOutB Tryz.prog = true := by kernel_rfl
theorem rowed : mapsRowed Tryz.prog = true := by kernel_rfl
theorem heard : Tryz.prog.stopsHeard = true := by kernel_rfl
end Go.Proofs.YtfojilogcecphaaGreat.En
