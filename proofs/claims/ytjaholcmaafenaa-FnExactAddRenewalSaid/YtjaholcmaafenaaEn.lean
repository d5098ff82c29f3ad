/- What a seat's program is, once for all its laws: it may enter, its memory is laid out, its maps are rowed. -/
import Derived.Test.YtjaholcmaafenaaRows
import Derived.JoinedCond
import Derived.KernelRfl
namespace Go.Proofs.Ytjaholcmaafenaa.En
set_option maxRecDepth 100000
theorem enters : Try.prog.mayEnter = true := by kernel_rfl
theorem laidOut : laidOutB Try.prog = true := by kernel_rfl
theorem rowed : mapsRowed Try.prog = true := by kernel_rfl
theorem heard : Try.prog.stopsHeard = true := by kernel_rfl
end Go.Proofs.Ytjaholcmaafenaa.En
