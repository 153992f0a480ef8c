/- Joined texts: CLa. -/
import Derived.Test.YthdjkkiegecgnaaGreatCq20
import Derived.Test.YthdjkkiegecgnaaGreatCq10
import Derived.Test.YthdjkkiegecgnaaGreatCq15
import Derived.Test.YthdjkkiegecgnaaGreatCq14
import Derived.Sort.OwnSortedInts
namespace Go.Proofs.YthdjkkiegecgnaaGreat
open Go.RowKit Go.Sort Pl
set_option linter.unusedVariables false
set_option linter.unusedSimpArgs false
def lackB (its:List It) (n:Int):Bool:= !hasP its n
def lackL (ws:List Int) (its:List It) (q:Int):List Int:=Lib.compact ((ws.filter (lackB its)++missP its q).mergeSort fun x y=>decide (x≤y))
def lackP (ws:List Int) (its:List It) (q:Int):List Int:=(lackL ws its q).take 20
end Go.Proofs.YthdjkkiegecgnaaGreat
