/- Joined texts: CSrt. -/
import Derived.Shelf.Sort.Plain
import Derived.Shelf.Slices.CompactI
import Derived.Shelf.Slices.In.SortNone
import Derived.Test.YthdjkkiegecgnaaGreatProg
namespace Go.Proofs.YthdjkkiegecgnaaGreat
open Go.Shelf Go.Sort Go.RowKit Go.Lib
def sortRen:Go.Shelf.Ren:=⟨fun|189=>126|125=>173|257=>172|128=>209|129=>210|294=>200|295=>201|296=>202|297=>203|298=>204|299=>205|216=>206|300=>207|301=>208|328=>219|329=>220|330=>221|331=>222|332=>223|215=>212|343=>226|n=>n,fun|28=>24|3=>3|46=>179|0=>0|51=>214|53=>216|4=>4|183=>207|182=>206|131=>190|5=>5|9=>9|218=>220|222=>224|228=>226|229=>227|n=>n,fun|n=>n⟩
def compRen:Go.Shelf.Ren:=⟨fun|20=>127|n=>n,fun|22=>24|3=>3|4=>4|0=>0|n=>n,fun|n=>n⟩
end Go.Proofs.YthdjkkiegecgnaaGreat
