/- Joined texts: CSrt. -/
import Derived.Shelf.Sort.Plain
import Derived.Shelf.Slices.CompactI
import Derived.Shelf.Slices.In.SortNone
import Derived.Test.YthdjkkiegecgnaaProg
namespace Go.Proofs.Ythdjkkiegecgnaa
open Go.Shelf Go.Sort Go.RowKit Go.Lib
def sortRen : Go.Shelf.Ren := ⟨fun | 189 => 134 | 125 => 164 | 257 => 163 | 128 => 193 | 129 => 194 | 294 => 184 | 295 => 185 | 296 => 186 | 297 => 187 | 298 => 188 | 299 => 189 | 216 => 190 | 300 => 191 | 301 => 192 | 328 => 203 | 329 => 204 | 330 => 205 | 331 => 206 | 332 => 207 | 215 => 200 | 343 => 215 | n => n, fun | 28 => 24 | 3 => 3 | 46 => 192 | 0 => 0 | 51 => 224 | 53 => 226 | 4 => 4 | 183 => 217 | 182 => 216 | 131 => 210 | 5 => 5 | 9 => 9 | 218 => 232 | 222 => 236 | 228 => 239 | 229 => 240 | n => n, fun | n => n⟩
def compRen : Go.Shelf.Ren := ⟨fun | 20 => 135 | n => n, fun | 22 => 24 | 3 => 3 | 4 => 4 | 0 => 0 | n => n, fun | n => n⟩
end Go.Proofs.Ythdjkkiegecgnaa
