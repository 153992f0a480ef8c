/- Joined texts: CWn. -/
import Derived.Test.YthdjkkiegecgnaaGreatChecked
import Derived.WalkKit
import Derived.WalkSpells
import Derived.WalkLawsBesides
namespace Go.Proofs.YthdjkkiegecgnaaGreat
open Go.RowKit
set_option linter.unusedVariables false
theorem qEe(n a b:Int)(w:World):Calls Tryz.prog 80 #[.int .i64 n,.int .i64 a,.int .i64 b] w fun e w'=>e=.returned (.bool (decide (a≤n∧n≤b)))∧w'=w:=by
 by_cases h1:a≤n
 ·by_cases h2:n≤b
  ·have hd:decide (a≤n∧n≤b)=true:=by simp;omega
   rw[hd]
   go_enter Tryz.func80,Tryz.ntmps80
   go_wp2
   go_ret
   exact⟨rfl,rfl⟩
  ·have hd:decide (a≤n∧n≤b)=false:=by simp;omega
   rw[hd]
   go_enter Tryz.func80,Tryz.ntmps80
   go_wp2
   go_ret
   exact⟨rfl,rfl⟩
 ·have hd:decide (a≤n∧n≤b)=false:=by simp;omega
  rw[hd]
  go_enter Tryz.func80,Tryz.ntmps80
  go_wp2
  go_ret
  exact⟨rfl,rfl⟩
theorem qFz(n a b:Int)(w:World):Calls Tryz.prog 74 #[.int .i64 n,.int .i64 a,.int .i64 b] w fun e w'=>e=.returned (.bool (decide (a≤n∧n≤b)))∧w'=w:=by
 by_cases h1:a≤n
 ·by_cases h2:n≤b
  ·have hd:decide (a≤n∧n≤b)=true:=by simp;omega
   rw[hd]
   go_enter Tryz.func74,Tryz.ntmps74
   go_wp2
   go_ret
   exact⟨rfl,rfl⟩
  ·have hd:decide (a≤n∧n≤b)=false:=by simp;omega
   rw[hd]
   go_enter Tryz.func74,Tryz.ntmps74
   go_wp2
   go_ret
   exact⟨rfl,rfl⟩
 ·have hd:decide (a≤n∧n≤b)=false:=by simp;omega
  rw[hd]
  go_enter Tryz.func74,Tryz.ntmps74
  go_wp2
  go_ret
  exact⟨rfl,rfl⟩
theorem qBb{n a b:Int}{r:Bool}(w:World)(h:decide (a≤n∧n≤b)=r):Calls Tryz.prog 80 #[.int .i64 n,.int .i64 a,.int .i64 b] w fun e w'=>e=.returned (.bool r)∧w'=w:=by
 rw[←h];exact qEe n a b w
theorem qAi{n a b:Int}{r:Bool}(w:World)(h:decide (a≤n∧n≤b)=r):Calls Tryz.prog 74 #[.int .i64 n,.int .i64 a,.int .i64 b] w fun e w'=>e=.returned (.bool r)∧w'=w:=by
 rw[←h];exact qFz n a b w
end Go.Proofs.YthdjkkiegecgnaaGreat
