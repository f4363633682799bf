import Derived.Test.YteaiaglangmhbaaDoorConvP
import Derived.Test.YteaiaglangmhbaaDoorBaseB
import Derived.Test.YteaiaglangmhbaaDoorBaseC
namespace Go.Proofs.YteaiaglangmhbaaDoor
open Go.RowKit Go.Maps
set_option linter.unusedVariables false
set_option maxRecDepth 100000


/-- There is a table of q rows. -/
def tabOk (ds : List D) (q : Nat) : Bool := vEnum ds && decide (q = (mMembers ds).length)
/-- A table, or none. -/
def tabV (v : Bool) (A : Option Addr) (n c : Nat) (R : Option Addr) (q k : Nat) : Value := if v then .agg #[.slice A n c, .slice R q k] else .agg #[.slice none 0 0, .slice none 0 0]

end Go.Proofs.YteaiaglangmhbaaDoor
