import Derived.Test.YtnkoeekgdehhiaaC
import Derived.Test.YtnkoeekgdehhiaaMath3
namespace Go.Proofs.Ytnkoeekgdehhiaa
open Go.RowKit
set_option linter.unusedVariables false
attribute [local go_sem 5000] run_mx run_mn run_eqlR run_neqR
attribute [local go_sem] growUpon_value growUpon_skip growUpon_enter
set_option maxHeartbeats 1000000
end Go.Proofs.Ytnkoeekgdehhiaa
