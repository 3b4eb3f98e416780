import Derived.Test.YtnkoeekgdehhiaaB
import Derived.Test.YtnkoeekgdehhiaaMath2
namespace Go.Proofs.Ytnkoeekgdehhiaa
open Go.RowKit
set_option linter.unusedVariables false
attribute [local go_sem 5000] run_mx run_mn
attribute [local go_sem] growUpon_value growUpon_skip growUpon_enter
set_option maxHeartbeats 1000000
end Go.Proofs.Ytnkoeekgdehhiaa
