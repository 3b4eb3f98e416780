import Derived.Test.YtogpdpjheknkjabB
import Derived.Test.YtogpdpjheknkjabMath2
namespace Go.Proofs.Ytogpdpjheknkjab
open Go.RowKit
set_option linter.unusedVariables false
attribute [local go_sem 5000] run_mx run_mn
attribute [local go_sem] growUpon_value growUpon_skip growUpon_enter
set_option maxHeartbeats 1000000
end Go.Proofs.Ytogpdpjheknkjab
