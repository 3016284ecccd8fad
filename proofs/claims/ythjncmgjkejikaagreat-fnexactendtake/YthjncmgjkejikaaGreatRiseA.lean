/-
  RISING: spec.l6Copy, spec.EndRise, impl.EndRise.
-/
import Derived.Test.YthjncmgjkejikaaGreatActC
import Derived.Test.YthjncmgjkejikaaGreatCopyA
import Derived.Test.YthjncmgjkejikaaGreatCpT
import Derived.Test.YthjncmgjkejikaaGreatValE
import Derived.Test.YthjncmgjkejikaaGreatEnA
namespace Go.Proofs.YthjncmgjkejikaaGreat.mk
open Go.RowKit
set_option linter.unusedVariables false

end Go.Proofs.YthjncmgjkejikaaGreat.mk
