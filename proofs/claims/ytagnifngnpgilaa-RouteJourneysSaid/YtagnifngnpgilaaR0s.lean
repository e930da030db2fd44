/- What is imported. -/
import Derived.Test.YtagnifngnpgilaaProg
import Derived.KernelRfl
import Derived.Test.YtagnifngnpgilaaGj
set_option linter.unusedVariables false
set_option linter.unusedSimpArgs false
set_option linter.unusedSectionVars false

