/- What is imported. -/
import Derived.Test.YthllcobgfjoleaaProg
import Derived.KernelRfl
import Derived.Test.YthllcobgfjoleaaGj
set_option linter.unusedVariables false
set_option linter.unusedSimpArgs false
set_option linter.unusedSectionVars false

