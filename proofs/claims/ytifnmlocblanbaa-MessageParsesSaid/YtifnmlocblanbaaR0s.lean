/- What is imported. -/
import Derived.Test.YtifnmlocblanbaaProg
import Derived.KernelRfl
import Derived.Test.YtifnmlocblanbaaGj
set_option linter.unusedVariables false
set_option linter.unusedSimpArgs false
set_option linter.unusedSectionVars false

