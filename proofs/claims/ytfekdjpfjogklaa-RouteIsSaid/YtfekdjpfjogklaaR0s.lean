/- What is imported. -/
import Derived.Test.YtfekdjpfjogklaaProg
import Derived.KernelRfl
import Derived.Test.YtfekdjpfjogklaaGj
set_option linter.unusedVariables false
set_option linter.unusedSimpArgs false
set_option linter.unusedSectionVars false

