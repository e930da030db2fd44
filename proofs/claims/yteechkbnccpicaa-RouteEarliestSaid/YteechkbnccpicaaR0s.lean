/- What is imported. -/
import Derived.Test.YteechkbnccpicaaProg
import Derived.KernelRfl
import Derived.Test.YteechkbnccpicaaGj
set_option linter.unusedVariables false
set_option linter.unusedSimpArgs false
set_option linter.unusedSectionVars false

