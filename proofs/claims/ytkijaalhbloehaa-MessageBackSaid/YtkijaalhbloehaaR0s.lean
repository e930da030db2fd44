/- What is imported. -/
import Derived.Test.YtkijaalhbloehaaProg
import Derived.KernelRfl
import Derived.Test.YtkijaalhbloehaaGj
set_option linter.unusedVariables false
set_option linter.unusedSimpArgs false
set_option linter.unusedSectionVars false

