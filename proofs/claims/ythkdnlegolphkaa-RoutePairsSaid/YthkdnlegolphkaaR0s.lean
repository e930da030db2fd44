/- What is imported. -/
import Derived.Test.YthkdnlegolphkaaProg
import Derived.KernelRfl
import Derived.Test.YthkdnlegolphkaaGj
set_option linter.unusedVariables false
set_option linter.unusedSimpArgs false
set_option linter.unusedSectionVars false

