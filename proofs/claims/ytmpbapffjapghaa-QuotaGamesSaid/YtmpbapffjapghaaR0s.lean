/- What is imported. -/
import Derived.Test.YtmpbapffjapghaaProg
import Derived.KernelRfl
import Derived.Test.YtmpbapffjapghaaGj
set_option linter.unusedVariables false
set_option linter.unusedSimpArgs false
set_option linter.unusedSectionVars false

