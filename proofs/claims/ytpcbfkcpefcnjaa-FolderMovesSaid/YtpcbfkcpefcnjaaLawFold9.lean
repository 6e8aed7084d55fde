/-
  The walks of layer 9's laws, with their openers, under one module.
-/
import Derived.Test.YtpcbfkcpefcnjaaLawFold7
import Derived.Test.YtpcbfkcpefcnjaaLawFold8
import Derived.Test.YtpcbfkcpefcnjaaOpenArr
