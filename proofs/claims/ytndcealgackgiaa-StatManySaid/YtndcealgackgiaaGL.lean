import Derived.Test.YtndcealgackgiaaGH
import Derived.Test.YtndcealgackgiaaGJ
