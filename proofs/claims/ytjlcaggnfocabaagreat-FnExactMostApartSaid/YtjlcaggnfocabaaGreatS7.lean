/-
  Steps of regions that append (U0), with what stands ahead of them.
-/
import Derived.Test.YtjlcaggnfocabaaGreatS6
import Derived.Test.YtjlcaggnfocabaaGreatU0
