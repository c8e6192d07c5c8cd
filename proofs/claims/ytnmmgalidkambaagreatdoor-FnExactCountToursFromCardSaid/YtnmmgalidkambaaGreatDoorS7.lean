/-
  Steps of regions that append (U0), with what stands ahead of them.
-/
import Derived.Test.YtnmmgalidkambaaGreatDoorS6
import Derived.Test.YtnmmgalidkambaaGreatDoorU0
