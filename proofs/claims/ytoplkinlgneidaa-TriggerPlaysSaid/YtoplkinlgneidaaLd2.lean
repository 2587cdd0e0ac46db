/-
Both: arguments opened, the walk of TriggerPlays.
-/
import Derived.Test.YtoplkinlgneidaaLd
import Derived.Test.YtoplkinlgneidaaTy
