/- Contracts and laws that the statement's proof stands on, one text behind the other. -/
import Derived.Test.YtblphilcmfabkaaGreatDoorAla4
import Derived.Test.YtblphilcmfabkaaGreatDoorAlb0
import Derived.Test.YtblphilcmfabkaaGreatDoorAlc0
import Derived.Test.YtblphilcmfabkaaGreatDoorAle0
import Derived.Deep.RegionWith
import Derived.Deep.Cut
import Derived.Deep.DeepCutAuto


