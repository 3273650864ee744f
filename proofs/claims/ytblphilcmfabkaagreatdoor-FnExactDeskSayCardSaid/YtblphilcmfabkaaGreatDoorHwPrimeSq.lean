/- Contracts and laws that the statement's proof stands on, one text behind the other. -/
import Derived.Test.YtblphilcmfabkaaGreatDoorAla0c

namespace Go.Proofs.YtblphilcmfabkaaGreatDoor
def sqN (m r : Nat) : Bool := (List.range m).any fun k => k * k % m == r
end Go.Proofs.YtblphilcmfabkaaGreatDoor
