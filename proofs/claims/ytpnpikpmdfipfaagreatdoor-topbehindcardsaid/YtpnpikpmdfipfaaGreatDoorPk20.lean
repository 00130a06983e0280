import Derived.Test.YtpnpikpmdfipfaaGreatDoorPk19
set_option maxRecDepth 100000
set_option maxHeartbeats 4000000
namespace Go.Proofs.YtpnpikpmdfipfaaGreatDoor
open Go.RowKit _root_.Go.Proofs.Tryz
theorem zjf (r:Int)(l:List Ac):((Fl.z r).run l).nd.length=4:=(zgk l _).trans rfl
end Go.Proofs.YtpnpikpmdfipfaaGreatDoor
