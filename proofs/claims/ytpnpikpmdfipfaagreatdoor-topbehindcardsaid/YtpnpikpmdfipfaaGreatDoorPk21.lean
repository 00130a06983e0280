import Derived.Test.YtpnpikpmdfipfaaGreatDoorPk20
set_option maxRecDepth 100000
set_option maxHeartbeats 4000000
namespace Go.Proofs.YtpnpikpmdfipfaaGreatDoor
open Go.RowKit _root_.Go.Proofs.Tryz
theorem zg9 (n:Int)(w:World)(c:-9223372036854775808<=n)(d:n<=9223372036854775807) :
  Calls prog 4 #[I_ n] w λe w'=>e=.returned (I_ (pk n 5-1))/\w=w':=by
 obtain⟨j,l⟩:=zW n 5 (by decide);have b:=zbI n 5 w c d (by decide) (by decide);generalize pk n 5=N at*;have g:IntKind.i64.wrap (N-1)=N-1:=by rw[IntKind.wrap_i64];omega
 go_in;go_wp2_with fail
 refine b.mono ?_;rintro _ m⟨rfl,rfl⟩;dsimp only;go_wp2_with fail
 go_ret;exact⟨rfl,rfl⟩
end Go.Proofs.YtpnpikpmdfipfaaGreatDoor
