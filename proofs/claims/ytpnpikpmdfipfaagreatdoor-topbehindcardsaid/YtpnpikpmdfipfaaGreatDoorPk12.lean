import Derived.Test.YtpnpikpmdfipfaaGreatDoorPk7
set_option maxRecDepth 100000
set_option maxHeartbeats 4000000
namespace Go.Proofs.YtpnpikpmdfipfaaGreatDoor
open Go.RowKit Tryz
theorem znN (bs:L_)(f:Q_)(n c:Nat)(sy keep:Int)(w:World)(hn:n=bs.length)(Y:zg w f c bs)(V:bs.length<=140737488355328)(ac:keep<=9223372036854775807)(ab:-9223372036854775808<=keep) :
  Calls prog 50 #[.agg #[.slice f n c,I_ sy],I_ keep] w λe w'=>zdM w w' e (bs.take (zfh bs.length sy keep)) (zfh bs.length sy keep) (zfP bs.length sy keep):=by
 subst hn;refine kO_ ?A0 ?_;exact Obj.cells #[.slice f bs.length c,I_ sy] 66;refine kO_ ?B0 ?_;exact Obj.cells #[O_,I_ 0] 66;have p:B_ w ((w.alloc ?A0).alloc ?B0):=((bR_ _ _).alloc (nR_ _) _).alloc (by simp) _;have F:=hX_ w ?A0 ?B0;have y:=hY_ w ?A0 ?B0;have r:=zhG f bs.length c sy ((w.alloc ?A0).alloc ?B0) V;have O:Hid (∀(W:World) (x:Int) (k:Nat),B_ w W->x=k->k<=bs.length->Calls prog 88 #[.agg #[.slice f bs.length c,I_ sy],I_ x,I_ x] W λe w'=>∃o rc,e=.returned (.agg #[.slice o k rc,I_ (k:Int)])/\zg w' o rc (bs.take k)/\(∀b g,o=some (p_ b g)->W.heap.size<=b/\b<w'.heap.size)/\B_ W w'):=by
  show ∀_,_;intro W x k hW hx E;subst hx;exact zh1 bs f _ c k sy _ W rfl (Y.below hW) E V
 clear Y;cases ht:zbO bs.length sy with
 | false=>
  have z:Hid (zfP bs.length sy keep=12/\zfh bs.length sy keep=0):=by show _/\_;simp[zfP,zfh,ht]
  rw[ht]at r;clear ht;go_in;go_wp2_with fail
  generalize (w.alloc ?A0).alloc ?B0=R at p F y r|-;refine r.mono ?_;rintro _ C⟨rfl,j⟩;dsimp only;have d:=zk j y;have s:=zb d 0 (O_) rfl;have t:=zb d 1 (I_ 0) rfl;have G:=zd d 0;have H:=zd d 1;go_wp2_with fail
  rw[z.out.1,z.out.2];refine bodyPost_ret (v:=.tuple #[.agg #[O_,I_ 0],I_ 12]) (by simp[results,results50,go_sem,s,t]) rfl (zdM.bad _ ?_);exact((p.trans (j.mono p.size)).setCell (by simp) _).setCell (by simp) _
 | true=>
  obtain⟨t1,t2,t3⟩:=zcr.1 ht;rw[ht]at r;by_cases E:keep<0;have z:Hid (zfP bs.length sy keep=2/\zfh bs.length sy keep=0):=by show _/\_;simp[zfP,zfh,ht,E];omega
  rotate_left
  have A:Hid (zfP bs.length sy keep=0/\zfh bs.length sy keep=zdT bs.length sy keep):=by show _/\_;simp[zfP,zfh,ht,E]
  have M:=zoE (n:=bs.length) (sy:=sy) (keep:=keep) t2
  rotate_left
  all_goals
   clear ht;go_in;go_wp2_with fail
   generalize (w.alloc ?A0).alloc ?B0=R at p F y r|-;refine r.mono ?_;rintro _ C⟨rfl,j⟩;dsimp only
  .have d:=zk j y;have s:=zb d 0 (O_) rfl;have t:=zb d 1 (I_ 0) rfl;have G:=zd d 0;have H:=zd d 1;go_wp2_with fail
   rw[z.out.1,z.out.2];refine bodyPost_ret (v:=.tuple #[.agg #[O_,I_ 0],I_ 2]) (by simp[results,results50,go_sem,s,t]) rfl (zdM.bad _ ?_);exact((p.trans (j.mono p.size)).setCell (by simp) _).setCell (by simp) _
  have q:=zm p j;have Z:=zk j F;have d:=zk j y;have T:=zb Z 0 (.slice f bs.length c) rfl;have U:=zb Z 1 (I_ sy) rfl;have X:=ze d;have ad:IntKind.i64.wrap ((bs.length:Int)-sy)=(bs.length:Int)-sy:=by rw[IntKind.wrap_i64];omega
  generalize D:zdT bs.length sy keep=K at A M;by_cases hm:keep<=(bs.length:Int)-sy;have J:Hid (sy+keep=(K:Int)):=by show _=_;rw[<-D,zdT];split<;>omega
  have aa:IntKind.i64.wrap (sy+keep)=sy+keep:=by rw[IntKind.wrap_i64];omega
  rotate_left
  have J:Hid (sy+((bs.length:Int)-sy)=(K:Int)):=by show _=_;rw[<-D,zdT];split<;>omega
  have aa:IntKind.i64.wrap (sy+((bs.length:Int)-sy))=sy+((bs.length:Int)-sy):=by rw[IntKind.wrap_i64];omega
  rotate_left
  all_goals
   clear D;go_wp2_with fail
   refine(O.out C _ K q J.out M).mono ?_;rintro e w2⟨o,rc,l,N,u,B⟩;subst l;dsimp only;have m:=(B.block _ X).trans d;have s:=zb m 0 (O_) rfl;have t:=zb m 1 (I_ 0) rfl;have G:=zd m 0;have H:=zd m 1;clear T U;go_wp2_with fail
   rw[A.out.1,A.out.2];have L:(bs.take K).length=K:=by rw[lT9_];omega
   refine bodyPost_ret (v:=.tuple #[.agg #[.slice o K rc,I_ (K:Int)],I_ 0]) (by simp[results,results50,go_sem,s,t]) rfl ⟨o,rc,by rw[L],?_,?_,?_⟩
   .exact(N.setCellT _ _ _ (λb g e=>by have:=(u b g e).1;omega)).setCellT _ _ _ (λb g e=>by have:=(u b g e).1;omega)
   .intro b g e;obtain⟨g1,I⟩:=u b g e;have:=q.size;exact⟨by omega,by simpa using I⟩
   .exact((q.trans (B.mono q.size)).setCell (by simp) _).setCell (by simp) _
end Go.Proofs.YtpnpikpmdfipfaaGreatDoor
