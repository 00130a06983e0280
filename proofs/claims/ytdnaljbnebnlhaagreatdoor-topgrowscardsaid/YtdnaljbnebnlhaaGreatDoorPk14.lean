import Derived.Test.YtdnaljbnebnlhaaGreatDoorPk13
import Derived.Deep.RegionHeld2
set_option maxRecDepth 100000
set_option maxHeartbeats 4000000
namespace Go.Proofs.YtdnaljbnebnlhaaGreatDoor
open Go.RowKit Tryz
theorem zp1 (m:Msg)(ds:List Int)(w:World)(y:m.ki=3)(u:0<=m.fr/\m.fr<4)(G:0<=m.tt/\m.tt<4)(s:0<=m.sau/\m.sau<4)(D:0<=m.srd/\m.srd<=1048576)(o:m.sdn=ds.length)(A:m.sdn<=4000)(E:zg w m.sda m.sdc ds)(F:∀f g,m.sda=some ⟨f,g,none⟩->f<w.heap.size)
  (l:∀b,B_ w b->Calls prog 29 #[.agg #[I_ m.fr,I_ m.tt,I_ m.ki,I_ m.bau,I_ m.bnu,.slice m.bta m.btn m.btc,I_ m.hau,I_ m.hrd,.slice m.hba m.hbn m.hbc,.slice m.hpa m.hpn m.hpc,I_ m.sau,I_ m.srd,.slice m.sda m.sdn m.sdc,I_ m.cau,I_ m.crd,.slice m.cba m.cbn m.cbc,.slice m.cpa m.cpn m.cpc,.slice m.cva m.cvn m.cvc,I_ m.ro]] b λe w'=>e=.returned (I_ 0)/\B_ b w') :
  Calls prog 22 #[.agg #[I_ m.fr,I_ m.tt,I_ m.ki,I_ m.bau,I_ m.bnu,.slice m.bta m.btn m.btc,I_ m.hau,I_ m.hrd,.slice m.hba m.hbn m.hbc,.slice m.hpa m.hpn m.hpc,I_ m.sau,I_ m.srd,.slice m.sda m.sdn m.sdc,I_ m.cau,I_ m.crd,.slice m.cba m.cbn m.cbc,.slice m.cpa m.cpn m.cpc,.slice m.cva m.cvn m.cvc,I_ m.ro]] w λe w'=>∃v,e=.returned (.tuple #[v,I_ 0])/\w'.ownsRow w.heap.size 5 1 v (3+1+3+m.sdn) (ub ([3,m.fr,m.tt]++[m.sau]++rd3 m.srd++ds))/\B_ w w':=by
 rw[y]at l|-;obtain⟨R,T⟩:=u;obtain⟨V,X⟩:=G;refine kA_ ?A0 ?_;exact #[I_ m.fr,I_ m.tt,I_ 3,I_ m.bau,I_ m.bnu,.slice m.bta m.btn m.btc,I_ m.hau,I_ m.hrd,.slice m.hba m.hbn m.hbc,.slice m.hpa m.hpn m.hpc,I_ m.sau,I_ m.srd,.slice m.sda m.sdn m.sdc,I_ m.cau,I_ m.crd,.slice m.cba m.cbn m.cbc,.slice m.cpa m.cpn m.cpc,.slice m.cva m.cvn m.cvc,I_ m.ro];have C:=hN_ w (.cells ?A0 66);have r:=zC w (.cells ?A0 66);have p:Hid (m.sdn=ds.length):=o;clear o;go_in;go_wp2_with (refine wpList_load_row rfl 66 _ rfl w.heap.size rfl 66 ?A0 (0,0) _ C underlying66 rfl zcC ?_)
 refine(l _ r).mono ?_;rintro e b⟨rfl,c⟩;have d:=zbK c;replace c:=zS c;have I:=zb d 0 (I_ m.fr) rfl;have J:=zb d 1 (I_ m.tt) rfl;have O:=zb d 2 (I_ 3) rfl;have L:=zb d 10 (I_ m.sau) rfl;have M:=zb d 11 (I_ m.srd) rfl;have N:=zb d 12 (.slice m.sda m.sdn m.sdc) rfl;have U:w.heap.size<b.heap.size:=ze d;have z:=World.ownsRow_lit (base:=b.heap.size) (e:=5) (size:=1) b (ub [3,m.fr,m.tt]).toArray 3 (nR_ _) (by decide) rfl;go_wp2_with fail
 refine(zmo b.heap.size _ 3 [3,m.fr,m.tt] m.sau m.srd m.sda m.sdn m.sdc ds _ s D p.out ?_ ?_ ?_ (zB (nR_ _) _) (by decide) A).mono ?_
 .exact(E.below c).below ((bR_ _ _).alloc (nR_ _) _)
 .intro f g e;have:=F f g e;refine⟨by rw[zG];omega,λh=>?_⟩;simp[Value.ownBlock]at h;omega
 .exact z
 rintro e w2⟨H,rfl,B,j⟩;have t:=j.below (base:=b.heap.size) (zB (nR_ _) _) (λq e=>by cases e;exact nR_ _);clear j;go_wp2_with fail
 go_ret2;refine⟨H,rfl,ownsRow_base' B c.size,?_⟩;exact(c.alloc c.size _).trans (t.mono c.size)
theorem zmp (m:Msg)(bl pl:List zi)(vl:List Int)(w:World)(D:m.ki=4)(T:0<=m.fr/\m.fr<4)(ht:0<=m.tt/\m.tt<4)(M:0<=m.cau/\m.cau<4)(Z:0<=m.crd/\m.crd<=1048576)(B:m.cbn=bl.length)(E:m.cpn=pl.length)(R:bl.length<=4)(Y:pl.length<=4)(O:∀p∈bl,p.bs.length=32)(X:∀p∈pl,p.bs.length=32)(z:zx w m.cba m.cbc bl)(A:zx w m.cpa m.cpc pl)(G:m.cvn=vl.length)(ac:vl.length<=4)(aa:∀x∈vl,0<=x/\x<4)(L:zax w m.cva vl)(ab:∀f s,m.cva=some ⟨f,s,none⟩->f<w.heap.size)
  (C:∀b,B_ w b->Calls prog 29 #[.agg #[I_ m.fr,I_ m.tt,I_ m.ki,I_ m.bau,I_ m.bnu,.slice m.bta m.btn m.btc,I_ m.hau,I_ m.hrd,.slice m.hba m.hbn m.hbc,.slice m.hpa m.hpn m.hpc,I_ m.sau,I_ m.srd,.slice m.sda m.sdn m.sdc,I_ m.cau,I_ m.crd,.slice m.cba m.cbn m.cbc,.slice m.cpa m.cpn m.cpc,.slice m.cva m.cvn m.cvc,I_ m.ro]] b λe w'=>e=.returned (I_ 0)/\B_ b w') :
  Calls prog 22 #[.agg #[I_ m.fr,I_ m.tt,I_ m.ki,I_ m.bau,I_ m.bnu,.slice m.bta m.btn m.btc,I_ m.hau,I_ m.hrd,.slice m.hba m.hbn m.hbc,.slice m.hpa m.hpn m.hpc,I_ m.sau,I_ m.srd,.slice m.sda m.sdn m.sdc,I_ m.cau,I_ m.crd,.slice m.cba m.cbn m.cbc,.slice m.cpa m.cpn m.cpc,.slice m.cva m.cvn m.cvc,I_ m.ro]] w λe w'=>∃v,e=.returned (.tuple #[v,I_ 0])/\w'.ownsRow w.heap.size 5 1 v (3+(zeE m.cau m.crd bl pl vl).length) (ub ([4,m.fr,m.tt]++zeE m.cau m.crd bl pl vl))/\B_ w w':=by
 refine kO_ ?A0 ?_;exact Obj.cells #[I_ m.fr,I_ m.tt,I_ m.ki,I_ m.bau,I_ m.bnu,.slice m.bta m.btn m.btc,I_ m.hau,I_ m.hrd,.slice m.hba m.hbn m.hbc,.slice m.hpa m.hpn m.hpc,I_ m.sau,I_ m.srd,.slice m.sda m.sdn m.sdc,I_ m.cau,I_ m.crd,.slice m.cba m.cbn m.cbc,.slice m.cpa m.cpn m.cpc,.slice m.cva m.cvn m.cvc,I_ m.ro] 66;have F:=hN_ w ?A0;have t:=zC w ?A0;rw[D]at C F t|-;obtain⟨ai,aj⟩:=T;obtain⟨al,am⟩:=ht;have H:Hid (m.cbn=bl.length):=B;have I:Hid (m.cpn=pl.length):=E;have J:Hid (m.cvn=vl.length):=G;clear B E G D;go_in;go_wp2_with (refine wpList_load_row rfl 66 _ rfl w.heap.size rfl 66 _ (0,0) _ F underlying66 rfl zcC ?_)
 refine(C _ t).mono ?_;rintro e b⟨rfl,c⟩;have d:=zbK c;replace c:=zS c;have c0:=zb d 0 (I_ m.fr) rfl;have c1:=zb d 1 (I_ m.tt) rfl;have c2:=zb d 2 (I_ 4) rfl;have ad:=zb d 13 (I_ m.cau) rfl;have ae:=zb d 14 (I_ m.crd) rfl;have af:=zb d 15 (.slice m.cba m.cbn m.cbc) rfl;have ag:=zb d 16 (.slice m.cpa m.cpn m.cpc) rfl;have ah:=zb d 17 (.slice m.cva m.cvn m.cvc) rfl;have ak:w.heap.size<b.heap.size:=ze d;have U:=World.ownsRow_lit (base:=b.heap.size) (e:=5) (size:=1) b (ub [4,m.fr,m.tt]).toArray 3 (nR_ _) (by decide) rfl;have j:=zC b (.cells (ub [4,m.fr,m.tt]).toArray 5);have l:∀(r:Option Addr) (rc:Nat) (o:List zi),zx w r rc o->zfo (b.alloc (.cells (ub [4,m.fr,m.tt]).toArray 5)) (.slice (some ⟨b.heap.size,0,none⟩) 3 3) r o:=λr rc o h=>
  zjG (h.below c) (zB (nR_ _) _) (λf hl e=>by have e':b.heap.size=f:=(by simpa[Value.ownBlock]using e);omega)
 have y:=zoA b.heap.size (.slice (some ⟨b.heap.size,0,none⟩) 3 3) 3 [4,m.fr,m.tt] m.cau m.crd m.cba m.cbn m.cbc bl m.cpa m.cpn m.cpc pl m.cva m.cvn m.cvc vl _ M Z H.out I.out J.out R Y ac O X aa ((z.below c).below j) (l _ _ _ z) ((A.below c).below j) (l _ _ _ A) ((L.below c).below j) (λf s e=>by have g:=ab f s e;refine⟨by rw[zG];omega,λh=>?_⟩;have h':b.heap.size=f:=(by simpa[Value.ownBlock]using h);omega) U (zB (nR_ _) _) (by decide);clear l;go_wp2_with fail
 refine y.mono ?_;rintro e w2⟨v2,rfl,V,u⟩;have N:=u.below (base:=b.heap.size) (zB (nR_ _) _) (λq e=>by cases e;exact nR_ _);clear u y;go_wp2_with fail
 go_ret2;refine⟨v2,rfl,ownsRow_base' V c.size,?_⟩;exact(c.alloc c.size _).trans (N.mono c.size)
theorem zp2 (m:Msg)(w:World)(p:m.ki=5)(o:0<=m.fr/\m.fr<4)(y:0<=m.tt/\m.tt<4)(u:0<=m.ro/\m.ro<=1048576)
  (g:∀b,B_ w b->Calls prog 29 #[.agg #[I_ m.fr,I_ m.tt,I_ m.ki,I_ m.bau,I_ m.bnu,.slice m.bta m.btn m.btc,I_ m.hau,I_ m.hrd,.slice m.hba m.hbn m.hbc,.slice m.hpa m.hpn m.hpc,I_ m.sau,I_ m.srd,.slice m.sda m.sdn m.sdc,I_ m.cau,I_ m.crd,.slice m.cba m.cbn m.cbc,.slice m.cpa m.cpn m.cpc,.slice m.cva m.cvn m.cvc,I_ m.ro]] b λe w'=>e=.returned (I_ 0)/\B_ b w') :
  Calls prog 22 #[.agg #[I_ m.fr,I_ m.tt,I_ m.ki,I_ m.bau,I_ m.bnu,.slice m.bta m.btn m.btc,I_ m.hau,I_ m.hrd,.slice m.hba m.hbn m.hbc,.slice m.hpa m.hpn m.hpc,I_ m.sau,I_ m.srd,.slice m.sda m.sdn m.sdc,I_ m.cau,I_ m.crd,.slice m.cba m.cbn m.cbc,.slice m.cpa m.cpn m.cpc,.slice m.cva m.cvn m.cvc,I_ m.ro]] w λe w'=>∃v,e=.returned (.tuple #[v,I_ 0])/\w'.ownsRow w.heap.size 5 1 v 6 (ub ([5,m.fr,m.tt]++rd3 m.ro))/\B_ w w':=by
 rw[p]at g|-;obtain⟨E,F⟩:=o;obtain⟨H,I⟩:=y;refine kA_ ?A0 ?_;exact #[I_ m.fr,I_ m.tt,I_ 5,I_ m.bau,I_ m.bnu,.slice m.bta m.btn m.btc,I_ m.hau,I_ m.hrd,.slice m.hba m.hbn m.hbc,.slice m.hpa m.hpn m.hpc,I_ m.sau,I_ m.srd,.slice m.sda m.sdn m.sdc,I_ m.cau,I_ m.crd,.slice m.cba m.cbn m.cbc,.slice m.cpa m.cpn m.cpc,.slice m.cva m.cvn m.cvc,I_ m.ro];have t:=hN_ w (.cells ?A0 66);have j:=zC w (.cells ?A0 66);go_in;go_wp2_with (refine wpList_load_row rfl 66 _ rfl w.heap.size rfl 66 ?A0 (0,0) _ t underlying66 rfl zcC ?_)
 refine(g _ j).mono ?_;rintro e b⟨rfl,c⟩;have d:=zbK c;replace c:=zS c;have A:=zb d 0 _ rfl;have B:=zb d 1 _ rfl;have D:=zb d 2 _ rfl;have C:=zb d 18 _ rfl;have G:w.heap.size<b.heap.size:=ze d;have r:=World.ownsRow_lit (base:=b.heap.size) (e:=5) (size:=1) b (ub [5,m.fr,m.tt]).toArray 3 (nR_ _) (by decide) rfl;go_wp2_with fail
 refine(zeA b.heap.size _ 3 [5,m.fr,m.tt] m.ro _ u ?_ (zB (nR_ _) _) (by decide)).mono ?_
 .exact r
 rintro e w2⟨z,rfl,s,f⟩;have l:=f.below (base:=b.heap.size) (zB (nR_ _) _) (λq e=>by cases e;exact nR_ _);clear f;go_wp2_with fail
 go_ret2;refine⟨z,rfl,ownsRow_base' s c.size,?_⟩;exact(c.alloc c.size _).trans (l.mono c.size)
def zrH (m:Msg)(R:Int)(ss:List ByteArray)(bl pl cbl cpl:List zi)(ds vl:List Int):List Int:=if R=0 then zeL m ss bl pl cbl cpl ds vl else []
theorem zlF (m:Msg)(ss:List ByteArray)(bl pl cbl cpl:List zi)(ds vl:List Int)(w:World)(H:zeX w m ss bl pl cbl cpl vl)(F:zg w m.sda m.sdc ds)(B:m.sdn=ds.length) :
  Calls prog 22 #[.agg (mrow_ m)] w λe w'=>∃v,e=.returned (.tuple #[v,I_ (zP m (zD m ss bl pl cbl cpl vl))])/\w'.ownsRow w.heap.size 5 1 v (zrH m (zP m (zD m ss bl pl cbl cpl vl)) ss bl pl cbl cpl ds vl).length (ub (zrH m (zP m (zD m ss bl pl cbl cpl vl)) ss bl pl cbl cpl ds vl))/\B_ w w':=by
 have r:∀A,B_ w A->Calls prog 29 #[.agg (mrow_ m)] A λe w'=>e=.returned (I_ (zP m (zD m ss bl pl cbl cpl vl)))/\B_ A w':=λA c=>zjT m ss bl pl cbl cpl vl A (H.below c);by_cases hR:zP m (zD m ss bl pl cbl cpl vl)=0
 .rw[hR]at r|-;obtain⟨y,z,d,_⟩:=zcB hR;have N:zrH m 0 ss bl pl cbl cpl ds vl=[m.ki,m.fr,m.tt]++zcG m ss bl pl cbl cpl ds vl:=rfl;rw[N];rcases zc7 d with k|k|k|k|k
  .rw[zig k];rw[ziO k]at d;obtain⟨p,q,t,u⟩:=zjR d;refine(znI m ss w k y z p ⟨by omega,q.2⟩ H.e1 t.2 (λs R=>(u s R).2) H.txs (λG I e=>?_) r).mono ?_
   .rcases H.txs.cells with h|⟨b,o,f,h⟩
    .rw[h]at t;simp at t
    .rw[e]at f
     simp at f
     rw[f.1];exact bL_ (h 0 (by omega))
   .rintro e w' ⟨v,j,l,c⟩;refine⟨v,j,?_,c⟩;rw[k,lP_];exact l
  .rw[zih k];rw[ziP k]at d;obtain⟨p,q,t,u,C,D⟩:=zbi d;refine(zmn m bl pl w k y z p ⟨by omega,q.2⟩ H.e2 H.e3 (by omega) u C D H.bat H.par r).mono ?_;rintro e w'⟨v,j,l,c⟩;refine⟨v,j,?_,c⟩;rw[k,lP_];exact l
  .rw[zii k];rw[ziQ k]at d;obtain⟨p,q,t⟩:=zho d;refine(zp1 m ds w k y z p ⟨by omega,q.2⟩ B (by omega) F (λG I e=>?_) r).mono ?_
   .rcases F.bytes with h|⟨b,o,f,h⟩
    .rw[h]at B;simp at B;omega
    .rw[e]at f
     simp at f
     rw[f.1];exact bL_ (h 0 (by omega))
   .rintro e w' ⟨v,j,l,c⟩;refine⟨v,j,?_,c⟩;rw[k,show([3,m.fr,m.tt]++([m.sau]++rd3 m.srd++ds)).length=3+1+3+m.sdn by simp[rd3,B];omega,<-List.append_assoc,<-List.append_assoc];exact l
  .rw[zij k];rw[ziR k]at d;obtain⟨J,L,E,M⟩:=ziN d;obtain⟨p,q,t,u,C,D⟩:=zbi J;refine(zmp m cbl cpl vl w k y z p ⟨by omega,q.2⟩ H.e4 H.e5 (by omega) u C D H.cbat H.cpar H.e6 L M H.vot (λG I e=>?_) r).mono ?_
   .rcases H.vot.cells with h|⟨b,o,f,h⟩
    .rw[h]at E;simp at E
    .rw[e]at f
     simp at f
     rw[f.1];exact bL_ (h 0 (by omega))
   .rintro e w' ⟨v,j,l,c⟩;refine⟨v,j,?_,c⟩;rw[k,lP_];exact l
  .rw[zik k];rw[zoB k]at d;have O:1<=m.ro/\m.ro<=1048576:=by
    rcases Decidable.em (1<=m.ro/\m.ro<=1048576)with g|g
    .exact g
    .rw[if_neg g]at d;cases d
   refine(zp2 m w k y z ⟨by omega,O.2⟩ r).mono ?_;rintro e w'⟨v,j,l,c⟩;refine⟨v,j,?_,c⟩;rw[k];exact l
 .refine(zrG m _ w hR r).mono ?_;rintro e w'⟨j,c⟩;refine⟨_,j,?_,c⟩;rw[zrH,if_neg hR];exact oN_ _ _ _ _
def zmq (m:Msg)(X:Int)(ss:List ByteArray)(bl pl cbl cpl:List zi)(ds vl:List Int):List Int:=if X=0 then zeL m ss bl pl cbl cpl ds vl else []
theorem zoD (m:Msg)(ss:List ByteArray)(bl pl cbl cpl:List zi)(ds vl:List Int)(w:World)(H:zeX w m ss bl pl cbl cpl vl)(t:zg w m.sda m.sdc ds)(p:m.sdn=ds.length) :
  Calls prog 213 #[.agg (mrow_ m)] w λe w'=>∃v,e=.returned (.tuple #[v,I_ (zcO m (zP m (zD m ss bl pl cbl cpl vl)))])/\w'.ownsRow w.heap.size 5 1 v (zmq m (zcO m (zP m (zD m ss bl pl cbl cpl vl))) ss bl pl cbl cpl ds vl).length (ub (zmq m (zcO m (zP m (zD m ss bl pl cbl cpl vl))) ss bl pl cbl cpl ds vl))/\B_ w w':=by
 have d:=zC w (.cells (mrow_ m) 66);have f:=hN_ w (.cells (mrow_ m) 66);have c:=zgI m ss bl pl cbl cpl vl _ (H.below d);have g:Hid (∀W:World,B_ w W->zP m (zD m ss bl pl cbl cpl vl)=0->Calls prog 22 #[.agg (mrow_ m)] W λe w'=>∃v,e=.returned (.tuple #[v,I_ 0])/\w'.ownsRow W.heap.size 5 1 v (zeL m ss bl pl cbl cpl ds vl).length (ub (zeL m ss bl pl cbl cpl ds vl))/\B_ W w'):=by
  show ∀_,_;intro W r j;have:=zlF m ss bl pl cbl cpl ds vl W (H.below r) (t.below r) p;rw[j]at this;exact this
 clear H t p;generalize y:zP m (zD m ss bl pl cbl cpl vl)=R at c g|-;have u:Hid (∀X,X≠0->zmq m X ss bl pl cbl cpl ds vl=[]):=by show ∀_,_;intro X h;rw[zmq,if_neg h]
 have q:Hid (zmq m 0 ss bl pl cbl cpl ds vl=zeL m ss bl pl cbl cpl ds vl):=by show _=_;rw[zmq,if_pos rfl]
 have s:Hid (zcO m R=0->R=0):=by
  show _->_;intro h;by_cases hr:R=0
  .exact hr
  .rw[zcO,if_pos hr]at h;exact absurd h hr
 clear y;generalize zcO m R=X at c s|-;generalize zeL m ss bl pl cbl cpl ds vl=D at g q;go_in;go_wp2_with (refine wpList_load_row rfl 66 _ rfl w.heap.size rfl 66 _ (0,0) _ f underlying66 rfl zcC ?_)
 generalize w.alloc (.cells (mrow_ m) 66)=E at d f c|-;refine c.mono ?_;rintro _ C⟨rfl,l⟩;dsimp only;have B:=zk l f;have b:=zm d l;clear f l c d;by_cases hX:X=0
 .subst hX;have j:Hid (R=0):=s.out rfl;go_wp2_with (refine wpList_load_row rfl 66 _ rfl w.heap.size rfl 66 _ (0,0) _ B underlying66 rfl zcC ?_)
  refine(g.out C b j.out).mono ?_;rintro e w2⟨v,o,A,z⟩;subst o;dsimp only;go_wp2_with fail
  go_ret2;refine⟨v,rfl,?_,b.trans (z.mono b.size)⟩;rw[q.out];exact ownsRow_base' A b.size
 .go_wp2_with fail
  go_ret2;refine⟨_,rfl,?_,b⟩;rw[u.out X hX];exact oN_ _ _ _ _
variable {w w':World}{n cap:Nat}{sa:Option Addr}{bs:List Int}
def zbO (n:Nat)(sy:Int):Bool:=decide (n<=400000/\0<=sy/\sy<=n)
def zdT (n:Nat)(sy keep:Int):Nat:=if keep<n-sy then(sy+keep).toNat else n
def zfP (n:Nat)(sy keep:Int):Int:=if zbO n sy then(if keep<0 then 2 else 0)else 12
def zfh (n:Nat)(sy keep:Int):Nat:=if zbO n sy/\0<=keep then zdT n sy keep else 0
def ziS (n:Nat)(sy:Int):Int:=if zbO n sy then 0 else 12
def zhF (n:Nat)(sy:Int):Nat:=if zbO n sy then n else 0
theorem zcr {sy:Int}:zbO n sy=true↔n<=400000/\0<=sy/\sy<=n:=by simp[zbO]
theorem ziT {sy:Int}(h:¬(n<=400000/\0<=sy/\sy<=n)):zbO n sy=false:=dF_ h
theorem zoE {sy keep:Int}(h:0<=sy):zdT n sy keep<=n:=by
 unfold zdT
 split
 .have:=h;omega
 .exact nR_ _
theorem zg.takeT (h:zg w sa cap bs)(m c:Nat)(q:m<=bs.length)(o:m<=c)(p:c<=cap)(f:sa=Option.none->c=0):zg w sa c (bs.take m):=by
 refine⟨by simp;omega,by have:=h.max;omega,?_,f,?_⟩
 .rcases h.some with e|e
  .exact .inl (by omega)
  .exact .inr e
 .rcases h.bytes with b|⟨g,l,rfl,b⟩
  .exact .inl (by rw[b];simp)
  .refine .inr ⟨g,l,rfl,λj d=>?_⟩;rw[lT9_]at d;rw[b j (by omega)];simp[List.getD,show j<m by omega]
structure zdM (w w':World)(e:Ending)(bs:List Int)(sy er:Int):Prop where
 out:∃ra rc,e=.returned (.tuple #[.agg #[.slice ra bs.length rc,I_ sy],I_ er])/\zg w' ra rc bs/\(∀sb so,ra=some ⟨sb,so,none⟩->w.heap.size<=sb/\sb<w'.heap.size)/\B_ w w'
theorem zgx (w:World):zg w none 0 []:=⟨nR_ _,by decide,.inl rfl,λ_=>rfl,.inl rfl⟩
theorem zdM.bad (b:Int)(c:B_ w w'):zdM w w' (.returned (.tuple #[.agg #[O_,I_ 0],I_ b])) [] 0 b:=
 ⟨none,0,rfl,zgx _,(λ_ _ e=>by cases e),c⟩
theorem zg.setCellT (h:zg w sa cap bs)(b j:Nat)(v:Value)(m:∀c d,sa=Option.some ⟨c,d,Option.none⟩->b≠c):zg (w.setCell ⟨b,j,Option.none⟩ v) sa cap bs:=by
 refine⟨h.le,h.max,h.some,h.nil,?_⟩;rcases h.bytes with f|⟨c,d,rfl,g⟩
 .exact .inl f
 .exact .inr ⟨c,d,rfl,λk l=>(World.cell?_setCell_far _ _ _ _ (m c d rfl)).trans (g k l)⟩
theorem zhG (f:Option Addr)(n d:Nat)(sy:Int)(w:World)(g:n<=140737488355328) :
  Calls prog 153 #[.agg #[.slice f n d,I_ sy]] w λe w'=>e=.returned (.bool (zbO n sy))/\B_ w w':=by
 have c:=zC w (.cells #[.slice f n d,I_ sy] 114);by_cases h1:(n:Int)<=400000;by_cases h2:0<=sy;by_cases h3:sy<=n;have b:Hid (zbO n sy=true):=zcr.2 ⟨by omega,h2,h3⟩
 rotate_left
 have b:Hid (zbO n sy=false):=ziT (by omega)
 rotate_left
 have b:Hid (zbO n sy=false):=ziT (by omega)
 rotate_left
 have b:Hid (zbO n sy=false):=ziT (by omega)
 rotate_left
 all_goals
  go_in;go_wp2_with fail
  go_ret;exact⟨by rw[b.out];rfl,c⟩
theorem zh1 (bs:List Int)(c:Option Addr)(n d k:Nat)(j sy:Int)(w:World)(D:n=bs.length)(m:zg w c d bs)(C:k<=bs.length)(N:bs.length<=140737488355328) :
  Calls prog 154 #[.agg #[.slice c n d,I_ j],I_ k,I_ sy] w λe w'=>∃g rc,e=.returned (.agg #[.slice g k rc,I_ sy])/\zg w' g rc (bs.take k)/\(∀b f,g=some ⟨b,f,none⟩->w.heap.size<=b/\b<w'.heap.size)/\B_ w w':=by
 subst D;have O:=m.le;refine kO_ ?A0 ?_;exact Obj.cells #[.slice c bs.length d,I_ j] 114;refine kO_ ?B0 ?_;exact Obj.cells #[O_,I_ 0] 114;have l:B_ w ((w.alloc ?A0).alloc ?B0):=((bR_ _ _).alloc (nR_ _) _).alloc (by simp) _;have F:=hX_ w ?A0 ?B0;have r:=hY_ w ?A0 ?B0;have t:c=none->k=0:=λh=>by have:=m.nil h;omega
 have p:=zeH (bs.take k) c k k _ (by simp;omega) ((m.below l).takeT k k C (nR_ _) (by omega) t) (by rw[lT9_];omega);have A:Hid ((bs.take k).length=k):=by show _=_;rw[lT9_];omega
 rw[A.out]at p;have M:(k:Int)<=d:=by omega
 have L:(0:Int)<=k:=by omega
 clear t m;go_in;go_wp2_with fail
 generalize (w.alloc ?A0).alloc ?B0=G at l F r p|-;refine p.mono ?_;rintro e T⟨g,rc,B,E,q,s⟩;subst B;dsimp only;have o:=zk s r;have u:=zb o 0 (O_) rfl;have y:=zb o 1 (I_ 0) rfl;have H:=zd o 0;have I:=zd o 1;have R:=ze r;go_wp2_with fail
 refine bodyPost_ret (v:=.agg #[.slice g k rc,I_ sy]) (by simp[results,results154,go_sem,u,y]) rfl ⟨g,rc,rfl,?_,?_,?_⟩
 .exact(E.setCellT _ _ _ (λb f e=>by have:=(q b f e).1;omega)).setCellT _ _ _ (λb f e=>by have:=(q b f e).1;omega)
 .intro b f e;obtain⟨J,z⟩:=q b f e;exact⟨by omega,by simpa using z⟩
 .exact((l.trans (s.mono l.size)).setCell (by simp) _).setCell (by simp) _
variable {base:Nat}{xs:List Value}
def zgJ (n:Nat)(sy X:Int)(L:Nat):Int:=if zbO n sy then(if X≠0 then X else if 400000<n+2+L then 6 else 0)else 12
def ziU (bs:List Int)(F:Int)(B:List Int):List Int:=if F=0 then bs++[(B.length:Int) / 256,(B.length:Int) % 256]++B else []
def ziV (sy F:Int):Int:=if F=0 then sy else 0
theorem ztx {B:List Int}{sy F b:Int}(d:F=b)(c:b≠0)(f:B_ w w'):zdM w w' (.returned (.tuple #[.agg #[O_,I_ 0],I_ b])) (ziU bs F B) (ziV sy F) F:=by
 subst d;rw[ziU,ziV,if_neg c,if_neg c];exact zdM.bad _ f
structure zrI (w w':World)(e:Ending)(bs:List Int)(sy er:Int):Prop where
 is:zdM w w' e bs sy er
 own:er=0->∃ra rc,e=.returned (.tuple #[.agg #[.slice ra bs.length rc,I_ sy],I_ er])/\w'.ownsRow w.heap.size 5 1 (.slice ra bs.length rc) bs.length (ub bs)
theorem ziW {B:List Int}{sy F b:Int}(d:F=b)(c:b≠0)(f:B_ w w'):zrI w w' (.returned (.tuple #[.agg #[O_,I_ 0],I_ b])) (ziU bs F B) (ziV sy F) F:=
 ⟨ztx d c f,λh=>absurd (d.symm.trans h) c⟩
theorem zaQ {e:TypeId}{s:Nat}{v:Value}(h:w.ownsRow base e s v n xs)(b j:Nat)(x:Value)(m:v.ownBlock≠some b):(w.setCell ⟨b,j,none⟩ x).ownsRow base e s v n xs:=by
 obtain⟨l,c⟩:=h;refine⟨l,?_⟩;rcases c with c|⟨g,d,f,rfl,p,o,r⟩
 .exact .inl c
 .exact .inr ⟨g,d,f,rfl,p,(hO_ w ⟨b,j,none⟩ g x (λe=>m (by rw[Value.ownBlock];simpa using e))).trans o,r⟩
theorem zcf {c:Nat}{e:TypeId}{s:Nat}{v:Value}(h:w.ownsRow base e s v n xs)(m:c<=base):w.ownsRow c e s v n xs:=by
 obtain⟨j,b⟩:=h;refine⟨j,?_⟩;rcases b with b|⟨g,d,f,rfl,o,l,r⟩
 .exact .inl b
 .exact .inr ⟨g,d,f,rfl,by omega,l,r⟩
theorem zlG {o:Obj}{a:Addr}{v:Value}(h:w.cell? a=some v):(w.alloc o).cell? a=some v:=by
 have b:a.block<w.heap.size:=bL_ h;exact(((bR_ w.heap.size w).alloc (nR_ _) o).cell b).trans h
theorem zim (m:Msg)(bs:List Int)(c:Option Addr)(n l:Nat)(sy X:Int)(B:List Int)(w:World)(hn:n=bs.length)(hs:zg w c l bs)(hl:bs.length<=140737488355328)(hX:X≠0->B=[])(O:X=0->0<B.length)(ag:B.length<=4000)
  (HE:∀W:World,B_ w W->Calls prog 213 #[.agg (mrow_ m)] W λe w'=>∃v,e=.returned (.tuple #[v,I_ X])/\w'.ownsRow W.heap.size 5 1 v B.length (ub B)/\B_ W w') :
  Calls prog 182 #[.agg #[.slice c n l,I_ sy],.agg (mrow_ m)] w λe w'=>zrI w w' e (ziU bs (zgJ bs.length sy X B.length) B) (ziV sy (zgJ bs.length sy X B.length)) (zgJ bs.length sy X B.length):=by
 subst hn;have ao:Hid (∀W:World,B_ w W->Calls prog 213 #[.agg (mrow_ m)] W λe w'=>∃v,e=.returned (.tuple #[v,I_ X])/\w'.ownsRow W.heap.size 5 1 v B.length (ub B)/\B_ W w'):=HE;clear HE;have HS:Hid (zg w c l bs):=hs;have aI:=hs.le;refine kW_ ?A0 ?_;exact(w.alloc (.cells #[.slice c bs.length l,I_ sy] 114)).alloc (.cells (mrow_ m) 66);refine kO_ ?B0 ?_;exact Obj.cells #[O_,I_ 0] 114;have hA:B_ w ((?A0).alloc ?B0):=(((bR_ _ _).alloc (nR_ _) _).alloc (by simp) _).alloc (by simp;omega) _;have r0:=zR (o:=.cells #[O_,I_ 0] 114) (hX_ w (.cells #[.slice c bs.length l,I_ sy] 114) (.cells (mrow_ m) 66));have r1:=zR (o:=.cells #[O_,I_ 0] 114) (hY_ w (.cells #[.slice c bs.length l,I_ sy] 114) (.cells (mrow_ m) 66));have r2:=zco ?A0 ?B0 (w.heap.size+1+1) (by simp);have hM:=zhG c bs.length l sy ((?A0).alloc ?B0) hl;have d:zgJ bs.length sy X B.length=if zbO bs.length sy then(if X≠0 then X else if 400000<bs.length+2+B.length then 6 else 0)else 12:=rfl;generalize zgJ bs.length sy X B.length=F at d|-;have M:Hid _:=d;clear d hs;go_in;go_wp2_with fail
 generalize (?A0).alloc ?B0=W0 at hA r0 r1 r2 hM|-;refine hM.mono ?_;rintro _ w1⟨rfl,H⟩;dsimp only;have N:=zm hA H;have p0:=zk H r0;have p1:=zk H r1;have t:=zk H r2;clear hM r0 r1 r2 H hA;cases ht:zbO bs.length sy with
 | false=>
  have d:Hid (F=12):=by show _=_;rw[M.out,ht];rfl
  have E:=zb t 0 (O_) rfl;have G:=zb t 1 (I_ 0) rfl;have f0:=zd t 0;have f1:=zd t 1;clear ht;go_wp2_with fail
  refine bP_ (v:=.tuple #[.agg #[O_,I_ 0],I_ 12]) (by simp[results,results182,go_sem,E,G]) rfl (ziW d.out (by decide) ?_);exact(N.setCell (by simp;omega) _).setCell (by simp;omega) _
 | true=>
  obtain⟨t1,J,t3⟩:=zcr.1 ht;go_wp2_with (refine wpList_load_row rfl 66 _ rfl (w.heap.size+1) rfl 66 _ (0,0) _ p1 underlying66 rfl zcC ?_)
  refine(ao.out w1 N).mono ?_;rintro e w2⟨v,he,ho,ab⟩;subst he;dsimp only;have s:=zm N ab;have V:=zk ab p0;have p:=zk ab t;have aJ:w.heap.size+1+1<w1.heap.size:=ze t;clear p0 p1 t;by_cases hx:X=0
  .have aa:=O hx;obtain⟨ra,rc,U,-,ak⟩:=zeG ho;subst U;have c0:=zb V 0 (.slice c bs.length l) rfl;subst hx;by_cases hbig:400000<bs.length+2+B.length
   .have d:Hid (F=6):=by show _=_;rw[M.out,ht];simp[hbig]
    have ax:(400000:Int)<(bs.length:Int)+2+(B.length:Int):=by omega
    have E:=zb p 0 (O_) rfl;have G:=zb p 1 (I_ 0) rfl;have f0:=zd p 0;have f1:=zd p 1;clear ht hX O aa hbig;go_wp2_with fail
    refine bP_ (v:=.tuple #[.agg #[O_,I_ 0],I_ 6]) (by simp[results,results182,go_sem,E,G]) rfl (ziW d.out (by decide) ?_);exact(s.setCell (by simp;omega) _).setCell (by simp;omega) _
   .have d:Hid (F=0):=by show _=_;rw[M.out,ht];simp[hbig]
    have ax:¬(400000:Int)<(bs.length:Int)+2+(B.length:Int):=by omega
    have af:Hid (bs.length+2+B.length<=400000):=by show _<=_;omega
    have aL:(bs.length:Int)<=l:=by omega
    have aK:(0:Int)<=bs.length:=by omega
    have aG:(0:Int)<=B.length:=by omega
    have aH:(B.length:Int)<=4000:=by omega
    have HL:Hid (0<B.length/\B.length<=4000):=⟨aa,ag⟩;obtain⟨i,hi,al,am,an⟩:=info_parts zek;have T:=HS.out.below s;clear ht hX O aa hbig ag t1;have ay:w.heap.size<w2.heap.size:=ze V;have az:w.heap.size+1+1<w2.heap.size:=ze p;have aq:Hid (c=none->bs.length=0/\bs.length=0):=by
     show _->_;intro h;have:=T.nil h;have:=T.le;omega
    have ap:Hid (∀b,c=some b->∀j u,(ub bs)[j]? = some u->w2.cell? (b.add j)=some u):=by
     show ∀_,_;intro b hb j u f;have r:j<bs.length:=by
      rcases Nat.lt_or_ge j bs.length with g|g
      .exact g
      .rw[List.getElem?_eq_none (by rw[zcb];exact g)]at f;cases f
     rcases T.bytes with h|⟨D,so,e,h⟩
     .rw[h]at r;simp at r
     .rw[hb]at e;cases e;rw[zaP,h j r];simp[ub,r]at f;simp[r,f]
    obtain⟨y,C,aC,ae⟩:∃y C,ra=some ⟨y,C,none⟩/\∀j,j<B.length->w2.cell? ⟨y,C+j,none⟩=some (.int .u8 (B.getD j 0)):=by
     rcases ak.bytes with h|h
     .rw[h]at HL;exact absurd HL.out.1 (by simp)
     .exact h
    subst aC;have aD:y<w2.heap.size:=bL_ (ae 0 HL.out.1);have ar:Hid (∀j u,(ub B)[j]? = some u->w2.cell? ((⟨y,C,none⟩:Addr).add j)=some u):=by
     show ∀_,_;intro j u f;have r:j<B.length:=by
      rcases Nat.lt_or_ge j B.length with g|g
      .exact g
      .rw[List.getElem?_eq_none (by rw[zcb];exact g)]at f;cases f
     rw[zaP,ae j r];simp[ub,r]at f;simp[r,f]
    clear ae T ak N ho;go_wp2_with (at_builtin;refine wpList_append_grows _ rfl _ _ 51 rfl 5 i (.int .u8 0) 1 1 underlying51 hi al am an rfl (by decide) c bs.length bs.length (ub bs) rfl aq.out (by rw[zcb];omega) (λb hb j u f=>(zlG (ap.out b hb j u f))) ⟨w2.heap.size,0,none⟩ 2 2 [.int .u8 ((B.length:Int) / 256),.int .u8 ((B.length:Int) % 256)] rfl rfl (zag _ _ _) (zds [_,_]) (by omega) (by unfold maxLen;omega) (by omega) ?_;intro Y Z ai ah;have z:B_ w2 Z:=((bR_ _ _).alloc (nR_ _) _).trans ((zgP ah).mono (zB (nR_ _) _)))
    have s0:=(z.block _ ay).trans V;have s2:=(z.block _ az).trans p;have c1:=zb s0 1 (I_ sy) rfl;have av:=zm s z;have R:Z.ownsRow w2.heap.size 5 1 Y (bs.length+2) (ub (bs++[(B.length:Int) / 256,(B.length:Int) % 256])):=by
     have:=ownsRow_base' ai (zB (nR_ w2.heap.size) (.cells #[.int .u8 ((B.length:Int) / 256),.int .u8 ((B.length:Int) % 256)] 5))
     simpa[ub]using this
    have aA:Y.ownBlock≠some w.heap.size:=λe=>by have:=(R.lt _ e).1;omega
    have aB:Y.ownBlock≠some (w.heap.size+1+1):=λe=>by have:=(R.lt _ e).1;omega
    have au:Hid (∀j u,(ub B)[j]? = some u->Z.drew.cell? ((⟨y,C,none⟩:Addr).add j)=some u):=by
     show ∀_,_;intro j u f;have h1:=ar.out j u f;exact(z.cell (by simpa[zaP]using aD)).trans h1
    clear ai ah c0 V p;have aM:¬w.heap.size+1+1=w.heap.size:=by omega
    go_region_held3 (λw'=>w'.cell? ⟨w.heap.size,1,none⟩=some (I_ sy)) (go_keep) ((refine zcc rfl _ _ 51 rfl w2.heap.size 5 i (.int .u8 0) 1 1 underlying51 hi al am an rfl (by decide) Y (bs.length+2) _ rfl R.drew ⟨y,C,none⟩ B.length rc (ub B) rfl (by rw[zcb];omega) au.out (zds B) (by have:=af.out;unfold maxLen;omega) (by have:=af.out;omega) z.size ?_;intro v4 L aj G4;have t0:=G4.row s0 aA;have J:=G4.row s2 aB;have g1:L.cell? ⟨w.heap.size,1,none⟩=some (I_ sy):=zb t0 1 _ rfl;have e0:L.cell? ⟨w.heap.size+1+1,0,none⟩=some (O_):=zb J 0 _ rfl;have e1:L.cell? ⟨w.heap.size+1+1,1,none⟩=some (I_ 0):=zb J 1 _ rfl;have k0:=zd J 0;have k1:=zd J 1;obtain⟨za,zc,rfl⟩:=zH aj))
    all_goals
     have ad:L.ownsRow w2.heap.size 5 1 (.slice za (bs.length+2+B.length) zc) (bs.length+2+B.length) (ub (bs++[(B.length:Int) / 256,(B.length:Int) % 256]++B)):=by simpa[ub]using aj
     have A:=G4.below (base:=w2.heap.size) z.size (λq e=>(R.lt q e).1);go_wp2_with fail
     obtain⟨xa,xc,U,ac,aE⟩:=zeG ad;have I:=ad.lt;simp only[Value.slice.injEq,true_and]at U;obtain⟨rfl,rfl⟩:=U;have hE:ziU bs F B=bs++[(B.length:Int) / 256,(B.length:Int) % 256]++B:=by rw[ziU,if_pos d.out]
     have hS:ziV sy F=sy:=by rw[ziV,if_pos d.out]
     have aF:=A.size;rw[hE,hS,d.out];refine bP_ (v:=.tuple #[.agg #[.slice za (bs.length+2+B.length) zc,I_ sy],I_ 0]) (by simp[results,results182,go_sem,e0,e1]) rfl ⟨⟨za,zc,by rw[<-ac],?_,?_,?_⟩,λ_=>⟨za,zc,by rw[<-ac],?_⟩⟩
     .exact(aE.setCellT _ _ _ (λD so e=>by have:=(I D (by rw[e];rfl)).1;omega)).setCellT _ _ _ (λD so e=>by have:=(I D (by rw[e];rfl)).1;omega)
     .intro D so e;have:=I D (by rw[e];rfl);exact⟨by have:=s.size;omega,by simpa using this.2⟩
     .have aw:Below w2.heap.size Z L:=⟨A.os,A.tape,A.output,A.size,A.block⟩;exact((av.trans (aw.mono s.size)).setCell (by simp;omega) _).setCell (by simp;omega) _
     .rw[<-ac];exact zcf (zaQ (zaQ ad _ _ _ (λe=>by have:=(I _ e).1;omega)) _ _ _ (λe=>by have:=(I _ e).1;omega)) s.size
  .have d:Hid (F=X):=by show _=_;rw[M.out,ht];simp[hx]
   have E:=zb p 0 (O_) rfl;have G:=zb p 1 (I_ 0) rfl;have f0:=zd p 0;have f1:=zd p 1;clear ht hX O;go_wp2_with fail
   refine bP_ (v:=.tuple #[.agg #[O_,I_ 0],I_ X]) (by simp[results,results182,go_sem,E,G]) rfl (ziW d.out hx ?_);exact(s.setCell (by simp;omega) _).setCell (by simp;omega) _
theorem zmr (m:Msg)(bs:List Int)(c:Option Addr)(n b:Nat)(sy X:Int)(B:List Int)(w:World)(o:n=bs.length)(p:zg w c b bs)(l:bs.length<=140737488355328)(g:X≠0->B=[])(j:X=0->0<B.length)(f:B.length<=4000)
  (d:∀W:World,B_ w W->Calls prog 213 #[.agg (mrow_ m)] W λe w'=>∃v,e=.returned (.tuple #[v,I_ X])/\w'.ownsRow W.heap.size 5 1 v B.length (ub B)/\B_ W w') :
  Calls prog 182 #[.agg #[.slice c n b,I_ sy],.agg (mrow_ m)] w λe w'=>zdM w w' e (ziU bs (zgJ bs.length sy X B.length) B) (ziV sy (zgJ bs.length sy X B.length)) (zgJ bs.length sy X B.length):=
 (zim m bs c n b sy X B w o p l g j f d).mono (λ_ _ h=>h.is)
end Go.Proofs.YtdnaljbnebnlhaaGreatDoor
