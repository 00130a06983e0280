import Derived.Test.YtpnpikpmdfipfaaGreatDoorPk15
set_option maxRecDepth 100000
set_option maxHeartbeats 4000000
namespace Go.Proofs.YtpnpikpmdfipfaaGreatDoor
open Go.RowKit Tryz
variable {w w':World}{n B n1 s1:Nat}{xs:List Value}{v':Value}
theorem zj7:(prog.info? 86).map (λi=>(i.zero,i.size,i.bytes))=some (some (.agg #[I_ 0,I_ 0,O_]),3,40):=by kernel_rfl
theorem zeR {b:Nat}{e:TypeId}{d:Nat}{v:Value}(h:w.ownsRow B e d v n xs)(m:b<=B):w.ownsRow b e d v n xs:=⟨h.1,h.2.imp id (λ⟨g,c,f,j,l,r⟩=>⟨g,c,f,j,nT_ m l,r⟩)⟩
def bcl (l:List Bc):List Value:=l.flatMap Bc.cs
theorem zmG (a b:List Bc):bcl (a++b)=bcl a++bcl b:=by simp[bcl]
theorem zpe (b:Bc):∀u∈b.cs,u.oneCell'=true:=by
 intro u c;simp[Bc.cs]at c;rcases c with rfl|rfl|rfl<;>rfl
theorem zfA {d j n2 C:Nat}{b f:TypeId}{u v:Value}{ys:List Value}(h:w.ownsRow d b s1 u n1 xs)(p:w.ownsRow j f C v n2 ys)(z:b≠f)(G:zV w v w' v'):w'.ownsRow d b s1 u n1 xs:=by
 have s:∀q,u.ownBlock=some q->q<w.heap.size/\v.ownBlock≠some q:=λq e=>⟨(h.lt q e).2,zcu h p z q e⟩;obtain⟨o,c⟩:=h;refine⟨o,?_⟩;rcases c with c|⟨g,l,m,rfl,y,t,r⟩;exact .inl c;obtain⟨A,B⟩:=s g rfl;exact .inr ⟨g,l,m,rfl,y,(G.grown.block g A (λe=>B e.symm)).trans t,r⟩
variable {U:Nat->Bool}{F o:Nat}{fc:X_}{T:TypeId}{x:NM}{m:FM}
structure Vw where
 (up:Bool) (rd:Int) (cs:List CV) (bs:List BW) (vt:List SV) (tx:Z_)
def Vw.z:Vw:=⟨false,0,[],[],[],[]⟩
def Fl.view (f:Fl)(i:Int):Vw:=if i=f.no.bad then Vw.z else⟨(f.node i).up,zdi (f.node i).k.dag,(f.node i).k.dag,(f.node i).k.sh,(f.node i).k.tab,(f.node i).txs⟩
structure Vm where
 (up:Bool) (rd:Int) (ca:Q_) (cc:Nat) (ls:List Ct) (ba:Q_) (bc:Nat) (bl:List Bc) (ta:Q_) (tc:Nat) (tab:List Sl) (pa:Q_) (pc:Nat) (txs:Z_)
abbrev vrow_ (x:Vm):X_:=#[.bool x.up,.int .i64 x.rd,.slice x.ca x.ls.length x.cc,.slice x.ba x.bl.length x.bc,.slice x.ta x.tab.length x.tc,.slice x.pa x.txs.length x.pc]
def Vm.v (x:Vm):Vw:=⟨x.up,x.rd,zI x.ls,x.bl.map (·.v),vs x.tab,x.txs⟩
def Vm.cs (x:Vm):List Value:=[.bool x.up,I_ x.rd,.slice x.ca x.ls.length x.cc,.slice x.ba x.bl.length x.bc,.slice x.ta x.tab.length x.tc,.slice x.pa x.txs.length x.pc]
structure zfX (w:World)(x:Vm):Prop where
 rc:w.ownsRow 0 88 5 (.slice x.ca x.ls.length x.cc) x.ls.length (ctv x.ls)
 ec:∀c∈x.ls,za7 w c
 rb:w.ownsRow 0 86 3 (.slice x.ba x.bl.length x.bc) x.bl.length (bcl x.bl)
 eb:∀b∈x.bl,zcN w b
 rt:w.ownsRow 0 63 3 (.slice x.ta x.tab.length x.tc) x.tab.length (slv x.tab)
 et:∀s∈x.tab,zg w s.p.sa s.p.cap s.p.bs
 tx:zbu w x.pa x.pc x.txs
theorem zfX.below {x:Vm}(h:zfX w x)(d:B_ w w'):zfX w' x:=
 ⟨zw h.rc d,λc f=>(h.ec c f).below d,zw h.rb d,λb k=>(h.eb b k).below d,zw h.rt d,λs k=>(h.et s k).below d,h.tx.below d⟩
theorem zwg (w:World):zfX w ⟨false,0,none,0,[],none,0,[],none,0,[],none,0,[]⟩:=
 ⟨oN_ _ _ _ _,(λc b=>by cases b),oN_ _ _ _ _,(λc b=>by cases b),oN_ _ _ _ _,(λc b=>by cases b),⟨nR_ _,nZ_ _,(λ_=>rfl),zhL _⟩⟩
def zcm (m:FM)(i:Nat)(v:Vm):Prop:=
 if(i:Int)=m.bad then v=⟨false,0,none,0,[],none,0,[],none,0,[],none,0,[]⟩
 else(m.x i).vc=.slice v.ca (m.x i).ls.length v.cc/\v=⟨(m.x i).up,zdi (zI (m.x i).ls),v.ca,v.cc,(m.x i).ls,v.ba,v.bc,(m.x i).sh.map (·.b),(m.x i).ta,(m.x i).tc,(m.x i).tab,(m.x i).pa,(m.x i).pc,(m.x i).txs⟩
theorem zuD {i:Nat}(h:¬(i:Int)=m.bad)(b:i<4):m.v.view i=⟨(m.x i).up,zdi (zI (m.x i).ls),zI (m.x i).ls,shw (m.x i).sh,vs (m.x i).tab,(m.x i).txs⟩:=by
 unfold Fl.view;rw[iN_ (show ¬(i:Int)=m.v.no.bad from h),m.node_v i b]
 rfl
theorem zcm.is {i:Nat}{v:Vm}(h:zcm m i v)(hi:i<4):v.v=m.v.view i:=by
 unfold zcm at h;by_cases e:(i:Int)=m.bad;rw[iP_ e]at h;rw[h];exact(iP_ e:m.v.view i=_).symm;rw[iN_ e]at h;rw[zuD e hi,h.2];simp[Vm.v,shw]
theorem zcm.at {i:Nat}{v:Vm}(h:zcm m i v)(y:i<4)(u:zJ w U F fc m){B:Nat}(q:w.ownsRow B 86 3 (.slice v.ba v.bl.length v.bc) v.bl.length (bcl v.bl)):zfX w v:=by
 unfold zcm at h;by_cases e:(i:Int)=m.bad;rw[iP_ e]at h;rw[h];exact zwg w;rw[iN_ e]at h;obtain⟨p,f⟩:=h;have d:=u.nd i y;have g:=zK U w;have j:=d.stk.rc;rw[p]at j;have o:=zeR q (nZ_ _);generalize v.ca=z at f j;generalize v.cc=A at f j;rw[f]at o;rw[f];refine⟨j,λc t=>(d.stk.ec c t).sub g,o,λb r=>?_,d.rtb,λs l=>(d.etb s l).sub g,d.etx.sub g⟩;obtain⟨s,l,rfl⟩:=mM_.1 r;exact(d.esh s l).b.sub g
theorem zyJ {b d:Q_}{c f:Nat}(h:zo w U F o T fc x)(j:zee w x.s x.ls b c d f x.ds):x.vc=.slice b x.ls.length c:=by
 have e:=h.stk.box.symm.trans j.box;simp only[Option.some.injEq,Obj.cells.injEq]at e;have g:=cA_ (λa:X_=>a[0]?) e.1
 simpa using g
theorem zyK (h:zo w U F o T fc x):x.sh.length<=800:=by
 have:=h.inv.sh
 simpa[NM.v,shw]using this
theorem zhQ {z:X_}(h:R_ w B z T){n:Nat}(c:z.size=n):w.there B 0 n:=λj b=>by
 subst c
 rw[zA_]
 exact⟨by rw[zb h j (z[j]) (Array.getElem?_eq_getElem b)];rfl,zd h _⟩
theorem zi9 (b:List Value){w:World}{B:Nat}{z:X_}{T:TypeId}(h:R_ w B z T)(c:z.size=b.length):(w.setCells B 0 b).heap[B]? = some (.cells b.toArray T (0,0)):=by
 rw[zb7 b w z 0 h];have e:zd4 z 0 b=b.toArray:=by
  refine Array.ext_getElem? (λj=>?_);by_cases hj:j<b.length;have:=zg8 b z 0 j hj (by omega);rw[zA_]at this;rw[this];simp;rw[Array.getElem?_eq_none (by rw[zcW];omega),Array.getElem?_eq_none (by simp;omega)]
 rw[e]
theorem zbQ {b j:Nat}{u:Value}(c:w'.heap[b]? = w.heap[b]?)(h:C_ w b j u):C_ w' b j u:=(cB_ c).trans h
theorem ze5 (d:n<=B):∀(c:List Value) (V:World) (o:Nat),Below n w V->Below n w (V.setCells B o c):=λc=>by
 induction c with
 | nil=>intro V o b;exact b
 | cons u r ih=>intro V o b;exact ih _ _ (b.setCell d _)
theorem zck:(prog.info? 41).map (·.size)=some 6:=by kernel_rfl
theorem zns (i:Nat)(hi:i<4)(m:FM)(w:World)(U:Nat->Bool)(F:Nat)(fc:X_)(h:zJ w U F fc m) :
  Calls prog 24 #[P_ F 0,I_ i] w λe w'=>∃v:Vm,e=.returned (.agg v.cs.toArray)/\zcm m i v/\w'.ownsRow w.heap.size 86 3 (.slice v.ba v.bl.length v.bc) v.bl.length (bcl v.bl)/\B_ w w':=by
 refine kO_ ?A0 ?_;exact Obj.cells #[.bool false,I_ 0,O_,O_,O_,O_] 41;have aa:=zC w ?A0;have L:=hN_ w ?A0;go_in;go_upto_region 1 with fail
 generalize w.alloc ?A0=w0 at aa L|-;have h0:=h.below aa;have HB:=zld m i w0 U F fc h0;go_wp2_with fail
 refine HB.mono ?_;rintro e D⟨he,hw⟩;subst he hw;dsimp only;clear HB;by_cases eb:(i:Int)=m.bad
 .rw[dT_ eb];have HV:Hid (zcm m i ⟨false,0,none,0,[],none,0,[],none,0,[],none,0,[]⟩):=by show zcm _ _ _;unfold zcm;rw[iP_ eb]
  clear eb;go_wp2_with (refine wS_ rfl 41 _ _ rfl w.heap.size #[.bool false,I_ 0,O_,O_,O_,O_] rfl rfl 41 _ L zck rfl (by simp[Value.oneCell']) ?_)
  refine bP_ (v:=.agg #[.bool false,I_ 0,O_,O_,O_,O_]) (rC_ (fn:=Tryz.f24) (p:=4) (ty:=41) rfl _ _ w.heap.size 41 _ (0,0) _ rfl (sH_ _ _ _ _ _ _ L) underlying41 rfl zck) rfl ?_;exact⟨⟨false,0,none,0,[],none,0,[],none,0,[],none,0,[]⟩,rfl,HV.out,oN_ _ _ _ _,(Upd.setRow L).below aa aa.size (by omega)⟩
 rw[dF_ eb];go_upto_region 4 with fail
 have ac:=h0.nd i hi;obtain⟨b,c,da,dc,aV⟩:=ac.stkAt;have aX:=zyJ ac aV;have HX:Hid (∀V:World,B_ D V->zo V U F (i*19) 72 fc (m.x i)):=λV hV=>ac.below hV;have HV:Hid (∀(r:Int) (d:Q_) (f:Nat),r=zdi (zI (m.x i).ls)->zcm m i ⟨(m.x i).up,r,b,c,(m.x i).ls,d,f,(m.x i).sh.map (·.b),(m.x i).ta,(m.x i).tc,(m.x i).tab,(m.x i).pa,(m.x i).pc,(m.x i).txs⟩):=by
  show ∀r,_;intro r d f hr;unfold zcm;rw[iN_ eb];exact⟨aX,by rw[hr]⟩
 have HS:Hid (∀V:World,B_ D V->zee V (m.x i).s (m.x i).ls b c da dc (m.x i).ds):=λV hV=>aV.below hV;have HD:Hid (zbV (zI (m.x i).ls)=0):=ac.inv.dag;have u_:=ac.cell 1 _ rfl;have p_:=ac.cell 3 _ rfl;have t_:=ac.cell 5 _ rfl;have d_:=ac.cell 6 _ rfl;have c4:=ac.cell 4 _ rfl;have aU:=ze ac.blk;have a3:=zyK ac;clear aV ac aX eb h0 h;generalize m.x i=x at*;have aG:=dB_ D;have aT:=dC_ u_;have aR:=dC_ p_;have aS:=dC_ t_;have aQ:=dC_ d_;refine kV_ ?B0 ?_;exact Value.slice x.pa x.txs.length x.pc;refine kV_ ?C0 ?_;exact Value.slice x.ta x.tab.length x.tc;refine wR_ (S:=λw'=>C_ w' F (i*19+1) (.bool x.up)/\C_ w' F (i*19+3) ?B0/\C_ w' F (i*19+5) ?C0/\C_ w' F (i*19+6) (P_ x.s 0)) (by kernel_rfl) ⟨aT,aR,aS,aQ⟩ (λt=>?_);generalize D.drew=V0 at aG aT aR aS aQ t|-;refine tks_ 21 [(0,18,(P_ F (i*19))),(1,19,(P_ F (i*19))),(2,20,(P_ F (i*19+1))),(3,21,.bool x.up),(4,22,(P_ F (i*19))),(5,23,(P_ F (i*19))),(6,24,(P_ F (i*19+6))),(7,25,(P_ x.s 0)),(9,27,(P_ F (i*19))),(10,28,(P_ F (i*19))),(11,29,(P_ F (i*19+6))),(12,30,(P_ x.s 0)),(14,32,(P_ F (i*19))),(15,33,(P_ F (i*19))),(16,34,(P_ F (i*19+5))),(17,35,.slice x.ta x.tab.length x.tc),(18,36,(P_ F (i*19))),(19,37,(P_ F (i*19))),(20,38,(P_ F (i*19+2))),(21,39,(P_ F (i*19+3))),(22,40,.slice x.pa x.txs.length x.pc)] t ?_;simp only[tkf_,zf];refine rY_ (rs:=[8,24]) (by kernel_rfl) (by simp) (rA_ rfl (λK9 u=>?_) (rA_ rfl (λK9 u=>?_) rN_));refine zj rfl 26 rfl 35 [.tmp 25] #[57] rfl [P_ x.s 0] rfl (eO_ func35) (λv w'=>∃r:Int,v=I_ r/\zgS (zI x.ls) r/\B_ V0 w') ((zj3 x.ls x.s b c da dc x.ds V0 (HS.out _ aG) HD.out).mono (λe w' k=>by obtain⟨r,k1,k2,k3⟩:=k;exact⟨_,k1,r,rfl,k2,k3⟩)) ?_;rintro v G⟨r,rfl,hN,Z⟩;have ak:=zm aG Z;have aC:=zr Z aT;have ax:=zr Z aR;have aA:=zr Z aS;have am:=zr Z aQ;refine u.out _ _ ⟨aC,ax,aA,am⟩ (λt=>?_);simp only[zf];clear Z;refine rY_ (rs:=[13,24]) (by kernel_rfl) (by simp) (rA_ rfl (λK9 u=>?_) (rA_ rfl (λK9 u=>?_) rN_));refine zj rfl 31 rfl 36 [.tmp 30] #[57] rfl [P_ x.s 0] rfl (eO_ func36) (λv w'=>v=.slice b x.ls.length c/\G=w') ((zfz x.ls x.s b c da dc x.ds G (HS.out _ ak)).mono (λe w' k=>⟨_,k.1,rfl,k.2⟩)) ?_;rintro v l⟨rfl,aw⟩;rw[<-aw];clear aw l;refine u.out _ _ ⟨aC,ax,aA,am⟩ (λt=>?_);simp only[zf];refine kV_ ?D0 ?_;exact Value.slice b x.ls.length c;refine zU 23 41 (.agg #[.bool x.up,I_ r,?D0,O_,?C0,?B0]) rfl rfl t ?_;simp only[zf];refine zE 24 rfl (λK9 u=>?_);have o:=zC G ?A0;have al:=zm ak o;have E:=hN_ G ?A0;have X:=ak.size;have af:=zr o aC;have ad:=zr o ax;have ae:=zr o aA;have ab:=zr o am;refine zy rfl 6 rfl (P_ G.heap.size 0) (G.alloc ?A0) (by go_simp) ?_;refine u.out _ _ ⟨af,ad,ae,ab⟩ (λt=>?_);simp only[zf];generalize G.alloc ?A0=l at o al E af ad ae ab t|-;clear o;generalize G.heap.size=B at E X|-
 rotate_left
 have o:=zC G ?A0;have al:=zm ak o;have E:=hN_ G ?A0;have X:=ak.size;have af:=zr o aC;have ad:=zr o ax;have ae:=zr o aA;have ab:=zr o am;refine zy rfl 6 rfl (P_ G.heap.size 0) (G.alloc ?A0) (by go_simp) ?_;refine u.out _ _ ⟨af,ad,ae,ab⟩ (λt=>?_);simp only[zf];generalize G.alloc ?A0=l at o al E af ad ae ab t|-;clear o;generalize G.heap.size=B at E X|-;refine zE 13 rfl (λK9 u=>?_);refine zj rfl 31 rfl 36 [.tmp 30] #[57] rfl [P_ x.s 0] rfl (eO_ func36) (λv w'=>v=.slice b x.ls.length c/\l=w') ((zfz x.ls x.s b c da dc x.ds l (HS.out _ al)).mono (λe w' k=>⟨_,k.1,rfl,k.2⟩)) ?_;rintro v V3⟨rfl,aw⟩;rw[<-aw];clear aw V3;refine u.out _ _ ⟨af,ad,ae,ab⟩ (λt=>?_);simp only[zf];refine zU 23 41 (.agg #[.bool x.up,I_ r,?D0,O_,?C0,?B0]) rfl rfl t ?_;simp only[zf]
 rotate_left
 have o:=zC V0 ?A0;have ak:=zm aG o;have E:=hN_ V0 ?A0;have X:=aG.size;have aC:=zr o aT;have ax:=zr o aR;have aA:=zr o aS;have am:=zr o aQ;refine zy rfl 6 rfl (P_ V0.heap.size 0) (V0.alloc ?A0) (by go_simp) ?_;refine u.out _ _ ⟨aC,ax,aA,am⟩ (λt=>?_);simp only[zf];generalize V0.alloc ?A0=G at o ak E aC ax aA am t|-;clear o;generalize V0.heap.size=B at E X|-;refine zE 8 rfl (λK9 u=>?_);refine zj rfl 26 rfl 35 [.tmp 25] #[57] rfl [P_ x.s 0] rfl (eO_ func35) (λv w'=>∃r:Int,v=I_ r/\zgS (zI x.ls) r/\B_ G w') ((zj3 x.ls x.s b c da dc x.ds G (HS.out _ ak) HD.out).mono (λe w' k=>by obtain⟨r,k1,k2,k3⟩:=k;exact⟨_,k1,r,rfl,k2,k3⟩)) ?_;rintro v l⟨r,rfl,hN,Z⟩;have al:=zm ak Z;have af:=zr Z aC;have ad:=zr Z ax;have ae:=zr Z aA;have ab:=zr Z am;have E:=zk Z E;refine u.out _ _ ⟨af,ad,ae,ab⟩ (λt=>?_);simp only[zf];clear Z;refine zE 13 rfl (λK9 u=>?_);refine zj rfl 31 rfl 36 [.tmp 30] #[57] rfl [P_ x.s 0] rfl (eO_ func36) (λv w'=>v=.slice b x.ls.length c/\l=w') ((zfz x.ls x.s b c da dc x.ds l (HS.out _ al)).mono (λe w' k=>⟨_,k.1,rfl,k.2⟩)) ?_;rintro v V3⟨rfl,aw⟩;rw[<-aw];clear aw V3;refine u.out _ _ ⟨af,ad,ae,ab⟩ (λt=>?_);simp only[zf];refine zU 23 41 (.agg #[.bool x.up,I_ r,?D0,O_,?C0,?B0]) rfl rfl t ?_;simp only[zf]
 rotate_left
 all_goals
  refine zE 25 rfl (λK9 u=>?_);have q4:=zi9 [.bool x.up,I_ r,?D0,O_,?C0,?B0] E rfl;have Y:=ze5 X [.bool x.up,I_ r,?D0,O_,?C0,?B0] l 0 al;have I:(l.setCells B 0 [.bool x.up,I_ r,?D0,O_,?C0,?B0]).heap[F]? = l.heap[F]?:=zbl _ l 0 (Nat.ne_of_lt (nL_ aU X));have aD:=zbQ I af;have ay:=zbQ I ad;have aB:=zbQ I ae;have an:=zbQ I ab;refine zd5 rfl rfl 41 (.tmp 6) (.tmp 41) rfl B 0 #[.bool x.up,I_ r,?D0,O_,?C0,?B0] rfl rfl (zhQ E rfl) zck (by simp[Value.oneCell']) ?_;refine u.out _ _ ⟨aD,ay,aB,an⟩ (λt=>?_);clear t;refine wD_ (by kernel_rfl) ?_ _;generalize l.setCells B 0 [.bool x.up,I_ r,?D0,O_,?C0,?B0]=W4 at Y q4|-;clear E I aD ay aB an;have aE:=(HX.out W4 Y).cell 4 _ rfl;obtain⟨ib,aL,aI,aJ,aK⟩:=info_parts zj7;have aM:Hid (r=zdi (zI x.ls)):=hN.one (zhs HD.out);clear hN u_ p_ t_ d_ c4 HS HD;go_wp2_with fail
  clear aE;go_loopw [47] (λj wr=>∃(k:Nat) (M:Value),k<=x.sh.length/\j=I_ k/\wr.ownsRow D.heap.size 86 3 M k (bcl ((x.sh.take k).map (·.b)))/\R_ wr B #[.bool x.up,I_ r,?D0,M,?C0,?B0] 41/\Hid (M.ownBlock≠some B)/\B_ D wr) (λj _=>x.sh.length-(intOf j).toNat)
  case atStart=>exact⟨0,O_,nZ_ _,rfl,oN_ _ _ _ _,q4,by show _≠_;simp[Value.ownBlock],Y⟩
  case round=>
   obtain⟨k,M,hk,rfl,J,qB,aq,y⟩:=hrel;clear q4 Y;obtain⟨d,f,hv⟩:=zH J;subst hv;by_cases hlt:k<x.sh.length
   .have aW:(k:Int)<x.sh.length:=by omega
    obtain⟨sb,so,aO,c0,c1,c2,c3⟩:=(HX.out wr y).shs.at k hlt;have HT:Hid ((x.sh.take (k+1)).map (·.b)=(x.sh.take k).map (·.b)++[(x.sh[k]).b]):=by
     show _=_;rw[tS_ hlt,List.map_append];rfl
    rw[aO];generalize x.sh[k]=s at*;have O:=zC wr (.cells #[I_ s.b.v.au,I_ s.b.v.nu,.slice s.b.ta s.b.v.ss.length s.b.tc,.slice s.d.sa s.d.bs.length s.d.cap] 102);have z:=hN_ wr (.cells #[I_ s.b.v.au,I_ s.b.v.nu,.slice s.b.ta s.b.v.ss.length s.b.tc,.slice s.d.sa s.d.bs.length s.d.cap] 102);go_upto_region 8 with fail
    generalize wr.alloc (.cells #[I_ s.b.v.au,I_ s.b.v.nu,.slice s.b.ta s.b.v.ss.length s.b.tc,.slice s.d.sa s.d.bs.length s.d.cap] 102)=H at O z|-;have R:=O;have ag:=ze qB;have aF:=nL_ ag O.size;generalize wr.heap.size=S9 at z|-;clear O;have T:=y.trans (R.mono y.size);have au:=zw J R;have az:=(R.block B ag).trans qB;have a0:=zb z 0 _ rfl;have a1:=zb z 1 _ rfl;have a2:=zb z 2 _ rfl;have b3:=zb az 3 _ rfl;clear c0 c1 c2 c3 z qB J R ag;go_wp2_with (at_builtin;refine wpList_append_own_at _ rfl _ _ 37 rfl D.heap.size 86 ib (.agg #[I_ 0,I_ 0,O_]) 3 40 underlying37 aL aI aJ aK rfl (by decide) (.slice d k f) k _ rfl (oA_ au _) (p_ H.heap.size 0) 1 1 s.b.cs rfl rfl (zag _ _ _) (zpe _) (by unfold maxLen;omega) (by omega) (zB T.size _) ?_;intro v5 w5 av ap _ aH;obtain⟨A,C,aP⟩:=zH av;subst aP;have G5:=zV.of ap aH;have ai:=G5.row ((((bR_ H.heap.size H).alloc (nR_ _) _).block B aF).trans az) aq.out;have aY:C_ w5 B 3 (.slice d k f):=zb ai 3 _ rfl;have aZ:=zd ai 3)
    have ar:(Value.slice A (k+1) C).ownBlock≠some B:=λe=>by
     rcases G5.fresh B e with g|g
     .exact aq.out g
     .simp at g;omega
    have q9:=zbb (j:=3) ai (.slice A (k+1) C);simp only[List.setIfInBounds_toArray,List.set_cons_zero,List.set_cons_succ]at q9;have o9:=zu av (w':=w5.setCell (p_ B 3) (.slice A (k+1) C)) (λq e=>hO_ _ (p_ B 3) q _ (λN=>ar (by have N:q=B:=N;rw[<-N];exact e)));have b9:=(Below.grown (T.alloc T.size _) ap (zB T.size _) (λq e=>(au.lt q e).1)).setCell (p:=p_ B 3) X (.slice A (k+1) C);have h9:Hid ((Value.slice A (k+1) C).ownBlock≠some B):=ar;go_roundw
    case rel=>
     exact⟨k+1,(.slice A (k+1) C),by omega,by go_num,by rw[HT.out,zmG];simpa[bcl]using o9,q9,h9,b9⟩
    case measure=>simp[intOf];omega
   .obtain rfl:k=x.sh.length:=by omega
    have aj:=(y.block w.heap.size (ze L)).trans L;have aN:wr.rangeAt B 0 [.bool x.up,I_ r,?D0,.slice d x.sh.length f,?C0,?B0]:=λj v hv=>by rw[zA_];exact zb qB j v (by simpa using hv)
    have ao:=(Upd.setRow (cs:=#[.bool x.up,I_ r,?D0,.slice d x.sh.length f,?C0,?B0]) aj).below (aa.trans (y.mono aa.size)) (Nat.le_of_lt (nL_ (ze L) y.size)) (nR_ _);have ah:=zu J (w':=wr.setRow w.heap.size #[.bool x.up,I_ r,?D0,.slice d x.sh.length f,?C0,?B0]) (λq e=>sO_ _ _ _ _ (λN=>by have:=(J.lt q e).1;have:=ze L;omega));go_wp2_with (first|refine wpList_load_mid rfl 41 _ rfl B 0 rfl [.bool x.up,I_ r,?D0,.slice d x.sh.length f,?C0,?B0] _ aN underlying41 rfl zck ?_|refine wS_ rfl 41 _ _ rfl w.heap.size #[.bool x.up,I_ r,?D0,.slice d x.sh.length f,?C0,?B0] rfl rfl 41 _ aj zck rfl (by simp[Value.oneCell']) ?_)
    refine bP_ (v:=.agg #[.bool x.up,I_ r,?D0,.slice d x.sh.length f,?C0,?B0]) (rC_ (fn:=Tryz.f24) (p:=4) (ty:=41) rfl _ _ w.heap.size 41 _ (0,0) _ rfl (sH_ _ _ _ _ _ _ aj) underlying41 rfl zck) rfl ?_;generalize wr.setRow w.heap.size #[.bool x.up,I_ r,?D0,.slice d x.sh.length f,?C0,?B0]=WE at ao ah;rw[List.take_length]at ah;refine⟨_,by simp[Vm.cs],HV.out r d f aM.out,?_,ao⟩;show WE.ownsRow _ _ 3 (.slice d (x.sh.map (·.b)).length f) (x.sh.map (·.b)).length _;rw[List.length_map];exact zeR ah aa.size
structure Ou where
 (v0 v1 v2 v3:Vw) (sg:List GV) (aw:Nat) (cs:L_)
def Fl.told (f:Fl):Ou:=⟨f.view ((0:Nat):Int),f.view ((1:Nat):Int),f.view ((2:Nat):Int),f.view ((3:Nat):Int),f.no.sg,f.away.length,f.codes⟩
structure Om where
 (na:Q_) (nc:Nat) (y0 y1 y2 y3:Vm) (ga:Q_) (gc:Nat) (gs:List Sg) (aw:Nat) (ca:Q_) (cc:Nat) (cs:L_)
def Om.v (o:Om):Ou:=⟨o.y0.v,o.y1.v,o.y2.v,o.y3.v,zA o.gs,o.aw,o.cs⟩
def Om.cells (o:Om):List Value:=[.slice o.na 4 o.nc,.slice o.ga o.gs.length o.gc,I_ o.aw,.slice o.ca o.cs.length o.cc]
def vmv (l:List Vm):List Value:=l.flatMap Vm.cs
theorem zlh (l:List Vm)(y:Vm):vmv (l++[y])=vmv l++y.cs:=by simp[vmv]
theorem zpf (y:Vm):∀u∈y.cs,u.oneCell'=true:=by
 intro u b;simp only[Vm.cs,List.mem_cons,List.not_mem_nil,or_false]at b;rcases b with e|e|e|e|e|e<;>subst e<;>rfl
structure zex (w:World)(o:Om):Prop where
 nd:w.ownsRow 0 41 6 (.slice o.na 4 o.nc) 4 (vmv [o.y0,o.y1,o.y2,o.y3])
 e0:zfX w o.y0
 e1:zfX w o.y1
 e2:zfX w o.y2
 e3:zfX w o.y3
 sg:zdj w o.ga o.gc o.gs
 co:w.ownsRow 0 43 1 (.slice o.ca o.cs.length o.cc) o.cs.length (iv o.cs)
theorem zex.below {o:Om}(h:zex w o)(b:B_ w w'):zex w' o:=
 ⟨zw h.nd b,h.e0.below b,h.e1.below b,h.e2.below b,h.e3.below b,h.sg.below b,zw h.co b⟩
theorem zzk {l:List Vm}{a b c d:Vm}(h:l.length=4)(f:l[0]? = some a)(g:l[1]? = some b)(j:l[2]? = some c)(m:l[3]? = some d):l=[a,b,c,d]:=by
 match l,h with
 | [p,q,r,s],_=>
  simp at f g j m
  subst f g j m
  rfl
theorem zkq {b s:Nat}{e:TypeId}{v:Value}{c:X_}(h:w.ownsRow B e s v n xs)(d:v.ownBlock=some b)(m:R_ w b c T)(l:e≠T):False:=by
 rcases h.2 with⟨rfl,_⟩|⟨g,o,p,rfl,_,f,_⟩;cases d;have j:g=b:=Option.some.inj d;subst j;have:=f.symm.trans m;simp only[Option.some.injEq,Obj.cells.injEq]at this;exact l this.2.1
theorem zwh:(prog.info? 41).map (λi=>(i.zero,i.size,i.bytes))=some (some (.agg #[.bool false,I_ 0,O_,O_,O_,O_]),6,112):=by kernel_rfl
theorem zli:(prog.info? 31).map (·.size)=some 4:=by kernel_rfl
theorem zwi (m:FM)(w:World)(U:Nat->Bool)(F:Nat)(fc:X_)(h:zJ w U F fc m) :
  Calls prog 14 #[P_ F 0] w λe w'=>∃o:Om,e=.returned (.agg o.cells.toArray)/\zex w' o/\o.v=m.v.told/\B_ w w':=by
 refine kO_ ?D0 ?_;exact Obj.cells #[O_,O_,I_ 0,O_] 31;have aD:=zC w ?D0;have qR:=hN_ w ?D0;obtain⟨ti,aK,aL,aM,aN⟩:=info_parts zwh;go_in;go_upto_region 1 with fail
 generalize w.alloc ?D0=t at aD qR|-;have h1:=h.below aD;have g_:=h1.cell 77 h1.c77;have a_:=h1.cell 78 h1.c78;have k_:=h1.cell 79 h1.c79;have aS:=ze (h1.nd 0 (by decide)).blk;have Y:=dB_ t;have aB:=dC_ g_;have az:=dC_ a_;have aE:=dC_ k_;refine kV_ ?A0 ?_;exact Value.slice m.ga m.gs.length m.gc;refine kV_ ?B0 ?_;exact Value.slice m.ca m.cs.length m.cc;refine wR_ (S:=λw'=>C_ w' F 77 ?A0/\C_ w' F 78 (.slice m.aa m.aw.length m.ac)/\C_ w' F 79 ?B0) (by kernel_rfl) ⟨aB,az,aE⟩ (λc=>?_);generalize t.drew=R at Y aB az aE c|-;refine kV_ ?C0 ?_;exact I_ m.aw.length;refine tks_ 15 [(0,5,(P_ F 0)),(1,6,(P_ F 0)),(2,7,(P_ F 76)),(3,8,(P_ F 77)),(4,9,.slice m.ga m.gs.length m.gc),(5,10,(P_ F 0)),(6,11,(P_ F 0)),(7,12,(P_ F 78)),(8,13,.slice m.aa m.aw.length m.ac),(9,14,I_ m.aw.length),(10,15,(P_ F 0)),(11,16,(P_ F 0)),(12,17,(P_ F 79)),(13,18,.slice m.ca m.cs.length m.cc),(14,19,.agg #[O_,?A0,?C0,?B0])] c ?_;simp only[tkf_,zf];refine zE 15 rfl (λO l=>?_);have b:=zC R ?D0;have ab:=zm Y b;have G:=hN_ R ?D0;have ap:=Y.size;have aC:=zr b aB;have aA:=zr b az;have aF:=zr b aE;refine zy rfl 3 rfl (P_ R.heap.size 0) (R.alloc ?D0) (by go_simp) ?_;refine l.out _ _ ⟨aC,aA,aF⟩ (λc=>?_);simp only[zf];generalize R.alloc ?D0=f at b ab G aC aA aF c|-;clear b;generalize R.heap.size=B at G ap|-;refine zE 16 rfl (λO l=>?_);have q4:=zi9 [O_,?A0,?C0,?B0] G rfl;have aG:=ze5 ap [O_,?A0,?C0,?B0] f 0 ab;have f4:(f.setCells B 0 [O_,?A0,?C0,?B0]).heap[F]? = f.heap[F]?:=zbl _ f 0 (Nat.ne_of_lt (nL_ aS ap));have aP:=zbQ f4 aC;have aO:=zbQ f4 aA;have aR:=zbQ f4 aF;refine zd5 rfl rfl 31 (.tmp 3) (.tmp 19) rfl B 0 #[O_,?A0,?C0,?B0] rfl rfl (zhQ G rfl) zli (by simp[Value.oneCell']) ?_;refine l.out _ _ ⟨aP,aO,aR⟩ (λc=>?_);clear c;refine wD_ (by kernel_rfl) ?_ _;generalize f.setCells B 0 [O_,?A0,?C0,?B0]=W4 at aG q4|-;clear G f4 Y ab g_ a_ k_ aB aC aP az aA aO aE aF aR;go_wp2_with fail
 go_loopw [20] (λj wr=>∃(k:Nat) (vl:List Vm) (nv:Value),k<=4/\j=I_ k/\Hid (vl.length=k)/\Hid (∀j,j<k->∃v,vl[j]? = some v/\zcm m j v/\wr.ownsRow t.heap.size 86 3 (.slice v.ba v.bl.length v.bc) v.bl.length (bcl v.bl))/\wr.ownsRow t.heap.size 41 6 nv k (vmv vl)/\R_ wr B #[nv,?A0,?C0,?B0] 31/\Hid (nv.ownBlock≠some B)/\B_ t wr) (λj _=>4-(intOf j).toNat)
 case atStart=>exact⟨0,[],O_,by omega,rfl,by show _=_;rfl,by show ∀j,_;intro j z;omega,oN_ _ _ _ _,q4,by show _≠_;simp[Value.ownBlock],aG⟩
 case round=>
  obtain⟨k,vl,nv,hk,rfl,X,aI,ho,qB,aq,hb⟩:=hrel;clear q4 aG;obtain⟨I,J,hv⟩:=zH ho;subst hv;by_cases hlt:k<4
  .have aW:(k:Int)<4:=by omega
   go_upto_region 5 with fail
   have Y:=hb.drew;have aw:=zw ho (bR_ wr.heap.size wr).drew;have ak:wr.drew.heap[B]? = _:=qB;have ar:C_ wr.drew B 0 (.slice I k J):=zb ak 0 _ rfl;have Z:Hid (∀j,j<k->∃v,vl[j]? = some v/\zcm m j v/\wr.drew.ownsRow t.heap.size 86 3 (.slice v.ba v.bl.length v.bc) v.bl.length (bcl v.bl)):=by
    show ∀j,_;intro j z;obtain⟨v,r,s,d⟩:=aI.out j z;exact⟨v,r,s,zw d (bR_ wr.heap.size wr).drew⟩
   refine wR_ (S:=λ_=>True) (by kernel_rfl) trivial (λc=>?_);generalize wr.drew=R at Y aw ak ar Z c|-;clear aI ho qB hb;refine tks_ 3 [(0,23,(P_ B 0)),(2,25,(P_ F 0)),(3,26,I_ k)] c ?_;simp only[tkf_,zf];refine rY_ (rs:=[1,4]) (by kernel_rfl) (by simp) (rA_ rfl (λO l=>?_) (rA_ rfl (λO l=>?_) rN_));refine zy rfl 24 rfl (.slice I k J) R (by go_simp) ?_;refine l.out _ _ trivial (λc=>?_);simp only[zf];refine zE 4 rfl (λO l=>?_);refine zj rfl 27 rfl 24 [.tmp 25,.tmp 26] #[47,3] rfl [P_ F 0,I_ k] rfl (eO_ func24) (λv w'=>∃y:Vm,v=.agg (vrow_ y)/\zcm m k y/\w'.ownsRow R.heap.size 86 3 (.slice y.ba y.bl.length y.bc) y.bl.length (bcl y.bl)/\B_ R w') ((zns k hlt m R U F fc (h1.below Y)).mono (λe w' g=>by obtain⟨y,g1,g2⟩:=g;exact⟨_,g1,y,rfl,g2⟩)) ?_;rintro v f⟨y,rfl,hy,ax,V⟩;have ab:=zm Y V;have am:=zr V ar;have an:=zw aw V;have ae:=(V.block B (ze ak)).trans ak;refine l.out _ _ trivial (λc=>?_);simp only[zf];have HY:Hid (zcm m k y):=hy;have al:Hid (∀j,j<k->∃v,vl[j]? = some v/\zcm m j v/\f.ownsRow t.heap.size 86 3 (.slice v.ba v.bl.length v.bc) v.bl.length (bcl v.bl)):=by
    show ∀j,_;intro j z;obtain⟨v,r,s,d⟩:=Z.out j z;exact⟨v,r,s,zw d V⟩
   have ao:=zeR ax Y.size;clear hy Z V ax aw ak ar;refine zE 5 rfl (λO l=>?_);refine kO_ ?F0 ?_;exact Obj.cells (vrow_ y) 41;have b:=zC f ?F0;have G:=hN_ f ?F0;refine zy rfl 28 rfl (.slice (some (p_ f.heap.size 0)) 1 1) (f.alloc ?F0) (by go_simp) ?_;have M:=zm ab b;have ah:=zr b am;have H:=zw an b;have ad:=zw ao b;have T:=(b.block B (ze ae)).trans ae;have aa:Hid (∀j,j<k->∃v,vl[j]? = some v/\zcm m j v/\(f.alloc ?F0).ownsRow t.heap.size 86 3 (.slice v.ba v.bl.length v.bc) v.bl.length (bcl v.bl)):=by
    show ∀j,_;intro j z;obtain⟨v,r,s,d⟩:=al.out j z;exact⟨v,r,s,zw d b⟩
   refine l.out _ _ trivial (λc=>?_);simp only[zf];generalize f.alloc ?F0=V2 at b G M ah H ad T aa c|-;generalize f.heap.size=nb at G|-;clear b al ae an ao am ab
   rotate_left
   refine zj rfl 27 rfl 24 [.tmp 25,.tmp 26] #[47,3] rfl [P_ F 0,I_ k] rfl (eO_ func24) (λv w'=>∃y:Vm,v=.agg (vrow_ y)/\zcm m k y/\w'.ownsRow R.heap.size 86 3 (.slice y.ba y.bl.length y.bc) y.bl.length (bcl y.bl)/\B_ R w') ((zns k hlt m R U F fc (h1.below Y)).mono (λe w' g=>by obtain⟨y,g1,g2⟩:=g;exact⟨_,g1,y,rfl,g2⟩)) ?_;rintro v f⟨y,rfl,hy,ax,V⟩;have ab:=zm Y V;have am:=zr V ar;have an:=zw aw V;have ae:=(V.block B (ze ak)).trans ak;refine l.out _ _ trivial (λc=>?_);simp only[zf];have HY:Hid (zcm m k y):=hy;have al:Hid (∀j,j<k->∃v,vl[j]? = some v/\zcm m j v/\f.ownsRow t.heap.size 86 3 (.slice v.ba v.bl.length v.bc) v.bl.length (bcl v.bl)):=by
    show ∀j,_;intro j z;obtain⟨v,r,s,d⟩:=Z.out j z;exact⟨v,r,s,zw d V⟩
   have ao:=zeR ax Y.size;clear hy Z V ax aw ak ar;refine rY_ (rs:=[1,5]) (by kernel_rfl) (by simp) (rA_ rfl (λO l=>?_) (rA_ rfl (λO l=>?_) rN_));refine zy rfl 24 rfl (.slice I k J) f (by go_simp) ?_;refine l.out _ _ trivial (λc=>?_);simp only[zf];refine zE 5 rfl (λO l=>?_);refine kO_ ?G0 ?_;exact Obj.cells (vrow_ y) 41;have b:=zC f ?G0;have G:=hN_ f ?G0;refine zy rfl 28 rfl (.slice (some (p_ f.heap.size 0)) 1 1) (f.alloc ?G0) (by go_simp) ?_;have M:=zm ab b;have ah:=zr b am;have H:=zw an b;have ad:=zw ao b;have T:=(b.block B (ze ae)).trans ae;have aa:Hid (∀j,j<k->∃v,vl[j]? = some v/\zcm m j v/\(f.alloc ?G0).ownsRow t.heap.size 86 3 (.slice v.ba v.bl.length v.bc) v.bl.length (bcl v.bl)):=by
    show ∀j,_;intro j z;obtain⟨v,r,s,d⟩:=al.out j z;exact⟨v,r,s,zw d b⟩
   refine l.out _ _ trivial (λc=>?_);simp only[zf];generalize f.alloc ?G0=V2 at b G M ah H ad T aa c|-;generalize f.heap.size=nb at G|-;clear b al ae an ao am ab
   rotate_left
   have b:=zC f ?G0;have G:=hN_ f ?G0;refine zy rfl 28 rfl (.slice (some (p_ f.heap.size 0)) 1 1) (f.alloc ?G0) (by go_simp) ?_;have M:=zm ab b;have ah:=zr b am;have H:=zw an b;have ad:=zw ao b;have T:=(b.block B (ze ae)).trans ae;have aa:Hid (∀j,j<k->∃v,vl[j]? = some v/\zcm m j v/\(f.alloc ?G0).ownsRow t.heap.size 86 3 (.slice v.ba v.bl.length v.bc) v.bl.length (bcl v.bl)):=by
    show ∀j,_;intro j z;obtain⟨v,r,s,d⟩:=al.out j z;exact⟨v,r,s,zw d b⟩
   refine l.out _ _ trivial (λc=>?_);simp only[zf];generalize f.alloc ?G0=V2 at b G M ah H ad T aa c|-;generalize f.heap.size=nb at G|-;clear b al ae an ao am ab;refine zE 1 rfl (λO l=>?_);refine zy rfl 24 rfl (.slice I k J) V2 (by go_simp) ?_;refine l.out _ _ trivial (λc=>?_);simp only[zf]
   rotate_left
   all_goals
    refine zE 6 rfl (λO l=>?_);refine zaz rfl 29 rfl (.tmp 24) (.tmp 28) 27 rfl t.heap.size 41 ti (.agg #[.bool false,I_ 0,O_,O_,O_,O_]) 6 112 underlying27 aK aL aM aN rfl (by decide) (.slice I k J) k (vmv vl) rfl H (p_ nb 0) 1 1 y.cs rfl rfl (λj u hu=>by rw[zaP,zA_];exact zb G j u (by rw[<-Array.getElem?_toList];exact hu)) (zpf y) (by unfold maxLen;omega) (by omega) M.size ?_;intro d L ac E;obtain⟨A,C,ay⟩:=zH ac;subst ay;have N:=E.row T aq.out;have aj:Hid ((Value.slice A (k+1) C).ownBlock≠some B):=by
     show _≠_;intro e;rcases E.fresh B e with g|g
     .exact aq.out g
     .have:=ze T;omega
    have ai:=Below.grown M E.grown M.size (λq e=>(H.lt q e).1);have af:Hid (∀j,j<k+1->∃v,(vl++[y])[j]? = some v/\zcm m j v/\L.ownsRow t.heap.size 86 3 (.slice v.ba v.bl.length v.bc) v.bl.length (bcl v.bl)):=by
     show ∀j,_;intro j z;by_cases e:j=k
     .subst e;exact⟨y,by rw[List.getElem?_append_right (by have:=X.out;omega),X.out];simp,HY.out,zfA ad H (by decide) E⟩
     .obtain⟨v,r,s,d⟩:=aa.out j (by omega);exact⟨v,by rw[List.getElem?_append_left (by have:=X.out;omega)];exact r,s,zfA d H (by decide) E⟩
    have au:=zb N 0 (.slice I k J) rfl;have av:=zd N 0;refine l.out _ _ trivial (λc=>?_);simp only[zf];clear aa ad H T M ah G;refine zU 7 30 (P_ B 0) rfl rfl c ?_;simp only[zf];refine zE 8 rfl (λO l=>?_);refine zX rfl rfl (L.setCell (p_ B 0) (.slice A (k+1) C)) (by go_simp) ?_;have q9:=zbb (j:=0) N (.slice A (k+1) C);simp only[List.setIfInBounds_toArray,List.set_cons_zero]at q9;have o9:=zu ac (w':=L.setCell (p_ B 0) (.slice A (k+1) C)) (λq e=>hO_ _ (p_ B 0) q _ (λD=>aj.out (by have D:q=B:=D;rw[<-D];exact e)));have b9:=ai.setCell (p:=p_ B 0) ap (.slice A (k+1) C);have ag:Hid (∀j,j<k+1->∃v,(vl++[y])[j]? = some v/\zcm m j v/\(L.setCell (p_ B 0) (.slice A (k+1) C)).ownsRow t.heap.size 86 3 (.slice v.ba v.bl.length v.bc) v.bl.length (bcl v.bl)):=by
     show ∀j,_;intro j z;obtain⟨v,r,s,d⟩:=af.out j z;exact⟨v,r,s,zu d (λq e=>hO_ _ (p_ B 0) q _ (λD=>zkq d (e.trans (cA_ some (show q=B from D))) N (by decide)))⟩
    refine l.out _ _ trivial (λc=>?_);clear c;refine wD_ (by kernel_rfl) ?_ _;generalize L.setCell (p_ B 0) (.slice A (k+1) C)=V9 at o9 b9 ag q9|-;clear af ac E N ai au av;go_wp2_with fail
    go_roundw
    case rel=>exact⟨k+1,vl++[y],_,by omega,by go_num,by show _=_;rw[lP_,X.out];rfl,ag,by rw[zlh];exact o9,q9,aj,b9⟩
    case measure=>simp[intOf];omega
  refine kA_ ?E0 ?_;exact(#[.slice I 4 J,?A0,?C0,?B0]:X_);obtain rfl:k=4:=by omega
  have aJ:=(hb.block w.heap.size (ze qR)).trans qR;have aU:wr.rangeAt B 0 [.slice I 4 J,?A0,?C0,?B0]:=λj v hv=>by rw[zA_];exact zb qB j v (by simpa using hv)
  have aH:=(Upd.setRow (cs:=?E0) aJ).below (aD.trans (hb.mono aD.size)) (Nat.le_of_lt (nL_ (ze qR) hb.size)) (nR_ _);have aV:=ze qR;have aQ:=zu ho (w':=wr.setRow w.heap.size ?E0) (λq e=>sO_ _ _ _ _ (λD=>by have:=(ho.lt q e).1;omega));have Z:Hid (∀j,j<4->∃v,vl[j]? = some v/\zcm m j v/\(wr.setRow w.heap.size ?E0).ownsRow t.heap.size 86 3 (.slice v.ba v.bl.length v.bc) v.bl.length (bcl v.bl)):=by
   show ∀j,_;intro j z;obtain⟨v,r,s,d⟩:=aI.out j z;exact⟨v,r,s,zu d (λq e=>sO_ _ _ _ _ (λD=>by have:=(d.lt q e).1;omega))⟩
  go_wp2_with (first|refine wpList_load_mid rfl 31 _ rfl B 0 rfl [.slice I 4 J,?A0,?C0,?B0] _ aU underlying31 rfl zli ?_|refine wS_ rfl 31 _ _ rfl w.heap.size ?E0 rfl rfl 31 _ aJ zli rfl (by simp[Value.oneCell']) ?_)
  refine bP_ (v:=.agg ?E0) (rC_ (fn:=Tryz.f14) (p:=2) (ty:=31) rfl _ _ w.heap.size 31 _ (0,0) _ rfl (sH_ _ _ _ _ _ _ aJ) underlying31 rfl zli) rfl ?_;generalize wr.setRow w.heap.size ?E0=WE at aH aQ Z;have hE:=h.below aH;have aT:=zK U WE;obtain⟨y0,e0,i0,o0⟩:=Z.out 0 (by decide);obtain⟨y1,e1,i1,o1⟩:=Z.out 1 (by decide);obtain⟨y2,D,i2,o2⟩:=Z.out 2 (by decide);obtain⟨y3,e3,i3,o3⟩:=Z.out 3 (by decide);obtain rfl:vl=[y0,y1,y2,y3]:=zzk X.out e0 e1 D e3;refine⟨⟨I,J,y0,y1,y2,y3,m.ga,m.gc,m.gs,m.aw.length,m.ca,m.cc,m.cs⟩,by simp[Om.cells],⟨zeR aQ (nZ_ _),i0.at (by decide) hE o0,i1.at (by decide) hE o1,i2.at (by decide) hE o2,i3.at (by decide) hE o3,hE.sg.sub aT,hE.rco⟩,?_,aH⟩;rw[Om.v,Fl.told,i0.is (by decide),i1.is (by decide),i2.is (by decide),i3.is (by decide)];simp[FM.v]
variable {R:Nat}
structure zcv (R:Nat)(w w':World):Prop where
 size:w'.heap.size=w.heap.size
 far:∀b,b≠R->w'.heap[b]? = w.heap[b]?
 zero:R_ w R #[O_,O_,I_ 0,O_] 31
theorem zcv.cell (h:zcv R w w'){b j:Nat}{u:Value}(d:b≠R)(c:C_ w b j u):C_ w' b j u:=(cB_ (h.far b d)).trans c
theorem zcv.val (h:zcv R w w'){j:Nat}{u:Value}(b:w.cell? (p_ R j)=some u):(u=O_/\j≠2)\/(u=I_ 0/\j=2):=by
 have e:w.cell? (p_ R j)=(#[O_,O_,I_ 0,O_]:X_)[j]?:=by
  simp[World.cell?,h.zero]
 rw[e]at b
 match j,b with
 | 0,b=>exact .inl ⟨by simpa using b.symm,by decide⟩
 | 1,b=>exact .inl ⟨by simpa using b.symm,by decide⟩
 | 2,b=>exact .inr ⟨by simpa using b.symm,rfl⟩
 | 3,b=>exact .inl ⟨by simpa using b.symm,by decide⟩
 | j+4,b=>simp at b
theorem zcv.odd (h:zcv R w w'){b j:Nat}{u:Value}(c:C_ w b j u)(d:u≠O_)(f:u≠I_ 0):C_ w' b j u:=by
 by_cases e:b=R;subst e;rcases h.val c with g|g;exact absurd g.1 d;exact absurd g.1 f;exact h.cell e c
theorem zcv.bytes (h:zcv R w w'){c:Q_}{bs:L_}(b:za5 w c bs):za5 w' c bs:=by
 rcases b with b|⟨g,l,e,d⟩;exact .inl b;exact .inr ⟨g,l,e,λj f=>h.odd (d j f) (λe=>by cases e) (λe=>by cases e)⟩
theorem zcv.slice (h:zcv R w w'){d:Q_}{c:Nat}{bs:L_}(b:zg w d c bs):zg w' d c bs:=⟨b.le,b.max,b.some,b.nil,h.bytes b.bytes⟩
theorem zcv.strs (h:zcv R w w'){c:Q_}{ss:Z_}(b:zas w c ss):zas w' c ss:=by
 refine⟨?_,b.size⟩;rcases b.cells with d|⟨l,m,e,f⟩;exact .inl d;exact .inr ⟨l,m,e,λj g=>h.odd (f j g) (λe=>by cases e) (λe=>by cases e)⟩
theorem zcv.ints (h:zcv R w w'){f:Q_}{vl:L_}(p:zax w f vl)(r:2<=vl.length):zax w' f vl:=by
 refine⟨?_⟩;rcases p.cells with l|⟨g,q,e,d⟩;exact .inl l;have o:g≠R:=λe=>by
  subst e;have b:=h.val (d 0 (by omega));have c:=h.val (d 1 (by omega));rcases b with⟨b,_⟩|⟨_,b⟩;cases b;rcases c with⟨c,_⟩|⟨_,c⟩;cases c;omega
 exact .inr ⟨g,q,e,λj m=>h.cell o (d j m)⟩
theorem zcv.list (h:zcv R w w'){g:Q_}{d:Nat}{c:List zi}(b:zx w g d c)(l:∀p∈c,p.bs.length=32):zx w' g d c:=by
 refine⟨b.le,b.max,b.small,b.some,⟨?_,λp q=>h.slice (b.parts.each p q)⟩⟩;rcases b.parts.cells with m|⟨r,s,e,o⟩;exact .inl m;refine .inr ⟨r,s,e,λj f=>h.odd (o j f) (λe=>?_) (λe=>by cases e)⟩;have:=l (c[j]) (gM_ f);simp only[Value.slice.injEq]at e;omega
theorem zwj {c:Ct}(f:c.v.f=0):(∀p∈c.bl,p.bs.length=32)/\(∀p∈c.pl,p.bs.length=32)/\3<=c.vl.length:=by
 have e:zap c.au c.rd c.bl c.pl c.vl=0:=(ziL c.vl (zcH c.bl) (zcH c.pl)).symm.trans f;unfold zap at e
 split at e
 rename_i g;exact absurd e g
 rename_i g
 obtain⟨_,_,_,_,b,d⟩:=zbi (Classical.not_not.1 g);refine⟨b,d,?_⟩
 split at e
 cases e;unfold zep at e
 split at e
 rename_i g;exact absurd e g
 split at e
 cases e;omega
theorem zcv.ct (h:zcv R w w'){c:Ct}(b:za7 w c)(l:c.v.f=0):za7 w' c:=by
 obtain⟨g,j,m⟩:=zwj l;exact⟨⟨h.list b.hat.lb g,h.list b.hat.lp j,λd f e=>by rw[h.size];exact b.hat.rb d f e,λd f e=>by rw[h.size];exact b.hat.rp d f e⟩,h.ints b.ints (by omega),b.vle⟩
theorem zcv.bc (h:zcv R w w'){b:Bc}(c:zcN w b):zcN w' b:=⟨h.strs c.strs,c.le,c.max,c.nil,λd f e=>by rw[h.size];exact c.lt d f e⟩
theorem zcv.txs (h:zcv R w w'){d:Q_}{c:Nat}{ss:Z_}(b:zbu w d c ss):zbu w' d c ss:=⟨b.le,b.max,b.nil,h.strs b.strs⟩
theorem zcv.signs (h:zcv R w w'){p:Q_}{r:Nat}{m:List Sg}(b:zdj w p r m):zdj w' p r m:=by
 refine⟨⟨b.tab.le,b.tab.max,b.tab.small,b.tab.some,⟨?_,λs o=>⟨h.slice (b.tab.slots.each s o).1,(b.tab.slots.each s o).2⟩⟩⟩⟩;rcases b.tab.slots.cells with y|⟨q,B,e,z⟩;exact .inl y;refine .inr ⟨q,B,e,λj A=>?_⟩;obtain⟨d,f,t,u⟩:=z j A;have c:q≠R:=λe=>by
  subst e;rcases h.val d with⟨g,_⟩|⟨_,g⟩;cases g;rcases h.val f with⟨l,_⟩|⟨_,l⟩;cases l;omega
 exact⟨h.cell c d,h.cell c f,h.cell c t,h.cell c u⟩
theorem zcv.owns (h:zcv R w w'){B n s:Nat}{e:TypeId}{v:Value}{c:List Value}(b:w.ownsRow B e s v n c)(f:e≠31):w'.ownsRow B e s v n c:=
 zu b (λq g=>h.far q (λd=>zkq b (g.trans (cA_ some d)) h.zero f))
theorem zcv.vm (h:zcv R w w'){v:Vm}(d:zfX w v)(j:zbV (zI v.ls)=0):zfX w' v:=
 ⟨h.owns d.rc (by decide),λc f=>h.ct (d.ec c f) (znZ j c f),h.owns d.rb (by decide),λb g=>h.bc (d.eb b g),h.owns d.rt (by decide),λs l=>h.slice (d.et s l),h.txs d.tx⟩
def zwk (o:Om):Prop:=∀v∈[o.y0,o.y1,o.y2,o.y3],zbV (zI v.ls)=0
theorem zex.put {o:Om}{C:X_}(h:zex w o)(c:zwk o)(f:R_ w R #[O_,O_,I_ 0,O_] 31):zex (w.setRow R C) o:=by
 have p:zcv R w (w.setRow R C):=⟨by simp,λb d=>sO_ w R b C d,f⟩;exact⟨p.owns h.nd (by decide),p.vm h.e0 (c _ (by simp)),p.vm h.e1 (c _ (by simp)),p.vm h.e2 (c _ (by simp)),p.vm h.e3 (c _ (by simp)),p.signs h.sg,p.owns h.co (by decide)⟩
def hN (k:Int):Bool:=decide (k=1\/k=2\/k=3\/k=7\/k=8\/k=9)
def hP (k:Int):Bool:=decide (4<=k/\k<=7)
def hT (k:Int):Bool:=decide (k=1\/k=9)
def zja (k n p:Int)(t:Nat):Bool:=(decide (n≠0)&&!hN k)||(decide (p≠0)&&!hP k)||(decide (t≠0)&&!hT k)
def zeS (k n p:Int)(t:Nat):Int:=
 if k<1\/10<k then 3 else if n<0\/4<=n then 2 else if p<0\/400000<p then 2 else if 4000<t then 1 else if zja k n p t=true then 4 else 0
def zn2 (k:Int):List UInt8:=
 if k=1 then [115,117,98,109,105,116]else if k=2 then [119,111,114,107]else if k=3 then [115,121,110,99]else if k=4 then [116,97,107,101]else if k=5 then [108,111,115,101]
 else if k=6 then [99,111,112,121]else if k=7 then [99,114,97,115,104]else if k=8 then [115,116,97,114,116]else if k=9 then [102,111,114,103,101]else if k=10 then [102,108,111,119]else []
structure zcw (w:World):Prop where
 word:∀k:Nat,1<=k->k<=10->w.cell? (p_ 0 (k*4))=some (.string ⟨(zn2 k).toArray⟩)
 node:∀k:Nat,1<=k->k<=10->w.cell? (p_ 0 (k*4+1))=some (.bool (hN k))
 pick:∀k:Nat,1<=k->k<=10->w.cell? (p_ 0 (k*4+2))=some (.bool (hP k))
 text:∀k:Nat,1<=k->k<=10->w.cell? (p_ 0 (k*4+3))=some (.bool (hT k))
theorem zcw.lt (h:zcw w):0<w.heap.size:=bL_ (h.word 1 (by omega) (by omega))
theorem zcw.below (h:zcw w)(f:Below B w w')(d:0<B):zcw w':=
  ⟨λk b c=>(f.cell (p:=p_ 0 _) d).trans (h.word k b c),λk b c=>(f.cell (p:=p_ 0 _) d).trans (h.node k b c),
   λk b c=>(f.cell (p:=p_ 0 _) d).trans (h.pick k b c),λk b c=>(f.cell (p:=p_ 0 _) d).trans (h.text k b c)⟩
theorem zcw.alloc (h:zcw w)(o:Obj):zcw (w.alloc o):=h.below ((bR_ _ _).alloc (nR_ _) _) h.lt
variable {sa:Q_}{base:Nat}
structure AV where
 k:Int
 n:Int
 p:Int
 t:ByteArray
def AV.z:AV:=⟨0,0,0,ByteArray.empty⟩
def AV.e (a:AV):Int:=zeS a.k a.n a.p a.t.size
structure zbq (w:World)(sa:Q_)(l:List AV):Prop where
 cells:l=[]\/∃sb so,sa=some (p_ sb so)/\∀j,j<l.length->w.cell? (p_ sb (so+j*4))=some (I_ (l.getD j .z).k)/\w.cell? (p_ sb (so+j*4+1))=some (I_ (l.getD j .z).n)/\w.cell? (p_ sb (so+j*4+2))=some (I_ (l.getD j .z).p)/\w.cell? (p_ sb (so+j*4+3))=some (.string (l.getD j .z).t)
 text:∀a∈l,a.t.size<=maxLen
theorem zbq.below {l:List AV}(h:zbq w sa l)(d:B_ w w'):zbq w' sa l:=by
 refine⟨?_,h.text⟩;rcases h.cells with h|⟨b,c,r,s⟩;exact .inl h;refine .inr ⟨b,c,r,λj t=>?_⟩;obtain⟨g,m,o,q⟩:=s j t;have f:=bL_ g;exact⟨(d.cell (p:=p_ b (c+j*4)) f).trans g,(d.cell (p:=p_ b (c+j*4+1)) f).trans m,(d.cell (p:=p_ b (c+j*4+2)) f).trans o,(d.cell (p:=p_ b (c+j*4+3)) f).trans q⟩
def AV.cs (a:AV):List Value:=[I_ a.k,I_ a.n,I_ a.p,.string a.t]
def avs:List AV->List Value
 | []=>[]
 | a::l=>a.cs++avs l
theorem zg1 (l:List AV):(avs l).length=4*l.length:=by
 induction l with
 | nil=>rfl
 | cons a l ih=>simp only[avs,lP_,List.length_cons,ih];simp[AV.cs];omega
theorem zkr:∀(l:List AV) (j i:Nat),j<l.length->i<4->(avs l)[j*4+i]? = (l.getD j .z).cs[i]?
 | [],_,_,h,_=>by simp at h
 | a::l,0,i,_,hi=>by
  simp only[avs,Nat.zero_mul,zA_]
  rw[List.getElem?_append_left (by simp[AV.cs];exact hi)];rfl
 | a::l,j+1,i,h,hi=>by
  have h':j<l.length:=by simpa using h
  simp only[avs]
  rw[List.getElem?_append_right (by simp[AV.cs];omega)]
  have:=zkr l j i h' hi
  have e:(j+1)*4+i-a.cs.length=j*4+i:=by simp[AV.cs];omega
  rw[e,this]
  simp
theorem zpg {v:Value}{l:List AV}(h:w.ownsRow base 26 4 v n (avs l))(C:∀a∈l,a.t.size<=maxLen):∃c b,v=.slice c n b/\n=l.length/\n<=maxLen/\zbq w c l:=by
 have y:n=l.length:=by have:=h.1;rw[zg1]at this;omega
 rcases h.2 with⟨rfl,z⟩|⟨g,b,D,rfl,B⟩;have s:l=[]:=eN_ (by omega);subst z s;exact⟨none,0,rfl,rfl,by decide,⟨.inl rfl,λp A=>by cases A⟩⟩;refine⟨some (p_ g 0),b,rfl,y,?_,⟨.inr ⟨g,0,rfl,λj u=>?_⟩,C⟩⟩;obtain⟨_,_,q,r,_⟩:=B;exact nT_ q r;have e:∀i,i<4->w.cell? (p_ g (j*4+i))=(l.getD j .z).cs[i]?:=λi t=>by rw[World.ownsRow.cellAt h (j*4+i) (by omega),zkr l j i u t]
 have d:=e 0 (by omega);have f:=e 1 (by omega);have m:=e 2 (by omega);have o:=e 3 (by omega);simp only[zA_];exact⟨d,f,m,o⟩
theorem zsu (t:ByteArray):(!t.toList.isEmpty)=decide (t.size≠0):=by
 have h:t.size=t.toList.length:=by rw[ByteArray.toList_eq];rfl
 rw[h];cases t.toList<;>simp
theorem zuE (n:Int):(n != 0)=decide (n≠0):=by
 by_cases h:n=0<;>simp[h]
def zh9 (f h:Bool):Bool:=f&&!h
def zia (f0 f1 f2 h0 h1 h2:Bool)(m:Nat):Bool:=(decide (0<m)&&zh9 f0 h0)||(decide (1<m)&&zh9 f1 h1)||(decide (2<m)&&zh9 f2 h2)
theorem zqw (k n p:Int)(t:ByteArray)(w:World)(E:1<=k/\k<=10)(z:zcw w) :
  Calls prog 25 #[.agg #[I_ k,I_ n,I_ p,.string t]] w λe w'=>e=.returned (.bool (zja k n p t.size))/\B_ w w':=by
 obtain⟨j,rfl⟩:∃j:Nat,k=j:=⟨k.toNat,by omega⟩;have u:1<=j:=by omega
 have y:j<=10:=by omega
 have D:=z.lt;have c:=z.alloc (.cells #[I_ j,I_ n,I_ p,.string t] 26);have A:=c.node j u y;have B:=c.pick j u y;have C:=c.text j u y;have b:Hid (zja j n p t.size=zia (n != 0) (p != 0) (!t.toList.isEmpty) (hN j) (hP j) (Go.Proofs.YtpnpikpmdfipfaaGreatDoor.hT j) 3):=by
  show _=_;rw[zsu,zuE,zuE];simp[zja,zia,zh9]
 generalize hN j=g at*;generalize hP j=l at*;generalize Go.Proofs.YtpnpikpmdfipfaaGreatDoor.hT j=o at*;go_in;go_wp2_with fail
 generalize (n != 0)=q at*;generalize (p != 0)=r at*;generalize (!t.toList.isEmpty)=s at*;clear A B C c;go_loop [21] (λi=>∃m:Nat,m<=3/\i=I_ m/\Hid (zia q r s g l o m=false)) (λi=>3-(intOf i).toNat)
 case atStart=>exact⟨0,by omega,rfl,by show _=_;simp[zia]⟩
 case round=>
  obtain⟨m,F,rfl,f⟩:=hrel;have d:B_ w (((w.alloc (.cells #[I_ j,I_ n,I_ p,.string t] 26)).alloc (.cells #[.bool g,.bool l,.bool o] 103)).alloc (.cells #[.bool q,.bool r,.bool s] 103)):=
   ((((bR_ _ _).alloc (nR_ _) _).alloc (by simp) _).alloc (by simp;omega) _)
  obtain rfl|rfl|rfl|rfl:m=0\/m=1\/m=2\/m=3:=by omega
  .cases q<;>cases g
   all_goals
    go_wp2_with fail
    first
    | (go_ret;exact⟨zN (by rw[b.out];simp[zia,zh9]),d⟩)
    | (
     go_round
     case rel=>exact⟨1,by omega,by go_num,by have:=f.out;show _=_;simp[zia,zh9]at this|-;first|done|simp_all⟩
     case measure=>simp[intOf])
  .cases r<;>cases l
   all_goals
    go_wp2_with fail
    first
    | (go_ret;exact⟨zN (by rw[b.out];simp[zia,zh9]),d⟩)
    | (
     go_round
     case rel=>exact⟨2,by omega,by go_num,by have:=f.out;show _=_;simp[zia,zh9]at this|-;first|done|simp_all⟩
     case measure=>simp[intOf])
  .cases s<;>cases o
   all_goals
    go_wp2_with fail
    first
    | (go_ret;exact⟨zN (by rw[b.out];simp[zia,zh9]),d⟩)
    | (
     go_round
     case rel=>exact⟨3,by omega,by go_num,by have:=f.out;show _=_;simp[zia,zh9]at this|-;first|done|simp_all⟩
     case measure=>simp[intOf])
  go_wp2_with fail
  go_ret;exact⟨zN (by rw[b.out];exact f.out.symm),d⟩
theorem zj8 (k n p:Int)(t:ByteArray)(w:World)(q:t.size<=maxLen)(g:zcw w) :
  Calls prog 15 #[.agg #[I_ k,I_ n,I_ p,.string t]] w λe w'=>e=.returned (I_ (zeS k n p t.size))/\B_ w w':=by
 unfold maxLen at q;have c:=zC w (.cells #[I_ k,I_ n,I_ p,.string t] 26);by_cases h1:k<1\/10<k
 .have b:Hid (zeS k n p t.size=3):=by show _=_;simp[zeS,h1]
  rcases Int.lt_or_le k 1 with a|a
  all_goals
   go_in;go_wp2_with fail
   go_ret;exact⟨zt b.out.symm,c⟩
 have r:¬k<1:=by omega
 have s:¬10<k:=by omega
 by_cases h2:n<0\/4<=n
 .have b:Hid (zeS k n p t.size=2):=by show _=_;simp[zeS,h1,h2]
  rcases Int.lt_or_le n 0 with a|a
  all_goals
   go_in;go_wp2_with fail
   go_ret;exact⟨zt b.out.symm,c⟩
 have u:¬n<0:=by omega
 have y:¬4<=n:=by omega
 by_cases h3:p<0\/400000<p
 .have b:Hid (zeS k n p t.size=2):=by show _=_;simp[zeS,h1,h2,h3]
  rcases Int.lt_or_le p 0 with a|a
  all_goals
   go_in;go_wp2_with fail
   go_ret;exact⟨zt b.out.symm,c⟩
 have z:¬p<0:=by omega
 have A:¬400000<p:=by omega
 by_cases h4:4000<t.size
 .have b:Hid (zeS k n p t.size=1):=by show _=_;simp[zeS,h1,h2,h3,h4]
  have C:(4000:Int)<t.size:=by omega
  go_in;go_wp2_with fail
  go_ret;exact⟨zt b.out.symm,c⟩
 have B:¬(4000:Int)<t.size:=by omega
 have b:Hid (zeS k n p t.size=if zja k n p t.size=true then 4 else 0):=by show _=_;simp[zeS,h1,h2,h3,h4]
 clear h1 h2 h3 h4;have d:=zqw k n p t (w.alloc (.cells #[I_ k,I_ n,I_ p,.string t] 26)) (by omega) (g.alloc _);generalize o:zja k n p t.size=m at d b;clear o;go_in;go_wp2_with fail
 refine d.mono ?_;rintro _ D⟨rfl,j⟩;dsimp only;have f:=c.trans (j.mono (by simp));cases m
 all_goals
  go_wp2_with fail
  go_ret;exact⟨zt (by rw[b.out];rfl),f⟩
def pk (n m:Int):Int:=if n<0 then -(n+1) % m else n % m
theorem zW (n m:Int)(b:0<m):0<=pk n m/\pk n m<m:=by
 unfold pk;split
 all_goals exact⟨Int.emod_nonneg _ (by omega),Int.emod_lt_of_pos _ b⟩
theorem zaV (n m:Int)(w:World)(c:-9223372036854775808<=n)(d:n<=9223372036854775807)(f:0<m)(j:m<=9223372036854775807) :
  Calls prog 9 #[I_ n,I_ m] w λe w'=>e=.returned (I_ (pk n m))/\w=w':=by
 have g:(m == 0)=false:=beq_eq_false_iff_ne.2 (by omega);by_cases h:n<0;have b:Hid (pk n m=-((n+1).tmod m)):=by
  show _=_;rw[pk,iP_ h,<-Int.neg_tmod,Int.tmod_eq_emod_of_nonneg (by omega)]
 rotate_left
 have b:Hid (pk n m=n % m):=iN_ h
 rotate_left
 all_goals
  go_in
  go_wp2
  go_ret;exact⟨zt b.out.symm,rfl⟩
end Go.Proofs.YtpnpikpmdfipfaaGreatDoor
