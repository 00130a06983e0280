import Derived.Test.YtffaeaonobmmjaaGreatDoorPk15
set_option maxRecDepth 100000
set_option maxHeartbeats 4000000
namespace Go.Proofs.YtffaeaonobmmjaaGreatDoor
open Go.RowKit Tryz
variable {w w':World}{n B n1 s1:Nat}{xs:List Value}{v':Value}
theorem zj7:(prog.info? 44).map (λi=>(i.zero,i.size,i.bytes))=some (some (.agg #[I_ 0,I_ 0,O_]),3,40):=by kernel_rfl
theorem zeR {b:Nat}{e:TypeId}{d:Nat}{v:Value}(h:w.ownsRow B e d v n xs)(m:b<=B):w.ownsRow b e d v n xs:=⟨h.1,h.2.imp id (λ⟨g,c,f,j,l,r⟩=>⟨g,c,f,j,nT_ m l,r⟩)⟩
def bcl (l:List Bc):List Value:=l.flatMap Bc.cs
theorem zmG (a b:List Bc):bcl (a++b)=bcl a++bcl b:=by simp[bcl]
theorem zpd (a:Bc)(b:List Bc):bcl (a::b)=a.cs++bcl b:=by simp[bcl]
theorem zz4 (l:List Bc):(bcl l).length=l.length*3:=by
 induction l with
 | nil=>rfl
 | cons x r ih=>rw[zpd,lP_,ih];simp[Bc.cs];omega
theorem zrb (l:List Bc)(j i:Nat)(h:j<l.length)(b:i<3):(bcl l)[j*3+i]? = (l[j]).cs[i]?:=by
 induction l generalizing j with
 | nil=>cases h
 | cons x r ih=>
  cases j with
  | zero=>
   rw[zpd,Nat.zero_mul,zA_,List.getElem?_append_left (by simp[Bc.cs];exact b)];rfl
  | succ j=>
   have h':j<r.length:=by simpa using h
   rw[zpd,List.getElem?_append_right (by simp[Bc.cs];omega)];have e:(j+1)*3+i-x.cs.length=j*3+i:=by simp[Bc.cs];omega
   rw[e,ih j h'];rfl
theorem zpe (b:Bc):∀u∈b.cs,u.oneCell'=true:=by
 intro u c;simp[Bc.cs]at c;rcases c with rfl|rfl|rfl<;>rfl
theorem zBO (l:List Bc):∀u∈bcl l,u.oneCell'=true:=by
 intro u c;obtain⟨b,_,h⟩:=List.mem_flatMap.1 c;exact zpe b u h
theorem zAH {v:Value}{bl:List Bc}(h:w.ownsRow B 44 3 v n (bcl bl))(d:∀b∈bl,zcN w b):∃l c,v=.slice l n c/\n=bl.length/\zgq w l bl:=by
 have f:n=bl.length:=by have:=h.1;rw[zz4]at this;omega
 rcases h.2 with⟨rfl,q⟩|⟨g,c,r,rfl,s⟩;have m:bl=[]:=eN_ (by omega);subst m q;exact⟨none,0,rfl,f,⟨.inl rfl,d⟩⟩;refine⟨some (p_ g 0),c,rfl,f,⟨.inr ⟨g,0,rfl,λj p=>?_⟩,d⟩⟩;have e:∀i,i<3->w.cell? (p_ g (0+j*3+i))=(bl[j]).cs[i]?:=λi o=>by rw[show 0+j*3+i=j*3+i by omega,World.ownsRow.cellAt h (j*3+i) (by omega),zrb bl j i p o]
 exact⟨e 0 (by omega),e 1 (by omega),e 2 (by omega)⟩
theorem zBu {p c:Nat}{bl:List Bc}(h:zgq w (some (p_ p c)) bl):∀j u,(bcl bl)[j]? = some u->w.cell? ((p_ p c:Addr).add j)=some u:=by
 intro j u l;have y:j<bl.length*3:=by
  rcases lG_ j (bl.length*3)with g|g;exact g;rw[List.getElem?_eq_none (by rw[zz4];exact g)]at l;cases l
 rcases h.cells with f|⟨A,B,e,f⟩;subst f;simp at y;cases e;have o:j / 3<bl.length:=by omega
 have b:=zrb bl (j / 3) (j % 3) o (by omega);have q:j / 3*3+j % 3=j:=by omega
 rw[q,l]at b;obtain⟨r,s,t⟩:=f (j / 3) o;rw[zaP];have z:j % 3=0\/j % 3=1\/j % 3=2:=by omega
 rcases z with m|m|m;rw[m]at b;have d:j=j / 3*3:=by omega
 rw[d,r];exact b.symm;rw[m]at b;have d:c+j=c+j / 3*3+1:=by omega
 rw[d,s];exact b.symm;rw[m]at b;have d:c+j=c+j / 3*3+2:=by omega
 rw[d,t];exact b.symm
theorem zfA {d j C D:Nat}{b f:TypeId}{u v:Value}{ys:List Value}(h:w.ownsRow d b s1 u n1 xs)(p:w.ownsRow j f D v C ys)(z:b≠f)(G:zV w v w' v'):w'.ownsRow d b s1 u n1 xs:=by
 have s:∀q,u.ownBlock=some q->q<w.heap.size/\v.ownBlock≠some q:=λq e=>⟨(h.lt q e).2,zcu h p z q e⟩;obtain⟨o,c⟩:=h;refine⟨o,?_⟩;rcases c with c|⟨g,l,m,rfl,y,t,r⟩;exact .inl c;obtain⟨A,B⟩:=s g rfl;exact .inr ⟨g,l,m,rfl,y,(G.grown.block g A (λe=>B e.symm)).trans t,r⟩
variable {U:Nat->Bool}{F o:Nat}{fc:X_}{T:TypeId}{x:NM}{m:FM}
structure Vw where
 (up:Bool) (rd:Int) (cs:List CV) (bs:List BW) (vt:List SV) (tx:Z_)
def Vw.z:Vw:=⟨false,0,[],[],[],[]⟩
def Fl.view (f:Fl)(i:Int):Vw:=if i=f.no.bad then Vw.z else⟨(f.node i).up,zdi (f.node i).k.dag,(f.node i).k.dag,(f.node i).k.sh,(f.node i).k.tab,(f.node i).txs⟩
structure Vm where
 (up:Bool) (rd:Int) (ca:Q_) (cc:Nat) (ls:List Ct) (ba:Q_) (bc:Nat) (bl:List Bc) (ta:Q_) (tc:Nat) (tab:List Sl) (pa:Q_) (pc:Nat) (txs:Z_)
abbrev vrow_ (x:Vm):X_:=#[.bool x.up,.int .i64 x.rd,.slice x.ca x.ls.length x.cc,.slice x.ba x.bl.length x.bc,.slice x.ta x.tab.length x.tc,.slice x.pa x.txs.length x.pc]
def Vm.v (x:Vm):Vw:=⟨x.up,x.rd,zI x.ls,x.bl.map (·.v),vs x.tab,x.txs⟩
def Vm.cs (x:Vm):List Value:=[.bool x.up,I_ x.rd,.slice x.ca x.ls.length x.cc,.slice x.ba x.bl.length x.bc,.slice x.ta x.tab.length x.tc,.slice x.pa x.txs.length x.pc]
structure zfX (w:World)(x:Vm):Prop where
 rc:w.ownsRow 0 66 5 (.slice x.ca x.ls.length x.cc) x.ls.length (ctv x.ls)
 ec:∀c∈x.ls,za7 w c
 rb:w.ownsRow 0 44 3 (.slice x.ba x.bl.length x.bc) x.bl.length (bcl x.bl)
 eb:∀b∈x.bl,zcN w b
 rt:w.ownsRow 0 63 3 (.slice x.ta x.tab.length x.tc) x.tab.length (slv x.tab)
 et:∀s∈x.tab,zg w s.p.sa s.p.cap s.p.bs
 tx:zbu w x.pa x.pc x.txs
theorem zfX.below {x:Vm}(h:zfX w x)(d:B_ w w'):zfX w' x:=
 ⟨zw h.rc d,λc f=>(h.ec c f).below d,zw h.rb d,λb k=>(h.eb b k).below d,zw h.rt d,λs k=>(h.et s k).below d,h.tx.below d⟩
theorem zwg (w:World):zfX w ⟨false,0,none,0,[],none,0,[],none,0,[],none,0,[]⟩:=
 ⟨oN_ _ _ _ _,(λc b=>by cases b),oN_ _ _ _ _,(λc b=>by cases b),oN_ _ _ _ _,(λc b=>by cases b),⟨nR_ _,nZ_ _,(λ_=>rfl),zhL _⟩⟩
def zcm (m:FM)(i:Nat)(v:Vm):Prop:=
 if(i:Int)=m.bad then v=⟨false,0,none,0,[],none,0,[],none,0,[],none,0,[]⟩
 else(m.x i).vc=.slice v.ca (m.x i).ls.length v.cc/\v=⟨(m.x i).up,zdi (zI (m.x i).ls),v.ca,v.cc,(m.x i).ls,v.ba,v.bc,(m.x i).sh.map (·.b),(m.x i).ta,(m.x i).tc,(m.x i).tab,(m.x i).pa,(m.x i).pc,(m.x i).txs⟩
theorem zuD {i:Nat}(h:¬(i:Int)=m.bad)(b:i<4):m.v.view i=⟨(m.x i).up,zdi (zI (m.x i).ls),zI (m.x i).ls,shw (m.x i).sh,vs (m.x i).tab,(m.x i).txs⟩:=by
 unfold Fl.view;rw[iN_ (show ¬(i:Int)=m.v.no.bad from h),m.node_v i b]
 rfl
theorem zcm.is {i:Nat}{v:Vm}(h:zcm m i v)(hi:i<4):v.v=m.v.view i:=by
 unfold zcm at h;by_cases e:(i:Int)=m.bad;rw[iP_ e]at h;rw[h];exact(iP_ e:m.v.view i=_).symm;rw[iN_ e]at h;rw[zuD e hi,h.2];simp[Vm.v,shw]
theorem zcm.at {i:Nat}{v:Vm}(h:zcm m i v)(y:i<4)(u:zJ w U F fc m){B:Nat}(q:w.ownsRow B 44 3 (.slice v.ba v.bl.length v.bc) v.bl.length (bcl v.bl)):zfX w v:=by
 unfold zcm at h;by_cases e:(i:Int)=m.bad;rw[iP_ e]at h;rw[h];exact zwg w;rw[iN_ e]at h;obtain⟨p,f⟩:=h;have d:=u.nd i y;have g:=zK U w;have j:=d.stk.rc;rw[p]at j;have o:=zeR q (nZ_ _);generalize v.ca=z at f j;generalize v.cc=A at f j;rw[f]at o;rw[f];refine⟨j,λc t=>(d.stk.ec c t).sub g,o,λb r=>?_,d.rtb,λs l=>(d.etb s l).sub g,d.etx.sub g⟩;obtain⟨s,l,rfl⟩:=mM_.1 r;exact(d.esh s l).b.sub g
theorem zyJ {b d:Q_}{c f:Nat}(h:zo w U F o T fc x)(j:zee w x.s x.ls b c d f x.ds):x.vc=.slice b x.ls.length c:=by
 have e:=h.stk.box.symm.trans j.box;simp only[Option.some.injEq,Obj.cells.injEq]at e;have g:=cA_ (λa:X_=>a[0]?) e.1
 simpa using g
theorem zyK (h:zo w U F o T fc x):x.sh.length<=800:=by
 have:=h.inv.sh
 simpa[NM.v,shw]using this
theorem zhQ {z:X_}(h:R_ w B z T){n:Nat}(c:z.size=n):w.there B 0 n:=λj b=>by
 subst c
 rw[zA_]
 exact⟨by rw[zb h j (z[j]) (Array.getElem?_eq_getElem b)];rfl,zd h _⟩
theorem zi9 (b:List Value){w:World}{B:Nat}{z:X_}{T:TypeId}(h:R_ w B z T)(c:z.size=b.length):(w.setCells B 0 b).heap[B]? = some (.cells b.toArray T (0,0)):=by
 rw[zb7 b w z 0 h];have e:zd4 z 0 b=b.toArray:=by
  refine Array.ext_getElem? (λj=>?_);by_cases hj:j<b.length;have:=zg8 b z 0 j hj (by omega);rw[zA_]at this;rw[this];simp;rw[Array.getElem?_eq_none (by rw[zcW];omega),Array.getElem?_eq_none (by simp;omega)]
 rw[e]
theorem zbQ {b j:Nat}{u:Value}(c:w'.heap[b]? = w.heap[b]?)(h:C_ w b j u):C_ w' b j u:=(cB_ c).trans h
theorem ze5 (d:n<=B):∀(c:List Value) (V:World) (o:Nat),Below n w V->Below n w (V.setCells B o c):=λc=>by
 induction c with
 | nil=>intro V o b;exact b
 | cons u r ih=>intro V o b;exact ih _ _ (b.setCell d _)
theorem zck:(prog.info? 42).map (·.size)=some 6:=by kernel_rfl
theorem zns (i:Nat)(hi:i<4)(m:FM)(w:World)(U:Nat->Bool)(F:Nat)(fc:X_)(h:zJ w U F fc m) :
  Calls prog 47 #[P_ F 0,I_ i] w λe w'=>∃v:Vm,e=.returned (.agg v.cs.toArray)/\zcm m i v/\w'.ownsRow w.heap.size 44 3 (.slice v.ba v.bl.length v.bc) v.bl.length (bcl v.bl)/\B_ w w':=by
 refine kO_ ?A0 ?_;exact Obj.cells #[.bool false,I_ 0,O_,O_,O_,O_] 42;have aa:=zC w ?A0;have L:=hN_ w ?A0;go_in;go_upto_region 1 with fail
 generalize w.alloc ?A0=w0 at aa L|-;have h0:=h.below aa;have HB:=zld m i w0 U F fc h0;go_wp2_with fail
 refine HB.mono ?_;rintro e D⟨he,hw⟩;subst he hw;dsimp only;clear HB;by_cases eb:(i:Int)=m.bad
 .rw[dT_ eb];have HV:Hid (zcm m i ⟨false,0,none,0,[],none,0,[],none,0,[],none,0,[]⟩):=by show zcm _ _ _;unfold zcm;rw[iP_ eb]
  clear eb;go_wp2_with (refine wS_ rfl 42 _ _ rfl w.heap.size #[.bool false,I_ 0,O_,O_,O_,O_] rfl rfl 42 _ L zck rfl (by simp[Value.oneCell']) ?_)
  refine bP_ (v:=.agg #[.bool false,I_ 0,O_,O_,O_,O_]) (rC_ (fn:=Tryz.f47) (p:=4) (ty:=42) rfl _ _ w.heap.size 42 _ (0,0) _ rfl (sH_ _ _ _ _ _ _ L) underlying42 rfl zck) rfl ?_;exact⟨⟨false,0,none,0,[],none,0,[],none,0,[],none,0,[]⟩,rfl,HV.out,oN_ _ _ _ _,(Upd.setRow L).below aa aa.size (by omega)⟩
 rw[dF_ eb];go_upto_region 4 with fail
 have ac:=h0.nd i hi;obtain⟨b,c,da,dc,aV⟩:=ac.stkAt;have aX:=zyJ ac aV;have HX:Hid (∀V:World,B_ D V->zo V U F (i*19) 106 fc (m.x i)):=λV hV=>ac.below hV;have HV:Hid (∀(r:Int) (d:Q_) (f:Nat),r=zdi (zI (m.x i).ls)->zcm m i ⟨(m.x i).up,r,b,c,(m.x i).ls,d,f,(m.x i).sh.map (·.b),(m.x i).ta,(m.x i).tc,(m.x i).tab,(m.x i).pa,(m.x i).pc,(m.x i).txs⟩):=by
  show ∀r,_;intro r d f hr;unfold zcm;rw[iN_ eb];exact⟨aX,by rw[hr]⟩
 have HS:Hid (∀V:World,B_ D V->zee V (m.x i).s (m.x i).ls b c da dc (m.x i).ds):=λV hV=>aV.below hV;have HD:Hid (zbV (zI (m.x i).ls)=0):=ac.inv.dag;have u_:=ac.cell 1 _ rfl;have p_:=ac.cell 3 _ rfl;have t_:=ac.cell 5 _ rfl;have d_:=ac.cell 6 _ rfl;have c4:=ac.cell 4 _ rfl;have aU:=ze ac.blk;have a3:=zyK ac;clear aV ac aX eb h0 h;generalize m.x i=x at*;have aG:=dB_ D;have aT:=dC_ u_;have aR:=dC_ p_;have aS:=dC_ t_;have aQ:=dC_ d_;refine kV_ ?B0 ?_;exact Value.slice x.pa x.txs.length x.pc;refine kV_ ?C0 ?_;exact Value.slice x.ta x.tab.length x.tc;refine wR_ (S:=λw'=>C_ w' F (i*19+1) (.bool x.up)/\C_ w' F (i*19+3) ?B0/\C_ w' F (i*19+5) ?C0/\C_ w' F (i*19+6) (P_ x.s 0)) (by kernel_rfl) ⟨aT,aR,aS,aQ⟩ (λt=>?_);generalize D.drew=V0 at aG aT aR aS aQ t|-;refine tks_ 21 [(0,18,(P_ F (i*19))),(1,19,(P_ F (i*19))),(2,20,(P_ F (i*19+1))),(3,21,.bool x.up),(4,22,(P_ F (i*19))),(5,23,(P_ F (i*19))),(6,24,(P_ F (i*19+6))),(7,25,(P_ x.s 0)),(9,27,(P_ F (i*19))),(10,28,(P_ F (i*19))),(11,29,(P_ F (i*19+6))),(12,30,(P_ x.s 0)),(14,32,(P_ F (i*19))),(15,33,(P_ F (i*19))),(16,34,(P_ F (i*19+5))),(17,35,.slice x.ta x.tab.length x.tc),(18,36,(P_ F (i*19))),(19,37,(P_ F (i*19))),(20,38,(P_ F (i*19+2))),(21,39,(P_ F (i*19+3))),(22,40,.slice x.pa x.txs.length x.pc)] t ?_;simp only[tkf_,zf];refine rY_ (rs:=[8,24]) (by kernel_rfl) (by simp) (rA_ rfl (λK9 u=>?_) (rA_ rfl (λK9 u=>?_) rN_));refine zj rfl 26 rfl 68 [.tmp 25] #[98] rfl [P_ x.s 0] rfl (eO_ func68) (λv w'=>∃r:Int,v=I_ r/\zgS (zI x.ls) r/\B_ V0 w') ((zj3 x.ls x.s b c da dc x.ds V0 (HS.out _ aG) HD.out).mono (λe w' k=>by obtain⟨r,k1,k2,k3⟩:=k;exact⟨_,k1,r,rfl,k2,k3⟩)) ?_;rintro v G⟨r,rfl,hN,Z⟩;have ak:=zm aG Z;have aC:=zr Z aT;have ax:=zr Z aR;have aA:=zr Z aS;have am:=zr Z aQ;refine u.out _ _ ⟨aC,ax,aA,am⟩ (λt=>?_);simp only[zf];clear Z;refine rY_ (rs:=[13,24]) (by kernel_rfl) (by simp) (rA_ rfl (λK9 u=>?_) (rA_ rfl (λK9 u=>?_) rN_));refine zj rfl 31 rfl 69 [.tmp 30] #[98] rfl [P_ x.s 0] rfl (eO_ func69) (λv w'=>v=.slice b x.ls.length c/\G=w') ((zfz x.ls x.s b c da dc x.ds G (HS.out _ ak)).mono (λe w' k=>⟨_,k.1,rfl,k.2⟩)) ?_;rintro v l⟨rfl,aw⟩;rw[<-aw];clear aw l;refine u.out _ _ ⟨aC,ax,aA,am⟩ (λt=>?_);simp only[zf];refine kV_ ?D0 ?_;exact Value.slice b x.ls.length c;refine zU 23 41 (.agg #[.bool x.up,I_ r,?D0,O_,?C0,?B0]) rfl rfl t ?_;simp only[zf];refine zE 24 rfl (λK9 u=>?_);have o:=zC G ?A0;have al:=zm ak o;have E:=hN_ G ?A0;have X:=ak.size;have af:=zr o aC;have ad:=zr o ax;have ae:=zr o aA;have ab:=zr o am;refine zy rfl 6 rfl (P_ G.heap.size 0) (G.alloc ?A0) (by go_simp) ?_;refine u.out _ _ ⟨af,ad,ae,ab⟩ (λt=>?_);simp only[zf];generalize G.alloc ?A0=l at o al E af ad ae ab t|-;clear o;generalize G.heap.size=B at E X|-
 rotate_left
 have o:=zC G ?A0;have al:=zm ak o;have E:=hN_ G ?A0;have X:=ak.size;have af:=zr o aC;have ad:=zr o ax;have ae:=zr o aA;have ab:=zr o am;refine zy rfl 6 rfl (P_ G.heap.size 0) (G.alloc ?A0) (by go_simp) ?_;refine u.out _ _ ⟨af,ad,ae,ab⟩ (λt=>?_);simp only[zf];generalize G.alloc ?A0=l at o al E af ad ae ab t|-;clear o;generalize G.heap.size=B at E X|-;refine zE 13 rfl (λK9 u=>?_);refine zj rfl 31 rfl 69 [.tmp 30] #[98] rfl [P_ x.s 0] rfl (eO_ func69) (λv w'=>v=.slice b x.ls.length c/\l=w') ((zfz x.ls x.s b c da dc x.ds l (HS.out _ al)).mono (λe w' k=>⟨_,k.1,rfl,k.2⟩)) ?_;rintro v V3⟨rfl,aw⟩;rw[<-aw];clear aw V3;refine u.out _ _ ⟨af,ad,ae,ab⟩ (λt=>?_);simp only[zf];refine zU 23 41 (.agg #[.bool x.up,I_ r,?D0,O_,?C0,?B0]) rfl rfl t ?_;simp only[zf]
 rotate_left
 have o:=zC V0 ?A0;have ak:=zm aG o;have E:=hN_ V0 ?A0;have X:=aG.size;have aC:=zr o aT;have ax:=zr o aR;have aA:=zr o aS;have am:=zr o aQ;refine zy rfl 6 rfl (P_ V0.heap.size 0) (V0.alloc ?A0) (by go_simp) ?_;refine u.out _ _ ⟨aC,ax,aA,am⟩ (λt=>?_);simp only[zf];generalize V0.alloc ?A0=G at o ak E aC ax aA am t|-;clear o;generalize V0.heap.size=B at E X|-;refine zE 8 rfl (λK9 u=>?_);refine zj rfl 26 rfl 68 [.tmp 25] #[98] rfl [P_ x.s 0] rfl (eO_ func68) (λv w'=>∃r:Int,v=I_ r/\zgS (zI x.ls) r/\B_ G w') ((zj3 x.ls x.s b c da dc x.ds G (HS.out _ ak) HD.out).mono (λe w' k=>by obtain⟨r,k1,k2,k3⟩:=k;exact⟨_,k1,r,rfl,k2,k3⟩)) ?_;rintro v l⟨r,rfl,hN,Z⟩;have al:=zm ak Z;have af:=zr Z aC;have ad:=zr Z ax;have ae:=zr Z aA;have ab:=zr Z am;have E:=zk Z E;refine u.out _ _ ⟨af,ad,ae,ab⟩ (λt=>?_);simp only[zf];clear Z;refine zE 13 rfl (λK9 u=>?_);refine zj rfl 31 rfl 69 [.tmp 30] #[98] rfl [P_ x.s 0] rfl (eO_ func69) (λv w'=>v=.slice b x.ls.length c/\l=w') ((zfz x.ls x.s b c da dc x.ds l (HS.out _ al)).mono (λe w' k=>⟨_,k.1,rfl,k.2⟩)) ?_;rintro v V3⟨rfl,aw⟩;rw[<-aw];clear aw V3;refine u.out _ _ ⟨af,ad,ae,ab⟩ (λt=>?_);simp only[zf];refine zU 23 41 (.agg #[.bool x.up,I_ r,?D0,O_,?C0,?B0]) rfl rfl t ?_;simp only[zf]
 rotate_left
 all_goals
  refine zE 25 rfl (λK9 u=>?_);have q4:=zi9 [.bool x.up,I_ r,?D0,O_,?C0,?B0] E rfl;have Y:=ze5 X [.bool x.up,I_ r,?D0,O_,?C0,?B0] l 0 al;have I:(l.setCells B 0 [.bool x.up,I_ r,?D0,O_,?C0,?B0]).heap[F]? = l.heap[F]?:=zbl _ l 0 (Nat.ne_of_lt (nL_ aU X));have aD:=zbQ I af;have ay:=zbQ I ad;have aB:=zbQ I ae;have an:=zbQ I ab;refine zd5 rfl rfl 42 (.tmp 6) (.tmp 41) rfl B 0 #[.bool x.up,I_ r,?D0,O_,?C0,?B0] rfl rfl (zhQ E rfl) zck (by simp[Value.oneCell']) ?_;refine u.out _ _ ⟨aD,ay,aB,an⟩ (λt=>?_);clear t;refine wD_ (by kernel_rfl) ?_ _;generalize l.setCells B 0 [.bool x.up,I_ r,?D0,O_,?C0,?B0]=W4 at Y q4|-;clear E I aD ay aB an;have aE:=(HX.out W4 Y).cell 4 _ rfl;obtain⟨ib,aL,aI,aJ,aK⟩:=info_parts zj7;have aM:Hid (r=zdi (zI x.ls)):=hN.one (zhs HD.out);clear hN u_ p_ t_ d_ c4 HS HD;go_wp2_with fail
  clear aE;go_loopw [47] (λj wr=>∃(k:Nat) (M:Value),k<=x.sh.length/\j=I_ k/\wr.ownsRow D.heap.size 44 3 M k (bcl ((x.sh.take k).map (·.b)))/\R_ wr B #[.bool x.up,I_ r,?D0,M,?C0,?B0] 42/\Hid (M.ownBlock≠some B)/\B_ D wr) (λj _=>x.sh.length-(intOf j).toNat)
  case atStart=>exact⟨0,O_,nZ_ _,rfl,oN_ _ _ _ _,q4,by show _≠_;simp[Value.ownBlock],Y⟩
  case round=>
   obtain⟨k,M,hk,rfl,J,qB,aq,y⟩:=hrel;clear q4 Y;obtain⟨d,f,hv⟩:=zH J;subst hv;by_cases hlt:k<x.sh.length
   .have aW:(k:Int)<x.sh.length:=by omega
    obtain⟨sb,so,aO,c0,c1,c2,c3⟩:=(HX.out wr y).shs.at k hlt;have HT:Hid ((x.sh.take (k+1)).map (·.b)=(x.sh.take k).map (·.b)++[(x.sh[k]).b]):=by
     show _=_;rw[tS_ hlt,List.map_append];rfl
    rw[aO];generalize x.sh[k]=s at*;have O:=zC wr (.cells #[I_ s.b.v.au,I_ s.b.v.nu,.slice s.b.ta s.b.v.ss.length s.b.tc,.slice s.d.sa s.d.bs.length s.d.cap] 139);have z:=hN_ wr (.cells #[I_ s.b.v.au,I_ s.b.v.nu,.slice s.b.ta s.b.v.ss.length s.b.tc,.slice s.d.sa s.d.bs.length s.d.cap] 139);go_upto_region 8 with fail
    generalize wr.alloc (.cells #[I_ s.b.v.au,I_ s.b.v.nu,.slice s.b.ta s.b.v.ss.length s.b.tc,.slice s.d.sa s.d.bs.length s.d.cap] 139)=H at O z|-;have R:=O;have ag:=ze qB;have aF:=nL_ ag O.size;generalize wr.heap.size=S9 at z|-;clear O;have T:=y.trans (R.mono y.size);have au:=zw J R;have az:=(R.block B ag).trans qB;have a0:=zb z 0 _ rfl;have a1:=zb z 1 _ rfl;have a2:=zb z 2 _ rfl;have b3:=zb az 3 _ rfl;clear c0 c1 c2 c3 z qB J R ag;go_wp2_with (at_builtin;refine wpList_append_own_at _ rfl _ _ 38 rfl D.heap.size 44 ib (.agg #[I_ 0,I_ 0,O_]) 3 40 underlying38 aL aI aJ aK rfl (by decide) (.slice d k f) k _ rfl (oA_ au _) (p_ H.heap.size 0) 1 1 s.b.cs rfl rfl (zag _ _ _) (zpe _) (by unfold maxLen;omega) (by omega) (zB T.size _) ?_;intro v5 w5 av ap _ aH;obtain⟨A,C,aP⟩:=zH av;subst aP;have G5:=zV.of ap aH;have ai:=G5.row ((((bR_ H.heap.size H).alloc (nR_ _) _).block B aF).trans az) aq.out;have aY:C_ w5 B 3 (.slice d k f):=zb ai 3 _ rfl;have aZ:=zd ai 3)
    have ar:(Value.slice A (k+1) C).ownBlock≠some B:=λe=>by
     rcases G5.fresh B e with g|g
     .exact aq.out g
     .simp at g;omega
    have q9:=zbb (j:=3) ai (.slice A (k+1) C);simp only[List.setIfInBounds_toArray,List.set_cons_zero,List.set_cons_succ]at q9;have o9:=zu av (w':=w5.setCell (p_ B 3) (.slice A (k+1) C)) (λq e=>hO_ _ (p_ B 3) q _ (λN=>ar (by have N:q=B:=N;rw[<-N];exact e)));have b9:=(Below.grown (T.alloc T.size _) ap (zB T.size _) (λq e=>(au.lt q e).1)).setCell (p:=p_ B 3) X (.slice A (k+1) C);have h9:Hid ((Value.slice A (k+1) C).ownBlock≠some B):=ar;go_roundw
    case rel=>
     exact⟨k+1,(.slice A (k+1) C),by omega,by go_num,by rw[HT.out,zmG];simpa[bcl]using o9,q9,h9,b9⟩
    case measure=>simp[intOf];omega
   .obtain rfl:k=x.sh.length:=by omega
    have aj:=(y.block w.heap.size (ze L)).trans L;have aN:wr.rangeAt B 0 [.bool x.up,I_ r,?D0,.slice d x.sh.length f,?C0,?B0]:=λj v hv=>by rw[zA_];exact zb qB j v (by simpa using hv)
    have ao:=(Upd.setRow (cs:=#[.bool x.up,I_ r,?D0,.slice d x.sh.length f,?C0,?B0]) aj).below (aa.trans (y.mono aa.size)) (Nat.le_of_lt (nL_ (ze L) y.size)) (nR_ _);have ah:=zu J (w':=wr.setRow w.heap.size #[.bool x.up,I_ r,?D0,.slice d x.sh.length f,?C0,?B0]) (λq e=>sO_ _ _ _ _ (λN=>by have:=(J.lt q e).1;have:=ze L;omega));go_wp2_with (first|refine wpList_load_mid rfl 42 _ rfl B 0 rfl [.bool x.up,I_ r,?D0,.slice d x.sh.length f,?C0,?B0] _ aN underlying42 rfl zck ?_|refine wS_ rfl 42 _ _ rfl w.heap.size #[.bool x.up,I_ r,?D0,.slice d x.sh.length f,?C0,?B0] rfl rfl 42 _ aj zck rfl (by simp[Value.oneCell']) ?_)
    refine bP_ (v:=.agg #[.bool x.up,I_ r,?D0,.slice d x.sh.length f,?C0,?B0]) (rC_ (fn:=Tryz.f47) (p:=4) (ty:=42) rfl _ _ w.heap.size 42 _ (0,0) _ rfl (sH_ _ _ _ _ _ _ aj) underlying42 rfl zck) rfl ?_;generalize wr.setRow w.heap.size #[.bool x.up,I_ r,?D0,.slice d x.sh.length f,?C0,?B0]=WE at ao ah;rw[List.take_length]at ah;refine⟨_,by simp[Vm.cs],HV.out r d f aM.out,?_,ao⟩;show WE.ownsRow _ _ 3 (.slice d (x.sh.map (·.b)).length f) (x.sh.map (·.b)).length _;rw[List.length_map];exact zeR ah aa.size
structure Ou where
 (v0 v1 v2 v3:Vw) (sg:List GV) (aw:Nat) (cs:L_)
def Fl.told (f:Fl):Ou:=⟨f.view ((0:Nat):Int),f.view ((1:Nat):Int),f.view ((2:Nat):Int),f.view ((3:Nat):Int),f.no.sg,f.away.length,f.codes⟩
structure Om where
 (na:Q_) (nc:Nat) (y0 y1 y2 y3:Vm) (ga:Q_) (gc:Nat) (gs:List Sg) (aw:Nat) (ca:Q_) (cc:Nat) (cs:L_)
def Om.v (o:Om):Ou:=⟨o.y0.v,o.y1.v,o.y2.v,o.y3.v,zA o.gs,o.aw,o.cs⟩
def Om.cells (o:Om):List Value:=[.slice o.na 4 o.nc,.slice o.ga o.gs.length o.gc,I_ o.aw,.slice o.ca o.cs.length o.cc]
def vmv (l:List Vm):List Value:=l.flatMap Vm.cs
theorem zlh (l:List Vm)(y:Vm):vmv (l++[y])=vmv l++y.cs:=by simp[vmv]
theorem zpf (y:Vm):∀u∈y.cs,u.oneCell'=true:=by
 intro u b;simp only[Vm.cs,List.mem_cons,List.not_mem_nil,or_false]at b;rcases b with e|e|e|e|e|e<;>subst e<;>rfl
structure zex (w:World)(o:Om):Prop where
 nd:w.ownsRow 0 42 6 (.slice o.na 4 o.nc) 4 (vmv [o.y0,o.y1,o.y2,o.y3])
 e0:zfX w o.y0
 e1:zfX w o.y1
 e2:zfX w o.y2
 e3:zfX w o.y3
 sg:zdj w o.ga o.gc o.gs
 co:w.ownsRow 0 51 1 (.slice o.ca o.cs.length o.cc) o.cs.length (iv o.cs)
theorem zex.below {o:Om}(h:zex w o)(b:B_ w w'):zex w' o:=
 ⟨zw h.nd b,h.e0.below b,h.e1.below b,h.e2.below b,h.e3.below b,h.sg.below b,zw h.co b⟩
theorem zzk {l:List Vm}{a b c d:Vm}(h:l.length=4)(f:l[0]? = some a)(g:l[1]? = some b)(j:l[2]? = some c)(m:l[3]? = some d):l=[a,b,c,d]:=by
 match l,h with
 | [p,q,r,s],_=>
  simp at f g j m
  subst f g j m
  rfl
theorem zkq {b s:Nat}{e:TypeId}{v:Value}{c:X_}(h:w.ownsRow B e s v n xs)(d:v.ownBlock=some b)(m:R_ w b c T)(l:e≠T):False:=by
 rcases h.2 with⟨rfl,_⟩|⟨g,o,p,rfl,_,f,_⟩;cases d;have j:g=b:=Option.some.inj d;subst j;have:=f.symm.trans m;simp only[Option.some.injEq,Obj.cells.injEq]at this;exact l this.2.1
theorem zwh:(prog.info? 42).map (λi=>(i.zero,i.size,i.bytes))=some (some (.agg #[.bool false,I_ 0,O_,O_,O_,O_]),6,112):=by kernel_rfl
theorem zli:(prog.info? 34).map (·.size)=some 4:=by kernel_rfl
theorem zwi (m:FM)(w:World)(U:Nat->Bool)(F:Nat)(fc:X_)(h:zJ w U F fc m) :
  Calls prog 22 #[P_ F 0] w λe w'=>∃o:Om,e=.returned (.agg o.cells.toArray)/\zex w' o/\o.v=m.v.told/\B_ w w':=by
 refine kO_ ?D0 ?_;exact Obj.cells #[O_,O_,I_ 0,O_] 34;have aD:=zC w ?D0;have qR:=hN_ w ?D0;obtain⟨ti,aK,aL,aM,aN⟩:=info_parts zwh;go_in;go_upto_region 1 with fail
 generalize w.alloc ?D0=t at aD qR|-;have h1:=h.below aD;have g_:=h1.cell 77 h1.c77;have a_:=h1.cell 78 h1.c78;have k_:=h1.cell 79 h1.c79;have aS:=ze (h1.nd 0 (by decide)).blk;have Y:=dB_ t;have aB:=dC_ g_;have az:=dC_ a_;have aE:=dC_ k_;refine kV_ ?A0 ?_;exact Value.slice m.ga m.gs.length m.gc;refine kV_ ?B0 ?_;exact Value.slice m.ca m.cs.length m.cc;refine wR_ (S:=λw'=>C_ w' F 77 ?A0/\C_ w' F 78 (.slice m.aa m.aw.length m.ac)/\C_ w' F 79 ?B0) (by kernel_rfl) ⟨aB,az,aE⟩ (λc=>?_);generalize t.drew=R at Y aB az aE c|-;refine kV_ ?C0 ?_;exact I_ m.aw.length;refine tks_ 15 [(0,5,(P_ F 0)),(1,6,(P_ F 0)),(2,7,(P_ F 76)),(3,8,(P_ F 77)),(4,9,.slice m.ga m.gs.length m.gc),(5,10,(P_ F 0)),(6,11,(P_ F 0)),(7,12,(P_ F 78)),(8,13,.slice m.aa m.aw.length m.ac),(9,14,I_ m.aw.length),(10,15,(P_ F 0)),(11,16,(P_ F 0)),(12,17,(P_ F 79)),(13,18,.slice m.ca m.cs.length m.cc),(14,19,.agg #[O_,?A0,?C0,?B0])] c ?_;simp only[tkf_,zf];refine zE 15 rfl (λO l=>?_);have b:=zC R ?D0;have ab:=zm Y b;have G:=hN_ R ?D0;have ap:=Y.size;have aC:=zr b aB;have aA:=zr b az;have aF:=zr b aE;refine zy rfl 3 rfl (P_ R.heap.size 0) (R.alloc ?D0) (by go_simp) ?_;refine l.out _ _ ⟨aC,aA,aF⟩ (λc=>?_);simp only[zf];generalize R.alloc ?D0=f at b ab G aC aA aF c|-;clear b;generalize R.heap.size=B at G ap|-;refine zE 16 rfl (λO l=>?_);have q4:=zi9 [O_,?A0,?C0,?B0] G rfl;have aG:=ze5 ap [O_,?A0,?C0,?B0] f 0 ab;have f4:(f.setCells B 0 [O_,?A0,?C0,?B0]).heap[F]? = f.heap[F]?:=zbl _ f 0 (Nat.ne_of_lt (nL_ aS ap));have aP:=zbQ f4 aC;have aO:=zbQ f4 aA;have aR:=zbQ f4 aF;refine zd5 rfl rfl 34 (.tmp 3) (.tmp 19) rfl B 0 #[O_,?A0,?C0,?B0] rfl rfl (zhQ G rfl) zli (by simp[Value.oneCell']) ?_;refine l.out _ _ ⟨aP,aO,aR⟩ (λc=>?_);clear c;refine wD_ (by kernel_rfl) ?_ _;generalize f.setCells B 0 [O_,?A0,?C0,?B0]=W4 at aG q4|-;clear G f4 Y ab g_ a_ k_ aB aC aP az aA aO aE aF aR;go_wp2_with fail
 go_loopw [20] (λj wr=>∃(k:Nat) (vl:List Vm) (nv:Value),k<=4/\j=I_ k/\Hid (vl.length=k)/\Hid (∀j,j<k->∃v,vl[j]? = some v/\zcm m j v/\wr.ownsRow t.heap.size 44 3 (.slice v.ba v.bl.length v.bc) v.bl.length (bcl v.bl))/\wr.ownsRow t.heap.size 42 6 nv k (vmv vl)/\R_ wr B #[nv,?A0,?C0,?B0] 34/\Hid (nv.ownBlock≠some B)/\B_ t wr) (λj _=>4-(intOf j).toNat)
 case atStart=>exact⟨0,[],O_,by omega,rfl,by show _=_;rfl,by show ∀j,_;intro j z;omega,oN_ _ _ _ _,q4,by show _≠_;simp[Value.ownBlock],aG⟩
 case round=>
  obtain⟨k,vl,nv,hk,rfl,X,aI,ho,qB,aq,hb⟩:=hrel;clear q4 aG;obtain⟨I,J,hv⟩:=zH ho;subst hv;by_cases hlt:k<4
  .have aW:(k:Int)<4:=by omega
   go_upto_region 5 with fail
   have Y:=hb.drew;have aw:=zw ho (bR_ wr.heap.size wr).drew;have ak:wr.drew.heap[B]? = _:=qB;have ar:C_ wr.drew B 0 (.slice I k J):=zb ak 0 _ rfl;have Z:Hid (∀j,j<k->∃v,vl[j]? = some v/\zcm m j v/\wr.drew.ownsRow t.heap.size 44 3 (.slice v.ba v.bl.length v.bc) v.bl.length (bcl v.bl)):=by
    show ∀j,_;intro j z;obtain⟨v,r,s,d⟩:=aI.out j z;exact⟨v,r,s,zw d (bR_ wr.heap.size wr).drew⟩
   refine wR_ (S:=λ_=>True) (by kernel_rfl) trivial (λc=>?_);generalize wr.drew=R at Y aw ak ar Z c|-;clear aI ho qB hb;refine tks_ 3 [(0,23,(P_ B 0)),(2,25,(P_ F 0)),(3,26,I_ k)] c ?_;simp only[tkf_,zf];refine rY_ (rs:=[1,4]) (by kernel_rfl) (by simp) (rA_ rfl (λO l=>?_) (rA_ rfl (λO l=>?_) rN_));refine zy rfl 24 rfl (.slice I k J) R (by go_simp) ?_;refine l.out _ _ trivial (λc=>?_);simp only[zf];refine zE 4 rfl (λO l=>?_);refine zj rfl 27 rfl 47 [.tmp 25,.tmp 26] #[73,3] rfl [P_ F 0,I_ k] rfl (eO_ func47) (λv w'=>∃y:Vm,v=.agg (vrow_ y)/\zcm m k y/\w'.ownsRow R.heap.size 44 3 (.slice y.ba y.bl.length y.bc) y.bl.length (bcl y.bl)/\B_ R w') ((zns k hlt m R U F fc (h1.below Y)).mono (λe w' g=>by obtain⟨y,g1,g2⟩:=g;exact⟨_,g1,y,rfl,g2⟩)) ?_;rintro v f⟨y,rfl,hy,ax,V⟩;have ab:=zm Y V;have am:=zr V ar;have an:=zw aw V;have ae:=(V.block B (ze ak)).trans ak;refine l.out _ _ trivial (λc=>?_);simp only[zf];have HY:Hid (zcm m k y):=hy;have al:Hid (∀j,j<k->∃v,vl[j]? = some v/\zcm m j v/\f.ownsRow t.heap.size 44 3 (.slice v.ba v.bl.length v.bc) v.bl.length (bcl v.bl)):=by
    show ∀j,_;intro j z;obtain⟨v,r,s,d⟩:=Z.out j z;exact⟨v,r,s,zw d V⟩
   have ao:=zeR ax Y.size;clear hy Z V ax aw ak ar;refine zE 5 rfl (λO l=>?_);refine kO_ ?F0 ?_;exact Obj.cells (vrow_ y) 42;have b:=zC f ?F0;have G:=hN_ f ?F0;refine zy rfl 28 rfl (.slice (some (p_ f.heap.size 0)) 1 1) (f.alloc ?F0) (by go_simp) ?_;have M:=zm ab b;have ah:=zr b am;have H:=zw an b;have ad:=zw ao b;have T:=(b.block B (ze ae)).trans ae;have aa:Hid (∀j,j<k->∃v,vl[j]? = some v/\zcm m j v/\(f.alloc ?F0).ownsRow t.heap.size 44 3 (.slice v.ba v.bl.length v.bc) v.bl.length (bcl v.bl)):=by
    show ∀j,_;intro j z;obtain⟨v,r,s,d⟩:=al.out j z;exact⟨v,r,s,zw d b⟩
   refine l.out _ _ trivial (λc=>?_);simp only[zf];generalize f.alloc ?F0=V2 at b G M ah H ad T aa c|-;generalize f.heap.size=nb at G|-;clear b al ae an ao am ab
   rotate_left
   refine zj rfl 27 rfl 47 [.tmp 25,.tmp 26] #[73,3] rfl [P_ F 0,I_ k] rfl (eO_ func47) (λv w'=>∃y:Vm,v=.agg (vrow_ y)/\zcm m k y/\w'.ownsRow R.heap.size 44 3 (.slice y.ba y.bl.length y.bc) y.bl.length (bcl y.bl)/\B_ R w') ((zns k hlt m R U F fc (h1.below Y)).mono (λe w' g=>by obtain⟨y,g1,g2⟩:=g;exact⟨_,g1,y,rfl,g2⟩)) ?_;rintro v f⟨y,rfl,hy,ax,V⟩;have ab:=zm Y V;have am:=zr V ar;have an:=zw aw V;have ae:=(V.block B (ze ak)).trans ak;refine l.out _ _ trivial (λc=>?_);simp only[zf];have HY:Hid (zcm m k y):=hy;have al:Hid (∀j,j<k->∃v,vl[j]? = some v/\zcm m j v/\f.ownsRow t.heap.size 44 3 (.slice v.ba v.bl.length v.bc) v.bl.length (bcl v.bl)):=by
    show ∀j,_;intro j z;obtain⟨v,r,s,d⟩:=Z.out j z;exact⟨v,r,s,zw d V⟩
   have ao:=zeR ax Y.size;clear hy Z V ax aw ak ar;refine rY_ (rs:=[1,5]) (by kernel_rfl) (by simp) (rA_ rfl (λO l=>?_) (rA_ rfl (λO l=>?_) rN_));refine zy rfl 24 rfl (.slice I k J) f (by go_simp) ?_;refine l.out _ _ trivial (λc=>?_);simp only[zf];refine zE 5 rfl (λO l=>?_);refine kO_ ?G0 ?_;exact Obj.cells (vrow_ y) 42;have b:=zC f ?G0;have G:=hN_ f ?G0;refine zy rfl 28 rfl (.slice (some (p_ f.heap.size 0)) 1 1) (f.alloc ?G0) (by go_simp) ?_;have M:=zm ab b;have ah:=zr b am;have H:=zw an b;have ad:=zw ao b;have T:=(b.block B (ze ae)).trans ae;have aa:Hid (∀j,j<k->∃v,vl[j]? = some v/\zcm m j v/\(f.alloc ?G0).ownsRow t.heap.size 44 3 (.slice v.ba v.bl.length v.bc) v.bl.length (bcl v.bl)):=by
    show ∀j,_;intro j z;obtain⟨v,r,s,d⟩:=al.out j z;exact⟨v,r,s,zw d b⟩
   refine l.out _ _ trivial (λc=>?_);simp only[zf];generalize f.alloc ?G0=V2 at b G M ah H ad T aa c|-;generalize f.heap.size=nb at G|-;clear b al ae an ao am ab
   rotate_left
   have b:=zC f ?G0;have G:=hN_ f ?G0;refine zy rfl 28 rfl (.slice (some (p_ f.heap.size 0)) 1 1) (f.alloc ?G0) (by go_simp) ?_;have M:=zm ab b;have ah:=zr b am;have H:=zw an b;have ad:=zw ao b;have T:=(b.block B (ze ae)).trans ae;have aa:Hid (∀j,j<k->∃v,vl[j]? = some v/\zcm m j v/\(f.alloc ?G0).ownsRow t.heap.size 44 3 (.slice v.ba v.bl.length v.bc) v.bl.length (bcl v.bl)):=by
    show ∀j,_;intro j z;obtain⟨v,r,s,d⟩:=al.out j z;exact⟨v,r,s,zw d b⟩
   refine l.out _ _ trivial (λc=>?_);simp only[zf];generalize f.alloc ?G0=V2 at b G M ah H ad T aa c|-;generalize f.heap.size=nb at G|-;clear b al ae an ao am ab;refine zE 1 rfl (λO l=>?_);refine zy rfl 24 rfl (.slice I k J) V2 (by go_simp) ?_;refine l.out _ _ trivial (λc=>?_);simp only[zf]
   rotate_left
   all_goals
    refine zE 6 rfl (λO l=>?_);refine zaz rfl 29 rfl (.tmp 24) (.tmp 28) 30 rfl t.heap.size 42 ti (.agg #[.bool false,I_ 0,O_,O_,O_,O_]) 6 112 underlying30 aK aL aM aN rfl (by decide) (.slice I k J) k (vmv vl) rfl H (p_ nb 0) 1 1 y.cs rfl rfl (λj u hu=>by rw[zaP,zA_];exact zb G j u (by rw[<-Array.getElem?_toList];exact hu)) (zpf y) (by unfold maxLen;omega) (by omega) M.size ?_;intro d L ac E;obtain⟨A,C,ay⟩:=zH ac;subst ay;have N:=E.row T aq.out;have aj:Hid ((Value.slice A (k+1) C).ownBlock≠some B):=by
     show _≠_;intro e;rcases E.fresh B e with g|g
     .exact aq.out g
     .have:=ze T;omega
    have ai:=Below.grown M E.grown M.size (λq e=>(H.lt q e).1);have af:Hid (∀j,j<k+1->∃v,(vl++[y])[j]? = some v/\zcm m j v/\L.ownsRow t.heap.size 44 3 (.slice v.ba v.bl.length v.bc) v.bl.length (bcl v.bl)):=by
     show ∀j,_;intro j z;by_cases e:j=k
     .subst e;exact⟨y,by rw[List.getElem?_append_right (by have:=X.out;omega),X.out];simp,HY.out,zfA ad H (by decide) E⟩
     .obtain⟨v,r,s,d⟩:=aa.out j (by omega);exact⟨v,by rw[List.getElem?_append_left (by have:=X.out;omega)];exact r,s,zfA d H (by decide) E⟩
    have au:=zb N 0 (.slice I k J) rfl;have av:=zd N 0;refine l.out _ _ trivial (λc=>?_);simp only[zf];clear aa ad H T M ah G;refine zU 7 30 (P_ B 0) rfl rfl c ?_;simp only[zf];refine zE 8 rfl (λO l=>?_);refine zX rfl rfl (L.setCell (p_ B 0) (.slice A (k+1) C)) (by go_simp) ?_;have q9:=zbb (j:=0) N (.slice A (k+1) C);simp only[List.setIfInBounds_toArray,List.set_cons_zero]at q9;have o9:=zu ac (w':=L.setCell (p_ B 0) (.slice A (k+1) C)) (λq e=>hO_ _ (p_ B 0) q _ (λD=>aj.out (by have D:q=B:=D;rw[<-D];exact e)));have b9:=ai.setCell (p:=p_ B 0) ap (.slice A (k+1) C);have ag:Hid (∀j,j<k+1->∃v,(vl++[y])[j]? = some v/\zcm m j v/\(L.setCell (p_ B 0) (.slice A (k+1) C)).ownsRow t.heap.size 44 3 (.slice v.ba v.bl.length v.bc) v.bl.length (bcl v.bl)):=by
     show ∀j,_;intro j z;obtain⟨v,r,s,d⟩:=af.out j z;exact⟨v,r,s,zu d (λq e=>hO_ _ (p_ B 0) q _ (λD=>zkq d (e.trans (cA_ some (show q=B from D))) N (by decide)))⟩
    refine l.out _ _ trivial (λc=>?_);clear c;refine wD_ (by kernel_rfl) ?_ _;generalize L.setCell (p_ B 0) (.slice A (k+1) C)=V9 at o9 b9 ag q9|-;clear af ac E N ai au av;go_wp2_with fail
    go_roundw
    case rel=>exact⟨k+1,vl++[y],_,by omega,by go_num,by show _=_;rw[lP_,X.out];rfl,ag,by rw[zlh];exact o9,q9,aj,b9⟩
    case measure=>simp[intOf];omega
  refine kA_ ?E0 ?_;exact(#[.slice I 4 J,?A0,?C0,?B0]:X_);obtain rfl:k=4:=by omega
  have aJ:=(hb.block w.heap.size (ze qR)).trans qR;have aU:wr.rangeAt B 0 [.slice I 4 J,?A0,?C0,?B0]:=λj v hv=>by rw[zA_];exact zb qB j v (by simpa using hv)
  have aH:=(Upd.setRow (cs:=?E0) aJ).below (aD.trans (hb.mono aD.size)) (Nat.le_of_lt (nL_ (ze qR) hb.size)) (nR_ _);have aV:=ze qR;have aQ:=zu ho (w':=wr.setRow w.heap.size ?E0) (λq e=>sO_ _ _ _ _ (λD=>by have:=(ho.lt q e).1;omega));have Z:Hid (∀j,j<4->∃v,vl[j]? = some v/\zcm m j v/\(wr.setRow w.heap.size ?E0).ownsRow t.heap.size 44 3 (.slice v.ba v.bl.length v.bc) v.bl.length (bcl v.bl)):=by
   show ∀j,_;intro j z;obtain⟨v,r,s,d⟩:=aI.out j z;exact⟨v,r,s,zu d (λq e=>sO_ _ _ _ _ (λD=>by have:=(d.lt q e).1;omega))⟩
  go_wp2_with (first|refine wpList_load_mid rfl 34 _ rfl B 0 rfl [.slice I 4 J,?A0,?C0,?B0] _ aU underlying34 rfl zli ?_|refine wS_ rfl 34 _ _ rfl w.heap.size ?E0 rfl rfl 34 _ aJ zli rfl (by simp[Value.oneCell']) ?_)
  refine bP_ (v:=.agg ?E0) (rC_ (fn:=Tryz.f22) (p:=2) (ty:=34) rfl _ _ w.heap.size 34 _ (0,0) _ rfl (sH_ _ _ _ _ _ _ aJ) underlying34 rfl zli) rfl ?_;generalize wr.setRow w.heap.size ?E0=WE at aH aQ Z;have hE:=h.below aH;have aT:=zK U WE;obtain⟨y0,e0,i0,o0⟩:=Z.out 0 (by decide);obtain⟨y1,e1,i1,o1⟩:=Z.out 1 (by decide);obtain⟨y2,D,i2,o2⟩:=Z.out 2 (by decide);obtain⟨y3,e3,i3,o3⟩:=Z.out 3 (by decide);obtain rfl:vl=[y0,y1,y2,y3]:=zzk X.out e0 e1 D e3;refine⟨⟨I,J,y0,y1,y2,y3,m.ga,m.gc,m.gs,m.aw.length,m.ca,m.cc,m.cs⟩,by simp[Om.cells],⟨zeR aQ (nZ_ _),i0.at (by decide) hE o0,i1.at (by decide) hE o1,i2.at (by decide) hE o2,i3.at (by decide) hE o3,hE.sg.sub aT,hE.rco⟩,?_,aH⟩;rw[Om.v,Fl.told,i0.is (by decide),i1.is (by decide),i2.is (by decide),i3.is (by decide)];simp[FM.v]
variable {R:Nat}
structure zcv (R:Nat)(w w':World):Prop where
 size:w'.heap.size=w.heap.size
 far:∀b,b≠R->w'.heap[b]? = w.heap[b]?
 zero:R_ w R #[O_,O_,I_ 0,O_] 34
theorem zcv.cell (h:zcv R w w'){b j:Nat}{u:Value}(d:b≠R)(c:C_ w b j u):C_ w' b j u:=(cB_ (h.far b d)).trans c
theorem zcv.val (h:zcv R w w'){j:Nat}{u:Value}(b:w.cell? (p_ R j)=some u):(u=O_/\j≠2)\/(u=I_ 0/\j=2):=by
 have e:w.cell? (p_ R j)=(#[O_,O_,I_ 0,O_]:X_)[j]?:=by
  simp[World.cell?,h.zero]
 rw[e]at b
 match j,b with
 | 0,b=>exact .inl ⟨by simpa using b.symm,by decide⟩
 | 1,b=>exact .inl ⟨by simpa using b.symm,by decide⟩
 | 2,b=>exact .inr ⟨by simpa using b.symm,rfl⟩
 | 3,b=>exact .inl ⟨by simpa using b.symm,by decide⟩
 | j+4,b=>simp at b
theorem zcv.odd (h:zcv R w w'){b j:Nat}{u:Value}(c:C_ w b j u)(d:u≠O_)(f:u≠I_ 0):C_ w' b j u:=by
 by_cases e:b=R;subst e;rcases h.val c with g|g;exact absurd g.1 d;exact absurd g.1 f;exact h.cell e c
theorem zcv.bytes (h:zcv R w w'){c:Q_}{bs:L_}(b:za5 w c bs):za5 w' c bs:=by
 rcases b with b|⟨g,l,e,d⟩;exact .inl b;exact .inr ⟨g,l,e,λj f=>h.odd (d j f) (λe=>by cases e) (λe=>by cases e)⟩
theorem zcv.slice (h:zcv R w w'){d:Q_}{c:Nat}{bs:L_}(b:zg w d c bs):zg w' d c bs:=⟨b.le,b.max,b.some,b.nil,h.bytes b.bytes⟩
theorem zcv.strs (h:zcv R w w'){c:Q_}{ss:Z_}(b:zas w c ss):zas w' c ss:=by
 refine⟨?_,b.size⟩;rcases b.cells with d|⟨l,m,e,f⟩;exact .inl d;exact .inr ⟨l,m,e,λj g=>h.odd (f j g) (λe=>by cases e) (λe=>by cases e)⟩
theorem zcv.ints (h:zcv R w w'){f:Q_}{vl:L_}(p:zax w f vl)(r:2<=vl.length):zax w' f vl:=by
 refine⟨?_⟩;rcases p.cells with l|⟨g,q,e,d⟩;exact .inl l;have o:g≠R:=λe=>by
  subst e;have b:=h.val (d 0 (by omega));have c:=h.val (d 1 (by omega));rcases b with⟨b,_⟩|⟨_,b⟩;cases b;rcases c with⟨c,_⟩|⟨_,c⟩;cases c;omega
 exact .inr ⟨g,q,e,λj m=>h.cell o (d j m)⟩
theorem zcv.list (h:zcv R w w'){g:Q_}{d:Nat}{c:List zi}(b:zx w g d c)(l:∀p∈c,p.bs.length=32):zx w' g d c:=by
 refine⟨b.le,b.max,b.small,b.some,⟨?_,λp q=>h.slice (b.parts.each p q)⟩⟩;rcases b.parts.cells with m|⟨r,s,e,o⟩;exact .inl m;refine .inr ⟨r,s,e,λj f=>h.odd (o j f) (λe=>?_) (λe=>by cases e)⟩;have:=l (c[j]) (gM_ f);simp only[Value.slice.injEq]at e;omega
theorem zwj {c:Ct}(f:c.v.f=0):(∀p∈c.bl,p.bs.length=32)/\(∀p∈c.pl,p.bs.length=32)/\3<=c.vl.length:=by
 have e:zap c.au c.rd c.bl c.pl c.vl=0:=(ziL c.vl (zcH c.bl) (zcH c.pl)).symm.trans f;unfold zap at e
 split at e
 rename_i g;exact absurd e g
 rename_i g
 obtain⟨_,_,_,_,b,d⟩:=zbi (Classical.not_not.1 g);refine⟨b,d,?_⟩
 split at e
 cases e;unfold zep at e
 split at e
 rename_i g;exact absurd e g
 split at e
 cases e;omega
theorem zcv.ct (h:zcv R w w'){c:Ct}(b:za7 w c)(l:c.v.f=0):za7 w' c:=by
 obtain⟨g,j,m⟩:=zwj l;exact⟨⟨h.list b.hat.lb g,h.list b.hat.lp j,λd f e=>by rw[h.size];exact b.hat.rb d f e,λd f e=>by rw[h.size];exact b.hat.rp d f e⟩,h.ints b.ints (by omega),b.vle⟩
theorem zcv.bc (h:zcv R w w'){b:Bc}(c:zcN w b):zcN w' b:=⟨h.strs c.strs,c.le,c.max,c.nil,λd f e=>by rw[h.size];exact c.lt d f e⟩
theorem zcv.txs (h:zcv R w w'){d:Q_}{c:Nat}{ss:Z_}(b:zbu w d c ss):zbu w' d c ss:=⟨b.le,b.max,b.nil,h.strs b.strs⟩
theorem zcv.signs (h:zcv R w w'){p:Q_}{r:Nat}{m:List Sg}(b:zdj w p r m):zdj w' p r m:=by
 refine⟨⟨b.tab.le,b.tab.max,b.tab.small,b.tab.some,⟨?_,λs o=>⟨h.slice (b.tab.slots.each s o).1,(b.tab.slots.each s o).2⟩⟩⟩⟩;rcases b.tab.slots.cells with y|⟨q,B,e,z⟩;exact .inl y;refine .inr ⟨q,B,e,λj A=>?_⟩;obtain⟨d,f,t,u⟩:=z j A;have c:q≠R:=λe=>by
  subst e;rcases h.val d with⟨g,_⟩|⟨_,g⟩;cases g;rcases h.val f with⟨l,_⟩|⟨_,l⟩;cases l;omega
 exact⟨h.cell c d,h.cell c f,h.cell c t,h.cell c u⟩
theorem zcv.owns (h:zcv R w w'){B n s:Nat}{e:TypeId}{v:Value}{c:List Value}(b:w.ownsRow B e s v n c)(f:e≠34):w'.ownsRow B e s v n c:=
 zu b (λq g=>h.far q (λd=>zkq b (g.trans (cA_ some d)) h.zero f))
theorem zcv.vm (h:zcv R w w'){v:Vm}(d:zfX w v)(j:zbV (zI v.ls)=0):zfX w' v:=
 ⟨h.owns d.rc (by decide),λc f=>h.ct (d.ec c f) (znZ j c f),h.owns d.rb (by decide),λb g=>h.bc (d.eb b g),h.owns d.rt (by decide),λs l=>h.slice (d.et s l),h.txs d.tx⟩
def zwk (o:Om):Prop:=∀v∈[o.y0,o.y1,o.y2,o.y3],zbV (zI v.ls)=0
theorem zex.put {o:Om}{C:X_}(h:zex w o)(c:zwk o)(f:R_ w R #[O_,O_,I_ 0,O_] 34):zex (w.setRow R C) o:=by
 have p:zcv R w (w.setRow R C):=⟨by simp,λb d=>sO_ w R b C d,f⟩;exact⟨p.owns h.nd (by decide),p.vm h.e0 (c _ (by simp)),p.vm h.e1 (c _ (by simp)),p.vm h.e2 (c _ (by simp)),p.vm h.e3 (c _ (by simp)),p.signs h.sg,p.owns h.co (by decide)⟩
def hN (k:Int):Bool:=decide (k=1\/k=2\/k=3\/k=7\/k=8\/k=9)
def hP (k:Int):Bool:=decide (4<=k/\k<=7)
def hT (k:Int):Bool:=decide (k=1\/k=9)
def zja (k n p:Int)(t:Nat):Bool:=(decide (n≠0)&&!hN k)||(decide (p≠0)&&!hP k)||(decide (t≠0)&&!hT k)
def zeS (k n p:Int)(t:Nat):Int:=
 if k<1\/10<k then 3 else if n<0\/4<=n then 2 else if p<0\/400000<p then 2 else if 4000<t then 1 else if zja k n p t=true then 4 else 0
def zn2 (k:Int):List UInt8:=
 if k=1 then [115,117,98,109,105,116]else if k=2 then [119,111,114,107]else if k=3 then [115,121,110,99]else if k=4 then [116,97,107,101]else if k=5 then [108,111,115,101]
 else if k=6 then [99,111,112,121]else if k=7 then [99,114,97,115,104]else if k=8 then [115,116,97,114,116]else if k=9 then [102,111,114,103,101]else if k=10 then [102,108,111,119]else []
structure zcw (w:World):Prop where
 word:∀k:Nat,1<=k->k<=10->w.cell? (p_ 0 (k*4))=some (.string ⟨(zn2 k).toArray⟩)
 node:∀k:Nat,1<=k->k<=10->w.cell? (p_ 0 (k*4+1))=some (.bool (hN k))
 pick:∀k:Nat,1<=k->k<=10->w.cell? (p_ 0 (k*4+2))=some (.bool (hP k))
 text:∀k:Nat,1<=k->k<=10->w.cell? (p_ 0 (k*4+3))=some (.bool (hT k))
theorem zcw.lt (h:zcw w):0<w.heap.size:=bL_ (h.word 1 (by omega) (by omega))
theorem zcw.below (h:zcw w)(f:Below B w w')(d:0<B):zcw w':=
  ⟨λk b c=>(f.cell (p:=p_ 0 _) d).trans (h.word k b c),λk b c=>(f.cell (p:=p_ 0 _) d).trans (h.node k b c),
   λk b c=>(f.cell (p:=p_ 0 _) d).trans (h.pick k b c),λk b c=>(f.cell (p:=p_ 0 _) d).trans (h.text k b c)⟩
theorem zcw.alloc (h:zcw w)(o:Obj):zcw (w.alloc o):=h.below ((bR_ _ _).alloc (nR_ _) _) h.lt
variable {sa:Q_}{base:Nat}{ops:Array Oper}{Q:Exit->Act->World->Prop}{a:Act}
structure AV where
 k:Int
 n:Int
 p:Int
 t:ByteArray
def AV.z:AV:=⟨0,0,0,ByteArray.empty⟩
def AV.e (a:AV):Int:=zeS a.k a.n a.p a.t.size
structure zbq (w:World)(sa:Q_)(l:List AV):Prop where
 cells:l=[]\/∃sb so,sa=some (p_ sb so)/\∀j,j<l.length->w.cell? (p_ sb (so+j*4))=some (I_ (l.getD j .z).k)/\w.cell? (p_ sb (so+j*4+1))=some (I_ (l.getD j .z).n)/\w.cell? (p_ sb (so+j*4+2))=some (I_ (l.getD j .z).p)/\w.cell? (p_ sb (so+j*4+3))=some (.string (l.getD j .z).t)
 text:∀a∈l,a.t.size<=maxLen
theorem zbq.below {l:List AV}(h:zbq w sa l)(d:B_ w w'):zbq w' sa l:=by
 refine⟨?_,h.text⟩;rcases h.cells with h|⟨b,c,r,s⟩;exact .inl h;refine .inr ⟨b,c,r,λj t=>?_⟩;obtain⟨g,m,o,q⟩:=s j t;have f:=bL_ g;exact⟨(d.cell (p:=p_ b (c+j*4)) f).trans g,(d.cell (p:=p_ b (c+j*4+1)) f).trans m,(d.cell (p:=p_ b (c+j*4+2)) f).trans o,(d.cell (p:=p_ b (c+j*4+3)) f).trans q⟩
def AV.cs (a:AV):List Value:=[I_ a.k,I_ a.n,I_ a.p,.string a.t]
def avs:List AV->List Value
 | []=>[]
 | a::l=>a.cs++avs l
theorem zl5 (a b:List AV):avs (a++b)=avs a++avs b:=by
 induction a with
 | nil=>rfl
 | cons x a ih=>simp only[List.cons_append,avs,ih,List.append_assoc]
theorem zg1 (l:List AV):(avs l).length=4*l.length:=by
 induction l with
 | nil=>rfl
 | cons a l ih=>simp only[avs,lP_,List.length_cons,ih];simp[AV.cs];omega
theorem zkr:∀(l:List AV) (j i:Nat),j<l.length->i<4->(avs l)[j*4+i]? = (l.getD j .z).cs[i]?
 | [],_,_,h,_=>by simp at h
 | a::l,0,i,_,hi=>by
  simp only[avs,Nat.zero_mul,zA_]
  rw[List.getElem?_append_left (by simp[AV.cs];exact hi)];rfl
 | a::l,j+1,i,h,hi=>by
  have h':j<l.length:=by simpa using h
  simp only[avs]
  rw[List.getElem?_append_right (by simp[AV.cs];omega)]
  have:=zkr l j i h' hi
  have e:(j+1)*4+i-a.cs.length=j*4+i:=by simp[AV.cs];omega
  rw[e,this]
  simp
theorem zxF (l:List AV):∀u∈avs l,u.oneCell'=true:=by
 induction l with
 | nil=>intro u b;cases b
 | cons a l ih=>
  intro u b;rcases mA_.1 b with h|h;simp[AV.cs]at h;rcases h with rfl|rfl|rfl|rfl<;>rfl;exact ih u h
theorem zpg {v:Value}{l:List AV}(h:w.ownsRow base 29 4 v n (avs l))(C:∀a∈l,a.t.size<=maxLen):∃c b,v=.slice c n b/\n=l.length/\n<=maxLen/\zbq w c l:=by
 have y:n=l.length:=by have:=h.1;rw[zg1]at this;omega
 rcases h.2 with⟨rfl,z⟩|⟨g,b,D,rfl,B⟩;have s:l=[]:=eN_ (by omega);subst z s;exact⟨none,0,rfl,rfl,by decide,⟨.inl rfl,λp A=>by cases A⟩⟩;refine⟨some (p_ g 0),b,rfl,y,?_,⟨.inr ⟨g,0,rfl,λj u=>?_⟩,C⟩⟩;obtain⟨_,_,q,r,_⟩:=B;exact nT_ q r;have e:∀i,i<4->w.cell? (p_ g (j*4+i))=(l.getD j .z).cs[i]?:=λi t=>by rw[World.ownsRow.cellAt h (j*4+i) (by omega),zkr l j i u t]
 have d:=e 0 (by omega);have f:=e 1 (by omega);have m:=e 2 (by omega);have o:=e 3 (by omega);simp only[zA_];exact⟨d,f,m,o⟩
theorem zwM:(prog.info? 29).map (λi=>(i.zero,i.size,i.bytes))=some (some (.agg #[I_ 0,I_ 0,I_ 0,.string ⟨#[]⟩]),4,40):=by kernel_rfl
theorem zkz {rest:List Oper}{o:Oper}(t:o.guard=none)(s x:Operand)
  (z:o.op=.call { callee:=.builtin .append,args:=#[s,x],argTypes:=#[25,25] })
  (base:Nat) (v:Value) (n:Nat) (l:List AV) (B:a.eval s=v) (A:w.ownsRow base 29 4 v n (avs l)) (g:Nat) (b:AV) (C:a.eval x=.slice (some (p_ g 0)) 1 1) (r:R_ w g b.cs.toArray 29)
  (G:n+1<=3000000000000) (q:base<=w.heap.size)
  (h:∀c w',w'.ownsRow base 29 4 c (n+1) (avs (l++[b]))->zV w v w' c->wpList prog ops Q rest (a.put o.dst c) w'):wpList prog ops Q (o::rest) a w:=by
 obtain⟨i,y,D,E,F⟩:=info_parts zwM;refine wpList_append_own_at w t s x 25 z base 29 i _ 4 40 underlying25 y D E F rfl (by decide) v n (avs l) B A (p_ g 0) 1 1 b.cs C rfl ?_ ?_ (by unfold maxLen;omega) (by omega) q (λc w' f m _ p=>h c w' (by rw[zl5,show avs [b]=b.cs by simp[avs]];exact f) (zV.of m p));intro j u d;rw[zaP,zA_,cell_of_row w g j _ _ _ r]
 simpa using d
 intro u d;simp[AV.cs]at d;rcases d with rfl|rfl|rfl|rfl<;>rfl
theorem zsu (t:ByteArray):(!t.toList.isEmpty)=decide (t.size≠0):=by
 have h:t.size=t.toList.length:=by rw[ByteArray.toList_eq];rfl
 rw[h];cases t.toList<;>simp
theorem zuE (n:Int):(n != 0)=decide (n≠0):=by
 by_cases h:n=0<;>simp[h]
def zh9 (f h:Bool):Bool:=f&&!h
def zia (f0 f1 f2 h0 h1 h2:Bool)(m:Nat):Bool:=(decide (0<m)&&zh9 f0 h0)||(decide (1<m)&&zh9 f1 h1)||(decide (2<m)&&zh9 f2 h2)
theorem zqw (k n p:Int)(t:ByteArray)(w:World)(E:1<=k/\k<=10)(z:zcw w) :
  Calls prog 58 #[.agg #[I_ k,I_ n,I_ p,.string t]] w λe w'=>e=.returned (.bool (zja k n p t.size))/\B_ w w':=by
 obtain⟨j,rfl⟩:∃j:Nat,k=j:=⟨k.toNat,by omega⟩;have u:1<=j:=by omega
 have y:j<=10:=by omega
 have D:=z.lt;have c:=z.alloc (.cells #[I_ j,I_ n,I_ p,.string t] 29);have A:=c.node j u y;have B:=c.pick j u y;have C:=c.text j u y;have b:Hid (zja j n p t.size=zia (n != 0) (p != 0) (!t.toList.isEmpty) (hN j) (hP j) (Go.Proofs.YtffaeaonobmmjaaGreatDoor.hT j) 3):=by
  show _=_;rw[zsu,zuE,zuE];simp[zja,zia,zh9]
 generalize hN j=g at*;generalize hP j=l at*;generalize Go.Proofs.YtffaeaonobmmjaaGreatDoor.hT j=o at*;go_in;go_wp2_with fail
 generalize (n != 0)=q at*;generalize (p != 0)=r at*;generalize (!t.toList.isEmpty)=s at*;clear A B C c;go_loop [21] (λi=>∃m:Nat,m<=3/\i=I_ m/\Hid (zia q r s g l o m=false)) (λi=>3-(intOf i).toNat)
 case atStart=>exact⟨0,by omega,rfl,by show _=_;simp[zia]⟩
 case round=>
  obtain⟨m,F,rfl,f⟩:=hrel;have d:B_ w (((w.alloc (.cells #[I_ j,I_ n,I_ p,.string t] 29)).alloc (.cells #[.bool g,.bool l,.bool o] 150)).alloc (.cells #[.bool q,.bool r,.bool s] 150)):=
   ((((bR_ _ _).alloc (nR_ _) _).alloc (by simp) _).alloc (by simp;omega) _)
  obtain rfl|rfl|rfl|rfl:m=0\/m=1\/m=2\/m=3:=by omega
  .cases q<;>cases g
   all_goals
    go_wp2_with fail
    first
    | (go_ret;exact⟨zN (by rw[b.out];simp[zia,zh9]),d⟩)
    | (
     go_round
     case rel=>exact⟨1,by omega,by go_num,by have:=f.out;show _=_;simp[zia,zh9]at this|-;first|done|simp_all⟩
     case measure=>simp[intOf])
  .cases r<;>cases l
   all_goals
    go_wp2_with fail
    first
    | (go_ret;exact⟨zN (by rw[b.out];simp[zia,zh9]),d⟩)
    | (
     go_round
     case rel=>exact⟨2,by omega,by go_num,by have:=f.out;show _=_;simp[zia,zh9]at this|-;first|done|simp_all⟩
     case measure=>simp[intOf])
  .cases s<;>cases o
   all_goals
    go_wp2_with fail
    first
    | (go_ret;exact⟨zN (by rw[b.out];simp[zia,zh9]),d⟩)
    | (
     go_round
     case rel=>exact⟨3,by omega,by go_num,by have:=f.out;show _=_;simp[zia,zh9]at this|-;first|done|simp_all⟩
     case measure=>simp[intOf])
  go_wp2_with fail
  go_ret;exact⟨zN (by rw[b.out];exact f.out.symm),d⟩
theorem zj8 (k n p:Int)(t:ByteArray)(w:World)(q:t.size<=maxLen)(g:zcw w) :
  Calls prog 38 #[.agg #[I_ k,I_ n,I_ p,.string t]] w λe w'=>e=.returned (I_ (zeS k n p t.size))/\B_ w w':=by
 unfold maxLen at q;have c:=zC w (.cells #[I_ k,I_ n,I_ p,.string t] 29);by_cases h1:k<1\/10<k
 .have b:Hid (zeS k n p t.size=3):=by show _=_;simp[zeS,h1]
  rcases Int.lt_or_le k 1 with a|a
  all_goals
   go_in;go_wp2_with fail
   go_ret;exact⟨zt b.out.symm,c⟩
 have r:¬k<1:=by omega
 have s:¬10<k:=by omega
 by_cases h2:n<0\/4<=n
 .have b:Hid (zeS k n p t.size=2):=by show _=_;simp[zeS,h1,h2]
  rcases Int.lt_or_le n 0 with a|a
  all_goals
   go_in;go_wp2_with fail
   go_ret;exact⟨zt b.out.symm,c⟩
 have u:¬n<0:=by omega
 have y:¬4<=n:=by omega
 by_cases h3:p<0\/400000<p
 .have b:Hid (zeS k n p t.size=2):=by show _=_;simp[zeS,h1,h2,h3]
  rcases Int.lt_or_le p 0 with a|a
  all_goals
   go_in;go_wp2_with fail
   go_ret;exact⟨zt b.out.symm,c⟩
 have z:¬p<0:=by omega
 have A:¬400000<p:=by omega
 by_cases h4:4000<t.size
 .have b:Hid (zeS k n p t.size=1):=by show _=_;simp[zeS,h1,h2,h3,h4]
  have C:(4000:Int)<t.size:=by omega
  go_in;go_wp2_with fail
  go_ret;exact⟨zt b.out.symm,c⟩
 have B:¬(4000:Int)<t.size:=by omega
 have b:Hid (zeS k n p t.size=if zja k n p t.size=true then 4 else 0):=by show _=_;simp[zeS,h1,h2,h3,h4]
 clear h1 h2 h3 h4;have d:=zqw k n p t (w.alloc (.cells #[I_ k,I_ n,I_ p,.string t] 29)) (by omega) (g.alloc _);generalize o:zja k n p t.size=m at d b;clear o;go_in;go_wp2_with fail
 refine d.mono ?_;rintro _ D⟨rfl,j⟩;dsimp only;have f:=c.trans (j.mono (by simp));cases m
 all_goals
  go_wp2_with fail
  go_ret;exact⟨zt (by rw[b.out];rfl),f⟩
def pk (n m:Int):Int:=if n<0 then -(n+1) % m else n % m
theorem zW (n m:Int)(b:0<m):0<=pk n m/\pk n m<m:=by
 unfold pk;split
 all_goals exact⟨Int.emod_nonneg _ (by omega),Int.emod_lt_of_pos _ b⟩
theorem zaV (n m:Int)(w:World)(c:-9223372036854775808<=n)(d:n<=9223372036854775807)(f:0<m)(j:m<=9223372036854775807) :
  Calls prog 11 #[I_ n,I_ m] w λe w'=>e=.returned (I_ (pk n m))/\w=w':=by
 have g:(m == 0)=false:=beq_eq_false_iff_ne.2 (by omega);by_cases h:n<0;have b:Hid (pk n m=-((n+1).tmod m)):=by
  show _=_;rw[pk,iP_ h,<-Int.neg_tmod,Int.tmod_eq_emod_of_nonneg (by omega)]
 rotate_left
 have b:Hid (pk n m=n % m):=iN_ h
 rotate_left
 all_goals
  go_in
  go_wp2
  go_ret;exact⟨zt b.out.symm,rfl⟩
def txS (s:ByteArray):ByteArray:=if s.size=0 then⟨#[120]⟩else s.extract 0 (min s.size 20)
theorem zwl (s:ByteArray):1<=(txS s).size/\(txS s).size<=20:=by
 unfold txS;by_cases h:s.size=0;rw[iP_ h];exact⟨by decide,by decide⟩;rw[iN_ h];simp;omega
theorem zks {a b:ByteArray}(h:a=b):Ending.returned (.string a)=.returned (.string b):=by rw[h]
theorem zxG (s:ByteArray)(w:World)(c:s.size<=maxLen) :
  Calls prog 80 #[.string s,I_ 20] w λe w'=>e=.returned (.string (s.extract 0 (min s.size 20)))/\w=w':=by
 unfold maxLen at c;by_cases h:s.size<=20
 .have b:min s.size 20=s.size:=by omega
  rw[b];go_in;go_wp2_with fail
  go_ret;exact⟨zks (by first|(simp;done)|(rw[show min (s.size:Int) 20=s.size by omega];simp)),rfl⟩
 have b:min s.size 20=20:=by omega
 rw[b];go_in;go_wp2_with fail
 go_ret
 first|exact⟨rfl,rfl⟩|exact⟨zks (by rw[show min (s.size:Int) 20=20 by omega];rfl),rfl⟩
theorem zl6 (s:ByteArray):s.toList.isEmpty=true↔s.size=0:=by
 rw[List.isEmpty_iff,<-List.length_eq_zero_iff,ByteArray.toList_eq,Array.length_toList,ByteArray.size_data]
theorem zyL (s:ByteArray)(w:World)(f:s.size<=maxLen) :
  Calls prog 57 #[.string s] w λe w'=>e=.returned (.string (txS s))/\w=w':=by
 by_cases h:s.size=0;have c:=(zl6 s).2 h;have b:Hid (txS s=⟨#[120]⟩):=by show _=_;rw[txS,iP_ h]
 clear h;go_in
 rotate_left
 have c:s.toList.isEmpty=false:=by
  rw[Bool.eq_false_iff];exact λe=>h ((zl6 s).1 e)
 have b:Hid (txS s=s.extract 0 (min s.size 20)):=by show _=_;rw[txS,iN_ h]
 go_in;go_wp2_with fail
 refine(zxG s w f).mono ?_;rintro _ g⟨rfl,rfl⟩;dsimp only
 rotate_left
 all_goals
  go_wp2_with fail
  go_ret;exact⟨zks b.out.symm,rfl⟩
def zdl (ss:Z_):Z_:=if ss=[]then [⟨#[116]⟩]else(ss.take 4).map txS
theorem zuF (z c b rc:Int)(y:Q_)(o:Nat)(ss:Z_)(w:World)(V:I64 c)(X:I64 b)(A:zf7 w y o ss) :
  Calls prog 34 #[.agg #[I_ z,I_ c,I_ b,I_ rc,.slice y ss.length o]] w λe w'=>∃O R,e=.returned (.agg #[I_ (pk c 4),I_ (1+pk b 9),.slice O (zdl ss).length R])/\w'.ownsRow w.heap.size 9 1 (.slice O (zdl ss).length R) (zdl ss).length (sv (zdl ss))/\B_ w w':=by
 obtain⟨aD,aE⟩:=zW c 4 (by decide);obtain⟨aF,aG⟩:=zW b 9 (by decide);have ax:=A.le;have aA:=A.reach;have M:=hX_ w (.cells #[I_ z,I_ c,I_ b,I_ rc,.slice y ss.length o] 71) (.cells #[I_ 0,I_ 0,O_] 44);have k1:=zb M 1 _ rfl;have k2:=zb M 2 _ rfl;have hw:IntKind.i64.wrap (1+pk b 9)=1+pk b 9:=by rw[IntKind.wrap_i64];omega
 go_in;go_upto_region 1 with(fail)
 go_cut [3] (λv F=>v=(P_ (w.heap.size+2) 0)/\B_ w F/\R_ F w.heap.size #[I_ z,I_ c,I_ b,I_ rc,.slice y ss.length o] 71/\R_ F (w.heap.size+1) #[I_ 0,I_ 0,O_] 44/\R_ F (w.heap.size+2) #[I_ (pk c 4),I_ (1+pk b 9),O_] 44)
 case first=>
  go_region_held3 (λw'=>w'.cell? (p_ w.heap.size 1)=some (I_ c)/\w'.cell? (p_ w.heap.size 2)=some (I_ b)) (go_keep) (first|(go_at_call 11;refine(zaV _ _ _ (by first|exact V.1|exact X.1) (by first|exact V.2|exact X.2) (by omega) (by omega)).mono ?_;rintro e E⟨rfl,rfl⟩))
  all_goals
   go_wp2_with fail
   go_meet
   case rel=>
    refine⟨rfl,((((bR_ _ _).alloc (nR_ _) _).alloc (by simp) _).alloc (by simp;omega) _).drew,?_,?_,?_⟩
    .exact zR (zR (hN_ w _))
    .exact zR (zco _ _ _ (by simp))
    .exact zco _ _ _ (by simp)
 case rest=>
  obtain⟨rfl,d,D,g,l⟩:=hcut;clear k1 k2 M hw;obtain⟨i,hi,aq,ar,au⟩:=info_parts zkf;have L:=ze l;go_wp2_with fail
  go_loopw [4] (λj wr=>∃(k:Nat) (v:Value),k<=ss.length/\k<=4/\j=I_ k/\B_ w wr/\R_ wr w.heap.size #[I_ z,I_ c,I_ b,I_ rc,.slice y ss.length o] 71/\R_ wr (w.heap.size+1) #[I_ 0,I_ 0,O_] 44/\R_ wr (w.heap.size+2) #[I_ (pk c 4),I_ (1+pk b 9),v] 44/\wr.ownsRow (w.heap.size+3) 9 1 v k (sv ((ss.take k).map txS))) (λj _=>ss.length-(intOf j).toNat)
  case atStart=>exact⟨0,_,nZ_ _,nZ_ _,rfl,d,D,g,l,oN_ _ _ _ _⟩
  case round=>
   clear d D g l L;obtain⟨k,v,hk,aw,rfl,d,D,g,l,p⟩:=hrel;have c4:=zb D 4 (.slice y ss.length o) rfl;have o2:wr.cell? (p_ (w.heap.size+2) 2)=some v:=zb l 2 _ rfl;have aC:=zd l 2;have L:=ze l;by_cases f:k<ss.length/\k<4
   .obtain⟨f,ay⟩:=f;obtain⟨m,r,rfl,Z⟩:∃m r,y=some (p_ m r)/\∀j,j<ss.length->wr.cell? (p_ m (r+j))=some (.string (ss.getD j ByteArray.empty)):=by
     rcases(A.strs.below d).cells with h|h;rw[h]at f;simp at f;exact h
    have T:=Z k f;have ad:(ss.getD k ByteArray.empty).size<=maxLen:=A.strs.size _ (by simp[List.getD,f]);have aa:(k:Int)<ss.length:=by omega
    have az:(k:Int)<4:=by omega
    have ac:Hid ((ss.take (k+1)).map txS=(ss.take k).map txS++[txS (ss.getD k ByteArray.empty)]):=by
     show _=_;rw[tS_ f,List.map_append];simp only[List.map_cons,List.map_nil,List.getD,List.getElem?_eq_getElem f,Option.getD_some]
    have ao:v.ownBlock≠some (w.heap.size+2):=λe=>by have:=(p.lt _ e).1;omega
    clear Z;generalize ss.getD k ByteArray.empty=x at T ac ad;go_wp2_with fail
    have hA:B_ wr (wr.alloc (.cells #[.string (txS x)] 9)).drew:=((bR_ _ _).alloc (nR_ _) _).drew;have ae:(wr.alloc (.cells #[.string (txS x)] 9)).drew.heap[w.heap.size]? = some (.cells #[I_ z,I_ c,I_ b,I_ rc,.slice (some (p_ m r)) ss.length o] 71 (0,0)):=zR D;have af:(wr.alloc (.cells #[.string (txS x)] 9)).drew.heap[w.heap.size+1]? = some (.cells #[I_ 0,I_ 0,O_] 44 (0,0)):=zR g;have ag:(wr.alloc (.cells #[.string (txS x)] 9)).drew.heap[w.heap.size+2]? = some (.cells #[I_ (pk c 4),I_ (1+pk b 9),v] 44 (0,0)):=zR l;have am:v.ownBlock≠some w.heap.size:=λe=>by have:=(p.lt _ e).1;omega
    have an:v.ownBlock≠some (w.heap.size+1):=λe=>by have:=(p.lt _ e).1;omega
    have U:=zr hA T;have aB:m<w.heap.size:=by
     rcases A.strs.cells with h|⟨aJ,aK,e,h⟩;rw[h]at f;simp at f;cases e;exact bL_ (h k f)
    have aj:=eO_ func57;go_region_law (first|(refine zdF rfl 57 _ _ rfl [.string x] rfl aj (λu E=>u=.string (txS x)/\E=_) ((zyL x _ ad).mono (λe E ⟨he,ap⟩=>⟨_,he,rfl,ap.symm⟩)) ?_;rintro u E⟨rfl,rfl⟩)|(refine zlq rfl _ _ 40 rfl (w.heap.size+3) 9 i (.string ByteArray.empty) 1 16 underlying40 hi aq ar au rfl (by decide) _ k _ rfl (oA_ p.drew _) (p_ wr.heap.size 0) 1 1 [.string (txS x)] rfl rfl (zag _ _ _) (zs7 [_]) (by unfold maxLen;omega) (by omega) (zB L _) ?_;intro v1 w2 ab B;have s0:=(B.block _ (ze ae) (λe=>am e.symm)).trans ae;have s1:=(B.block _ (ze af) (λe=>an e.symm)).trans af;have N:=(B.block _ (ze ag) (λe=>ao e.symm)).trans ag;have p2:w2.cell? (p_ (w.heap.size+2) 2)=some v:=zb N 2 _ rfl;have p4:w2.cell? (p_ w.heap.size 4)=some (.slice (some (p_ m r)) ss.length o):=zb s0 4 _ rfl;have aI:w2.cell? (p_ m (r+k))=some (.string x):=(cB_ (B.block m (bL_ U) (λe=>by have:=(p.lt _ e.symm).1;omega))).trans U;have aH:=zd N 2;obtain⟨s,t,hq⟩:=zH ab;subst hq))
    all_goals
     go_wp2_with fail
     go_roundw
     case rel=>
      have ai:=Below.grown (d.drew.alloc d.size _) B (zB d.size _) (λq e=>by have:=(p.lt q e).1;omega);have Y:∃(C:Nat) (v':Value),C<=ss.length/\C<=4/\(Value.int .i64 ((k:Int)+1))=I_ C/\B_ w (w2.setCell (p_ (w.heap.size+2) 2) (.slice s (k+1) t))/\(w2.setCell (p_ (w.heap.size+2) 2) (.slice s (k+1) t)).heap[w.heap.size]? = some (.cells #[I_ z,I_ c,I_ b,I_ rc,.slice (some (p_ m r)) ss.length o] 71 (0,0))/\(w2.setCell (p_ (w.heap.size+2) 2) (.slice s (k+1) t)).heap[w.heap.size+1]? = some (.cells #[I_ 0,I_ 0,O_] 44 (0,0))/\(w2.setCell (p_ (w.heap.size+2) 2) (.slice s (k+1) t)).heap[w.heap.size+2]? = some (.cells #[I_ (pk c 4),I_ (1+pk b 9),v'] 44 (0,0))/\(w2.setCell (p_ (w.heap.size+2) 2) (.slice s (k+1) t)).ownsRow (w.heap.size+3) 9 1 v' C (sv ((ss.take C).map txS)):=
       ⟨k+1,.slice s (k+1) t,by omega,by omega,by go_num,ai.setCell (by simp) _,zh s0 (by omega),zh s1 (by omega),by simpa using hS_ _ _ 2 _ _ (.slice s (k+1) t) N,by rw[ac.out];exact zQ (by simpa[sv]using ab) _ _ _ (by omega)⟩
      first|exact Y|((repeat apply Exists.intro);exact⟨Y,rfl⟩)
     case measure=>simp[intOf];omega
   obtain⟨za,zc,hz⟩:=zH p;subst hz;have p0:=zb l 0 (I_ (pk c 4)) rfl;have p1:=zb l 1 (I_ (1+pk b 9)) rfl;have G:=zb g 0 (I_ 0) rfl;have H:=zb g 1 (I_ 0) rfl;have I:=zb g 2 (O_) rfl;have ah:w.heap.size+1<wr.heap.size:=by omega
   have f0:=zd g 0;have f1:=zd g 1;have f2:=zd g 2;by_cases h0:k=0
   .subst h0;have al:ss=[]:=eN_ (by omega);subst al;go_wp2_with fail
    refine bP_ (v:=.agg #[I_ (pk c 4),I_ (1+pk b 9),.slice (some (p_ wr.heap.size 0)) 1 1]) (by simp[results,results34,go_sem,G,H,I,ah]) rfl ⟨_,_,rfl,?_,?_⟩;have hO:=World.ownsRow_lit (base:=w.heap.size) (e:=9) (size:=1) ((((wr.setCell (p_ (w.heap.size+2) 2) (.slice (some (p_ wr.heap.size 0)) 1 1)).setCell (p_ (w.heap.size+1) 0) (I_ (pk c 4))).setCell (p_ (w.heap.size+1) 1) (I_ (1+pk b 9))).setCell (p_ (w.heap.size+1) 2) (.slice (some (p_ wr.heap.size 0)) 1 1)) (sv [⟨#[116]⟩]).toArray 1 (by simpa using d.size) (by decide) rfl
    simpa[zdl,sv]using hO
    exact((((d.setCell (by simp) _).setCell (by simp) _).setCell (by simp) _).setCell (by simp) _).alloc (by simpa using d.size) _
   have av:¬(k:Int)=0:=by omega
   have J:Hid (zdl ss=(ss.take k).map txS):=by
    show _=_;have ak:ss≠[]:=λe=>by subst e;simp at hk;omega
    have:ss.take 4=ss.take k:=by
     by_cases h4:k=4;rw[h4];have:k=ss.length:=by omega
     rw[tL_ (by omega),tL_ (by omega)]
    rw[zdl,iN_ ak,this]
   have hl:Hid (k=(zdl ss).length):=by show _=_;rw[J.out];simp;omega
   by_cases h4:k<ss.length;obtain rfl:k=4:=by omega
   have aa:(4:Int)<ss.length:=by omega
   go_wp2_with fail
   refine bP_ (v:=.agg #[I_ (pk c 4),I_ (1+pk b 9),.slice za 4 zc]) (by simp[results,results34,go_sem,G,H,I]) rfl ?_
   rotate_left
   have aa:¬(k:Int)<ss.length:=by omega
   go_wp2_with fail
   refine bP_ (v:=.agg #[I_ (pk c 4),I_ (1+pk b 9),.slice za k zc]) (by simp[results,results34,go_sem,G,H,I]) rfl ?_
   rotate_left
   all_goals
    rw[<-hl.out,J.out];exact⟨_,_,rfl,ownsRow_base' (zQ (zQ (zQ p _ _ _ (by omega)) _ _ _ (by omega)) _ _ _ (by omega)) (by omega),(((d.setCell (by simp) _).setCell (by simp) _).setCell (by simp) _)⟩
theorem zmH (ss:Z_):(1<=(zdl ss).length/\(zdl ss).length<=4)/\∀s∈zdl ss,1<=s.size/\s.size<=20:=by
 unfold zdl;by_cases h:ss=[];rw[iP_ h];exact⟨by simp,λs b=>by simp at b;subst b;decide⟩;rw[iN_ h];have:0<ss.length:=List.length_pos_iff.2 h;refine⟨by simp;omega,λs b=>?_⟩;simp only[mM_]at b;obtain⟨x,_,rfl⟩:=b;exact zwl x
theorem zsv (b c:Int)(ss:Z_):zbk (pk b 4) (1+pk c 9) (zdl ss)=0:=by
 obtain⟨l,m⟩:=zW b 4 (by decide);obtain⟨o,p⟩:=zW c 9 (by decide);obtain⟨⟨g,j⟩,d⟩:=zmH ss;rw[zbk,iN_ (by omega),iN_ (by omega),iP_];rw[List.all_eq_true];exact λs f=>by simpa[zbM]using d s f
def zbx (n m:Int):L_:=(((List.replicate 32 0).set 0 (pk n 256)).set 1 (m % 256)).set 31 1
theorem zht (n m:Int):(zbx n m).length=32:=by simp[zbx]
theorem zwm (w:World):(Instr.makeSlice 56 (I_ 32) (I_ 32)).run prog w=.ok (.slice (some (p_ w.heap.size 0)) 32 32) (w.alloc (.cells (ub (List.replicate 32 0)).toArray 5)):=by kernel_rfl
theorem zph (l:L_)(i:Nat)(x:Int):(ub l).set i (.int .u8 x)=ub (l.set i x):=by simp[ub,List.map_set]
theorem zlj (n m:Int)(w:World)(c:I64 n) :
  Calls prog 36 #[I_ n,I_ m] w λe w'=>e=.returned (.slice (some (p_ w.heap.size 0)) 32 32)/\w'.ownsRow w.heap.size 5 1 (.slice (some (p_ w.heap.size 0)) 32 32) 32 (ub (zbx n m))/\B_ w w':=by
 have q:=λw=>zwm w;have b:=World.ownsRow_lit (base:=w.heap.size) (e:=5) (size:=1) w (ub (List.replicate 32 0)).toArray 32 (nR_ _) (by decide) rfl;have f:=(World.ownsRow.cellAt b 0 (by omega));have g:=(World.ownsRow.cellAt b 1 (by omega));have j:=(World.ownsRow.cellAt b 31 (by omega));have l:=World.ownsRow.frozenAt b 0;have o:=World.ownsRow.frozenAt b 1;have p:=World.ownsRow.frozenAt b 31;obtain⟨r,s⟩:=zW n 256 (by decide);have d:=World.ownsRow_lit (base:=w.heap.size) (e:=5) (size:=1) w (ub (zbx n m)).toArray 32 (nR_ _) (by decide) (by simp[ub,zbx]);go_in;go_wp2_with (go_at_call 11;refine(zaV n 256 _ c.1 c.2 (by decide) (by decide)).mono ?_;rintro e w'⟨rfl,rfl⟩)
 go_ret;refine⟨rfl,?_,(bR_ _ _).alloc (nR_ _) _⟩;rw[zph,zph,zph];exact d
variable {qs:List zi}{ra:Q_}{rc:Nat}
def zhR (rc:Int):List (L_):=(List.range (pk rc 4).toNat).map λ(i:Nat)=>zbx rc i
def zfY (ra rb rc:Int):List (L_):=if pk rb 9=0 then []else(List.range (3+pk rc 2).toNat).map λ(i:Nat)=>zbx ra (10+i)
theorem z8.farH {v:Value}(h:z8 w B v qs)(b j:Nat)(x:Value)(t:b<B):z8 (w.setCell (p_ b j) x) B v qs:=λp s=>by
 obtain⟨c,l⟩:=h p s
 refine⟨⟨c.le,c.max,c.some,c.nil,?_⟩,λd f e=>?_⟩
 .rcases c.bytes with g|⟨d,f,e,g⟩
  .exact .inl g
  .exact .inr ⟨d,f,e,λk r=>(World.cell?_setCell_far _ _ _ _ (by have:=(l d f e).1;show b≠d;omega)).trans (g k r)⟩
 .obtain⟨m,o,q⟩:=l d f e
  exact⟨m,by simpa using o,q⟩
theorem Off.far {v:Value}(h:Off w v ra qs)(b j:Nat)(x:Value):Off (w.setCell (p_ b j) x) v ra qs:=
 ⟨λc d e=>⟨by simpa using(h.row c d e).1,(h.row c d e).2⟩,λp f c d e=>⟨by simpa using(h.each p f c d e).1,(h.each p f c d e).2⟩⟩
theorem Off.below {v:Value}(h:Off w v ra qs)(d:B_ w w'):Off w' v ra qs:=
 ⟨λb c e=>⟨nL_ (h.row b c e).1 d.size,(h.row b c e).2⟩,λp f b c e=>⟨nL_ (h.each p f b c e).1 d.size,(h.each p f b c e).2⟩⟩
theorem zkS {m:Nat}{e:TypeId}(h:w.ownsRow base e 1 (.slice ra m rc) m xs)(d:z8 w base (.slice ra m rc) qs):Off w (O_) ra qs:=
 ⟨λb c e=>⟨by subst e;exact(h.lt b rfl).2,λe=>by cases e⟩,λp f b c e=>⟨((d p f).2 b c e).2.1,λe=>by cases e⟩⟩
theorem znt (w:World)(B:Nat)(v:Value):z8 w B v []:=λp b=>by cases b
theorem zkT (X b c rc:Int)(Y:Q_)(n T:Nat)(w:World)(h2:I64 b)(h3:I64 c)(H:I64 rc) :
  Calls prog 35 #[.agg #[I_ X,I_ b,I_ c,I_ rc,.slice Y n T]] w λe w'=>∃t G bl pa pc pl,e=.returned (.agg #[I_ (pk b 4),I_ (1+pk c 9),.slice t (List.length bl) G,.slice pa (List.length pl) pc])/\zx w' t G bl/\zx w' pa pc pl/\Off w' (O_) t bl/\Off w' (O_) pa pl/\bl.map (·.bs)=zhR rc/\pl.map (·.bs)=zfY b c rc/\B_ w w'/\za1 w.heap.size t bl/\za1 w.heap.size pa pl:=by
 obtain⟨aV,aW⟩:=zW b 4 (by decide);obtain⟨aX,aY⟩:=zW c 9 (by decide);obtain⟨aZ,a0⟩:=zW rc 4 (by decide);obtain⟨a1,a2⟩:=zW rc 2 (by decide);have q0:=hX_ w (.cells #[I_ X,I_ b,I_ c,I_ rc,.slice Y n T] 71) (.cells #[I_ 0,I_ 0,O_,O_] 61);have k1:=zb q0 1 _ rfl;have k2:=zb q0 2 _ rfl;have hw:IntKind.i64.wrap (1+pk c 9)=1+pk c 9:=by rw[IntKind.wrap_i64];omega
 go_in;go_upto_region 1 with(fail)
 go_cut [3] (λv wx=>v=(P_ (w.heap.size+2) 0)/\B_ w wx/\R_ wx w.heap.size #[I_ X,I_ b,I_ c,I_ rc,.slice Y n T] 71/\R_ wx (w.heap.size+1) #[I_ 0,I_ 0,O_,O_] 61/\R_ wx (w.heap.size+2) #[I_ (pk b 4),I_ (1+pk c 9),O_,O_] 61)
 case first=>
  go_region_held3 (λw'=>w'.cell? (p_ w.heap.size 1)=some (I_ b)/\w'.cell? (p_ w.heap.size 2)=some (I_ c)) (go_keep) (first|(go_at_call 11;refine(zaV _ _ _ (by first|exact h2.1|exact h3.1) (by first|exact h2.2|exact h3.2) (by omega) (by omega)).mono ?_;rintro e d⟨rfl,rfl⟩))
  all_goals
   go_wp2_with fail
   go_meet
   case rel=>
    refine⟨rfl,((((bR_ _ _).alloc (nR_ _) _).alloc (by simp) _).alloc (by simp;omega) _).drew,?_,?_,?_⟩
    .exact zR (zR (hN_ w _))
    .exact zR (zco _ _ _ (by simp))
    .exact zco _ _ _ (by simp)
 case rest=>
  obtain⟨rfl,D,I,f,r⟩:=hcut;clear k1 k2 q0 hw;obtain⟨i,hi,az,aA,aB⟩:=info_parts zhc;have ax:=eO_ func36;have aq:Hid _:=ax;clear ax;go_wp2_with fail
  go_loopw [4] (λj wr=>∃(k:Nat) (v:Value) (B:List zi),(k:Int)<=pk rc 4/\j=I_ k/\B_ w wr/\R_ wr w.heap.size #[I_ X,I_ b,I_ c,I_ rc,.slice Y n T] 71/\R_ wr (w.heap.size+1) #[I_ 0,I_ 0,O_,O_] 61/\R_ wr (w.heap.size+2) #[I_ (pk b 4),I_ (1+pk c 9),v,O_] 61/\wr.ownsRow (w.heap.size+3) 56 1 v k (pv B)/\z8 wr (w.heap.size+3) v B/\Hid (B.map (·.bs)=(List.range k).map λ(i:Nat)=>zbx rc i)) (λj _=>(pk rc 4-intOf j).toNat)
  case atStart=>exact⟨0,_,[],by omega,rfl,D,I,f,r,oN_ _ _ _ _,znt _ _ _,by show _=_;simp⟩
  case round=>
   clear D I f r;obtain⟨k,v,B,hk,rfl,D,I,f,r,A,N,V⟩:=hrel;have c3:=zb I 3 (I_ rc) rfl;have o2:wr.cell? (p_ (w.heap.size+2) 2)=some v:=zb r 2 _ rfl;have aL:=zd r 2;have hN:=ze r;by_cases hlt:(k:Int)<pk rc 4
   .have an:v.ownBlock≠some (w.heap.size+2):=λe=>by have:=(A.lt _ e).1;omega
    have al:v.ownBlock≠some w.heap.size:=λe=>by have:=(A.lt _ e).1;omega
    have am:v.ownBlock≠some (w.heap.size+1):=λe=>by have:=(A.lt _ e).1;omega
    go_wp2_with (go_at_call 11;refine(zaV rc 4 _ H.1 H.2 (by omega) (by omega)).mono ?_;rintro e d⟨rfl,rfl⟩)
    go_region_law (first|(refine zdF rfl 36 _ _ rfl [I_ rc,I_ k] rfl aq.out (λu d=>u=.slice (some (p_ wr.heap.size 0)) 32 32/\d.ownsRow wr.heap.size 5 1 u 32 (ub (zbx rc k))/\B_ wr d) ((zlj rc k _ H).mono (λe d ⟨he,L,o⟩=>⟨_,he,rfl,L,zbE o⟩)) ?_;rintro u d⟨rfl,L,o⟩;have s0:=zk o I;have s1:=zk o f;have M:=zk o r;have p2:d.cell? (p_ (w.heap.size+2) 2)=some v:=zb M 2 _ rfl;have p3:d.cell? (p_ w.heap.size 3)=some (I_ rc):=zb s0 3 _ rfl;have a3:=zd M 2;have ad:w.heap.size+2<d.heap.size:=ze M;have ac:=zw A o)|(refine zcc rfl _ _ 59 rfl (w.heap.size+3) 56 i (O_) 1 24 underlying59 hi az aA aB rfl (by decide) _ k _ rfl (oA_ ac _) (p_ d.heap.size 0) 1 1 [.slice (some (p_ wr.heap.size 0)) 32 32] rfl rfl (zag _ _ _) (by intro u hu;simp at hu;subst hu;rfl) (by unfold maxLen;omega) (by omega) (zB ad _) ?_;intro v1 s ab C;have t0:=C.row (zR s0) al;have t1:=C.row (zR s1) am;have Z:=C.row (zR M) an;have g2:s.cell? (p_ (w.heap.size+2) 2)=some v:=zb Z 2 _ rfl;have aN:=zd Z 2;obtain⟨g,l,hq⟩:=zH ab;subst hq))
    all_goals
     go_wp2_with fail
     go_roundw
     case rel=>
      have ai:=(D.trans (o.mono D.size)).trans (C.alloc.below (nT_ D.size o.size) (λq e=>by have:=(ac.lt q e).1;omega));have ak:=(zc0 L).2;have ah:=N.more (q:=⟨some (p_ wr.heap.size 0),32,zbx rc k⟩) (by omega) A o L ak C;have hR:∃(k':Nat) (R:Value) (ap:List zi),(k':Int)<=pk rc 4/\(Value.int .i64 ((k:Int)+1))=I_ k'/\B_ w (s.setCell (p_ (w.heap.size+2) 2) (.slice g (k+1) l))/\(s.setCell (p_ (w.heap.size+2) 2) (.slice g (k+1) l)).heap[w.heap.size]? = some (.cells #[I_ X,I_ b,I_ c,I_ rc,.slice Y n T] 71 (0,0))/\(s.setCell (p_ (w.heap.size+2) 2) (.slice g (k+1) l)).heap[w.heap.size+1]? = some (.cells #[I_ 0,I_ 0,O_,O_] 61 (0,0))/\(s.setCell (p_ (w.heap.size+2) 2) (.slice g (k+1) l)).heap[w.heap.size+2]? = some (.cells #[I_ (pk b 4),I_ (1+pk c 9),R,O_] 61 (0,0))/\(s.setCell (p_ (w.heap.size+2) 2) (.slice g (k+1) l)).ownsRow (w.heap.size+3) 56 1 R k' (pv ap)/\z8 (s.setCell (p_ (w.heap.size+2) 2) (.slice g (k+1) l)) (w.heap.size+3) R ap/\Hid (ap.map (·.bs)=(List.range k').map λ(i:Nat)=>zbx rc i):=
       ⟨k+1,.slice g (k+1) l,B++[⟨some (p_ wr.heap.size 0),32,zbx rc k⟩],by omega,by go_num,ai.setCell (by simp) _,zh t0 (by omega),zh t1 (by omega),by simpa using hS_ _ _ 2 _ _ (.slice g (k+1) l) Z,zQ (by simpa[pv,zi.val,zht]using ab) _ _ _ (by omega),ah.farH _ _ _ (by omega),by show _=_;rw[List.map_append,V.out,List.range_succ,List.map_append];rfl⟩
      first|exact hR|((repeat apply Exists.intro);exact⟨hR,rfl⟩)
     case measure=>simp[intOf];omega
   have U:(k:Int)=pk rc 4:=by omega
   obtain⟨t,G,hv,hl,hL,E⟩:=zcI A N;subst hv;have ae:=hL (by omega);have ag:=zkS A N;have aw:Hid (B.map (·.bs)=zhR rc):=by show _=_;rw[V.out,zhR,<-U];rfl
   have Hl:Hid (k=B.length):=hl;have Hk:Hid ((k:Int)=pk rc 4):=U;have aQ:k<=3:=by omega
   clear hl U hL V;have d0:=zb f 0 (I_ 0) rfl;have d1:=zb f 1 (I_ 0) rfl;have d2:=zb f 2 (O_) rfl;have d3:=zb f 3 (O_) rfl;have f0:=zd f 0;have f1:=zd f 1;have f2:=zd f 2;have f3:=zd f 3;have e0:=zb r 0 (I_ (pk b 4)) rfl;have e1:=zb r 1 (I_ (1+pk c 9)) rfl;have e3:=zb r 3 (O_) rfl;by_cases hrd:pk c 9=0;have aj:Hid (zfY b c rc=[]):=by show _=_;rw[zfY,iP_ hrd]
   have aK:¬(1:Int)<1+pk c 9:=by omega
   have aM:Hid (pk c 9=0):=hrd;clear hrd
   rotate_left
   have aK:(1:Int)<1+pk c 9:=by omega
   have aj:Hid (zfY b c rc=(List.range (3+pk rc 2).toNat).map λ(i:Nat)=>zbx b (10+i)):=by show _=_;rw[zfY,iN_ hrd]
   rotate_left
   all_goals go_wp2_with (go_at_call 11;refine(zaV rc 4 _ H.1 H.2 (by omega) (by omega)).mono ?_;rintro e d⟨rfl,rfl⟩)
   .have J:w.heap.size+1<w.heap.size+3:=by omega
    refine bP_ (v:=.agg #[I_ (pk b 4),I_ (1+pk c 9),.slice t k G,O_]) (by simp[results,results35,go_sem,d0,d1,d2,d3]) rfl ?_;refine⟨t,G,B,none,0,[],by rw[<-Hl.out];rfl,?_,?_,?_,?_,aw.out,by rw[aj.out];rfl,?_,⟨λy z e=>by have:=E.row y z e;omega,λp F y z e=>by have:=E.each p F y z e;omega⟩,⟨(λy z e=>by cases e),(λp F=>by cases F)⟩⟩;exact(((ae.setCell E _ _ _ J).setCell E _ _ _ J).setCell E _ _ _ J).setCell E _ _ _ J;exact⟨nR_ _,by decide,by decide,.inl rfl,⟨.inl rfl,λp F=>by cases F⟩⟩;exact(((ag.far _ _ _).far _ _ _).far _ _ _).far _ _ _;exact⟨(λy z e=>by cases e),(λp F=>by cases F)⟩;exact((((D.setCell (by simp) _).setCell (by simp) _).setCell (by simp) _).setCell (by simp) _)
   rename World=>wl
   have ay:=ag;have aT:w.heap.size+3<=wl.heap.size:=hN;go_loopw [5] (λj wr=>∃(m:Nat) (v:Value) (O:List zi),(m:Int)<=3+pk rc 2/\j=I_ m/\B_ w wr/\R_ wr w.heap.size #[I_ X,I_ b,I_ c,I_ rc,.slice Y n T] 71/\R_ wr (w.heap.size+1) #[I_ 0,I_ 0,O_,O_] 61/\R_ wr (w.heap.size+2) #[I_ (pk b 4),I_ (1+pk c 9),.slice t k G,v] 61/\wr.ownsRow wl.heap.size 56 1 v m (pv O)/\z8 wr wl.heap.size v O/\Hid (O.map (·.bs)=(List.range m).map λ(i:Nat)=>zbx b (10+i))/\zx wr t G B/\Off wr v t B/\wl.heap.size<=wr.heap.size) (λj _=>(3+pk rc 2-intOf j).toNat)
   case atStart=>exact⟨0,_,[],by omega,rfl,D,I,f,r,oN_ _ _ _ _,znt _ _ _,(by show _=_;simp),ae,ay,nR_ _⟩
   case round=>
    clear D I f r N A ae ag ay c3 o2 aL hN d0 d1 d2 d3 f0 f1 f2 f3 e0 e1 e3;obtain⟨m,v,O,hm,rfl,D,I,f,r,A,N,V,au,af,ar⟩:=hrel;have c3:=zb I 3 (I_ rc) rfl;have c1:=zb I 1 (I_ b) rfl;have o3:wr.cell? (p_ (w.heap.size+2) 3)=some v:=zb r 3 _ rfl;have aU:=zd r 3;have hN:=ze r;by_cases hlt:(m:Int)<3+pk rc 2;have an:v.ownBlock≠some (w.heap.size+2):=λe=>by have:=(A.lt _ e).1;omega
    have al:v.ownBlock≠some w.heap.size:=λe=>by have:=(A.lt _ e).1;omega
    have am:v.ownBlock≠some (w.heap.size+1):=λe=>by have:=(A.lt _ e).1;omega
    have aS:IntKind.i64.wrap (10+(m:Int))=10+(m:Int):=by rw[IntKind.wrap_i64];omega
    rotate_left
    have U:(m:Int)=3+pk rc 2:=by omega
    obtain⟨g,l,hv,hl,hL,aa⟩:=zcI A N;subst hv;have aF:=hL (by omega);have aI:=zkS A N;have aJ:Hid (O.map (·.bs)=zfY b c rc):=by show _=_;rw[V.out,aj.out,<-U];rfl
    have aC:Hid (m=O.length):=hl;have aG:Off wr (O_) t B:=⟨λy z e=>⟨(af.row y z e).1,λe=>by cases e⟩,λp F y z e=>⟨(af.each p F y z e).1,λe=>by cases e⟩⟩;have aR:m<=4:=by omega
    have Hm:Hid ((m:Int)=3+pk rc 2):=U;clear hl U hL V;have d0:=zb f 0 (I_ 0) rfl;have d1:=zb f 1 (I_ 0) rfl;have d2:=zb f 2 (O_) rfl;have d3:=zb f 3 (O_) rfl;have f0:=zd f 0;have f1:=zd f 1;have f2:=zd f 2;have f3:=zd f 3;have e0:=zb r 0 (I_ (pk b 4)) rfl;have e1:=zb r 1 (I_ (1+pk c 9)) rfl;have e2:=zb r 2 (.slice t k G) rfl
    rotate_left
    all_goals go_wp2_with (go_at_call 11;refine(zaV rc 2 _ H.1 H.2 (by omega) (by omega)).mono ?_;rintro e d⟨rfl,rfl⟩)
    .go_region_law (first|(refine zdF rfl 36 _ _ rfl [I_ b,I_ (10+(m:Int))] rfl aq.out (λu d=>u=.slice (some (p_ wr.heap.size 0)) 32 32/\d.ownsRow wr.heap.size 5 1 u 32 (ub (zbx b (10+m)))/\B_ wr d) ((zlj b (10+m) _ h2).mono (λe d ⟨he,L,o⟩=>⟨_,he,rfl,L,zbE o⟩)) ?_;rintro u d⟨rfl,L,o⟩;have s0:=zk o I;have s1:=zk o f;have M:=zk o r;have p3:d.cell? (p_ (w.heap.size+2) 3)=some v:=zb M 3 _ rfl;have p1:d.cell? (p_ w.heap.size 1)=some (I_ b):=zb s0 1 _ rfl;have a4:=zd M 3;have aP:w.heap.size+2<d.heap.size:=ze M;have ad:wl.heap.size<=d.heap.size:=nT_ ar o.size;have ac:=zw A o)|(refine zcc rfl _ _ 59 rfl wl.heap.size 56 i (O_) 1 24 underlying59 hi az aA aB rfl (by decide) _ m _ rfl (oA_ ac _) (p_ d.heap.size 0) 1 1 [.slice (some (p_ wr.heap.size 0)) 32 32] rfl rfl (zag _ _ _) (by intro u hu;simp at hu;subst hu;rfl) (by unfold maxLen;omega) (by omega) (zB ad _) ?_;intro v1 s ab C;have t0:=C.row (zR s0) al;have t1:=C.row (zR s1) am;have Z:=C.row (zR M) an;have g3:s.cell? (p_ (w.heap.size+2) 3)=some v:=zb Z 3 _ rfl;have aO:=zd Z 3;obtain⟨g,l,hq⟩:=zH ab;subst hq))
     all_goals
      go_wp2_with fail
      go_roundw
      case rel=>
       have ai:=(D.trans (o.mono D.size)).trans (C.alloc.below (nT_ D.size o.size) (λq e=>by have:=(ac.lt q e).1;omega));have ak:=(zc0 L).2;have ah:=N.more (q:=⟨some (p_ wr.heap.size 0),32,zbx b (10+m)⟩) ar A o L ak C;have aD:=zC d (.cells #[.slice (some (p_ wr.heap.size 0)) 32 32] 56);have av:=(af.below o).alloc (.cells #[.slice (some (p_ wr.heap.size 0)) 32 32] 56);have aE:=C.list ((au.below o).below aD) av;have aH:=C.off av;have hR:∃(m':Nat) (R:Value) (ao:List zi),(m':Int)<=3+pk rc 2/\(Value.int .i64 ((m:Int)+1))=I_ m'/\B_ w (s.setCell (p_ (w.heap.size+2) 3) (.slice g (m+1) l))/\(s.setCell (p_ (w.heap.size+2) 3) (.slice g (m+1) l)).heap[w.heap.size]? = some (.cells #[I_ X,I_ b,I_ c,I_ rc,.slice Y n T] 71 (0,0))/\(s.setCell (p_ (w.heap.size+2) 3) (.slice g (m+1) l)).heap[w.heap.size+1]? = some (.cells #[I_ 0,I_ 0,O_,O_] 61 (0,0))/\(s.setCell (p_ (w.heap.size+2) 3) (.slice g (m+1) l)).heap[w.heap.size+2]? = some (.cells #[I_ (pk b 4),I_ (1+pk c 9),.slice t k G,R] 61 (0,0))/\(s.setCell (p_ (w.heap.size+2) 3) (.slice g (m+1) l)).ownsRow wl.heap.size 56 1 R m' (pv ao)/\z8 (s.setCell (p_ (w.heap.size+2) 3) (.slice g (m+1) l)) wl.heap.size R ao/\Hid (ao.map (·.bs)=(List.range m').map λ(i:Nat)=>zbx b (10+i))/\zx (s.setCell (p_ (w.heap.size+2) 3) (.slice g (m+1) l)) t G B/\Off (s.setCell (p_ (w.heap.size+2) 3) (.slice g (m+1) l)) R t B/\wl.heap.size<=(s.setCell (p_ (w.heap.size+2) 3) (.slice g (m+1) l)).heap.size:=
        ⟨m+1,.slice g (m+1) l,O++[⟨some (p_ wr.heap.size 0),32,zbx b (10+m)⟩],by omega,by go_num,ai.setCell (by simp) _,zh t0 (by omega),zh t1 (by omega),by simpa using hS_ _ _ 3 _ _ (.slice g (m+1) l) Z,zQ (by simpa[pv,zi.val,zht]using ab) _ _ _ (by omega),ah.farH _ _ _ (by omega),(by show _=_;rw[List.map_append,V.out,List.range_succ,List.map_append];rfl),aE.setCell E _ _ _ (by omega),aH.far _ _ _,by simpa using nT_ (zB ad _) C.grown.size⟩
       first|exact hR|((repeat apply Exists.intro);exact⟨hR,rfl⟩)
      case measure=>simp[intOf];omega
    have J:w.heap.size+1<w.heap.size+3:=by omega
    have g2:w.heap.size+1<wl.heap.size:=by omega
    refine bP_ (v:=.agg #[I_ (pk b 4),I_ (1+pk c 9),.slice t k G,.slice g m l]) (by simp[results,results35,go_sem,d0,d1,d2,d3]) rfl ?_;refine⟨t,G,B,g,l,O,by rw[<-Hl.out,<-aC.out],?_,?_,?_,?_,aw.out,aJ.out,?_,⟨λy z e=>by have:=E.row y z e;omega,λp F y z e=>by have:=E.each p F y z e;omega⟩,⟨λy z e=>by have:=aa.row y z e;omega,λp F y z e=>by have:=aa.each p F y z e;omega⟩⟩;exact(((au.setCell E _ _ _ J).setCell E _ _ _ J).setCell E _ _ _ J).setCell E _ _ _ J;exact(((aF.setCell aa _ _ _ g2).setCell aa _ _ _ g2).setCell aa _ _ _ g2).setCell aa _ _ _ g2;exact(((aG.far _ _ _).far _ _ _).far _ _ _).far _ _ _;exact(((aI.far _ _ _).far _ _ _).far _ _ _).far _ _ _;exact((((D.setCell (by simp) _).setCell (by simp) _).setCell (by simp) _).setCell (by simp) _)
variable {i j:Int}
theorem zhu (n m:Int):∀x∈zbx n m,0<=x/\x<=255:=by
 obtain⟨c,d⟩:=zW n 256 (by decide);intro x b;rcases List.mem_or_eq_of_mem_set b with b|rfl;rcases List.mem_or_eq_of_mem_set b with b|rfl;rcases List.mem_or_eq_of_mem_set b with b|rfl;rw[List.mem_replicate]at b;omega;omega;omega;omega
theorem zuG {a:Int}(c:0<=i/\i<256)(d:0<=j/\j<256)(h:zbx a i=zbx a j):i=j:=by
 have b:(zbx a i)[1]? = (zbx a j)[1]?:=by rw[h]
 simp[zbx]at b;omega
theorem znu (b:List zi)(a c:Int)(n:Nat)(r:0<=c/\c+n<=256)(h:b.map (·.bs)=(List.range n).map λ(i:Nat)=>zbx a (c+i)):zb8 b=0:=by
 have s:b.length=n:=by have:=cA_ List.length h;simpa using this
 have d:∀k,k<b.length->(zcT b k).bs=zbx a (c+k):=by
  intro k f;rw[zgQ b k f];have l:(b.map (·.bs))[k]? = ((List.range n).map λ(i:Nat)=>zbx a (c+i))[k]?:=by rw[h]
  simp[f,show k<n by omega]at l;exact l
 have o:∀k,k<=b.length->zbn b k=0:=by
  intro k
  induction k with
  | zero=>intro _;rfl
  | succ k ih=>
   intro f;rw[zbn,ih (by omega)];simp only[ne_eq,not_true_eq_false,if_false];have q:zgm b k=false:=by
    rw[zgm,List.any_eq_false];intro j p;rw[List.mem_range]at p;rw[d j (by omega),d k (by omega)];intro e;have g:=of_decide_eq_true e;unfold txL at g;have m:=ziD (zhu _ _) (zhu _ _) (zhf g);have:=zuG (by omega) (by omega) m;omega
   rw[zcF,d k (by omega),zht,q]
   simp
 exact o b.length (nR_ _)
theorem zkU (c d rc:Int)(bl pl:List zi)(f:bl.map (·.bs)=zhR rc)(b:pl.map (·.bs)=zfY c d rc):zO (pk c 4) (1+pk d 9) bl pl=0:=by
 obtain⟨o,p⟩:=zW c 4 (by decide);obtain⟨q,r⟩:=zW d 9 (by decide);obtain⟨s,t⟩:=zW rc 4 (by decide);obtain⟨u,y⟩:=zW rc 2 (by decide);have m:bl.length=(pk rc 4).toNat:=by have:=cA_ List.length f;simpa[zhR]using this
 have g:=znu bl rc 0 (pk rc 4).toNat (by omega) (by rw[f,zhR];simp);by_cases h0:pk d 9=0;rw[zfY,iP_ h0]at b;have j:pl=[]:=by simpa using b
 subst j;rw[zO,iN_ (by omega),iN_ (by simp;omega),iN_ (by simp[g]),iN_ (by simp[zb8,zbn])];simp[zb9,h0];rw[zfY,iN_ h0]at b;have j:pl.length=(3+pk rc 2).toNat:=by have:=cA_ List.length b;simpa using this
 have l:=znu pl c 10 (3+pk rc 2).toNat (by omega) b;rw[zO,iN_ (by omega),iN_ (by omega),iN_ (by simp[g]),iN_ (by simp[l]),zb9,iN_ (by omega)]
def zbW (k:Int):Nat->L_
 | 0=>[]
 | i+1=>if(i:Int)=k then zbW k i else zbW k i++[(i:Int)]
def zdB (n:Int):L_:=zbW (pk n 5) 4
theorem zsw (k:Int)(i:Nat):(zbW k i).length<=i:=by
 induction i with
 | zero=>simp[zbW]
 | succ i ih=>
  rw[zbW]
  split
  omega
  simp;omega
theorem zsx (n:Int)(w:World)(u:I64 n) :
  Calls prog 37 #[I_ n] w λe w'=>∃v,e=.returned v/\w'.ownsRow w.heap.size 3 1 v (zdB n).length (iv (zdB n))/\B_ w w':=by
 obtain⟨O,R⟩:=zW n 5 (by decide);obtain⟨i,D,F,G,H⟩:=info_parts zu4;have s:=λI=>zaV n 5 I u.1 u.2 (by decide) (by decide);unfold zdB;generalize pk n 5=k at*;have z:Hid _:=s;clear s;go_in;go_wp2_with (go_at_call 11;refine(z.out _).mono ?_;rintro e U⟨rfl,rfl⟩)
 go_loopw [5,4] (λj t wr=>∃(m:Nat) (d:Value),m<=4/\j=I_ m/\d=t/\wr.ownsRow w.heap.size 3 1 d (zbW k m).length (iv (zbW k m))/\B_ w wr) (λj _ _=>4-(intOf j).toNat)
 case atStart=>exact⟨0,_,nZ_ _,rfl,rfl,oN_ _ _ _ _,bR_ _ _⟩
 case round=>
  obtain⟨m,d,N,rfl,rfl,l,g⟩:=hrel;by_cases hlt:m<4
  .have M:(m:Int)<4:=by omega
   have L:=zsw k m;by_cases he:(m:Int)=k
   .have p:Hid (zbW k (m+1)=zbW k m):=by show _=_;rw[zbW,iP_ he]
    have B:((m:Int) == k)=true:=by simpa using he
    have J:Hid ((m:Int)=k):=he;clear he;go_wp2_with fail
    go_roundw
    case rel=>
     have c:∃(b:Nat) (f:Value),b<=4/\(Value.int .i64 ((m:Int)+1))=I_ b/\f=d/\wr.ownsRow w.heap.size 3 1 f (zbW k b).length (iv (zbW k b))/\B_ w wr:=⟨m+1,d,by omega,by go_num,rfl,by rw[p.out];exact l,g⟩
     first|exact c|((repeat apply Exists.intro);exact⟨c,rfl⟩)
    case measure=>simp[intOf];omega
   have p:Hid (zbW k (m+1)=zbW k m++[(m:Int)]):=by show _=_;rw[zbW,iN_ he]
   have B:((m:Int) == k)=false:=by simpa using he
   generalize zbW k m=T at*;have o:=g.size;go_wp2_with (at_builtin;refine wpList_append_own_at _ rfl _ _ 64 rfl w.heap.size 3 i (I_ 0) 1 8 underlying64 D F G H rfl (by decide) _ T.length _ rfl (oA_ l _) (p_ wr.heap.size 0) 1 1 [I_ (m:Int)] rfl rfl (zag _ _ _) (zs5 [_]) (by unfold maxLen;omega) (by omega) (zB o _) ?_;intro y r E C _ _)
   go_roundw
   case rel=>
    have A:=Below.grown (g.alloc o _) C (zB o _) (λq e=>(l.lt q e).1);have c:∃(b:Nat) (f:Value),b<=4/\(Value.int .i64 ((m:Int)+1))=I_ b/\f=y/\r.ownsRow w.heap.size 3 1 f (zbW k b).length (iv (zbW k b))/\B_ w r:=⟨m+1,y,by omega,by go_num,rfl,by rw[p.out];simpa[iv]using E,A⟩
    first|exact c|((repeat apply Exists.intro);exact⟨c,rfl⟩)
   case measure=>simp[intOf];omega
  obtain rfl:m=4:=by omega
  go_wp2_with fail
  go_ret;exact⟨_,rfl,l,g⟩
theorem zpi (rc:Int):∃b c d f,zdB rc=b::c::d::f/\0<=b/\b<c/\c<4/\zep (zdB rc)=0/\b<4/\(zdB rc).length<=4:=by
 obtain⟨g,j⟩:=zW rc 5 (by decide);unfold zdB;generalize pk rc 5=k at*;have h:k=0\/k=1\/k=2\/k=3\/k=4:=by omega
 rcases h with rfl|rfl|rfl|rfl|rfl;exact⟨1,2,3,[],by decide,by decide,by decide,by decide,by decide,by decide,by decide⟩;exact⟨0,2,3,[],by decide,by decide,by decide,by decide,by decide,by decide,by decide⟩;exact⟨0,1,3,[],by decide,by decide,by decide,by decide,by decide,by decide,by decide⟩;exact⟨0,1,2,[],by decide,by decide,by decide,by decide,by decide,by decide,by decide⟩;exact⟨0,1,2,[3],by decide,by decide,by decide,by decide,by decide,by decide,by decide⟩
end Go.Proofs.YtffaeaonobmmjaaGreatDoor
