import Derived.Test.YthnkppcncbjdiaaGreatDoorPkTopDown0
set_option maxRecDepth 100000
set_option maxHeartbeats 4000000
namespace Go.Proofs.YthnkppcncbjdiaaGreatDoor
open Go.RowKit _root_.Go.Proofs.Tryz
theorem zcx.of {p q:Vw}(h:p=q):zcx p q:=by subst h;exact⟨rfl,rfl,rfl,rfl⟩
theorem zjf (r:Int)(l:List Ac):((Fl.z r).run l).nd.length=4:=(zgk l _).trans rfl
theorem zsR (r:Int)(l:List Ac):((Fl.z r).run l).no.bad=r:=zxU l _
variable {k:Nat}
def zkP (l:List AV):List AV:=l.filter (λa=>!decide (a.k=8))
theorem zz4 {l:List AV}{a:AV}(h:a∈zkP l):a∈l/\a.k≠8:=by
 obtain⟨b,c⟩:=List.mem_filter.1 h;exact⟨b,by simpa using c⟩
theorem zAK {l:List AV}(h:k<l.length):zkP (l.take (k+1))=if(l[k]).k=8 then zkP (l.take k)else zkP (l.take k)++[l[k]]:=by
 rw[tS_ h,zkP,List.filter_append];by_cases e:(l[k]).k=8
 .rw[if_pos e,List.filter_cons_of_neg (by simp[e]),List.filter_nil,List.append_nil];rfl
 .rw[if_neg e,List.filter_cons_of_pos (by simp[e]),List.filter_nil];rfl
theorem zAQ {f:Fl}(b:f.nd.length=4){i p:Int}(c:0<=i/\i<4)(t:ByteArray):(f.does ⟨7,i,p,t⟩).runs i=false:=by
 have e:f.does ⟨7,i,p,t⟩=f.crashes i p:=by
  rw[Fl.does,Fl.act,if_neg (by simp),if_neg (by simp),if_neg (by simp),if_neg (by simp),if_neg (by simp),if_pos (by simp)]
  rfl
 rw[e];unfold Fl.crashes;cases hr:f.runs i with
 | false=>simpa using hr
 | true=>
  show(f.set i _).runs i=false;unfold Fl.runs;rw[set_here _ b c,(zc8 (f.node i) p).2.1,Bool.and_false]
theorem zAR {b:Int}{i:Nat}(q:i<4){l m:List AV}(G:∀a∈l,a.e=0/\a.t.size<=4000)(I:∀a∈m,a.e=0/\a.t.size<=4000)(C:∀a∈m,a.k≠8){x y:Om}
  (E:(⟨7,i,0,⟨#[]⟩⟩:AV).e=0/\(⟨7,i,0,⟨#[]⟩⟩:AV).t.size<=4000)
  (u:x.v=((Fl.z b).run ((l++[(⟨7,i,0,⟨#[]⟩⟩:AV)]).map AV.ac)).told) (j:y.v=((Fl.z b).run ((l++[(⟨7,i,0,⟨#[]⟩⟩:AV)]++m).map AV.ac)).told) :
  (y.y i).up=false/\zcx (x.y i).v (y.y i).v/\∀k (s:k<y.gs.length),x.gs.length<=k->(y.gs[k]).nd≠i:=by
 have H:∀a∈l++[(⟨7,i,0,⟨#[]⟩⟩:AV)],a.e=0/\a.t.size<=4000:=zc9 G (λa d=>by rw[List.mem_singleton.1 d];exact E);have r:(0:Int)<=i/\(i:Int)<4:=by omega
 have g:((Fl.z b).run ((l++[(⟨7,i,0,⟨#[]⟩⟩:AV)]).map AV.ac)).runs i=false:=by
  rw[zcP];exact zAQ (zjf _ _) r _
 have L:=zcn.run _ (zcn.z b) (ziz H);rw[zcP b (l++_) m]at j;have T:((Fl.z b).run ((l++[(⟨7,i,0,⟨#[]⟩⟩:AV)]).map AV.ac)).no.bad=b:=zsR _ _;generalize (Fl.z b).run ((l++[(⟨7,i,0,⟨#[]⟩⟩:AV)]).map AV.ac)=f at*;obtain⟨J,e,M,F⟩:=zAN (m.map AV.ac) L g r (ziz I) (λa d=>by
  obtain⟨c,B,rfl⟩:=List.mem_map.1 d;exact C c B)
 have D:(f.run (m.map AV.ac)).no.bad=f.no.bad:=zxU _ _;have t:(f.run (m.map AV.ac)).view ((i:Nat):Int)=f.view ((i:Nat):Int):=by unfold Fl.view;rw[J,D]
 have R:=zb0 u i q;have z:=zb0 j i q;have N:(f.view ((i:Nat):Int)).up=false:=by
  unfold Fl.view
  split
  .rfl
  .rename_i h
   rw[ziy h]at g;exact g
 refine⟨?_,zcx.of (by rw[R,z,t]),λk s O=>?_⟩
 .have:=congrArg Vw.up z;rw[t,N]at this;exact this
 .have o:zA y.gs=(f.run (m.map AV.ac)).no.sg:=congrArg Ou.sg j;have A:zA x.gs=f.no.sg:=congrArg Ou.sg u;rw[M,<-A]at o;have p:(zA y.gs)[k]? = some (y.gs[k]).v:=by simp[zA,s]
  rw[o,List.getElem?_append_right (by rw[zgj];exact O)]at p;exact F _ (List.mem_of_getElem? p)
theorem zg9 (n:Int)(w:World)(c:-9223372036854775808<=n)(d:n<=9223372036854775807) :
  Calls prog 15 #[I_ n] w λe w'=>e=.returned (I_ (pk n 5-1))/\w=w':=by
 obtain⟨j,l⟩:=zW n 5 (by decide);have b:=zbI n 5 w c d (by decide) (by decide);generalize pk n 5=N at*;have g:IntKind.i64.wrap (N-1)=N-1:=by rw[IntKind.wrap_i64];omega
 go_in;go_wp2_with fail
 refine b.mono ?_;rintro _ m⟨rfl,rfl⟩;dsimp only;go_wp2_with fail
 go_ret;exact⟨rfl,rfl⟩
theorem topDown_walk (sa:Q_)(aK:Nat)(rs:List Ft)(n:Int)(ta:Q_)(a9:Nat)(rt:List Ft)(F:Int)(w:World)(ce:zfn w sa rs)(_hc_rs:rs.length<=aK)(n1:-9223372036854775808<=n)(n2:n<=9223372036854775807)(cf:zfn w ta rt)(_hc_rt:rt.length<=a9)(bY:-9223372036854775808<=F)(bZ:F<=9223372036854775807)(hT:zcw w/\za2 w) :
  Calls prog 4 #[.slice sa rs.length aK,I_ n,.slice ta rt.length a9,I_ F] w λe w'=>e=.returned (.bool true)/\B_ w w':=by
 have HT:Hid (∀W:World,B_ w W->zcw W/\za2 W):=λW hW=>⟨hT.1.below hW hT.1.lt,hT.2.below hW⟩;clear hT;obtain⟨cs,ct⟩:=zW n 5 (by decide);have aC:=zg9 n w n1 n2;obtain⟨b,bD⟩:∃b,b=pk n 5-1:=⟨_,rfl⟩;have bE:-1<=b/\b<=3:=by omega
 rw[<-bD]at aC;clear bD cs ct n1 n2;obtain⟨b4,b5⟩:=zW F 4 (by decide);obtain⟨I,hI⟩:∃k:Nat,pk F 4=k:=⟨(pk F 4).toNat,by omega⟩;have HI:Hid (∀W:World,Calls prog 5 #[I_ F,I_ 4] W λe w'=>e=.returned (I_ (I:Int))/\W=w'):=λW=>by rw[<-hI];exact zbI F 4 W bY bZ (by decide) (by decide)
 have U:I<4:=by omega
 clear hI b4 b5 bY bZ;go_in;go_wp2_with fail
 refine aC.mono ?_;rintro _ w0⟨rfl,rfl⟩;dsimp only;clear aC;go_wp2_with fail
 refine(HI.out _).mono ?_;rintro _ w0⟨rfl,rfl⟩;dsimp only;go_wp2_with fail
 refine(zeu rs sa _ aK 40 w rfl ce (by decide)).mono ?_;rintro e aA⟨v,l,j,o,hl,cC,f⟩;subst j;dsimp only;obtain⟨aa,ac,N,bI,bJ⟩:=zbd o hl;subst N;have aH:Hid _:=hl;have b2:Hid _:=bJ;clear o hl bJ;have bh:=f;clear f;refine kO_ ?B0 ?_;exact Obj.cells #[I_ 7,I_ I,I_ 0,.string ⟨#[]⟩] 55;have hA:=zC aA ?B0;have q:=hN_ aA ?B0;go_wp2_with fail
 generalize aA.alloc ?B0=Wa at hA q|-;generalize aA.heap.size=Ba at q|-;have aV:(⟨7,I,0,⟨#[]⟩⟩:AV).e=0/\(⟨7,I,0,⟨#[]⟩⟩:AV).t.size<=4000:=⟨zaL _ _ _ _ (by decide) (by omega) (by decide) (by decide) (λh=>by cases h) (λh=>by cases h) (λ_=>rfl),(by show ByteArray.size ⟨#[]⟩<=4000;decide)⟩;have ag:∀a∈[(⟨7,I,0,⟨#[]⟩⟩:AV)],a.e=0/\a.t.size<=4000:=λa A=>by rw[List.mem_singleton.1 A];exact aV
 have bc:Hid _:=aV;clear aV;have aM:=zm bh hA;have aN:=bI.below hA;clear bh bI;have Z:=zdw q ag;have bB:=zAP l [(⟨7,I,0,⟨#[]⟩⟩:AV)] aa _ ac (some ⟨Ba,0,none⟩) 1 1 Wa rfl rfl aN Z b2.out (λe=>by cases e) (by simp;omega);refine bB.mono ?_;rintro e D⟨v,j,o,bN,f⟩;subst j;dsimp only;clear bB Z q hA;have ad:Hid _:=zc9 aH.out ag;obtain⟨m,aw⟩:∃z9,z9=l++[(⟨7,I,0,⟨#[]⟩⟩:AV)]:=⟨_,rfl⟩;rw[<-aw]at o ad;have am:Hid (m.length=l.length+1/\m=l++[(⟨7,I,0,⟨#[]⟩⟩:AV)]):=⟨by rw[aw];simp,aw⟩;clear aw ag;obtain⟨ma,mc,N,Z,-⟩:=zbd o ad.out;subst N;have aS:zAC w.heap.size (.slice ma m.length mc) m D:=⟨zcX o aM.size,bN⟩;have bK:m.length<=41/\1<=m.length:=by have:=am.out.1;omega
 obtain⟨bK,ag⟩:=bK;have bd:Hid (∀p,(Value.slice ma m.length mc).ownBlock=some p->p<D.heap.size):=λp e=>(World.ownsRow.lt aS.own p e).2;clear o bN;have au:=zm aM f;have bs:=aN.below f;clear aM aN;clear f;have ab:=zc4 b bE m ma _ mc D rfl (by omega) Z (λa A=>(ad.out a A).1) (HT.out D au).1 (HT.out D au).2;go_wp2_with fail
 refine ab.mono ?_;rintro e ak⟨x,j,bP,bQ,cr,f⟩;subst j;dsimp only;clear ab;have be:Hid _:=bQ;clear bQ;have al:Hid (D.heap.size<=ak.heap.size):=f.size;have bk:=zm au f;have bt:=bs.below f;have bl:=Z.below f;have bm:=aS.below f;clear au bs Z aS;clear f;refine kA_ ?A0 ?_;exact(#[.slice x.na 4 x.nc,.slice x.ga x.gs.length x.gc,I_ x.aw,.slice x.ca x.cs.length x.cc]:X_);have H:=zC ak (.cells ?A0 32);have aj:=hN_ ak (.cells ?A0 32);go_upto_region 5 with fail
 generalize ak.alloc (.cells ?A0 32)=an at H aj|-;generalize ak.heap.size=O at aj al|-;have aL:=zm bk H;have bv:=bP.below H;have bn:=bt.below H;have bo:=bl.below H;have bp:=bm.below H;clear bk bP bt bl bm;clear H;have aG:Hid (D.heap.size<=an.heap.size):=nT_ al.out (Nat.le_of_lt (ze aj));go_wp2_with fail
 refine(zeu rt ta _ a9 20 an rfl (cf.below aL) (by decide)).mono ?_;rintro e w1⟨v1,r,j,o,hr,cF,f⟩;subst j;dsimp only;obtain⟨ra,rc,N,bM,co⟩:=zbd o hr;subst N;have bb:Hid (∀t so,ra=some ⟨t,so,none⟩->an.heap.size<=t/\t<w1.heap.size):=by
  show ∀_,_;intro t so e;exact o.lt t (by rw[e];rfl)
 have aJ:Hid _:=hr;clear o hr co;have cx:Hid (an.heap.size<=w1.heap.size):=f.size;have bi:=zm aL f;have bw:=bv.below f;have cc:=bn.below f;have cd:=bo.below f;have bq:=bp.below f;have bU:=zk f aj;clear aL bv bn bo bp aj;clear f;have E:∀p,(Value.slice ma m.length mc).ownBlock=some p->p<D.heap.size\/w1.heap.size<=p:=λp e=>.inl (bd.out p e);clear bd;have bg:=bi;have bA:=bq;have a1:=bU;have b0:Hid (O<w1.heap.size):=ze a1;have bu:=bw;clear bi cc cd bq bw bU;go_wp2_with fail
 go_loopw [39,11] (λu v wr=>∃(k:Nat) (q:List AV),k<=r.length/\u=I_ k/\(q.length<=k+41/\1<=q.length)/\Hid (q=m++zkP (r.take k))/\B_ w wr/\Hid (zbq wr ra r)/\w1.heap.size<=wr.heap.size/\Hid (∀p,v.ownBlock=some p->p<D.heap.size\/w1.heap.size<=p)/\zAC w.heap.size v q wr/\zex wr x/\R_ wr O ?A0 32) (λu _ _=>r.length-(intOf u).toNat)
 case atStart=>exact⟨0,m,nZ_ _,rfl,⟨by omega,ag⟩,by show _=_;rw[List.take_zero];exact(List.append_nil _).symm,bg,bM,nR_ _,E,bA,bu,a1⟩
 case round=>
  clear bg bM E bA bu a1;obtain⟨k,q,hk,rfl,cn,ah,f,av,a5,E,hR,hO,hq⟩:=hrel;by_cases hlt:k<r.length
  .have aX:(k:Int)<r.length:=by omega
   rcases av.out.cells with C|⟨t,so,ay,C⟩
   .subst C;simp at hlt
   subst ay;obtain⟨c0,c1,c2,c3⟩:=C k hlt;have bH:r.getD k .z=r[k]:=by simp[List.getD,hlt]
   have aD:Hid _:=zAK hlt;have b3:Hid _:=aJ.out _ (gM_ hlt);rw[bH]at c0 c1 c2 c3;clear C bH;generalize r[k]=a at*;refine kO_ ?C0 ?_;exact Obj.cells #[I_ a.k,I_ a.n,I_ a.p,.string a.t] 55;have M:=zC wr ?C0;have qX:=hN_ wr ?C0;go_upto_region 9 with fail
   have aR:=hR.below M;have aP:=hO.below M;have a2:=zk M hq;have aU:=zm f M;have aO:Hid _:=av.out.below M;have a6:=nT_ a5 M.size;clear f av a5 hR hO hq M;generalize wr.alloc ?C0=V at qX aR aP a2 aU aO a6|-;generalize wr.heap.size=T at qX|-;have d0:=zb qX 0 _ rfl;clear c0 c1 c2 c3;by_cases h8:a.k=8
   .have aZ:Hid (q=m++zkP (r.take (k+1))):=by show _=_;rw[aD.out,if_pos h8];exact ah.out
    rw[h8]at d0;clear h8;go_wp2_with fail
    go_roundw
    case rel=>exact⟨k+1,q,by omega,by go_num,by omega,aZ,aU,aO,a6,E,aR,aP,a2⟩
    case measure=>simp[intOf];omega
   .have aZ:Hid (q++[a]=m++zkP (r.take (k+1))):=by show _=_;rw[aD.out,if_neg h8,ah.out,List.append_assoc]
    have e8:(a.k == 8)=false:=by simpa using h8
    clear h8 ah aD;have X:=zC V ?C0;have qY:(V.alloc ?C0).heap[V.heap.size]? = some (.cells (avs [a]).toArray 55 (0,0)):=hN_ _ _;have cq:=zdw (l:=[a]) qY (λb f=>by rw[List.mem_singleton.1 f];exact b3.out);have ae:=aR.below X;have ch:=aP.below X;have bL:=zk X a2;have bC:=zm aU X;have cg:Hid _:=aO.out.below X;have bO:=nT_ a6 X.size;have bF:=bC.size;go_wp2_with (first|(at_builtin;refine zfL rfl _ _ rfl w.heap.size _ q.length q rfl ae.own ae.sp (some ⟨V.heap.size,0,none⟩) 1 1 [a] rfl rfl cq (λe=>by cases e) (by omega) bF ?_)|refine wpList_load_row rfl 55 _ rfl T rfl 55 #[I_ a.k,I_ a.n,I_ a.p,.string a.t] (0,0) _ qX underlying55 rfl zsq ?_)
    intro v' w2 cm Y cp cl;go_wp2_with fail
    go_roundw
    case rel=>
     obtain⟨R,hp⟩:=zAT ae.own (by omega) ae.sp Y cl;refine⟨k+1,q++[a],by omega,by go_num,by rw[lP_];simp;omega,aZ,bC.trans (Y.below bF (λp e=>(World.ownsRow.lt ae.own p e).1)),cg.out.grew Y (λt so e g=>?_),nT_ bO Y.grown.size,?_,⟨by unfold zAB;rw[lP_];exact cm,cp⟩,ch.beside cr hp,(Y.grown.block _ (ze bL) (λe=>?_)).trans bL⟩
     .have h1:=bb.out t so e;have h2:=E.out t g;have h3:=aG.out;omega
     .show ∀_,_;intro p e;rcases Y.fresh p e with g|g
      .exact E.out p g
      .exact .inr (nT_ bO g)
     .have h2:=E.out O e.symm;have h3:=aG.out;have h4:=al.out;have h5:=b0.out;omega
    case measure=>simp[intOf];omega
  .obtain rfl:k=r.length:=by omega
   have aX:¬(r.length:Int)<r.length:=by omega
   have aY:q=m++zkP r:=by have:=ah.out;rw[List.take_length]at this;exact this
   have aW:∀a∈zkP r,a.e=0/\a.t.size<=4000:=λa A=>aJ.out a (zz4 A).1;have aI:Hid (∀a∈q,a.e=0/\a.t.size<=4000):=by show ∀_,_;rw[aY];exact zc9 ad.out aW
   have ba:Hid (∀y:Om,y.v=((Fl.z b).run (q.map AV.ac)).told->(y.y I).up=false/\zcx (x.y I).v (y.y I).v/\∀k (hk:k<y.gs.length),x.gs.length<=k->(y.gs[k]).nd≠I):=λy hy=>zAR U aH.out aW (λa A=>(zz4 A).2) bc.out (by rw[<-am.out.2];exact be.out) (by rw[<-am.out.2,<-aY];exact hy);obtain⟨qa,qc,N,a3,-⟩:=zbd hR.own aI.out;subst N;have cE:q.length<=62:=by omega
   clear hR av a5 E aY ah aW bb aJ be ad aH am bc hlt hk cn aG al;have ar:=f;clear f;have ab:=zc4 b bE q qa _ qc wr rfl (by omega) a3 (λa A=>(aI.out a A).1) (HT.out wr ar).1 (HT.out wr ar).2;go_wp2_with fail
   refine ab.mono ?_;rintro e aB⟨y,j,bR,bT,bS,f⟩;subst j;dsimp only;clear ab;have bf:Hid _:=bT;clear bT;have bj:=zm ar f;have bx:=hO.below f;have br:=a3.below f;have bV:=zk f hq;clear ar hO a3 hq;clear f;refine kO_ ?D0 ?_;exact Obj.cells #[.slice y.na 4 y.nc,.slice y.ga y.gs.length y.gc,I_ y.aw,.slice y.ca y.cs.length y.cc] 32;have J:=zC aB ?D0;have az:=hN_ aB ?D0;go_upto_region 13 with fail
   generalize aB.alloc ?D0=ao at J az|-;generalize aB.heap.size=T at az|-;have ca:=zm bj J;have bz:=bx.below J;have aQ:=bR.below J;have cy:=br.below J;have bW:=zk J bV;clear bj bx bR br bV;clear J;obtain⟨a4,aE,aF⟩:=ba.out y bf.out;have aE:Hid _:=aE;have aF:Hid _:=aF;clear ba bf aI;have HR:Hid (∀V:World,B_ ao V->Calls prog 16 #[.agg (vrow_ (x.y I)),.agg (vrow_ (y.y I))] V λe w'=>e=.returned (.bool true)/\B_ V w'):=λV hV=>zdC (x.y I) (y.y I) V ((bz.vm I U).below hV) ((aQ.vm I U).below hV) (bS.vw I U) aE.out;obtain⟨G,cj,ax⟩:=bz.row U;obtain⟨z,bG,ai⟩:=aQ.row U;generalize x.y I=c at HR ax;generalize y.y I=d at HR ai a4;have cz:(I:Int)<4:=by omega
   refine kV_ ?E0 ?_;exact Value.slice (some ⟨z,0,none⟩) 4 y.nc;have s0:ao.cell? ⟨T,0,none⟩=some ?E0:=by rw[<-bG];exact zb az 0 _ rfl
   have x0:ao.cell? ⟨z,I*6,none⟩=some (.bool false):=by have:=ai 0 _ rfl;rw[a4]at this;exact this
   have f1:=zb bW 1 (.slice x.ga x.gs.length x.gc) rfl;go_upto_region 15 with fail
   clear s0 x0 a4;go_wp2_with fail
   clear f1;go_loopw [19,14] (λu s wx=>∃k:Nat,x.gs.length<=k/\(k<=y.gs.length\/k=x.gs.length)/\u=I_ k/\s=I_ 0/\B_ ao wx) (λu _ _=>y.gs.length-(intOf u).toNat)
   case atStart=>exact⟨x.gs.length,nR_ _,.inr rfl,rfl,rfl,bR_ _ _⟩
   case round=>
    obtain⟨k,ck,cA,rfl,rfl,B⟩:=hrel;have bX:=zk B az;have g1:=zb bX 1 (.slice y.ga y.gs.length y.gc) rfl;by_cases hlt:k<y.gs.length
    .have aX:(k:Int)<y.gs.length:=by omega
     have cG:=bS.gs;have cB:IntKind.i64.wrap ((k:Int)+1)=(k:Int)+1:=by rw[IntKind.wrap_i64];omega
     have a0:=aF.out k hlt ck;rcases(aQ.below B).sg.tab.slots.cells with C|⟨t,so,ay,C⟩
     .rw[C]at hlt;simp at hlt
     have c0:=(C k hlt).1;rw[ay]at g1;generalize (y.gs[k]).nd=nd at a0 c0;have cD:(nd == (I:Int))=false:=by simpa using a0
     clear C ay a0;go_wp2_with fail
     go_roundw
     case rel=>exact⟨k+1,by omega,by omega,by go_num,rfl,B⟩
     case measure=>simp[intOf];omega
    .have aX:¬(k:Int)<y.gs.length:=by omega
     have cu:=zk B bW;have ax:=zdd ax B;have ai:=zdd ai B;have b1:Hid (∀V:World,B_ wr V->_):=λV hV=>HR.out V (B.trans (hV.mono B.size));have b9:=zm ca B;go_upto_region 20 with fail
     clear g1;have aT:=dB_ wr;have ap:wr.drew.cell? ⟨O,0,none⟩=some (.slice (some ⟨G,0,none⟩) 4 x.nc):=by rw[<-cj];exact zb cu 0 _ rfl
     have aq:wr.drew.cell? ⟨T,0,none⟩=some ?E0:=by rw[<-bG];exact zb bX 0 _ rfl
     have a7:wr.drew.rangeAt G (I*6) c.cs:=zde ax;have a8:wr.drew.rangeAt z (I*6) d.cs:=zde ai;refine wR_ (S:=λw'=>w'.cell? ⟨O,0,none⟩=some (.slice (some ⟨G,0,none⟩) 4 x.nc)/\w'.cell? ⟨T,0,none⟩=some ?E0/\w'.rangeAt G (I*6) c.cs/\w'.rangeAt z (I*6) d.cs) (by kernel_rfl) ⟨ap,aq,a7,a8⟩ (λL=>?_);generalize wr.drew=V0 at aT ap aq a7 a8 L|-;refine tks_ 7 [(0,91,I_ 0),(1,92,.bool true),(2,93,.bool true),(3,94,(P_ O 0)),(4,95,.slice (some ⟨G,0,none⟩) 4 x.nc),(5,96,I_ (I:Int)),(6,97,(P_ G (I*6)))] L ?_;simp only[tkf_,zf];refine tQ_ 7 98 (.agg (vrow_ c)) rfl rfl (yieldsIf_load_mid (by rfl) 40 _ rfl G (I*6) rfl c.cs _ (λw0 h=>h.2.2.1) underlying40 rfl zck) L ?_;simp only[zf];refine tks_ 4 [(8,99,(P_ T 0)),(9,100,.slice (some ⟨z,0,none⟩) 4 y.nc),(10,101,I_ (I:Int)),(11,102,(P_ z (I*6)))] L ?_;simp only[tkf_,zf];refine tQ_ 12 103 (.agg (vrow_ d)) rfl rfl (yieldsIf_load_mid (by rfl) 40 _ rfl z (I*6) rfl d.cs _ (λw0 h=>h.2.2.2) underlying40 rfl zck) L ?_;simp only[zf];refine zE 13 rfl (λKK hK=>?_);refine zaJ (by rfl) 104 rfl 16 [.tmp 98,.tmp 103] #[40,40] rfl [.agg (vrow_ c),.agg (vrow_ d)] rfl (eO_ func16) (λv w'=>v=.bool true/\B_ V0 w') ((b1.out V0 aT).mono (λe w2 h=>⟨_,h.1,rfl,h.2⟩)) ?_;rintro v V1⟨rfl,af⟩;have ci:=zm aT af;have b6:=(af.cell (bL_ ap)).trans ap;have b7:=(af.cell (bL_ aq)).trans aq;have cv:=zdd a7 af;have cw:=zdd a8 af;refine hK.out _ _ ⟨b6,b7,cv,cw⟩ (λL=>?_);simp only[zf];refine tks_ 2 [(14,105,.bool true),(15,8,.bool true)] L ?_;simp only[tkf_,zf];refine wD_ (by kernel_rfl) ?_ _;have b8:=zm b9 ci;go_wp2_with fail
     go_ret;exact⟨rfl,b8⟩
end Go.Proofs.YthnkppcncbjdiaaGreatDoor
