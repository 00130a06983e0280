import Derived.Test.YtffaeaonobmmjaaGreatDoorPkTopSealed0
set_option maxRecDepth 100000
set_option maxHeartbeats 4000000
namespace Go.Proofs.YtffaeaonobmmjaaGreatDoor
open Go.RowKit _root_.Go.Proofs.Tryz
theorem zBt (bl:List Bc)(c:Q_)(m d:Nat)(w:World)(H:Calls prog 15 #[O_,.slice c m d] w λe w'=>zAX bl w w' e) :
  Calls prog 10 #[O_,.slice c m d] w λe w'=>zAX bl w w' e:=by
 go_in;go_wp2_with fail
 refine H.mono ?_;rintro e l⟨r,j,b,g⟩;have f:Hid _:=b;clear b;subst j;dsimp only;go_wp2_with fail
 go_ret;exact⟨⟨r,rfl,f.out,g⟩⟩
theorem zBj (bl:List Bc)(c:Q_)(m d:Nat)(w:World)(p:m=bl.length)(o:bl.length<=100000)(f:0<bl.length)(g:zgq w c bl)(l:∀b∈bl,b.v.f=0)(j:za2 w) :
  Calls prog 10 #[O_,.slice c m d] w λe w'=>zAX bl w w' e:=zBt bl c m d w (zBs bl c m d w p o f g l j)
theorem zA4 (r:Bool)(b f:Q_)(n m c d:Nat)(w:World)(H:Calls prog 14 #[.slice b n c,.slice f m d] w λe w'=>e=.returned (.bool r)/\B_ w w') :
  Calls prog 9 #[.slice b n c,.slice f m d] w λe w'=>e=.returned (.bool r)/\B_ w w':=by
 go_in;go_wp2_with fail
 refine H.mono ?_;rintro _ l⟨rfl,g⟩;dsimp only;go_wp2_with fail
 go_ret;exact⟨rfl,g⟩
theorem zAg (g ys:Z_)(b f:Q_)(n m c d:Nat)(w:World)(p:n=g.length)(o:m=ys.length)(q:n<=1000)(r:m<=1000)(j:zas w b g)(l:zas w f ys) :
  Calls prog 9 #[.slice b n c,.slice f m d] w λe w'=>e=.returned (.bool (decide (g=ys)))/\B_ w w':=
 zA4 _ b f n m c d w (zAC g ys b f n m c d w p o q r j l)
theorem topSealed_walk (sa:Q_)(a5:Nat)(rs:List Ft)(n:Int)(ai:Int)(w:World)(cT:zfn w sa rs)(_hc_rs:rs.length<=a5)(n1:-9223372036854775808<=n)(n2:n<=9223372036854775807)(cC:-9223372036854775808<=ai)(cD:ai<=9223372036854775807)(hT:zcw w/\za2 w) :
  Calls prog 3 #[.slice sa rs.length a5,I_ n,I_ ai] w λe w'=>e=.returned (.bool true)/\B_ w w':=by
 have HT:Hid (∀W:World,B_ w W->zcw W/\za2 W):=λW hW=>⟨hT.1.below hW hT.1.lt,hT.2.below hW⟩;clear hT;obtain⟨c9,da⟩:=zW n 5 (by decide);have aW:=zg9 n w n1 n2;obtain⟨b,aL⟩:∃b,b=pk n 5-1:=⟨_,rfl⟩;have b9:-1<=b/\b<=3:=by omega
 rw[<-aL]at aW;clear aL c9 da n1 n2;obtain⟨cM,cN⟩:=zW ai 4 (by decide);obtain⟨I,hI⟩:∃k:Nat,pk ai 4=k:=⟨(pk ai 4).toNat,by omega⟩;have HI:Hid (∀W:World,Calls prog 5 #[I_ ai,I_ 4] W λe w'=>e=.returned (I_ (I:Int))/\W=w'):=λW=>by rw[<-hI];exact zbI ai 4 W cC cD (by decide) (by decide)
 have IB:I<4:=by omega
 clear hI cM cN cC cD;have a1:Hid ((⟨8,I,0,⟨#[]⟩⟩:AV).e=0/\(⟨8,I,0,⟨#[]⟩⟩:AV).t.size<=4000):=⟨zaL _ _ _ _ (by decide) (by omega) (by decide) (by decide) (λh=>by cases h) (λ_=>rfl) (λ_=>rfl),(by show ByteArray.size ⟨#[]⟩<=4000;decide)⟩;go_in;go_wp2_with fail
 refine aW.mono ?_;rintro _ w0⟨rfl,rfl⟩;dsimp only;clear aW;go_wp2_with fail
 refine(HI.out _).mono ?_;rintro _ w0⟨rfl,rfl⟩;dsimp only;go_wp2_with fail
 refine(zA6 rs sa _ a5 50 w rfl cT (by decide)).mono ?_;rintro e aT⟨v,l,p,Z,bh,dt,f⟩;subst p;dsimp only;have bB:Hid (∀a∈l,zzw a.ac):=λa ha=>zB4 (bh a ha).2.2;have hl:∀a∈l,a.e=0/\a.t.size<=4000:=λa ha=>(bh a ha).1;clear bh;obtain⟨aa,ac,hv,cg,ch⟩:=zbd Z hl;subst hv;have a3:Hid _:=hl;have bA:Hid _:=ch;clear Z hl ch;have bK:=f;clear f;refine kO_ ?C0 ?_;exact Obj.cells #[I_ 8,I_ I,I_ 0,.string ⟨#[]⟩] 29;have aI:=zC aT ?C0;have aR:=hN_ aT ?C0;go_wp2_with fail
 generalize aT.alloc ?C0=bG at aI aR|-;generalize aT.heap.size=bu at aR|-;have bk:∀a∈[(⟨8,I,0,⟨#[]⟩⟩:AV)],a.e=0/\a.t.size<=4000:=by
  intro a ha;simp only[List.mem_cons,List.not_mem_nil,or_false]at ha;subst ha;exact a1.out
 have bP:=zm bK aI;have a9:=cg.below aI;clear bK cg;have ci:zbq bG (some (p_ bu 0)) [(⟨8,I,0,⟨#[]⟩⟩:AV)]:=zdw aR bk;have aD:=zcZ l [(⟨8,I,0,⟨#[]⟩⟩:AV)] aa _ ac (some (p_ bu 0)) 1 1 bG rfl rfl a9 ci bA.out (λe=>by cases e) (by simp;omega);refine aD.mono ?_;rintro e br⟨v,p,Z,f⟩;subst p;dsimp only;clear aD ci aR aI;have ay:Hid _:=zc9 a3.out bk;clear bk;obtain⟨m,ag⟩:∃z9,z9=l++[(⟨8,I,0,⟨#[]⟩⟩:AV)]:=⟨_,rfl⟩;rw[<-ag]at Z ay;have az:Hid (m.length=l.length+1/\m=l++[(⟨8,I,0,⟨#[]⟩⟩:AV)]):=⟨by rw[ag];simp,ag⟩;clear ag;obtain⟨ma,mc,hv,bi,ck⟩:=zbd Z ay.out;subst hv;have bC:Hid _:=ck;have du:m.length<=51:=by have:=az.out.1;omega
 clear Z ck;have aJ:=zm bP f;have bQ:=a9.below f;clear bP a9;clear f;have ax:=zc4 b b9 m ma _ mc br rfl (by omega) bi (λa ha=>(ay.out a ha).1) (HT.out br aJ).1 (HT.out br aJ).2;go_wp2_with fail
 refine ax.mono ?_;rintro e aU⟨x,p,cr,ct,cs,f⟩;subst p;dsimp only;clear ax;have bD:Hid _:=ct;clear ct;have bJ:=zm aJ f;have bR:=bQ.below f;have bS:=bi.below f;clear aJ bQ bi;clear f;refine kO_ ?A0 ?_;exact Obj.cells #[.slice x.na 4 x.nc,.slice x.ga x.gs.length x.gc,I_ x.aw,.slice x.ca x.cs.length x.cc] 34;have aq:=zC aU ?A0;have aP:=hN_ aU ?A0;go_upto_region 5 with fail
 generalize aU.alloc ?A0=aH at aq aP|-;generalize aU.heap.size=Bx at aP|-;have bL:=zm bJ aq;have b3:=cr.below aq;have bT:=bR.below aq;have bU:=bS.below aq;clear bJ cr bR bS;clear aq;refine kO_ ?D0 ?_;exact Obj.cells #[I_ 2,I_ I,I_ 0,.string ⟨#[]⟩] 29;have am:=zC aH ?D0;have aQ:=hN_ aH ?D0;go_wp2_with fail
 generalize aH.alloc ?D0=bF at am aQ|-;generalize aH.heap.size=bt at aQ|-;have bj:∀a∈[(⟨2,I,0,⟨#[]⟩⟩:AV)],a.e=0/\a.t.size<=4000:=by
  intro a ha;simp only[List.mem_cons,List.not_mem_nil,or_false]at ha;subst ha;exact⟨zaL _ _ _ _ (by decide) (by omega) (by decide) (by decide) (λh=>by cases h) (λ_=>rfl) (λ_=>rfl),(by show ByteArray.size ⟨#[]⟩<=4000;decide)⟩
 have bM:=zm bL am;have b4:=b3.below am;have bV:=bT.below am;have a8:=bU.below am;have cx:=zk am aP;clear bL b3 bT bU aP;have cj:zbq bF (some (p_ bt 0)) [(⟨2,I,0,⟨#[]⟩⟩:AV)]:=zdw aQ bj;have aD:=zcZ m [(⟨2,I,0,⟨#[]⟩⟩:AV)] ma _ mc (some (p_ bt 0)) 1 1 bF rfl rfl a8 cj bC.out (λe=>by cases e) (by simp;omega);refine aD.mono ?_;rintro e bs⟨v,p,Z,f⟩;subst p;dsimp only;clear aD cj aQ am;have aG:Hid _:=zc9 ay.out bj;clear bj;obtain⟨q,ag⟩:∃z9,z9=m++[(⟨2,I,0,⟨#[]⟩⟩:AV)]:=⟨_,rfl⟩;rw[<-ag]at Z aG;have a4:Hid (q.length=m.length+1/\q=m++[(⟨2,I,0,⟨#[]⟩⟩:AV)]):=⟨by rw[ag];simp,ag⟩;clear ag;obtain⟨qa,qc,hv,bn,cp⟩:=zbd Z aG.out;subst hv;have cL:Hid _:=cp;have dy:q.length<=52:=by have:=a4.out.1;omega
 clear Z cp;have aK:=zm bM f;have b5:=b4.below f;have bW:=bV.below f;have bX:=a8.below f;have cy:=zk f cx;clear bM b4 bV a8 cx;clear f;have ax:=zc4 b b9 q qa _ qc bs rfl (by omega) bn (λa ha=>(aG.out a ha).1) (HT.out bs aK).1 (HT.out bs aK).2;go_wp2_with fail
 refine ax.mono ?_;rintro e aV⟨y,p,cu,cw,cv,f⟩;subst p;dsimp only;clear ax;have bE:Hid _:=cw;clear cw;have bN:=zm aK f;have b6:=b5.below f;have bY:=bW.below f;have bZ:=bX.below f;have b0:=bn.below f;have cz:=zk f cy;clear aK b5 bW bX bn cy;clear f;refine kO_ ?B0 ?_;exact Obj.cells #[.slice y.na 4 y.nc,.slice y.ga y.gs.length y.gc,I_ y.aw,.slice y.ca y.cs.length y.cc] 34;have ae:=zC aV ?B0;have aS:=hN_ aV ?B0;go_upto_region 6 with fail
 generalize aV.alloc ?B0=al at ae aS|-;generalize aV.heap.size=By at aS|-;have bO:=zm bN ae;have bb:=b6.below ae;have bc:=cu.below ae;have cQ:=bY.below ae;have cR:=bZ.below ae;have cS:=b0.below ae;have cA:=zk ae cz;clear bN b6 cu bY bZ b0 cz;clear ae;obtain⟨aj,ak⟩:=zBr (b:=b) IB a3.out bB.out (by omega) a1.out (by rw[<-az.out.2];exact bD.out) (by rw[<-az.out.2,<-a4.out.2];exact bE.out);have aj:Hid _:=aj;have ak:Hid _:=ak;have c3:Hid (m.length=l.length+1):=az.out.1;clear bB a1 a3 bA ay bC az bD aG a4 cL bE;obtain⟨cb,ca,aN⟩:=bb.row IB;obtain⟨db,cf,aO⟩:=bc.row IB;have ao:=bb.vm I IB;have aE:=bc.vm I IB;have aA:=cs.vw I IB;have aB:=cv.vw I IB;generalize x.y I=c at aj ak aN ao aA;generalize y.y I=d at aj ak aO aE aB;have dg:(I:Int)<4:=by omega
 have s0:al.cell? (p_ Bx 0)=some (.slice (some (p_ cb 0)) 4 x.nc):=by rw[<-ca];exact zb cA 0 _ rfl
 have s1:al.cell? (p_ By 0)=some (.slice (some (p_ db 0)) 4 y.nc):=by rw[<-cf];exact zb aS 0 _ rfl
 have p5:al.cell? (p_ cb (I*6+5))=some (.slice c.pa c.txs.length c.pc):=aN 5 _ rfl;have p3:al.cell? (p_ cb (I*6+3))=some (.slice c.ba c.bl.length c.bc):=aN 3 _ rfl;have q5:al.cell? (p_ db (I*6+5))=some (.slice d.pa d.txs.length d.pc):=aO 5 _ rfl;have q3:al.cell? (p_ db (I*6+3))=some (.slice d.ba d.bl.length d.bc):=aO 3 _ rfl;have aC:=bO;clear ca cf aN aO cs cv bO cQ cR cS bb bc aS cA;obtain⟨Wy,b7⟩:∃V,V=al:=⟨_,rfl⟩;rw[<-b7]at s0 s1 p5 p3 q5 q3 aC ao aE|-;clear b7;go_upto_region 10 with fail
 by_cases hT:(I:Int)=b\/c.txs.length=0
 .obtain⟨e1,e2⟩:=aj.out hT;have e5:((d.txs.length:Int) == 0)=true:=beq_iff_eq.2 (by omega);have e6:((c.bl.length:Int) == (d.bl.length:Int))=true:=beq_iff_eq.2 (by omega);clear e1 e2 aj ak;go_cut [73] (λu wx=>u=.bool true/\Wy=wx)
  case first=>
   by_cases ab:(I:Int)=b;have eb:((I:Int) == b)=true:=beq_iff_eq.2 ab
   rotate_left
   have eb:((I:Int) == b)=false:=beq_eq_false_iff_ne.2 ab;have ez:((c.txs.length:Int) == 0)=true:=beq_iff_eq.2 (by omega)
   rotate_left
   all_goals
    clear hT ab;go_wp2_with fail
    go_meet
    case rel=>exact⟨rfl,rfl⟩
  case rest=>
   obtain⟨rfl,hw⟩:=hcut;subst hw;apply_assumption;clear hT;go_wp2_with fail
   go_region_held3 (λw'=>w'.cell? (p_ Bx 0)=some (.slice (some (p_ cb 0)) 4 x.nc)/\w'.cell? (p_ By 0)=some (.slice (some (p_ db 0)) 4 y.nc)/\w'.cell? (p_ cb (I*6+3))=some (.slice c.ba c.bl.length c.bc)/\w'.cell? (p_ db (I*6+3))=some (.slice d.ba d.bl.length d.bc)) (go_keep) (fail)
   all_goals
    go_wp2_with fail
    go_ret;exact⟨rfl,aC.drew⟩
 have ab:(I:Int)≠b:=λe=>hT (.inl e);have hz:c.txs.length≠0:=λe=>hT (.inr e);obtain⟨g1,g2,g3⟩:=ak.out ab hz;have eb:((I:Int) == b)=false:=beq_eq_false_iff_ne.2 ab;have ez:((c.txs.length:Int) == 0)=false:=beq_eq_false_iff_ne.2 (by omega);clear aj ak hT ab;obtain⟨M,U⟩:∃M,M=min c.txs.length 4:=⟨_,rfl⟩;rw[<-U]at g1 g3;have b1:M<=c.txs.length:=by omega
 have ba:0<M/\M<=4:=by omega
 obtain⟨C,D,co,-⟩:∃E F,c.pa=some (p_ E F)/\True:=by
  rcases ao.tx.strs.cells with h|⟨E,F,h,-⟩;rw[h]at hz;exact absurd rfl hz;exact⟨E,F,h,trivial⟩
 have bo:=ao.tx.strs;have dx:=ao.tx.le;have c5:=ao.tx.max;rw[co]at p5 bo|-;have aY:Hid (∀V:World,B_ Wy V->zas V (some (p_ C D)) c.txs):=λV L=>bo.below L;clear co bo;obtain⟨nx,cm⟩:=aA.txs;have cI:Hid (zaO nx c.txs=0):=cm;clear cm;have dm:c.bl.length<=800:=by have:=aA.sh;simpa[Vm.v]using this
 have dn:d.bl.length<=800:=by have:=aB.sh;simpa[Vm.v]using this
 have cW:c.txs.length<=40:=zBh aA.txs;have cX:d.txs.length<=40:=zBh aB.txs;have bw:Hid (∀e∈d.bl,e.v.f=0):=λe p=>aB.shf _ (List.mem_map_of_mem p);have cd:0<d.bl.length:=by
  rcases Nat.eq_zero_or_pos d.bl.length with h|h;obtain⟨N,-,-,k,hk,-⟩:=g3 (λj hj=>by omega);omega;exact h
 have av:zgq Wy d.ba d.bl:=zCd aE;obtain⟨E,F,b8⟩:∃E F,d.ba=some (p_ E F):=by
  rcases av.cells with h|⟨E,F,h,-⟩;rw[h]at cd;simp at cd;exact⟨E,F,h⟩
 rw[b8]at q3 av;clear b8;have G3:Hid _:=g3;clear g3;have HQ:Hid (∀(V:World) (A:Q_) (m cc:Nat),B_ Wy V->m=c.txs.length-M->(A=some (p_ C (D+M))\/c.txs.length=M)->Calls prog 9 #[.slice d.pa d.txs.length d.pc,.slice A m cc] V λe w'=>e=.returned (.bool true)/\B_ V w'):=by
  show ∀_,_;intro V A m cc L hm hA;have c7:zas V A (c.txs.drop M):=by
   rcases hA with rfl|h;exact(aY.out V L).drop M;rw[List.drop_of_length_le (by omega)];exact⟨.inl rfl,λs h=>by cases h⟩
  have:=zAg d.txs (c.txs.drop M) d.pa A _ m d.pc cc V rfl (by rw[List.length_drop];exact hm) (by omega) (by omega) (aE.tx.strs.below L) c7;rw[dT_ g1]at this;exact this
 clear g1 ao aE aA aB cW cX;refine kV_ ?E0 ?_;exact Value.slice (some (p_ C D)) M c.pc;have bv:Hid (∀(V:World) (e:Bc),B_ Wy V->e∈d.bl->Calls prog 9 #[.slice e.ta e.v.ss.length e.tc,?E0] V λe' w'=>e'=.returned (.bool (decide (e.v.ss=c.txs.take M)))/\B_ V w'):=by
  show ∀_,_;intro V e L p;exact zAg e.v.ss (c.txs.take M) e.ta (some (p_ C D)) _ M e.tc c.pc V rfl (by rw[lT9_];omega) (by have:=(zjR (bw.out e p)).2.2.1;omega) (by omega) ((av.each e p).strs.below L) ((aY.out V L).take M)
 go_upto_region 12 with fail
 clear eb ez;go_cut [16] (λv wx=>v=I_ (M:Int)/\Wy=wx)
 case first=>
  by_cases h:c.txs.length<=4;have h4:(c.txs.length:Int)<=4:=by omega
  have hE:Hid ((c.txs.length:Int)=M):=by show _=_;omega
  rotate_left
  have h4:¬(c.txs.length:Int)<=4:=by omega
  have hE:Hid ((4:Int)=M):=by show _=_;omega
  rotate_left
  all_goals
   clear U h b1 ba;go_wp2_with fail
   go_meet
   case rel=>exact⟨by rw[<-hE.out]<;>exact cA_ (Value.int .i64) (by omega),rfl⟩
 case rest=>
  obtain⟨rfl,hw⟩:=hcut;subst hw;apply_assumption;clear U;have dk:(M:Int)<=c.txs.length:=by omega
  have dj:(M:Int)<=c.pc:=by omega
  have dh:(0:Int)<=M:=by omega
  go_upto_region 14 with fail
  go_wp2_with fail
  go_loopw [18,19] (λu v wx=>∃(t:Bool) (j:Nat),u=.bool t/\v=I_ j/\j<=d.bl.length/\Hid (t=false->∀k,k<j->¬zAN d.bl I (c.txs.take M) k)/\B_ Wy wx) (λ_ v _=>d.bl.length-(intOf v).toNat)
  case atStart=>exact⟨false,0,rfl,rfl,nZ_ _,(λ_ k hk=>by omega),bR_ _ _⟩
  case round=>
   obtain⟨t,j,rfl,rfl,hj,hN,T⟩:=hrel;by_cases hlt:j<d.bl.length;have c2:(j:Int)<d.bl.length:=by omega
   obtain⟨tb,df,cq,a0,-,a2⟩:=(av.below T).at j hlt;obtain⟨rfl,rfl⟩:E=tb/\F=df:=by simpa using cq
   clear cq;have cl:d.bl[j]∈d.bl:=gM_ hlt;have aZ:Hid (∀V:World,B_ wr V->_):=λV L=>bv.out V (d.bl[j]) (T.trans (L.mono T.size)) cl;have aw:Hid (∀r:Bool,(r=false->t=false/\((d.bl[j]).v.au≠I\/(d.bl[j]).v.ss≠c.txs.take M))->r=false->∀k,k<j+1->¬zAN d.bl I (c.txs.take M) k):=by
    show ∀_,_;intro r hr e k hk Z;obtain⟨r1,r2⟩:=hr e;rcases lG_ k j with g|g;exact hN.out r1 k g Z;obtain rfl:k=j:=by omega
    obtain⟨h9,o1,o2⟩:=Z;rcases r2 with r2|r2;exact r2 o1;exact r2 o2
   clear hN cl;generalize d.bl[j]=e at a0 a2 aZ aw;cases t with
   | true=>
    go_upto_region 18 with fail
    have L:=dB_ wr;refine wR_ (S:=λw'=>True) (by kernel_rfl) trivial (λo=>?_);generalize wr.drew=V at L o|-;refine tks_ 22 [(0,109,.bool true),(1,110,.bool true),(2,111,undef),(3,112,undef),(4,113,undef),(5,114,undef),(6,115,undef),(7,116,undef),(8,117,undef),(9,118,undef),(10,119,undef),(11,120,undef),(12,121,undef),(13,122,undef),(14,123,undef),(15,124,undef),(16,125,undef),(17,126,undef),(18,127,undef),(19,128,undef),(20,129,.bool true),(21,18,.bool true)] o ?_;simp only[tkf_,zf];clear o;refine wD_ (by kernel_rfl) ?_ _;go_wp2_with fail
    go_roundw
    case rel=>
     have hR:∃(t:Bool) (k:Nat),Value.bool true=.bool t/\Value.int .i64 ((j:Int)+1)=I_ k/\k<=d.bl.length/\Hid (t=false->∀i,i<k->¬zAN d.bl I (c.txs.take M) i)/\B_ Wy V:=⟨true,j+1,rfl,by go_num,by omega,aw.out _ (λh=>by cases h),T.trans (L.mono T.size)⟩
     first|exact hR|((repeat apply Exists.intro);exact⟨hR,rfl⟩)
    case measure=>simp[intOf];omega
   | false=>
    by_cases hau:e.v.au=I
    .rw[hau]at a0;obtain⟨r,hr⟩:∃r:Bool,decide (e.v.ss=c.txs.take M)=r:=⟨_,rfl⟩;rw[hr]at aZ;have cG:Hid _:=aw.out r (λh=>⟨rfl,.inr (by rw[<-hr]at h;exact of_decide_eq_false h)⟩);clear aw hr hau;have dv:Option.map (λz:Addr=>z.add 0) (some (p_ C D))=some (p_ C D):=rfl;go_upto_region 18 with fail
     have ah:=dB_ wr;refine wR_ (S:=λw'=>w'.cell? (p_ E (F+j*3))=some (I_ (I:Int))/\w'.cell? (p_ E (F+j*3+2))=some (.slice e.ta e.v.ss.length e.tc)) (by kernel_rfl) ⟨zr ah a0,zr ah a2⟩ (λo=>?_);generalize wr.drew=V0 at ah  o ⊢;refine tks_ 18 [(0,109,.bool false),(1,110,.bool false),(2,111,.slice (some (p_ E F)) d.bl.length d.bc),(3,112,I_ j),(4,113,(P_ E (F+j*3))),(5,114,(P_ E (F+j*3))),(6,115,I_ (I:Int)),(7,116,I_ (I:Int)),(8,117,.bool true),(9,118,.bool true),(10,119,.slice (some (p_ E F)) d.bl.length d.bc),(11,120,I_ j),(12,121,(P_ E (F+j*3))),(13,122,(P_ E (F+j*3+2))),(14,123,.slice e.ta e.v.ss.length e.tc),(15,124,.slice (some (p_ C D)) c.txs.length c.pc),(16,125,I_ (M:Int)),(17,126,.slice (some (p_ C D)) M c.pc)] o ?_;simp only[tkf_,zf];clear o;refine zno (λGO ad af=>?_);refine znp (λA0 Y=>?_);have bq:Hid (∀(V:World),B_ wr V->GO 0 #[true,true,true,true,true,true,true,true,true,true,true,true,true,true,true,true,true,true,true,true,true,true] ((((A0.put (some 127) (.bool r)).put (some 128) (.bool r)).put (some 129) (.bool r)).put (some 18) (.bool r)) V):=by
      show ∀V,_;intro V  H;refine ad.out _ _ _ _ ?_;rw[<-Y.out]
      try simp only[zf]
      refine wD_ (by kernel_rfl) ?_ _
      (try go_wp2_with fail)
      go_roundw
      case rel=>
       have hR:∃(t:Bool) (k:Nat),Value.bool r=.bool t/\Value.int .i64 ((j:Int)+1)=I_ k/\k<=d.bl.length/\Hid (t=false->∀i,i<k->¬zAN d.bl I (c.txs.take M) i)/\B_ Wy V:=⟨r,j+1,rfl,by go_num,by omega,cG.out,T.trans (H.mono T.size)⟩
       first|exact hR|((repeat apply Exists.intro);exact⟨hR,rfl⟩)
      case measure=>simp[intOf];omega
     have bp:Hid (∀(V:World),B_ wr V->GO 4 #[true,true,true,true,true,true,true,true,true,true,true,true,true,true,true,true,true,true,false,false,false,false] A0 V):=by
      show ∀V,_;intro V  H;refine ad.out _ _ _ _ ?_;rw[<-Y.out]
      try simp only[zf]
      refine zE 18 rfl (λK U=>?_);refine zaJ (by rfl) 127 rfl 9 [.tmp 123,.tmp 126] #[40,40] rfl [.slice e.ta e.v.ss.length e.tc,?E0] rfl (eO_ func9) (λv w'=>v=.bool r/\B_ V w') ((aZ.out V H).mono (λe w2 h=>⟨_,h.1,rfl,h.2⟩)) ?_;rintro v W'⟨rfl,f⟩;have J:=zm H f;refine U.out _ _ ⟨zr J a0,zr J a2⟩ (λo=>?_);simp only[zf];refine tks_ 3 [(19,128,.bool r),(20,129,.bool r),(21,18,.bool r)] o ?_;simp only[tkf_,zf];clear o;have h:=bq.out W' J;rw[<-Y.out]at h
      (try simp only[zf]at h)
      (try simp only[zf])
      exact af.out _ _ _ _ h
     exact bp.out V0 ah
    have dl:(e.v.au == (I:Int))=false:=beq_eq_false_iff_ne.2 hau;go_upto_region 18 with fail
    have L:=dB_ wr;refine wR_ (S:=λw'=>w'.cell? (p_ E (F+j*3))=some (I_ e.v.au)) (by kernel_rfl) a0 (λo=>?_);generalize wr.drew=V at L o|-;refine tks_ 22 [(0,109,.bool false),(1,110,.bool false),(2,111,.slice (some (p_ E F)) d.bl.length d.bc),(3,112,I_ j),(4,113,(P_ E (F+j*3))),(5,114,(P_ E (F+j*3))),(6,115,I_ e.v.au),(7,116,I_ (I:Int)),(8,117,.bool false),(9,118,.bool false),(10,119,undef),(11,120,undef),(12,121,undef),(13,122,undef),(14,123,undef),(15,124,undef),(16,125,undef),(17,126,undef),(18,127,undef),(19,128,.bool false),(20,129,.bool false),(21,18,.bool false)] o ?_;simp only[tkf_,zf];clear o;refine wD_ (by kernel_rfl) ?_ _;go_wp2_with fail
    go_roundw
    case rel=>
     have hR:∃(t:Bool) (k:Nat),Value.bool false=.bool t/\Value.int .i64 ((j:Int)+1)=I_ k/\k<=d.bl.length/\Hid (t=false->∀i,i<k->¬zAN d.bl I (c.txs.take M) i)/\B_ Wy V:=⟨false,j+1,rfl,by go_num,by omega,aw.out _ (λ_=>⟨rfl,.inl hau⟩),T.trans (L.mono T.size)⟩
     first|exact hR|((repeat apply Exists.intro);exact⟨hR,rfl⟩)
    case measure=>simp[intOf];omega
   obtain rfl:j=d.bl.length:=by omega
   have c2:¬(d.bl.length:Int)<d.bl.length:=by omega
   have ar:=zm aC T;cases t with
   | true=>
    have dB:=(T.cell (bL_ s0)).trans s0;have dA:=(T.cell (bL_ p3)).trans p3;have dq:IntKind.i64.wrap ((c.bl.length:Int)+1)=(c.bl.length:Int)+1:=by rw[IntKind.wrap_i64];omega
    have c1:(d.bl.length:Int)<=(c.bl.length:Int)+1:=by omega
    by_cases hcap:c.pc=M
    all_goals
     go_wp2_with fail
     refine(HQ.out _ _ _ _ T (by omega) (by first|exact .inl rfl|exact .inr (by omega))).mono ?_;rintro _ w9⟨rfl,bd⟩;dsimp only;go_wp2_with fail
     go_ret;exact⟨rfl,ar.trans (bd.mono ar.size)⟩
   | false=>
    obtain⟨N,n1,n2,k9,aM,ce⟩:=G3.out (hN.out rfl);have cF:Hid (¬zAN d.bl I (c.txs.take M) k9):=hN.out rfl k9 aM;have cJ:Hid _:=ce;clear hN ce G3 bv HQ s0 s1 p3 p5 q3 q5 g2;obtain⟨ib,ab,be,bf,bg⟩:=info_parts zj7;have dw:N<=m.length+20:=by have:=c3.out;omega
    have dz:IntKind.i64.wrap ((m.length:Int)+20)=(m.length:Int)+20:=by rw[IntKind.wrap_i64];omega
    go_wp2_with fail
    go_loopw [20] (λu wx=>∃n:Nat,1<=n/\n<=N/\u=I_ n/\B_ Wy wx) (λu _=>N+1-(intOf u).toNat)
    case atStart=>exact⟨1,nR_ _,n1,rfl,T⟩
    case round=>
     clear T ar;obtain⟨k,dp,dr,rfl,T⟩:=hrel;have c1:(k:Int)<=(m.length:Int)+20:=by omega
     have ar:=zm aC T;refine kA_ ?F0 ?_;exact #[I_ (I:Int),I_ (k:Int),?E0];refine kO_ ?G0 ?_;exact Obj.cells ?F0 44;have hX:=zC wr ?G0;have qX:=hN_ wr ?G0;go_upto_region 25 with fail
     generalize cU:wr.alloc ?G0=R at hX qX|-;clear cU;obtain⟨BB,bI⟩:∃B,B=wr.heap.size:=⟨_,rfl⟩;rw[<-bI]at qX|-;clear bI;have au:=zm T hX;have a7:=zm aC au;have an:zAW R BB ?F0 44:=qX;clear hX qX;obtain⟨e,p⟩:∃e:Bc,e=⟨⟨I,k,c.txs.take M⟩,some (p_ C D),c.pc⟩:=⟨_,rfl⟩;have b2:(c.txs.take M).length=M:=by rw[lT9_];omega
     have bz:Hid (e.v=⟨I,k,c.txs.take M⟩):=by show _=_;rw[p]
     have cZ:bcl [e]=[I_ (I:Int),I_ (k:Int),?E0]:=by rw[p];show [_,_,_]=_;rw[<-b2];simp[b2]
     have cK:Hid (∀V:World,B_ R V->zcN V e):=by
      show ∀_,_;intro V L;have h9:=aY.out V (au.trans (L.mono au.size));rw[p];exact⟨h9.take M,by show(c.txs.take M).length<=c.pc;omega,c5,(λe=>by cases e),λE F e=>by cases e;exact zB5 h9 (by omega)⟩
     have aX:Hid (∀V:World,B_ R V->zgq V (some (p_ E F)) d.bl):=λV L=>av.below (au.trans (L.mono au.size));have cH:Hid (∀(V:World) (X:Q_) (rc:Nat),B_ R V->V.ownsRow R.heap.size 44 3 (.slice X (0+d.bl.length+1) rc) (0+d.bl.length+1) ([]++bcl d.bl++bcl [e])->Calls prog 10 #[O_,.slice X (0+d.bl.length+1) rc] V λe' w'=>zAX (d.bl++[e]) V w' e'):=by
      show ∀_,_;intro V X rc L Z;rw[List.nil_append,<-zmG]at Z;have cY:∀z∈d.bl++[e],zcN V z:=by
       intro z hz;rcases mA_.1 hz with h|h;exact(aX.out V L).each z h;rw[mS_.1 h];exact cK.out V L
      obtain⟨xa,xc,hv,hl,cV⟩:=zAH Z cY
      simp at hv
      obtain⟨rfl,rfl⟩:=hv;refine zBj (d.bl++[e]) X _ rc V hl (by rw[lP_];simp;omega) (by simp) cV (λz hz=>?_) (HT.out V (a7.trans (L.mono a7.size))).2;rcases mA_.1 hz with h|h;exact bw.out z h;rw[mS_.1 h,bz.out];exact zCc cI.out ⟨by omega,by omega⟩ ⟨by omega,by omega⟩ ba (by omega)
     have cE:Hid (zfF (d.bl++[e]) (d.bl++[e]).length 0->k≠N):=by
      show _->_;intro c4 c0;have h1:=c4 d.bl.length k9 aM (by simp) (.inl (by simp));have g1:zd6 (d.bl++[e]) d.bl.length=e:=by rw[zAA _ _ (by simp)];simp
      have g2:zd6 (d.bl++[e]) k9=d.bl[k9]:=by rw[zAA _ _ (by simp;omega)];exact List.getElem_append_left aM
      rw[g1,g2,bz.out,cJ.out,c0]at h1;have h2:=h1 rfl;exact cF.out ⟨aM,by rw[<-h2],by rw[<-h2]⟩
     clear p;have ah:=dB_ R;refine wR_ (S:=λw'=>zAW w' BB ?F0 44) (by kernel_rfl) ((an.below ah)) (λo=>?_);generalize R.drew=V0 at ah  o ⊢;refine zU 0 164 (.slice (some (p_ E F)) d.bl.length d.bc) rfl rfl o ?_;simp only[zf];refine tQ_ 2 166 (.agg ?F0) rfl rfl (Or.inl ⟨by rfl,λw0 h=>zL 44 _ rfl BB rfl 44 ?F0 (0,0) _ h underlying44 rfl zyP⟩) o ?_;simp only[zf];clear o;refine zno (λGO ad af=>?_);refine znp (λA0 Y=>?_);have dd:Hid (∀(V:World) (O:Value) (G:Nat) (X:Q_) (rc:Nat) (r:Bool),B_ R V->(V.ownsRow R.heap.size 44 3 (.slice X (0+d.bl.length+1) rc) (0+d.bl.length+1) ([]++bcl d.bl++bcl [e]))->(Hid (r=false->zfF (d.bl++[e]) (d.bl++[e]).length 0))->GO 0 #[true,true,true,true,true,true] ((((A0.put (some 165) (O)).put (some 167) (.slice (some (p_ G 0)) 1 1)).put (some 168) (.slice X (0+d.bl.length+1) rc)).put (some 169) (.bool r)) V):=by
      show ∀V,_;intro V O G X rc r H h5 hr;refine ad.out _ _ _ _ ?_;rw[<-Y.out]
      try simp only[zf]
      refine wD_ (by kernel_rfl) ?_ _;have cP:=zm a7 H;have aL:=zm au H;clear ad af GO;cases r with
      | true=>
       go_wp2_with fail
       go_ret;exact⟨rfl,cP⟩
      | false=>
       have ds:=cE.out (hr.out rfl);go_wp2_with fail
       go_roundw
       case rel=>exact⟨k+1,by omega,by omega,by go_num,aL⟩
       case measure=>simp[intOf];omega
     have dc:Hid (∀(V:World) (O:Value) (G:Nat) (X:Q_) (rc:Nat),B_ R V->(V.ownsRow R.heap.size 44 3 (.slice X (0+d.bl.length+1) rc) (0+d.bl.length+1) ([]++bcl d.bl++bcl [e]))->GO 1 #[true,true,true,true,true,false] (((A0.put (some 165) (O)).put (some 167) (.slice (some (p_ G 0)) 1 1)).put (some 168) (.slice X (0+d.bl.length+1) rc)) V):=by
      show ∀V,_;intro V O G X rc H h5;refine ad.out _ _ _ _ ?_;rw[<-Y.out]
      try simp only[zf]
      refine zE 5 rfl (λK U=>?_);refine zj rfl 169 rfl 10 [.const (O_),.tmp 168] #[54,38] rfl [O_,.slice X (0+d.bl.length+1) rc] rfl (eO_ func10) (λv w'=>(∃r,v=.bool r/\Hid (r=false->zfF (d.bl++[e]) (d.bl++[e]).length 0))/\B_ V w') ((cH.out V X rc H h5).mono (λe w2 h=>by obtain⟨r,p,h1,h2⟩:=h.out;exact⟨_,p,⟨r,rfl,h1⟩,h2⟩)) ?_;rintro v W'⟨⟨r,rfl,c6⟩,f⟩;have J:=zm H f;refine U.out _ _ ((an.below J)) (λo=>?_);clear o;have h:=dd.out W' O G X rc r J (zw h5 f) c6;rw[<-Y.out]at h
      (try simp only[zf]at h)
      (try simp only[zf])
      exact af.out _ _ _ _ h
     have cB:Hid (∀(V:World) (O:Value) (G:Nat),B_ R V->(V.ownsRow R.heap.size 44 3 O (0+d.bl.length) ([]++bcl d.bl))->(R_ V G ?F0 44)->GO 2 #[true,true,true,true,false,false] ((A0.put (some 165) (O)).put (some 167) (.slice (some (p_ G 0)) 1 1)) V):=by
      show ∀V,_;intro V O G H h4 qb;refine ad.out _ _ _ _ ?_;rw[<-Y.out]
      try simp only[zf]
      refine zE 4 rfl (λK U=>?_);refine zcc rfl _ _ 38 rfl R.heap.size 44 ib (.agg #[I_ 0,I_ 0,O_]) 3 40 underlying38 ab be bf bg rfl (by decide) O (0+d.bl.length) _ rfl h4 (p_ G 0) 1 1 (bcl [e]) rfl (zz4 _) (by rw[cZ];exact zBF qb) (zBO _) (by unfold maxLen;omega) (by omega) H.size ?_;intro v5 W' cn G5;obtain⟨X,rc,c8⟩:=zH cn;subst c8;have cO:=cn;have J:=H.trans (G5.below H.size (λq e=>(h4.lt q e).1));refine U.out _ _ ((an.below J)) (λo=>?_);clear o;have h:=dc.out W' O G X rc J cO;rw[<-Y.out]at h
      (try simp only[zf]at h)
      (try simp only[zf])
      exact af.out _ _ _ _ h
     have bq:Hid (∀(V:World) (O:Value),B_ R V->(V.ownsRow R.heap.size 44 3 O (0+d.bl.length) ([]++bcl d.bl))->GO 3 #[true,true,true,false,false,false] (A0.put (some 165) (O)) V):=by
      show ∀V,_;intro V O H h4;refine ad.out _ _ _ _ ?_;rw[<-Y.out]
      try simp only[zf]
      refine zE 3 rfl (λK U=>?_);refine zy rfl 167 rfl (.slice (some (p_ V.heap.size 0)) 1 1) (V.alloc ?G0) (by go_simp) ?_;have hA:=zC V ?G0;have J:=zm H hA;have ap:=hN_ V ?G0;generalize hW':V.alloc ?G0=W' at hA J ap|-;clear hW';obtain⟨G,aF⟩:∃G,G=V.heap.size:=⟨_,rfl⟩;rw[<-aF]at ap|-;have bH:=hA;clear aF;refine U.out _ _ ((an.below J)) (λo=>?_);clear o;have h:=cB.out W' O G J (zw h4 bH) ap;rw[<-Y.out]at h
      (try simp only[zf]at h)
      (try simp only[zf])
      exact af.out _ _ _ _ h
     have de:Hid (∀(V:World) (G:Nat),B_ R V->(R_ V G ?F0 44)->GO 3 #[true,false,true,true,false,false] (A0.put (some 167) (.slice (some (p_ G 0)) 1 1)) V):=by
      show ∀V,_;intro V G H qb;refine ad.out _ _ _ _ ?_;rw[<-Y.out]
      try simp only[zf]
      refine zE 1 rfl (λK U=>?_);have bm:=aX.out V H;refine zcc rfl _ _ 38 rfl R.heap.size 44 ib (.agg #[I_ 0,I_ 0,O_]) 3 40 underlying38 ab be bf bg rfl (by decide) (O_) 0 [] rfl (oN_ _ _ _ _) (p_ E F) d.bl.length d.bc (bcl d.bl) rfl (zz4 _) (zBu bm) (zBO _) (by unfold maxLen;omega) (by omega) H.size ?_;intro O W' bl G4;have a6:=bl;have f:=G4.below (nR_ V.heap.size) (λq e=>by cases e);have J:=zm H f;refine U.out _ _ ((an.below J)) (λo=>?_);clear o;have h:=cB.out W' O G J a6 (zk f qb);rw[<-Y.out]at h
      (try simp only[zf]at h)
      (try simp only[zf])
      exact af.out _ _ _ _ h
     have bp:Hid (∀(V:World),B_ R V->GO 4 #[true,false,true,false,false,false] A0 V):=by
      show ∀V,_;intro V  H;refine ad.out _ _ _ _ ?_;rw[<-Y.out]
      try simp only[zf]
      refine rY_ (rs:=[1,3]) (by kernel_rfl) (by simp) (rA_ rfl (λK U=>?_) (rA_ rfl (λK U=>?_) rN_));have bm:=aX.out V H;refine zcc rfl _ _ 38 rfl R.heap.size 44 ib (.agg #[I_ 0,I_ 0,O_]) 3 40 underlying38 ab be bf bg rfl (by decide) (O_) 0 [] rfl (oN_ _ _ _ _) (p_ E F) d.bl.length d.bc (bcl d.bl) rfl (zz4 _) (zBu bm) (zBO _) (by unfold maxLen;omega) (by omega) H.size ?_;intro O W' bl G4;have a6:=bl;have f:=G4.below (nR_ V.heap.size) (λq e=>by cases e);have J:=zm H f
      rotate_left
      refine zy rfl 167 rfl (.slice (some (p_ V.heap.size 0)) 1 1) (V.alloc ?G0) (by go_simp) ?_;have hA:=zC V ?G0;have J:=zm H hA;have ap:=hN_ V ?G0;generalize hW':V.alloc ?G0=W' at hA J ap|-;clear hW';obtain⟨G,aF⟩:∃G,G=V.heap.size:=⟨_,rfl⟩;rw[<-aF]at ap|-;have bH:=hA;clear aF
      rotate_left
      all_goals
       refine U.out _ _ ((an.below J)) (λo=>?_);clear o
      have h:=bq.out W' O J a6
      rotate_left
      have h:=de.out W' G J ap
      rotate_left
      all_goals
       rw[<-Y.out]at h
       (try simp only[zf]at h)
       (try simp only[zf])
       exact af.out _ _ _ _ h
     exact bp.out V0 ah
end Go.Proofs.YtffaeaonobmmjaaGreatDoor
