import Derived.Test.YtnlfpfajecldkaaGreatDoorPkTopSound0
set_option maxRecDepth 100000
set_option maxHeartbeats 4000000
namespace Go.Proofs.YtnlfpfajecldkaaGreatDoor
open Go.RowKit _root_.Go.Proofs.Tryz
def zBU (e:Ending)(l:List CV):Prop:=
 (zbV l=12/\e=.returned (.tuple #[I_ 0,I_ 12]))\/(zbV l=0/\∃r:Int,e=.returned (.tuple #[I_ r,I_ 0])/\zgS l r)
theorem zBo (b:List Ct)(g:Q_)(n c:Nat)(w:World)(U:n=b.length)(T:zy5 w g c b)(M:za2 w) :
  Calls prog 29 #[.agg #[.slice g n c]] w λe w'=>zBU e (zI b)/\B_ w w':=by
 subst U;have l:=(bR_ w.heap.size w).alloc (nR_ _) (.cells #[.slice g b.length c] 46);go_in;go_wp2_with fail
 generalize w.alloc (.cells #[.slice g b.length c] 46)=C at l|-;refine(zBH b g _ c C rfl (T.below l) (M.below l)).mono ?_;intro e Y m;have O:=m.below;have L:=m.out;clear m;have p:=zm l O;rcases L with⟨d,f⟩|⟨d,s,X,f,t,y⟩
 .have j:Hid _:=d;clear d;subst f;dsimp only;go_wp2_with fail
  go_ret2;exact⟨.inl ⟨j.out,rfl⟩,p⟩
 .have j:Hid _:=d;have o:Hid _:=t;clear d t;subst f;dsimp only;obtain⟨Z,vd,ds,u,z,V⟩:=y.out;obtain⟨D,E,F,G,H,I,N⟩:=u.at z V;subst H I;have A:=zj3 X s D E F G ds Y N (by rw[o.out];exact j.out);clear z y u;go_wp2_with fail
  refine A.mono ?_;rintro e w2⟨r,f,q,R⟩;have B:Hid _:=q;clear q;subst f;dsimp only;have J:=zm p R;go_wp2_with fail
  go_ret2;exact⟨.inr ⟨j.out,r,rfl,by rw[<-o.out];exact B.out⟩,J⟩
variable {w:World}
theorem zBS {x:Vm}(h:zfX w x)(I:x.ls.length<=400):zy5 w x.ca x.cc x.ls:=by
 rcases h.rc.2 with⟨e,f⟩|⟨g,q,D,e,E,F,r,s,G,H⟩
 .have y:x.ls=[]:=eN_ f;have m:x.cc=0:=by cases x;simp at e;exact e.2.2
  exact⟨by rw[f];exact nZ_ _,by rw[m];decide,by rw[f];decide,.inl m,⟨.inl y⟩,h.ec⟩
 .have c:x.ca=some ⟨g,0,none⟩/\x.cc=q:=by simp at e;exact⟨e.1,e.2⟩
  refine⟨by rw[c.2];exact r,by rw[c.2];unfold maxLen at s;omega,by omega,.inr ⟨g,0,c.1⟩,⟨.inr ⟨g,0,c.1,λj o=>?_⟩⟩,h.ec⟩;obtain⟨b,l,d⟩:=zei h.rc o (show(x.ls[j]).cs.length=5 from rfl) (λt u=>zfx _ j t o u);obtain rfl:g=b:=by rw[c.1]at l;simpa using l
  have p:=d 0 _ rfl;have z:=d 1 _ rfl;have A:=d 2 _ rfl;have B:=d 3 _ rfl;have C:=d 4 _ rfl;simp only[Nat.add_zero]at p;rw[Nat.zero_add];exact⟨p,z,A,B,C⟩
theorem zBV:(prog.info? 61).map (·.size)=some 5:=by kernel_rfl
theorem zBN {l:List CV}(h:zbV l=0):l.length<=400:=by
 unfold zbV at h
 split at h
 .cases h
 .rename_i g
  simp only[not_or]at g;omega
theorem zBD (b:Int)(o:Om)(w:World)(hO:zex w o)(ah:∀i,i<4->zlk (o.y i).v)(av:o.gs.length<=1200000)(hs:∀i:Nat,i<4->((i:Int)≠b->(o.y i).rd=zdi (zI (o.y i).ls))/\∀c∈(o.y i).ls,zfl (zA o.gs) b c.v.au c.v.rd c.v.f c.v.d c.v.vl=0)(hT:za2 w) :
  Calls prog 16 #[I_ b,.agg #[.slice o.na 4 o.nc,.slice o.ga o.gs.length o.gc,I_ o.aw,.slice o.ca o.cs.length o.cc]] w λe w'=>e=.returned (.bool true)/\B_ w w':=by
 have HT:Hid (∀W:World,B_ w W->za2 W):=λW hW=>hT.below hW;clear hT;have HS:Hid _:=hs;have HK:Hid _:=ah;clear hs ah;refine kO_ ?A0 ?_;exact Obj.cells #[.slice o.na 4 o.nc,.slice o.ga o.gs.length o.gc,I_ o.aw,.slice o.ca o.cs.length o.cc] 32;have f:=zC w ?A0;have q0:=hN_ w ?A0;go_in;go_upto_region 1 with fail
 generalize w.alloc ?A0=W0 at f q0|-;generalize al:w.heap.size=C at q0|-;have N:=hO.below f
 skip
 go_wp2_with fail
 go_loopw [5] (λu wr=>∃i:Nat,i<=4/\u=I_ i/\B_ W0 wr) (λu _=>4-(intOf u).toNat)
 case atStart=>exact⟨0,nZ_ _,rfl,bR_ _ _⟩
 refine kV_ ?B0 ?_;exact Value.slice o.ga o.gs.length o.gc
 case round=>
  obtain⟨i,hi,rfl,G⟩:=hrel;have qr:=zk G q0;have ac:=zm f G;obtain⟨vb,R,_⟩:=N.row (i:=0) (by decide);have c0:wr.cell? ⟨C,0,none⟩=some (.slice (some ⟨vb,0,none⟩) 4 o.nc):=by rw[<-R];exact zb qr 0 _ rfl
  by_cases hlt:i<4
  .have ap:(i:Int)<4:=by omega
   have H:=N.below G;obtain⟨au,T,X⟩:=H.row hlt;obtain rfl:vb=au:=by rw[R]at T;simpa using T
   clear T R;have aa:=H.vm i hlt;obtain⟨A,aj⟩:=HS.out i hlt;have j:=HK.out i hlt;have aw:=H.sg.tab.slots;generalize o.y i=v at X aa A aj j;refine kO_ ?C0 ?_;exact Obj.cells #[.bool v.up,I_ v.rd,.slice v.ca v.ls.length v.cc,.slice v.ba v.bl.length v.bc,.slice v.ta v.tab.length v.tc,.slice v.pa v.txs.length v.pc] 40;have p:=zC wr ?C0;have l:=hN_ wr ?C0;go_upto_region 5 with(refine wpList_load_mid rfl 40 _ rfl vb (i*6) rfl [.bool v.up,I_ v.rd,.slice v.ca v.ls.length v.cc,.slice v.ba v.bl.length v.bc,.slice v.ta v.tab.length v.tc,.slice v.pa v.txs.length v.pc] _ X underlying40 rfl zck ?_)
   have qB:=zk p qr;generalize wr.alloc ?C0=V at p l qB|-;obtain⟨Bv,ad⟩:∃B,B=wr.heap.size:=⟨_,rfl⟩;rw[<-ad]at l|-;clear ad;have af:=zm G p;have am:=zm f af;have Y:=aa.below p;have an:v.ls.length<=400:=by have:=zBN j.dag;simpa[Vm.v,zI]using this
   have HR:=zBo v.ls v.ca _ v.cc V rfl (zBS Y an) (HT.out V am);have M:=zb l 1 _ rfl;have x2:=zb l 2 _ rfl;go_wp2_with fail
   refine HR.mono ?_;rintro e w2⟨hR,F⟩;rcases hR with⟨hz,_⟩|⟨_,r,he,hN⟩
   .rw[show zbV (zI v.ls)=0 from j.dag]at hz;cases hz
   subst he;dsimp only;have ai:r=zdi (zI v.ls):=hN.one (zhs j.dag);clear HR hN M x2;have ab:=zk F l;have ar:=zk F qB;have q:=zm af F;have aq:=Y.below F;clear l qB Y aa X p qr c0 H;have M:=zb ab 1 _ rfl;have x2:=zb ab 2 _ rfl;go_upto_region 6 with fail
   go_cut [41] (λu wx=>u=.bool false/\w2=wx)
   case first=>
    by_cases hib:(i:Int)=b
    .have e1:((i:Int) != b)=false:=by simp[hib]
     clear hib A;go_wp2_with fail
     all_goals
      go_meet
      case rel=>exact⟨rfl,rfl⟩
    .have e1:((i:Int) != b)=true:=by simp[hib]
     have e2:v.rd=r:=by rw[A hib,ai]
     rw[e2]at M;clear hib A e2;go_wp2_with fail
     all_goals
      go_meet
      case rel=>exact⟨by simp,rfl⟩
   case rest=>
    obtain⟨rfl,hw⟩:=hcut;subst hw;apply_assumption;clear A ai M;go_wp2_with fail
    go_loopw [9] (λu wx=>∃k:Nat,k<=v.ls.length/\u=I_ k/\B_ w2 wx) (λu _=>v.ls.length-(intOf u).toNat)
    case atStart=>exact⟨0,nZ_ _,rfl,bR_ _ _⟩
    case round=>
     obtain⟨k,j,rfl,d⟩:=hrel;have qv:=zk d ab;have q9:=zk d ar;have v2:=zb qv 2 (.slice v.ca v.ls.length v.cc) rfl;by_cases hkl:k<v.ls.length
     .have ao:(k:Int)<v.ls.length:=by omega
      have Z:=aq.below d;obtain⟨m,ag,U⟩:=zei Z.rc hkl (show(v.ls[k]).cs.length=5 from rfl) (λt ht=>zfx v.ls k t hkl ht);rw[ag]at v2;have y:=Z.ec _ (gM_ hkl);have z:=aj _ (gM_ hkl);clear ag Z;generalize v.ls[k]=c at U y z;have ak:=((N.below q).sg.tab.slots.below d);refine kV_ ?D0 ?_;exact Value.agg #[I_ c.au,I_ c.rd,.slice c.ba c.bl.length c.bc,.slice c.pa c.pl.length c.pc,.slice c.va c.vl.length c.vc];have HP:Hid (∀V:World,B_ wr V->Calls prog 30 #[?B0,I_ b,?D0] V λe w'=>e=.returned (I_ 0)/\B_ V w'):=λV D=>by
       have h:=zrz o.gs o.ga _ o.gc b c.au c.rd c.ba c.bc c.bl c.pa c.pc c.pl c.va c.vc c.vl V rfl (by omega) (ak.below D) (y.hat.below D) (y.ints.below D) y.vle (HT.out V ((f.trans ((q.trans (d.mono q.size)).mono f.size)).trans (D.mono (nT_ f.size (nT_ q.size d.size)))));rw[Ct.f_v,Ct.d_v]at h;have z:zfl (zA o.gs) b c.au c.rd c.v.f c.v.d c.vl=0:=z;rw[z]at h;exact h
      have I:wr.drew.cell? ⟨C,1,none⟩=some ?B0:=zb q9 1 _ rfl;have J:=dC_ v2;have L:=zde U;have E:=dB_ wr;clear y z ak;go_upto_region 11 with fail
      refine wR_ (S:=λw'=>w'.cell? ⟨C,1,none⟩=some ?B0/\w'.cell? ⟨Bv,2,none⟩=some (.slice (some ⟨m,0,none⟩) v.ls.length v.cc)/\w'.rangeAt m (k*5) c.cs) (by kernel_rfl) ⟨I,J,L⟩ (λg=>?_);generalize wr.drew=V0 at E I J L g|-;refine tks_ 7 [(0,49,(P_ C 1)),(1,50,.slice o.ga o.gs.length o.gc),(2,51,I_ b),(3,52,(P_ Bv 2)),(4,53,.slice (some ⟨m,0,none⟩) v.ls.length v.cc),(5,54,I_ (k:Int)),(6,55,(P_ m (k*5)))] g ?_;simp only[tkf_,zf];refine tQ_ 7 56 ?D0 rfl rfl (yieldsIf_load_mid (by rfl) 61 _ rfl m (k*5) rfl c.cs _ (λw0 h=>h.2.2) underlying61 rfl zBV) g ?_;simp only[zf];refine zE 8 rfl (λK9 hK=>?_);refine zj rfl 57 rfl 30 [.tmp 50,.tmp 51,.tmp 56] #[29,3,61] rfl [?B0,I_ b,?D0] rfl (eO_ func30) (λu w'=>u=I_ 0/\B_ V0 w') ((HP.out V0 E).mono (λe w2 h=>⟨_,h.1,rfl,h.2⟩)) ?_;rintro u V9⟨rfl,s⟩;have ae:=zm E s;refine hK.out _ _ ⟨zr s I,zr s J,zdd L s⟩ (λg=>?_);simp only[zf];refine zU 9 58 (.bool false) rfl rfl g ?_;simp only[zf];refine wD_ (by kernel_rfl) ?_ _;have O:=zm d ae;clear g HP U v2 qv q9 E ae s I J L d;go_wp2_with fail
      go_roundw
      case rel=>exact⟨k+1,by omega,by go_num,O⟩
      case measure=>simp[intOf];omega
     .obtain rfl:k=v.ls.length:=by omega
      have ao:¬((v.ls.length:Nat):Int)<(v.ls.length:Nat):=by omega
      have O:=zm q d;clear hkl j qv q9 d;go_wp2_with fail
      go_roundw
      case rel=>exact⟨i+1,by omega,by go_num,O⟩
      case measure=>simp[intOf];omega
  .obtain rfl:i=4:=by omega
   have ap:¬((4:Nat):Int)<4:=by omega
   clear hlt hi;go_wp2_with fail
   go_ret;exact⟨rfl,by first|exact ac|(rw[<-al];exact ac)⟩
theorem topSound_walk (U:Q_)(I:Nat)(rs:List Ft)(n:Int)(w:World)(aD:zfn w U rs)(_hc_rs:rs.length<=I)(n1:-9223372036854775808<=n)(n2:n<=9223372036854775807)(A:zcw w/\za2 w) :
  Calls prog 4 #[.slice U rs.length I,I_ n] w λe w'=>e=.returned (.bool true)/\B_ w w':=by
 have y:Hid (∀W:World,B_ w W->zcw W/\za2 W):=λW hW=>⟨A.1.below hW A.1.lt,A.2.below hW⟩;clear A;obtain⟨aE,aF⟩:=zW n 5 (by decide);have D:=zg9 n w n1 n2;obtain⟨b,ap⟩:∃b,b=pk n 5-1:=⟨_,rfl⟩;have aq:-1<=b/\b<=3:=by omega
 rw[<-ap]at D;clear ap aE aF n1 n2;go_in;go_wp2_with fail
 refine D.mono ?_;rintro _ w0⟨rfl,rfl⟩;dsimp only;clear D;go_wp2_with fail
 refine(zeu rs U _ I 80 w rfl aD (by decide)).mono ?_;rintro e aG⟨v,l,d,p,O,aN,c⟩;subst d;dsimp only;obtain⟨aa,ac,r,av,aw⟩:=zbd p O;subst r;have E:Hid _:=O;have ab:Hid _:=aw;clear p O aw;have af:=c;clear c;go_wp2_with fail
 refine(zA6 3 (by omega) aG).mono ?_;rintro e aH⟨v,d,ar,c⟩;subst d;dsimp only;obtain⟨ka,kc,r,N,au⟩:=zbd ar (zz2 3);subst r;have t:Hid ((zaA 3).length=4+9*3/\∀a∈zaA 3,a.e=0/\a.t.size<=4000):=⟨zAE _,zz2 _⟩;have Z:Hid _:=au;clear ar au;have ag:=zm af c;have L:=av.below c;clear af av;clear c;have an:=zcZ l (zaA 3) aa _ ac ka _ kc aH rfl rfl L N ab.out Z.out (by have:=t.out.1;omega);go_wp2_with fail
 refine an.mono ?_;rintro e V⟨v,d,p,c⟩;subst d;dsimp only;clear an;have q:Hid _:=zc9 E.out t.out.2;obtain⟨m,B⟩:∃z9,z9=l++zaA 3:=⟨_,rfl⟩;rw[<-B]at p q;have F:Hid (m.length=l.length+(4+9*3)/\m=l++zaA 3):=⟨by rw[B,lP_,t.out.1],B⟩;clear B;obtain⟨ma,mc,r,R,ax⟩:=zbd p q.out;subst r;have aB:Hid _:=ax;have aO:m.length<=111:=by have:=F.out.1;omega
 clear p ax;have z:=zm ag c;have ak:=L.below c;have al:=N.below c;clear ag L N;clear c;have Y:=zc4 b aq m ma _ mc V rfl (by omega) R (λa ha=>(q.out a ha).1) (y.out V z).1 (y.out V z).2;go_wp2_with fail
 refine Y.mono ?_;rintro e C⟨o,d,ay,az,T,c⟩;subst d;dsimp only;clear Y;have G:Hid _:=az;clear az;have ad:=zm z c;have ah:=ak.below c;have ai:=al.below c;have aj:=R.below c;clear z ak al R;clear c;refine kO_ ?A0 ?_;exact Obj.cells #[.slice o.na 4 o.nc,.slice o.ga o.gs.length o.gc,I_ o.aw,.slice o.ca o.cs.length o.cc] 32;have f:=zC C ?A0;have g:=hN_ C ?A0;go_upto_region 3 with fail
 generalize C.alloc ?A0=aC at f g|-;generalize C.heap.size=Bo at g|-;have ae:=zm ad f;have am:=ay.below f;have aI:=ah.below f;have aJ:=ai.below f;have aK:=aj.below f;clear ad ay ah ai aj;clear f;have X:Hid (b=-1->0<o.gs.length):=by
  show _->_;intro e;subst e;have h1:=zAU E.out 2;have h2:=ziw G.out;rw[F.out.2]at h2;rw[h2];exact List.length_pos_iff.2 h1
 have u:=zBD b o aC am (λi M=>T.vw i M) T.gs (λi M=>zBw aq G.out q.out i M) (y.out _ ae).2;have c0:=zb g 0 (.slice o.na 4 o.nc) rfl;have H:=zb g 1 (.slice o.ga o.gs.length o.gc) rfl;have c2:=zb g 2 (I_ o.aw) rfl;have c3:=zb g 3 (.slice o.ca o.cs.length o.cc) rfl;have aA:Hid (b=-1->(0:Int)<o.gs.length):=λe=>by have:=X.out e;omega
 have s:Hid _:=ae;have aP:=ze g;clear E q ab t Z X y F aB G T am;by_cases hb0:0<=b;have aL:decide ((0:Int)<=b)=true:=by simpa using hb0
 rotate_left
 have ao:b=-1:=by omega
 have aM:=aA.out ao;subst ao
 rotate_left
 all_goals
  go_wp2_with fail
  refine u.mono ?_;rintro _ w9⟨rfl,j⟩;dsimp only;have J:=s.out.trans (j.mono s.out.size)
 .clear u c0 H c2 c3 j;go_wp2_with fail
  go_ret;exact⟨by simp,J⟩
 .have d1:=zr j H;clear u c0 H c2 c3 j;go_wp2_with fail
  go_ret;exact⟨by simp;omega,J⟩
end Go.Proofs.YtnlfpfajecldkaaGreatDoor
