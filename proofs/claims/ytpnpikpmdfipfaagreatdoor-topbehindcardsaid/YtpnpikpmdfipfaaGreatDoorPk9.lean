import Derived.Test.YtpnpikpmdfipfaaGreatDoorPk8
set_option maxRecDepth 100000
set_option maxHeartbeats 4000000
namespace Go.Proofs.YtpnpikpmdfipfaaGreatDoor
open Go.RowKit Tryz
variable {w:World}{qs:List zi}{ra:Q_}{rc:Nat}
theorem zrU {n:Nd}{t:Int}{d:L_}{b:BW}(h:bOf n.k.sh d=some b):n.sendD t d=n.send t (zed b):=by rw[Nd.sendD,h]
theorem zrV {n:Nd}{t:Int}{d:L_}(h:bOf n.k.sh d=none):n.sendD t d=n:=by rw[Nd.sendD,h]
theorem zxg (h:zx w ra rc qs)(k:Nat)(d:k<qs.length):∃b c,ra=some (p_ b c)/\C_ w b (c+k) (.slice (qs[k]).sa (qs[k]).bs.length (qs[k]).cap):=by
 rcases h.parts.cells with h|⟨b,c,e,h⟩;subst h;simp at d;exact⟨b,c,e,h k d⟩
theorem zrW (n:Nd)(t:Int)(bl:List zi)(k:Nat)(b:k<bl.length):n.sendB t (zT (bl.take (k+1)))=(n.sendB t (zT (bl.take k))).sendD t (bl[k]).bs:=by
 rw[tS_ b];simp only[zT,List.map_append,Nd.sendB,List.foldl_append]
 rfl
theorem zne (x:NM)(b:Ct)(f:Int)(w:World)(U:Nat->Bool)(F o:Nat)(T:TypeId)(r:X_)(h:zo w U F o T r x)(V:HAt (zq U w) b.ba b.bc b.bl b.pa b.pc b.pl)(ht:0<=f/\f<4) :
  Calls prog 79 #[P_ F o,I_ f,.agg (hrow_ b)] w λe w'=>(∃v,e=.returned v)/\zal w U F o T r x w' (x.v.sendB f (zT b.bl)):=by
 have z:=zC w (.cells (hrow_ b) 60);have J:=hN_ w (.cells (hrow_ b) 60);have aj:b.bl.length<=9000000000000000000:=V.lb.small;go_in;go_upto_region 1 with fail
 generalize w.alloc (.cells (hrow_ b) 60)=W0 at z J|-;have N:=h.below z;have ac:=zl.below (F:=F) (o:=o) U r x z;have ab:=V.lb.sub (zao.below U z).sub;have d2:=zb J 2 _ rfl;go_wp2_with fail
 clear d2 J;go_loopw [12] (λj wr=>∃(k:Nat) (d:Nat->Bool) (g:X_) (c:NM),k<=b.bl.length/\j=I_ k/\zo wr d F o T g c/\zl U d W0 wr F o r g x c/\Hid (c.v=x.v.sendB f (zT (b.bl.take k)))) (λj _=>b.bl.length-(intOf j).toNat)
 case atStart=>exact⟨0,U,r,x,nZ_ _,rfl,N,zl.refl _ _ _ _ _ _,rfl⟩
 case round=>
  obtain⟨k,d,g,c,hk,rfl,y,C,B⟩:=hrel;by_cases hlt:k<b.bl.length
  .have ai:(k:Int)<b.bl.length:=by omega
   have E:=ab.sub (C.sub N);obtain⟨sb,so,ad,ck⟩:=zxg (E.sub (zK d wr)) k hlt;have G:=((E.sub (zK d wr)).parts.each _ (gM_ hlt));have D:Hid _:=zrW x.v f b.bl k hlt;rw[ad];clear E;generalize b.bl[k]=p at*;go_wp2_with fail
   refine(znb c p.bs p.sa _ p.cap wr d F o T g y rfl G).mono ?_;rintro _ w2⟨rfl,X⟩;dsimp only;have l:=y.below X;have n2:=C.trans (zl.below (F:=F) (o:=o) d g c X);clear ck;rcases ztJ (shw c.sh) p.bs with⟨q,-,m⟩|⟨i,I,q,-,m⟩
   .have u:Hid (c.v=x.v.sendB f (zT (b.bl.take (k+1)))):=by show _=_;rw[D.out,<-B.out];exact(zrV m).symm
    rw[q];clear q m G;go_wp2_with fail
    go_roundw
    case rel=>exact⟨k+1,d,g,c,by omega,by go_num,l,n2,u⟩
    case measure=>simp[intOf];omega
   have A:i<c.sh.length:=by rw[zb6]at I;exact I
   have M:(shw c.sh)[i]=(c.sh[i]).b.v:=by simp[shw]
   rw[M]at m;have u:Hid (∀n,n=c.v.send f (zed (c.sh[i]).b.v)->n=x.v.sendB f (zT (b.bl.take (k+1)))):=by
    show ∀_,_;intro n hn;rw[D.out,<-B.out,hn];exact(zrU m).symm
   rw[q];have ag:(0:Int)<=(i:Int):=by omega
   have ah:(i:Int)<c.sh.length:=by omega
   obtain⟨ak,al,ae,c0,c1,c2,c3⟩:=l.shs.at i A;have L:=l.cell 4 _ rfl;have R:zcN (zq d w2) (c.sh[i]).b:=(l.esh _ (gM_ A)).b;have Y:(c.sh[i]).b.v.f=0:=l.inv.shf _ (by show _∈shw c.sh;exact mM_.2 ⟨_,gM_ A,rfl⟩);rw[ae]at L;clear q m M I D G;generalize c.sh[i]=s at*;clear A;go_wp2_with fail
   refine(zmy s.b w2).mono ?_;rintro _ w3⟨rfl,H⟩;dsimp only;have O:=l.below H;have Z:=n2.trans (zl.below (F:=F) (o:=o) d g c H);clear c0 c1 c2 c3 L;go_wp2_with fail
   refine(zeN c (zfr s.b) f w3 d F o T g O ((ztU R Y).sub (zao.below d H).sub) ht).mono ?_;rintro e w4⟨⟨v,t⟩,U4,fc4,x4,h4,n4,v4⟩;subst t;dsimp only;have af:=Z.trans n4;have aa:Hid _:=u.out _ v4;clear v4 u R Y O Z n4 y C n2 l;go_wp2_with fail
   go_roundw
   case rel=>exact⟨k+1,U4,fc4,x4,by omega,by go_num,h4,af,aa⟩
   case measure=>simp[intOf];omega
  obtain rfl:k=b.bl.length:=by omega
  rw[tL_ (nR_ _)]at B;go_wp2_with fail
  go_end0;exact⟨⟨_,rfl⟩,d,g,c,y,ac.trans C,B.out⟩
theorem zrX (v n:Int)(g:Nat)(w:World)(b:C_ w g 0 (I_ n)) :
  Calls prog 131 #[I_ v,(P_ g 0)] w λe w'=>e=.returned (.bool (decide (v=n)))/\B_ w w':=by
 go_in;go_wp2_with fail
 go_ret;exact⟨by simp[BEq.beq],bR_ _ _⟩
theorem zjp (x:NM)(n:Int)(w:World)(U:Nat->Bool)(F o:Nat)(T:TypeId)(q:X_)(h:zo w U F o T q x) :
  Calls prog 78 #[P_ F o,I_ n] w λe w'=>e=.returned (.bool (decide (n∈x.vot)))/\B_ w w':=by
 have C:∀(fn:Fn) (first f:X_) (w:World),(Instr.makeFunc fn first f).run prog w=.ok (.func fn first f) w:=λ_ _ _ _=>rfl;have b:=zC w (.cells #[I_ n] 3);have m:=hN_ w (.cells #[I_ n] 3);go_in;go_upto_region 2 with fail
 generalize w.alloc (.cells #[I_ n] 3)=d at b m|-;have j:=h.below b;have B:=j.cell 14 _ rfl;have p:=zb m 0 _ rfl;have l:zax d x.oa x.vot:=by
  obtain⟨E,G,e,_,z,_⟩:=zeW j.rvo;cases e;exact z
 have r:x.vot.length<=4:=h.inv.vot.1;have c:=zgN 131 #[P_ w.heap.size 0] (λv=>decide (v=n)) (eO_ func131) x.vot x.oa _ x.oc d rfl (by omega) l (λv _ W t=>zrX v n w.heap.size W (zr t p));have s:Hid (x.vot.any (λv=>decide (v=n))=decide (n∈x.vot)):=by
  show _=_;by_cases g:n∈x.vot;rw[dT_ g];exact aT_.2 ⟨n,g,by simp⟩;rw[dF_ g];exact List.any_eq_false.2 (λv A=>by simp;intro e;subst e;exact g A)
 clear r l;go_wp2_with fail
 refine c.mono ?_;rintro _ D⟨rfl,u⟩;dsimp only;clear c;go_wp2_with fail
 go_ret;exact⟨by rw[s.out];rfl,b.trans (u.mono b.size)⟩
variable {U:Nat->Bool}{F o:Nat}{fc:X_}{T:TypeId}{x:NM}
theorem ztY (n:Nd)(t:Int)(m:MC):(n.send t m).k=n.k/\(n.send t m).vot=n.vot/\(n.send t m).nu=n.nu:=by rw[Nd.send];split<;>exact⟨rfl,rfl,rfl⟩
theorem zxh (n:Nd)(t:Int)(d:L_):(n.sendD t d).k=n.k/\(n.sendD t d).vot=n.vot/\(n.sendD t d).nu=n.nu:=by
 rw[Nd.sendD];split;exact ztY _ _ _;exact⟨rfl,rfl,rfl⟩
theorem zqZ (n:Nd)(t:Int)(l:List (L_)):(n.sendB t l).k=n.k/\(n.sendB t l).vot=n.vot/\(n.sendB t l).nu=n.nu:=by
 induction l generalizing n with
 | nil=>exact⟨rfl,rfl,rfl⟩
 | cons d l ih=>
  have b:=ih (n.sendD t d);have c:=zxh n t d;exact⟨b.1.trans c.1,b.2.1.trans c.2.1,b.2.2.trans c.2.2⟩
theorem znf (n:Nd)(k:Nat):(n.againTo k).k=n.k/\(n.againTo k).vot=n.vot:=by
 induction k with
 | zero=>exact⟨rfl,rfl⟩
 | succ k ih=>
  rw[Nd.againTo]
  split
  exact ih;have b:=zqZ (n.againTo k) k n.k.own.bl;have c:=ztY ((n.againTo k).sendB k n.k.own.bl) k (zcl n.k.own);exact⟨c.1.trans (b.1.trans ih.1),c.2.1.trans (b.2.1.trans ih.2)⟩
theorem U8L.of {l:List zi}(h:∀b∈zT l,∀x∈b,0<=x/\x<=255):U8L l:=λp c=>h p.bs (mM_.2 ⟨p,c,rfl⟩)
theorem zo.ownU (h:zo w U F o T fc x):U8L x.own.bl/\U8L x.own.pl:=
 ⟨U8L.of (λb c=>h.inv.ou8 b (List.mem_append_left _ c)),U8L.of (λb c=>h.inv.ou8 b (List.mem_append_right _ c))⟩
theorem zo.own_gm (h:zo w U F o T fc x)(b:x.v.k.own.hf=0):GM (zq U w) (zeO x.own):=
 ztV h.hdr.hat (by rw[Ct.hf_v];exact b) h.ownU.1 h.ownU.2
theorem zrY (x:NM)(w:World)(U:Nat->Bool)(F o:Nat)(T:TypeId)(r:X_)(h:zo w U F o T r x)(M:x.v.k.own.hf=0) :
  Calls prog 46 #[P_ F o] w λe w'=>(∃v,e=.returned v)/\zal w U F o T r x w' (x.v.againTo 4):=by
 go_in;go_wp2_with fail
 go_loopw [3] (λj wr=>∃(k:Nat) (c:Nat->Bool) (d:X_) (b:NM),k<=4/\j=I_ k/\zo wr c F o T d b/\zl U c w wr F o r d x b/\Hid (b.v=x.v.againTo k)) (λj _=>4-(intOf j).toNat)
 case atStart=>exact⟨0,U,r,x,by decide,rfl,h,zl.refl _ _ _ _ _ _,rfl⟩
 case round=>
  obtain⟨k,c,d,b,Z,rfl,s,B,p⟩:=hrel;by_cases hlt:k<4
  .have aa:(k:Int)<4:=by omega
   have O:Hid (b.vot=x.v.vot):=by show b.v.vot=_;rw[p.out];exact(znf _ _).2
   have H:Hid (b.own.v=x.v.k.own):=by show b.v.k.own=_;rw[p.out,(znf _ _).1]
   have g:=zjp b k wr c F o T d s;have q:Hid (x.v.againTo (k+1)=if(k:Int)∈b.vot then x.v.againTo k else((x.v.againTo k).sendB k b.own.v.bl).send k (zcl b.own.v)):=by show _=_;rw[O.out,H.out];rfl
   by_cases hm:(k:Int)∈b.vot;rw[dT_ hm]at g;rw[iP_ hm]at q
   rotate_left
   rw[dF_ hm]at g;rw[iN_ hm,<-p.out]at q
   rotate_left
   all_goals
    clear hm;go_wp2_with fail
    refine g.mono ?_;rintro _ w2⟨rfl,m⟩;dsimp only;clear g
   .go_wp2_with fail
    go_roundw
    case rel=>exact⟨k+1,c,d,b,by omega,by go_num,s.below m,B.trans (zl.below (F:=F) (o:=o) c d b m),by show _=_;rw[q.out];exact p.out⟩
    case measure=>simp[intOf];omega
   have l:=s.below m;have n2:=B.trans (zl.below (F:=F) (o:=o) c d b m);have u:=l.cell 7 _ rfl;have y:=l.cell 8 _ rfl;have z:=l.cell 9 _ rfl;have t:=l.cell 10 _ rfl;have C:=zne b b.own k w2 c F o T d l l.hdr.hat ⟨by omega,by omega⟩;go_wp2_with fail
   refine C.mono ?_;rintro e X⟨⟨v,f⟩,U3,fc3,x3,h3,n3,v3⟩;subst f;dsimp only;clear C u y z t;have R:=n2.trans n3;have G:Hid (x3.own.v=b.own.v):=by show x3.v.k.own=_;rw[v3,(zqZ _ _ _).1];rfl
   have I:Hid _:=v3;clear v3;have N:Hid (x3.v.k.own.hf=0):=by show x3.own.v.hf=0;rw[G.out,H.out];exact M
   have u:=h3.cell 7 _ rfl;have y:=h3.cell 8 _ rfl;have z:=h3.cell 9 _ rfl;have t:=h3.cell 10 _ rfl;have D:=zmz x3.own X;go_wp2_with fail
   refine D.mono ?_;rintro _ Y⟨rfl,A⟩;dsimp only;clear D u y z t;have L:=h3.below A;have E:=zeN x3 (zeO x3.own) k Y U3 F o T fc3 L ((h3.own_gm N.out).sub (h3.later A)) ⟨by omega,by omega⟩;go_wp2_with fail
   refine E.mono ?_;rintro e w5⟨⟨v,f⟩,U5,fc5,x5,h5,n5,v5⟩;subst f;dsimp only;clear E;have V:=(R.trans (zl.below (F:=F) (o:=o) U3 fc3 x3 A)).trans n5;have J:Hid (x5.v=x.v.againTo (k+1)):=by
    show _=_;rw[v5,q.out,I.out];show(Nd.sendB b.v k (zT b.own.bl)).send k (zcl x3.own.v)=_;rw[G.out];rfl
   clear v5;go_wp2_with fail
   go_roundw
   case rel=>exact⟨k+1,U5,fc5,x5,by omega,by go_num,h5,V,J⟩
   case measure=>simp[intOf];omega
  obtain rfl:k=4:=by omega
  go_wp2_with fail
  go_end0;exact⟨⟨_,rfl⟩,c,d,b,s,B,p.out⟩
def zi3 (nu:Int)(s:Nat):NM:=⟨nu,false,1,none,0,[],none,0,[],none,0,[],s,O_,O_,[],[],⟨0,0,none,0,[],none,0,[],none,0,[]⟩,⟨0,0,⟨none,0,[]⟩⟩,none,0,[],none,0,[],0,none,0,[],0⟩
def zbZ (nu:Int)(s:Nat):X_:=#[I_ nu,.bool false,I_ 1,O_,O_,O_,(P_ s 0),I_ 0,I_ 0,O_,O_,I_ 0,I_ 0,O_,O_,O_,I_ 0,O_,I_ 0]
theorem zjW {f:Int}(h:0<=f/\f<4):za3 (Nd.z f):=
 ⟨h,(by decide:zaO 1 []=0),nZ_ _,(λb d=>by cases d),(by decide:zbV []=0),.inl rfl,rfl,⟨nZ_ _,(λv l=>by cases l),List.nodup_nil⟩,nZ_ _,nR_ _,nZ_ _,⟨Int.le_refl _,by show(0:Int)<4;decide⟩,nZ_ _,(λs j=>by cases j),(λx m=>by cases m),(λb d=>by cases d),(λc g=>by cases g)⟩
theorem ztZ (w:World):HAt w none 0 [] none 0 []:=zgY w
theorem zvJ {N s:Nat}{d:Int}(f:w.heap[N]? = some (.cells fc T (0,0)))(u:o+19<=fc.size)(m:∀j,j<19->fc[o+j]? = (zbZ d s)[j]?)(t:w.heap[s]? = some (.cells #[O_,O_] 84 (0,0)))(y:U N=true)(z:U s=true)(q:s≠N)(l:Bnd U w)(g:za2 (zq U w))(r:0<=d/\d<4):zo w U N o T fc (zi3 d s):=by
 refine⟨f,u,λj p=>?_,y,λb e=>?_,l,g,⟨nR_ _,nZ_ _,(λ_=>rfl),zhL _⟩,oN_ _ _ _ _,(λx c=>by cases c),oN_ _ _ _ _,(λx c=>by cases c),⟨t,oN_ _ _ _ _,oN_ _ _ _ _,(λx c=>by cases c),(λx c=>by cases c),rfl,(λx c=>by cases c)⟩,⟨ztZ _,⟨.inl rfl⟩,by show(0:Nat)<=_;omega⟩,zgx _,oN_ _ _ _ _,zgx _,(λx c=>by cases c),oN_ _ _ _ _,(λx c=>by cases c),zjW r⟩;rw[m j p];show(zbZ d s)[j]? = (zi3 d s).cs[j]?;rw[<-Array.getElem?_toList]
 rfl
 rcases e with e|e|e|e|e|e|e;have e:b=s:=e;rw[e];exact⟨z,q⟩
 all_goals cases e
theorem zhM:(prog.info? 69).map (·.size)=some 19:=by kernel_rfl
theorem zoP (b:Int)(w:World):Calls prog 16 #[I_ b] w λe w'=>∃s,e=.returned (.agg (zbZ b s))/\w'.heap[s]? = some (.cells #[O_,O_] 84 (0,0))/\w.heap.size<=s/\Below w.heap.size w w':=by
 refine kO_ ?A0 ?_;exact Obj.cells #[I_ 0,.bool false,I_ 0,O_,O_,O_,.pointer none,I_ 0,I_ 0,O_,O_,I_ 0,I_ 0,O_,O_,O_,I_ 0,O_,I_ 0] 69;have c:=hX_ w ?A0 (.cells #[O_,O_] 84);have f:=hY_ w ?A0 (.cells #[O_,O_] 84);have d:Below w.heap.size w ((w.alloc ?A0).alloc (.cells #[O_,O_] 84)):=((bR_ _ _).alloc (nR_ _) _).alloc (by simp) _;go_in;refine kA_ ?B0 ?_;exact #[I_ b,.bool false,I_ 1,O_,O_,O_,(P_ (w.heap.size+1) 0),I_ 0,I_ 0,O_,O_,I_ 0,I_ 0,O_,O_,O_,I_ 0,O_,I_ 0];go_wp2_with (refine wS_ rfl 69 _ _ rfl w.heap.size ?B0 rfl rfl 69 _ c zhM rfl (by simp[Value.oneCell']) ?_)
 refine bP_ (v:=.agg ?B0) (rC_ (fn:=Tryz.f16) (p:=2) (ty:=69) rfl _ _ w.heap.size 69 _ (0,0) _ rfl (sH_ _ _ _ _ _ _ c) underlying69 rfl zhM) rfl ⟨w.heap.size+1,rfl,?_,by omega,(Upd.setRow c).below d d.size (by omega)⟩;rw[sO_ _ w.heap.size (w.heap.size+1) _ (by omega)];exact f
variable {n:Nat}
theorem zjX {t:L_}(r:L_)(h:t.length=n):tT n (t++r,false)=t/\nx n (t++r,false)=(r,false):=by
 obtain⟨b,c,d⟩:=zke (n:=n) (l:=t++r) (by simp;omega);refine⟨b.trans ?_,?_⟩;subst h;simp;show(tkL n (t++r) false,tkS n (t++r) false)=(r,false);rw[c,d];subst h
 simp
theorem zeP (a:Int)(r:L_):nB 1 (a::r,false)=a/\nx 1 (a::r,false)=(r,false):=by
 obtain⟨b,c⟩:=zjX (n:=1) (t:=[a]) r rfl;refine⟨?_,c⟩;show zbe (tT 1 ([a]++r,false))=a;rw[b];simp[zbe]
theorem zi4 (n:Int)(r:L_):nB 3 (rd3 n++r,false)=n/\nx 3 (rd3 n++r,false)=(r,false):=by
 obtain⟨b,c⟩:=zjX (n:=3) (t:=rd3 n) r rfl;refine⟨?_,c⟩;show zbe (tT 3 (rd3 n++r,false))=n;rw[b];simp[zbe,rd3];omega
theorem zyd (b:List zi)(r:L_)(h:∀p∈b,p.bs.length=32)(k:Nat)(q:k<=b.length):dgL (zat b++r) false k=(zat (b.drop k)++r,false)/\dgD (zat b++r) false k=(b.take k).map (·.bs):=by
 induction k with
 | zero=>exact⟨rfl,rfl⟩
 | succ k ih=>
  obtain⟨c,f⟩:=ih (by omega);have j:b.drop k=b[k]::b.drop (k+1):=List.drop_eq_getElem_cons (by omega);have g:(b[k]).bs.length=32:=h _ (gM_ (by omega));obtain⟨l,o⟩:=zjX (n:=32) (t:=(b[k]).bs) (zat (b.drop (k+1))++r) g;have d:zat (b.drop k)++r=(b[k]).bs++(zat (b.drop (k+1))++r):=by rw[j,zat,List.append_assoc]
  constructor
  show(tkL 32 (dgL (zat b++r) false k).1 (dgL (zat b++r) false k).2,tkS 32 (dgL (zat b++r) false k).1 (dgL (zat b++r) false k).2)=_;rw[c];show(tkL 32 (zat (b.drop k)++r) false,tkS 32 (zat (b.drop k)++r) false)=_;rw[d];exact o;show dgD (zat b++r) false k++[tkT 32 (dgL (zat b++r) false k).1 (dgL (zat b++r) false k).2]=_;rw[c,f];show _++[tkT 32 (zat (b.drop k)++r) false]=_;rw[d];have m:tkT 32 ((b[k]).bs++(zat (b.drop (k+1))++r)) false=(b[k]).bs:=l;rw[m,tS_ (by omega),List.map_append]
  rfl
theorem zoQ (b:List zi)(r:L_)(h:∀p∈b,p.bs.length=32):dgs (zbh b++r,false)=b.map (·.bs)/\dgS (zbh b++r,false)=(r,false):=by
 have g:zbh b++r=(b.length:Int)::(zat b++r):=rfl;obtain⟨j,n2⟩:=zeP (b.length:Int) (zat b++r);have c:dN ((b.length:Int)::(zat b++r)) false=b.length:=by
  show(nB 1 ((b.length:Int)::(zat b++r),false)).toNat=_;rw[j];omega
 obtain⟨d,f⟩:=zyd b r h b.length (nR_ _);rw[g]
 constructor
 refine K_ (?A0:St) ?_;exact nx 1 ((b.length:Int)::(zat b++r),false);show dgD (?A0).1 (?A0).2 (dN ((b.length:Int)::(zat b++r)) false)=_;rw[n2,c,f,tL_ (nR_ _)];show dgL (?A0).1 (?A0).2 (dN ((b.length:Int)::(zat b++r)) false)=_;rw[n2,c,d,List.drop_of_length_le (nR_ _)]
 rfl
theorem zye (vl r:L_)(k:Nat)(j:k<=vl.length):nL (vl++r,false) k=(vl.drop k++r,false)/\nV (vl++r,false) k=vl.take k:=by
 induction k with
 | zero=>exact⟨rfl,rfl⟩
 | succ k ih=>
  obtain⟨b,d⟩:=ih (by omega);have c:vl.drop k=vl[k]::vl.drop (k+1):=List.drop_eq_getElem_cons (by omega);obtain⟨f,g⟩:=zeP (vl[k]) (vl.drop (k+1)++r)
  constructor
  show nx 1 (nL (vl++r,false) k)=_;rw[b,c];exact g;show nV (vl++r,false) k++[nB 1 (nL (vl++r,false) k)]=_;rw[b,d,c,tS_ (by omega)];show _++[nB 1 (vl[k]::(vl.drop (k+1)++r),false)]=_;rw[f]
theorem zxi (s:ByteArray):zai (tb s)=s:=by
 apply zhf
 rw[ByteArray.toList_eq,ByteArray.toList_eq,zgr,tb];rw[List.map_map]
 conv=>rhs;rw[<-List.map_id s.data.toList]
 refine List.map_congr_left λx b=>?_
 simp
theorem zyf (ss:Z_)(r:L_)(k:Nat)(l:k<=ss.length):bL (zbc ss++r,false) k=(zbc (ss.drop k)++r,false)/\bT (zbc ss++r,false) k=ss.take k:=by
 induction k with
 | zero=>exact⟨rfl,rfl⟩
 | succ k ih=>
  obtain⟨b,g⟩:=ih (by omega);have j:ss.drop k=ss[k]::ss.drop (k+1):=List.drop_eq_getElem_cons (by omega);have c:zbc (ss.drop k)++r=((ss[k]).size:Int)::(tb (ss[k])++(zbc (ss.drop (k+1))++r)):=by rw[j];simp[zbc]
  obtain⟨d,f⟩:=zeP ((ss[k]).size:Int) (tb (ss[k])++(zbc (ss.drop (k+1))++r));obtain⟨u1,u2⟩:=zjX (n:=(ss[k]).size) (t:=tb (ss[k])) (zbc (ss.drop (k+1))++r) (zeK _)
  constructor
  show nx (nB 1 (bL (zbc ss++r,false) k)).toNat (nx 1 (bL (zbc ss++r,false) k))=_;rw[b,c,d,f];exact u2;show bT (zbc ss++r,false) k++[zai (tT (nB 1 (bL (zbc ss++r,false) k)).toNat (nx 1 (bL (zbc ss++r,false) k)))]=_;rw[b,g,c,d,f];show _++[zai (tT (ss[k]).size (tb (ss[k])++(zbc (ss.drop (k+1))++r),false))]=_;rw[u1,zxi,tS_ (by omega)]
theorem zng (au rd:Int)(bl pl:List zi)(r:L_)(o:∀p∈bl,p.bs.length=32)(q:∀p∈pl,p.bs.length=32) :
  nB 1 (zaZ au rd bl pl++r,false)=au/\nB 3 (nx 1 (zaZ au rd bl pl++r,false))=rd/\dgs (nx 3 (nx 1 (zaZ au rd bl pl++r,false)))=bl.map (·.bs)/\dgs (dgS (nx 3 (nx 1 (zaZ au rd bl pl++r,false))))=pl.map (·.bs)/\dgS (dgS (nx 3 (nx 1 (zaZ au rd bl pl++r,false))))=(r,false):=by
 have e:zaZ au rd bl pl++r=au::(rd3 rd++(zbh bl++(zbh pl++r))):=by simp[zaZ]
 obtain⟨b,c⟩:=zeP au (rd3 rd++(zbh bl++(zbh pl++r)));obtain⟨d,f⟩:=zi4 rd (zbh bl++(zbh pl++r));obtain⟨g,j⟩:=zoQ bl (zbh pl++r) o;obtain⟨l,m⟩:=zoQ pl r q;rw[e,b,c,d,f,g,j,l,m];exact⟨rfl,rfl,rfl,rfl,rfl⟩
theorem za4 {α:Type}{l:List α}(h:n=l.length)(b:n=0):l=[]:=eN_ (by omega)
theorem zi5 (x:MV)(r:L_)(L:MAt w x)(hc:x.car=0)(q:zaq (zab x.m)=true):pM (x.bytes++r,false)=x.c/\mS (x.bytes++r,false)=(r,false):=by
 have hb:x.bytes++r=x.m.ki::(x.m.fr::(x.m.tt::(zcG x.m x.ss x.bl x.pl x.cbl x.cpl x.ds x.vl++r))):=by simp[MV.bytes,zeL]
 rw[hb];obtain⟨f,g⟩:=zeP x.m.ki (x.m.fr::(x.m.tt::(zcG x.m x.ss x.bl x.pl x.cbl x.cpl x.ds x.vl++r)));obtain⟨j,l⟩:=zeP x.m.fr (x.m.tt::(zcG x.m x.ss x.bl x.pl x.cbl x.cpl x.ds x.vl++r));obtain⟨m,o⟩:=zeP x.m.tt (zcG x.m x.ss x.bl x.pl x.cbl x.cpl x.ds x.vl++r);have C:zD x.m x.ss x.bl x.pl x.cbl x.cpl x.vl=0:=hc;have H:=L.at';rcases zc7 C with k|k|k|k|k;rw[ziO k]at C;rw[zig k]at f g j l m o|-
 rotate_left
 rw[ziP k]at C;rw[zih k]at f g j l m o|-;obtain⟨_,_,_,_,Y,Z⟩:=zbi C
 rotate_left
 rw[ziQ k]at C;rw[zii k]at f g j l m o|-;obtain⟨_,_,g3⟩:=zho C
 rotate_left
 rw[ziR k]at C;rw[zij k]at f g j l m o|-;obtain⟨hh,_,_,_⟩:=ziN C;obtain⟨_,_,_,_,Y,Z⟩:=zbi hh
 rotate_left
 rw[zik k]at f g j l m o|-
 rotate_left
 all_goals simp[zab,zaq,k]at q
 obtain⟨d,b,c,u,y⟩:=q;have z:=za4 H.e2 d.2.2.1;have F:=za4 H.e3 d.2.2.2;have A:=za4 L.dn b.2.2;have B:=za4 H.e4 c.2.2.1;have G:=za4 H.e5 c.2.2.2;have I:=za4 H.e6 u;have e:zbY x.m.bau x.m.bnu x.ss++r=x.m.bau::(rd3 x.m.bnu++((x.ss.length:Int)::(zbc x.ss++r))):=by simp[zbY]
 obtain⟨E,s⟩:=zeP x.m.bau (rd3 x.m.bnu++((x.ss.length:Int)::(zbc x.ss++r)));obtain⟨M,J⟩:=zi4 x.m.bnu ((x.ss.length:Int)::(zbc x.ss++r));obtain⟨g1,g2⟩:=zeP (x.ss.length:Int) (zbc x.ss++r);obtain⟨N,O⟩:=zyf x.ss r x.ss.length (nR_ _);have hN:bN (x.m.bau::(rd3 x.m.bnu++((x.ss.length:Int)::(zbc x.ss++r))),false)=x.ss.length:=by
  show(nB 1 (nx 3 (nx 1 _))).toNat=_;rw[s,J,g1];omega
 have T:bS3 (x.m.bau::(rd3 x.m.bnu++((x.ss.length:Int)::(zbc x.ss++r))),false)=((x.ss.length:Int)::(zbc x.ss++r),false):=by
  show nx 3 (nx 1 _)=_;rw[s,J]
 rw[e]at f g j l m o|-;rw[pM,mS,f,iP_ k,iP_ k,g,j,l,m,o,E,s,M,T,hN,g2,N,O,tL_ (nR_ _),List.drop_of_length_le (nR_ _)]
 rotate_left
 obtain⟨d,b,c,u,y⟩:=q;have z:=za4 H.e1 d.2.2;have A:=za4 L.dn b.2.2;have B:=za4 H.e4 c.2.2.1;have G:=za4 H.e5 c.2.2.2;have I:=za4 H.e6 u;obtain⟨E,s,U,V,X⟩:=zng x.m.hau x.m.hrd x.bl x.pl r Y Z;have p:¬x.m.ki=1:=by omega
 rw[pM,mS,f,iN_ p,iN_ p,iP_ k,iP_ k,g,j,l,m,o,E,s,U,V,X]
 rotate_left
 obtain⟨d,b,c,u,y⟩:=q;have z:=za4 H.e1 d.2.2;have F:=za4 H.e2 b.2.2.1;have A:=za4 H.e3 b.2.2.2;have B:=za4 H.e4 c.2.2.1;have G:=za4 H.e5 c.2.2.2;have I:=za4 H.e6 u;have e:[x.m.sau]++rd3 x.m.srd++x.ds++r=x.m.sau::(rd3 x.m.srd++(x.ds++r)):=by simp
 obtain⟨E,s⟩:=zeP x.m.sau (rd3 x.m.srd++(x.ds++r));obtain⟨M,J⟩:=zi4 x.m.srd (x.ds++r);obtain⟨N,O⟩:=zjX (n:=32) (t:=x.ds) r (by have:=L.dn;omega);rw[e]at f g j l m o|-;have p:¬x.m.ki=1:=by omega
 have D:¬x.m.ki=2:=by omega
 rw[pM,mS,f,iN_ p,iN_ p,iN_ D,iN_ D,iP_ k,iP_ k,g,j,l,m,o,E,s,M,J,N,O]
 rotate_left
 obtain⟨d,b,c,y⟩:=q;have z:=za4 H.e1 d.2.2;have F:=za4 H.e2 b.2.2.1;have A:=za4 H.e3 b.2.2.2;have B:=za4 L.dn c.2.2;have e:zeE x.m.cau x.m.crd x.cbl x.cpl x.vl++r=zaZ x.m.cau x.m.crd x.cbl x.cpl++((x.vl.length:Int)::(x.vl++r)):=by simp[zeE]
 obtain⟨E,s,U,V,X⟩:=zng x.m.cau x.m.crd x.cbl x.cpl ((x.vl.length:Int)::(x.vl++r)) Y Z;obtain⟨n1,n2⟩:=zeP (x.vl.length:Int) (x.vl++r);obtain⟨N,O⟩:=zye x.vl r x.vl.length (nR_ _);have T:hS4 (zaZ x.m.cau x.m.crd x.cbl x.cpl++((x.vl.length:Int)::(x.vl++r)),false)=((x.vl.length:Int)::(x.vl++r),false):=X;have hN:cN (zaZ x.m.cau x.m.crd x.cbl x.cpl++((x.vl.length:Int)::(x.vl++r)),false)=x.vl.length:=by
  show(nB 1 (hS4 _)).toNat=_;rw[T,n1];omega
 rw[e]at f g j l m o|-;have p:¬x.m.ki=1:=by omega
 have D:¬x.m.ki=2:=by omega
 have R:¬x.m.ki=3:=by omega
 rw[pM,mS,f,iN_ p,iN_ p,iN_ D,iN_ D,iN_ R,iN_ R,iP_ k,iP_ k,g,j,l,m,o,E,s,U,V,T,hN,n2,N,O,tL_ (nR_ _),List.drop_of_length_le (nR_ _)]
 rotate_left
 obtain⟨d,b,c,u,y⟩:=q;have z:=za4 H.e1 d.2.2;have F:=za4 H.e2 b.2.2.1;have A:=za4 H.e3 b.2.2.2;have l0:=za4 L.dn c.2.2;have B:=za4 H.e4 u.2.2.1;have G:=za4 H.e5 u.2.2.2;have I:=za4 H.e6 y;obtain⟨M,J⟩:=zi4 x.m.ro r;have p:¬x.m.ki=1:=by omega
 have D:¬x.m.ki=2:=by omega
 have R:¬x.m.ki=3:=by omega
 have k4:¬x.m.ki=4:=by omega
 rw[pM,mS,f,iN_ p,iN_ p,iN_ D,iN_ D,iN_ R,iN_ R,iN_ k4,iN_ k4,g,j,l,m,o,M,J]
 rotate_left
 all_goals refine⟨?_,rfl⟩
 simp only[MV.c,z,F,A,B,G,I,d,b,c,y,List.map_nil];simp only[MV.c,z,A,B,G,I,d,b,c,y,List.map_nil];simp only[MV.c,z,F,A,B,G,I,d,b,c,y,List.map_nil];simp only[MV.c,z,F,A,B,d,b,c,y,List.map_nil];simp only[MV.c,l0,z,F,A,B,G,I,d,b,c,u,List.map_nil]
def ap (q:L_)(s:St):St:=(s.1++q,s.2)
theorem zoR {s:St}(q:L_)(h:(nx n s).2=false):nx n (ap q s)=ap q (nx n s)/\tT n (ap q s)=tT n s/\s.2=false:=by
 obtain⟨l,sh⟩:=s;have h':tkS n l sh=false:=h;simp only[tkS,Bool.or_eq_false_iff,decide_eq_false_iff_not]at h';obtain⟨rfl,m⟩:=h';obtain⟨b,c,d⟩:=zke (n:=n) (l:=l) (by omega);obtain⟨f,g,j⟩:=zke (n:=n) (l:=l++q) (by simp;omega);refine⟨?_,?_,rfl⟩;show(tkL n (l++q) false,tkS n (l++q) false)=(tkL n l false++q,tkS n l false);rw[c,d,g,j,List.drop_append_of_le_length (by omega)];show tkT n (l++q) false=tkT n l false;rw[b,f,List.take_append_of_le_length (by omega)]
theorem zyg {s:St}(q:L_)(h:(nx n s).2=false):nB n (ap q s)=nB n s:=by
 show zbe (tT n (ap q s))=zbe (tT n s);rw[(zoR q h).2.1]
theorem zyh {s:St}(q:L_)(k:Nat)(h:(dgL s.1 s.2 k).2=false):dgL (ap q s).1 (ap q s).2 k=ap q (dgL s.1 s.2 k)/\s.2=false:=by
 induction k with
 | zero=>exact⟨rfl,h⟩
 | succ k ih=>
  have d:(nx 32 (dgL s.1 s.2 k)).2=false:=h;obtain⟨b,_,c⟩:=zoR q d;obtain⟨f,g⟩:=ih c;refine⟨?_,g⟩;show nx 32 (dgL (ap q s).1 (ap q s).2 k)=ap q (nx 32 (dgL s.1 s.2 k));rw[f,b]
theorem zq0 {s:St}(q:L_)(h:(dgS s).2=false):dgS (ap q s)=ap q (dgS s)/\s.2=false:=by
 obtain⟨c,b⟩:=zyh (s:=nx 1 s) q (dN s.1 s.2) h;obtain⟨d,_,f⟩:=zoR q b;refine⟨?_,f⟩;have g:dN (ap q s).1 (ap q s).2=dN s.1 s.2:=by
  show(nB 1 (ap q s)).toNat=(nB 1 s).toNat;rw[zyg q b]
 show dgL (nx 1 (ap q s)).1 (nx 1 (ap q s)).2 (dN (ap q s).1 (ap q s).2)=_;rw[g,d,c]
 rfl
structure zwG (w w':World)(e:Ending)(bs:L_):Prop where
 out:(zbt bs≠0/\e=.returned (.tuple #[.agg mz_,I_ (zbt bs)]))\/(zbt bs=0/\∃x:MV,x.c=pM (bs,false)/\MAt w' x/\zbU (λq=>w.heap.size<=q) x/\((zP x.m x.car=0/\e=.returned (.tuple #[.agg (mrow_ x.m),I_ 0]))\/(zP x.m x.car≠0/\e=.returned (.tuple #[.agg mz_,I_ (zP x.m x.car)]))))
 below:B_ w w'
variable {rd au:Int}{pl bl:List zi}
theorem zZ.app {a b:L_}(c:zZ a)(d:zZ b):zZ (a++b):=λx f=>(mA_.1 f).elim (c x) (d x)
theorem zZ.cons {a:Int}{b:L_}(c:0<=a/\a<=255)(d:zZ b):zZ (a::b):=λx f=>by
 rcases List.mem_cons.1 f with h|h
 .rw[h];exact c
 .exact d x h
theorem zZ.nil:zZ []:=λx b=>by cases b
theorem zlL {n:Int}(h:1<=n/\n<=1048576):zZ (rd3 n):=zZ.cons (by omega) (zZ.cons (by omega) (zZ.cons (by omega) zZ.nil))
theorem zxj (b:List zi)(h:∀p∈b,∀x∈p.bs,0<=x/\x<=255):zZ (zat b):=by
 induction b with
 | nil=>exact zZ.nil
 | cons p b ih=>exact zZ.app (h p (by simp)) (ih λq c=>h q (by simp[c]))
theorem zq1 (b:List zi)(c:b.length<=255)(h:∀p∈b,∀x∈p.bs,0<=x/\x<=255):zZ (zbh b):=zZ.cons (by omega) (zxj b h)
theorem zy7 (s:ByteArray):zZ (tb s):=λx c=>by
 obtain⟨b,_,rfl⟩:=mM_.1 c
 have:=b.toNat_lt
 omega
theorem zyi (ss:Z_)(h:∀s∈ss,s.size<=20):zZ (zbc ss):=by
 induction ss with
 | nil=>exact zZ.nil
 | cons s ss ih=>
  have:=h s (by simp);exact zZ.cons (by omega) (zZ.app (zy7 s) (ih λq b=>h q (by simp[b])))
theorem zq2 (h:zO au rd bl pl=0)(c:∀p∈bl,∀x∈p.bs,0<=x/\x<=255)(d:∀p∈pl,∀x∈p.bs,0<=x/\x<=255):zZ (zaZ au rd bl pl):=by
 obtain⟨f,b,g,j,_,_⟩:=zbi h;exact zZ.app (zZ.app (zZ.app (zZ.cons (by omega) zZ.nil) (zlL b)) (zq1 bl (by omega) c)) (zq1 pl (by omega) d)
theorem zyj {x:MV}(h:zP x.m x.car=0)(c:U8M x.bl x.pl x.cbl x.cpl x.ds):zZ x.bytes:=by
 obtain⟨r,t,m,_⟩:=zcB h;have b:zD x.m x.ss x.bl x.pl x.cbl x.cpl x.vl=0:=m;have o:=zc7 b;refine zZ.app (zZ.cons (by omega) (zZ.cons (by omega) (zZ.cons (by omega) zZ.nil))) ?_;rcases o with k|k|k|k|k;rw[ziO k]at b;rw[zig k];obtain⟨f,d,j,g⟩:=zjR b;exact zZ.app (zZ.app (zZ.app (zZ.cons (by omega) zZ.nil) (zlL d)) (zZ.cons (by omega) zZ.nil)) (zyi _ λs p=>(g s p).2);rw[ziP k]at b;rw[zih k];exact zq2 b c.hb c.hp;rw[ziQ k]at b;rw[zii k];obtain⟨f,d,_⟩:=zho b;exact zZ.app (zZ.app (zZ.cons (by omega) zZ.nil) (zlL d)) c.sd;rw[ziR k]at b;rw[zij k];obtain⟨f,d,j,g⟩:=ziN b;exact zZ.app (zZ.app (zq2 f c.cb c.cp) (zZ.cons (by omega) zZ.nil)) (λy q=>by have:=g y q;omega);rw[zoB k]at b;rw[zik k]
 split at b
 rename_i l
 exact zlL l;cases b
theorem zxk {x:MV}(c:MAt w x)(h:zP x.m x.car=0):3<x.bytes.length/\x.bytes.length<=323:=by
 obtain⟨_,_,d,_⟩:=zcB h;have b:zD x.m x.ss x.bl x.pl x.cbl x.cpl x.vl=0:=d;have f:=zk7 (ds:=x.ds) c.dn b;have e:x.bytes.length=3+(zcG x.m x.ss x.bl x.pl x.cbl x.cpl x.ds x.vl).length:=by simp[MV.bytes,zeL];omega
 have g:0<(zcG x.m x.ss x.bl x.pl x.cbl x.cpl x.ds x.vl).length:=by
  rcases zc7 b with k|k|k|k|k;rw[zig k];simp[zbY];rw[zih k];simp[zaZ];rw[zii k];simp;rw[zij k];simp[zeE];omega;rw[zik k];simp[rd3]
 omega
variable {w' w0:World}
theorem zt0 {x:MV}(b:zP x.m x.car=0)(r:L_):x.bytes++r≠[]/\(x.bytes++r).getD 0 0=x.m.ki/\1<=x.m.ki/\x.m.ki<=5:=by
 obtain⟨_,_,c,_⟩:=zcB b;have d:zD x.m x.ss x.bl x.pl x.cbl x.cpl x.vl=0:=c;have f:=zc7 d;have e:x.bytes++r=x.m.ki::(x.m.fr::(x.m.tt::(zcG x.m x.ss x.bl x.pl x.cbl x.cpl x.ds x.vl++r))):=by simp[MV.bytes,zeL]
 rw[e];exact⟨by simp,rfl,by omega,by omega⟩
theorem zoS {e:Ending}{x:MV}(c:MAt w0 x)(b:zP x.m x.car=0)(h:zwG w w' e x.bytes) :
  ∃y:MV,y.c=x.c/\MAt w' y/\zbU (λq=>w.heap.size<=q) y/\e=.returned (.tuple #[.agg (mrow_ y.m),I_ 0])/\B_ w w':=by
 obtain⟨_,_,u,d⟩:=zcB b;obtain⟨_,E⟩:=zxk c b;obtain⟨f,g,C,D⟩:=zt0 b [];obtain⟨m,o⟩:=zi5 x [] c u d;rw[List.append_nil]at f g m o;have t:zbt x.bytes=0:=by
  rw[zbt,iN_ (by omega),iN_ f,g,iN_ (by omega),o,iN_ (by simp),iN_ (by simp)]
 rcases h.out with⟨p,_⟩|⟨_,y,B,j,s,A⟩;exact absurd t p;have l:=B.trans m;have z:=(zxf c j l).trans b;rcases A with⟨_,d⟩|⟨r,_⟩;exact⟨y,l,j,s,d,h.below⟩;exact absurd z r
variable {bs:L_}
theorem zlM {s:St}(h:(nx n s).2=false):s.1=tT n s++(nx n s).1/\(tT n s).length=n/\s.2=false:=by
 obtain⟨l,sh⟩:=s;have h':tkS n l sh=false:=h;simp only[tkS,Bool.or_eq_false_iff,decide_eq_false_iff_not]at h';obtain⟨rfl,f⟩:=h';obtain⟨b,c,d⟩:=zke (n:=n) (l:=l) (by omega);refine⟨?_,?_,rfl⟩;show l=tkT n l false++tkL n l false;rw[b,c,List.take_append_drop];show(tkT n l false).length=n;rw[b,lT9_];omega
theorem zaU {s:St}(h:zZ s.1):zZ (nx n s).1:=zZ.tkL h
theorem zwH {s:St}(h:zZ s.1):zZ (tT n s):=zZ.tkT h
theorem zbH {s:St}(h:(nx 1 s).2=false):s.1=nB 1 s::(nx 1 s).1/\s.2=false:=by
 obtain⟨b,c,d⟩:=zlM h;refine⟨?_,d⟩
 match ht:tT 1 s,c with
 | [a],_=>
  have f:nB 1 s=a:=by show zbe (tT 1 s)=a;rw[ht];simp[zbe]
  rw[ht]at b;rw[f];exact b
theorem zhp {s:St}(m:zZ s.1)(h:(nx 3 s).2=false):s.1=rd3 (nB 3 s)++(nx 3 s).1/\s.2=false:=by
 obtain⟨f,g,j⟩:=zlM h;have d:=zwH (n:=3) m;refine⟨?_,j⟩
 match ht:tT 3 s,g with
 | [a,b,c],_=>
  rw[ht]at f d;have o:=d a (by simp);have p:=d b (by simp);have q:=d c (by simp);have l:nB 3 s=65536*a+256*b+c:=by
   show zbe (tT 3 s)=_;rw[ht];simp[zbe];omega
  have e:rd3 (nB 3 s)=[a,b,c]:=by
   rw[l];simp only[rd3,List.cons.injEq,and_true];refine⟨?_,?_,?_⟩<;>omega
  rw[e];exact f
theorem zy8 {s:St}(k:Nat)(h:(dgL s.1 s.2 k).2=false):s.1=(dgD s.1 s.2 k).flatten++(dgL s.1 s.2 k).1/\(dgD s.1 s.2 k).length=k/\s.2=false:=by
 induction k with
 | zero=>exact⟨rfl,rfl,h⟩
 | succ k ih=>
  have d:(nx 32 (dgL s.1 s.2 k)).2=false:=h;obtain⟨b,_,c⟩:=zlM d;obtain⟨f,g,j⟩:=ih c;refine⟨?_,?_,j⟩;show s.1=(dgD s.1 s.2 k++[tT 32 (dgL s.1 s.2 k)]).flatten++(nx 32 (dgL s.1 s.2 k)).1;rw[List.flatten_append,List.flatten_singleton,List.append_assoc,<-b];exact f;show(dgD s.1 s.2 k++[tkT 32 (dgL s.1 s.2 k).1 (dgL s.1 s.2 k).2]).length=k+1;rw[lP_,g];rfl
theorem zjY {s:St}(l:zZ s.1)(h:(dgS s).2=false):s.1=((dgs s).length:Int)::((dgs s).flatten++(dgS s).1)/\s.2=false:=by
 obtain⟨c,d,f⟩:=zy8 (s:=nx 1 s) (dN s.1 s.2) h;obtain⟨b,g⟩:=zbH f;refine⟨?_,g⟩;have m:0<=nB 1 s:=by
  have:=l (nB 1 s) (by rw[b];simp);omega
 have j:((dgs s).length:Int)=nB 1 s:=by
  have e:(dgs s).length=(nB 1 s).toNat:=d;rw[e];omega
 rw[j];have e:(nx 1 s).1=(dgs s).flatten++(dgS s).1:=c;rw[<-e];exact b
theorem zoT {s:St}(b:zZ s.1)(h:(dgS s).2=false):zZ (dgS s).1:=λx c=>b x (by rw[(zjY b h).1];simp[c])
theorem zy9 {s:St}(k:Nat)(h:(nL s k).2=false):s.1=nV s k++(nL s k).1/\(nV s k).length=k/\s.2=false:=by
 induction k with
 | zero=>exact⟨rfl,rfl,h⟩
 | succ k ih=>
  have d:(nx 1 (nL s k)).2=false:=h;obtain⟨b,c⟩:=zbH d;obtain⟨f,g,j⟩:=ih c;refine⟨?_,?_,j⟩;show s.1=(nV s k++[nB 1 (nL s k)])++(nx 1 (nL s k)).1;rw[List.append_assoc,List.singleton_append,<-b];exact f;show(nV s k++[nB 1 (nL s k)]).length=k+1;rw[lP_,g];rfl
theorem zxl {l:L_}(h:zZ l):tb (zai l)=l:=by
 rw[tb,zgr,List.map_map]
 conv=>rhs;rw[<-List.map_id l]
 refine List.map_congr_left λx b=>?_;have:=h x b
 simp
 omega
theorem zza {s:St}(o:zZ s.1)(k:Nat)(h:(bL s k).2=false):s.1=zbc (bT s k)++(bL s k).1/\(bT s k).length=k/\s.2=false/\zZ (bL s k).1:=by
 induction k with
 | zero=>exact⟨rfl,rfl,h,o⟩
 | succ k ih=>
  have l:(nx (nB 1 (bL s k)).toNat (nx 1 (bL s k))).2=false:=h;obtain⟨d,f,g⟩:=zlM l;obtain⟨c,j⟩:=zbH g;obtain⟨p,q,r,b⟩:=ih j;have m:0<=nB 1 (bL s k):=by
   have:=b (nB 1 (bL s k)) (by rw[c];simp);omega
  refine⟨?_,?_,r,zaU (zaU b)⟩;show s.1=zbc (bT s k++[zai (tT (nB 1 (bL s k)).toNat (nx 1 (bL s k)))])++(nx (nB 1 (bL s k)).toNat (nx 1 (bL s k))).1;rw[zm7,zmU,zxl (zwH (zaU b)),f,List.append_assoc,List.cons_append,<-d,Int.toNat_of_nonneg m,<-c];exact p;show(bT s k++[zai (tT (nB 1 (bL s k)).toNat (nx 1 (bL s k)))]).length=k+1;rw[lP_,q];rfl
theorem zlN {l:List (L_)}(h:qs.map (·.bs)=l):zbh qs=(l.length:Int)::l.flatten:=by
 subst h;rw[zbh,List.length_map]
 congr 1
 induction qs with
 | nil=>rfl
 | cons p qs ih=>simp[zat,ih]
theorem zyk {y:MV}(hC:zP y.m y.car=0)(g:zZ bs)(d:mS (bs,false)=([],false))(b:y.c=pM (bs,false)):y.bytes=bs:=by
 have f:(mS (bs,false)).2=false:=by rw[d]
 obtain⟨s,T⟩:∃s:St,(bs,false)=s:=⟨_,rfl⟩;have Z:bs=s.1:=by rw[<-T]
 rw[T]at d f b;rw[Z]at g|-;clear T Z;have hB:y.bytes=y.m.ki::y.m.fr::y.m.tt::zcG y.m y.ss y.bl y.pl y.cbl y.cpl y.ds y.vl:=rfl;rw[hB];by_cases k1:nB 1 s=1;refine K_ (?A0:St) ?_;exact nx 1 (nx 1 (nx 1 s));refine K_ (?B0:St) ?_;exact nx 3 (nx 1 ?A0);rw[pM,iP_ k1]at b;rw[mS,iP_ k1]at d f;simp only[MV.c,MC.mk.injEq]at b;obtain⟨m,o,c,e4,e5,Y,_⟩:=b;have am:zZ (nx 1 (bS3 ?A0)).1:=zaU (zaU (zaU (zaU (zaU (zaU g)))));obtain⟨I,J,L,_⟩:=zza am _ f;obtain⟨F,M⟩:=zbH L;obtain⟨j,l⟩:=zhp (s:=nx 1 ?A0) (zaU (zaU (zaU (zaU g)))) M;obtain⟨A,B⟩:=zbH l;obtain⟨p,q⟩:=zbH B;obtain⟨r,t⟩:=zbH q;obtain⟨u,H⟩:=zbH t;have al:0<=nB 1 (bS3 ?A0):=by
  have:=(show zZ (bS3 ?A0).1 from zaU (zaU (zaU (zaU (zaU g))))) (nB 1 (bS3 ?A0)) (by rw[F];simp);omega
 have R:(y.ss.length:Int)=nB 1 (bS3 ?A0):=by
  rw[Y,J];show(((nB 1 (bS3 ?A0)).toNat:Nat):Int)=_;omega
 rw[zig (c.trans k1),zbY,R,c,m,o,e4,e5,Y];rw[u,r,p,A,j];have G:(?B0).1=nB 1 (bS3 ?A0)::(nx 1 (bS3 ?A0)).1:=F;rw[G,I,d]
 simp
 by_cases k2:nB 1 s=2;rw[pM,iN_ k1,iP_ k2]at b;rw[mS,iN_ k1,iP_ k2]at d f;simp only[MV.c,MC.mk.injEq]at b;obtain⟨m,o,c,_,_,_,e7,e8,e9,ab,_⟩:=b;have C:zZ (?B0).1:=zaU (zaU (zaU (zaU (zaU g))));obtain⟨D,E⟩:=zjY (λz hz=>by
  have O:=(zq0 [] f).2;exact zoT C O z hz) f
 obtain⟨U,V⟩:=zjY C E;obtain⟨j,l⟩:=zhp (zaU (zaU (zaU (zaU g)))) V;obtain⟨A,B⟩:=zbH l;obtain⟨p,q⟩:=zbH B;obtain⟨r,t⟩:=zbH q;obtain⟨u,H⟩:=zbH t;rw[zih (c.trans k2),zaZ,zlN e9,zlN ab,c,m,o,e7,e8];rw[u,r,p,A,j,U,D,d]
 simp
 by_cases k3:nB 1 s=3;rw[pM,iN_ k1,iN_ k2,iP_ k3]at b;rw[mS,iN_ k1,iN_ k2,iP_ k3]at d f;simp only[MV.c,MC.mk.injEq]at b;obtain⟨m,o,c,_,_,_,_,_,_,_,ac,ad,ae,_⟩:=b;obtain⟨D,_,E⟩:=zlM f;obtain⟨j,l⟩:=zhp (zaU (zaU (zaU (zaU g)))) E;obtain⟨A,B⟩:=zbH l;obtain⟨p,q⟩:=zbH B;obtain⟨r,t⟩:=zbH q;obtain⟨u,H⟩:=zbH t;rw[zii (c.trans k3),c,m,o,ac,ad,ae];rw[u,r,p,A,j,D,d]
 simp
 by_cases k4:nB 1 s=4;rw[pM,iN_ k1,iN_ k2,iN_ k3,iP_ k4]at b;rw[mS,iN_ k1,iN_ k2,iN_ k3,iP_ k4]at d f;simp only[MV.c,MC.mk.injEq]at b;obtain⟨m,o,c,_,_,_,_,_,_,_,_,_,_,af,ag,ah,ai,X,_⟩:=b;obtain⟨I,J,L⟩:=zy9 _ f;obtain⟨F,M⟩:=zbH L;have C:zZ (?B0).1:=zaU (zaU (zaU (zaU (zaU g))));have N:(dgS (dgS ?B0)).2=false:=M;have b5:=(zq0 [] N).2;have aa:=zoT C b5;have an:=zoT aa N;obtain⟨D,E⟩:=zjY aa N;obtain⟨U,V⟩:=zjY C E;obtain⟨j,l⟩:=zhp (zaU (zaU (zaU (zaU g)))) V;obtain⟨A,B⟩:=zbH l;obtain⟨p,q⟩:=zbH B;obtain⟨r,t⟩:=zbH q;obtain⟨u,H⟩:=zbH t;have G:(dgS (dgS ?B0)).1=nB 1 (hS4 ?A0)::(nx 1 (hS4 ?A0)).1:=F;have al:0<=nB 1 (hS4 ?A0):=by
  have:=an (nB 1 (hS4 ?A0)) (by rw[G];simp);omega
 have R:(y.vl.length:Int)=nB 1 (hS4 ?A0):=by
  rw[X,J];show(((nB 1 (hS4 ?A0)).toNat:Nat):Int)=_;omega
 rw[zij (c.trans k4),zeE,zaZ,zlN ah,zlN ai,R,c,m,o,af,ag,X];rw[u,r,p,A,j,U,D,G,I,d]
 simp
 rw[pM,iN_ k1,iN_ k2,iN_ k3,iN_ k4]at b;rw[mS,iN_ k1,iN_ k2,iN_ k3,iN_ k4]at d f;simp only[MV.c,MC.mk.injEq]at b;obtain⟨m,o,c,_,_,_,_,_,_,_,_,_,_,_,_,_,_,_,aj⟩:=b;obtain⟨j,l⟩:=zhp (zaU (zaU (zaU g))) f;obtain⟨p,q⟩:=zbH l;obtain⟨r,t⟩:=zbH q;obtain⟨u,H⟩:=zbH t;have k5:y.m.ki=5:=by
  obtain⟨_,_,O,_⟩:=zcB hC;have ak:zD y.m y.ss y.bl y.pl y.cbl y.cpl y.vl=0:=O;have:=zc7 ak;omega
 rw[zik k5,c,m,o,aj];rw[u,r,p,j,d]
 simp
variable {k:Nat}
theorem znh {l:L_}(h:k<l.length):l.getD k 0∈l:=by
 have e:l.getD k 0=l[k]:=by simp[List.getD,h]
 rw[e];exact gM_ h
def zcS (bs:L_):Prop:=∀(w0:World) (x:MV) (r:L_),MAt w0 x->zaT x->bs≠x.onTape++r
theorem zet {x:MV}{r:L_}(h:bs=x.onTape++r):bs.getD 0 0=(x.bytes.length:Int) / 256/\bs.getD 1 0=(x.bytes.length:Int) % 256/\bs.length=2+x.bytes.length+r.length/\(bs.drop 2).take x.bytes.length=x.bytes:=by
 subst h;refine⟨rfl,rfl,by simp[MV.onTape];omega,?_⟩;simp[MV.onTape]
theorem zoU {x y:MV}(d:MAt w x)(f:MAt w0 y)(b:zP x.m x.car=0)(c:zP y.m y.car=0)(h:y.bytes=x.bytes):y.c=x.c:=by
 have g:=(zi5 x [] d (zcB b).2.2.1 (zcB b).2.2.2).1;have j:=(zi5 y [] f (zcB c).2.2.1 (zcB c).2.2.2).1;rw[<-g,<-j,h]
theorem zt1 {y:MV}(b:zP y.m y.car=0)(h:zcO y.m 0=0):zaT y:=by
 obtain⟨_,_,c,d⟩:=zcB b;rw[zcO,iN_ (by simp)]at h
 split at h
 cases h
 rename_i f
 exact⟨c,d,by omega,by omega,by omega⟩
theorem zq3 {y:MV}(h:zaT y):zcO y.m 0=0:=by
 rw[zcO,iN_ (by simp),iN_];rintro(h9|h9|h9);exact h9 h.fr;exact h9 h.tt;exact h.ki h9
theorem zt2 {x y:MV}(h:y.c=x.c):zcO y.m 0=zcO x.m 0:=by
 simp only[MV.c,MC.mk.injEq]at h;rw[zcO,zcO,h.1,h.2.1,h.2.2.1]
variable {B base:Nat}{xs:List Value}{ms:List MV}
theorem zni (ys:List MV)(h:∀y∈ys,2<=y.onTape.length):2*ys.length<=(zv ys).length:=by
 induction ys with
 | nil=>simp[zv]
 | cons y l ih=>
  have d:=h y (by simp);have b:=ih (λz c=>h z (by simp[c]));simp only[zv,List.flatMap_cons,lP_,List.length_cons]at b|-;omega
theorem zfW (y:MV):2<=y.onTape.length:=by simp[MV.onTape]
theorem zcX {c:Nat}{e:TypeId}{s:Nat}{v:Value}(h:w.ownsRow base e s v n xs)(m:c<=base):w.ownsRow c e s v n xs:=by
 obtain⟨j,b⟩:=h;refine⟨j,?_⟩;rcases b with b|⟨g,d,f,rfl,o,l,r⟩;exact .inl b;exact .inr ⟨g,d,f,rfl,by omega,l,r⟩
theorem zda.mono {C:Nat}{v:Value}(h:zda w B v ms)(d:C<=B):zda w C v ms:=λx b=>⟨(h x b).1,(h x b).2.1,(h x b).2.2.mono (λ_ c=>⟨nT_ d c.1,c.2⟩)⟩
theorem zda.far {b:Nat}{v:Value}(h:zda w B v ms)(f:b<B)(d:∀k,k≠b->w'.heap[k]? = w.heap[k]?):zda w' B v ms:=λx c=>⟨(h x c).1.stays (G:=λk=>B<=k/\v.ownBlock≠some k) (λk g=>d k (by have:=g.1;omega)) (h x c).2.2,(h x c).2.1,(h x c).2.2⟩
theorem zqc {x y:MV}{p q:L_}(j:MAt w x)(l:MAt w0 y)(m:zaT x)(o:zaT y)(h:y.onTape++p=x.onTape++q):y.bytes=x.bytes/\y.c=x.c/\y.onTape=x.onTape/\p=q:=by
 obtain⟨r,s,t,d⟩:=zet (bs:=y.onTape++p) (x:=y) rfl;obtain⟨u,z,A,f⟩:=zet h;have g:y.bytes.length=x.bytes.length:=by omega
 have b:y.bytes=x.bytes:=by rw[<-d,g,f]
 have c:y.onTape=x.onTape:=by rw[MV.onTape,MV.onTape,b]
 refine⟨b,zoU j l m.check o.check b,c,?_⟩;rw[c]at h;exact List.append_cancel_left h
structure zhN (ys ms:List MV):Prop where
 le:ys.length<=ms.length
 same:∀(i:Nat) (h1:i<ys.length) (h2:i<ms.length),(ms[i]).c=(ys[i]).c
 tape:zv ys=zv (ms.take ys.length)
theorem zhN.nil (ms:List MV):zhN [] ms:=⟨nZ_ _,(λ_ h=>by simp at h),rfl⟩
theorem zhN.cons {x y:MV}{ys:List MV}(h:zhN ys ms)(d:y.c=x.c)(f:y.onTape=x.onTape):zhN (y::ys) (x::ms):=by
 refine⟨by have:=h.le;simp;omega,?_,?_⟩;intro i b c;cases i with
 | zero=>exact d.symm
 | succ i=>exact h.same i (by simpa using b) (by simpa using c)
 have:=h.tape;simp only[zv,List.flatMap_cons,List.length_cons,List.take_succ_cons]at this|-;rw[this,f]
theorem zeg (x:MV)(l:List MV):zv (x::l)=x.onTape++zv l:=rfl
theorem zkp {c:List zi}(h:c.map (·.bs)=qs.map (·.bs))(j:∀p∈c,∀x∈p.bs,0<=x/\x<=255):∀q∈qs,∀x∈q.bs,0<=x/\x<=255:=by
 intro q g x l;have b:q.bs∈qs.map (·.bs):=List.mem_map_of_mem g;rw[<-h]at b;obtain⟨p,f,e⟩:=mM_.1 b;have d:=e;exact j p f x (by rw[d];exact l)
theorem zxm {x y:MV}(h:x.c=y.c)(b:U8M x.bl x.pl x.cbl x.cpl x.ds):U8M y.bl y.pl y.cbl y.cpl y.ds:=by
 simp only[MV.c,MC.mk.injEq]at h;obtain⟨l,t,u,z,A,B,C,D,j,c,m,o,d,p,q,f,g,r,s⟩:=h;exact⟨zkp j b.hb,zkp c b.hp,zkp f b.cb,zkp g b.cp,by rw[<-d];exact b.sd⟩
variable {i r:Int}{l:List SV}{t:ByteArray}
theorem zhI {m:Msg}{e:Int}(h:zP m e=0):(0<=m.fr/\m.fr<4)/\0<=m.tt/\m.tt<4:=by
 unfold zP at h
 split at h
 cases h
 rename_i g
 simp only[not_or,Decidable.not_not]at g;exact g
def zgd (l:List SV)(s:SV):Prop:=∃t∈l,t.1=s.1/\t.2.1=s.2.1/\txL t.2.2=txL s.2.2
def zoF (n:Nd)(m:MC):Prop:=(∃b,m=zed b/\zb1 n.k.sh b.d=true)\/m=zcl n.k.own\/(∃s,m=zcE s/\zgd n.k.tab s)\/(∃c,m=zdh c/\c∈n.k.dag)\/∃r,m=zrL r
structure StV (o:No)(n:Nd)(h:CV):Prop where
 other:h.au≠n.nu
 knows:n.k.knows h=true
 hf:h.hf=0
 signed:o.signed h.au h.slot=true
 cast:(zaf n.k.tab h).2.2=0
 more:n.k.tab.length<(zaf n.k.tab h).1.length
 room:n.room (zcE h.slot)=true
def zbP (o:No)(n n':Nd):Prop:=
 (∃d m,(0<=d/\d<4)/\zoF n m/\n'=n.send d m) \/
 (∃b,zbG n.k.sh b=true/\n.room (zed b)=true/\n'=n.log (zed b) { n.k with sh:=n.k.sh++[b] }) \/
 (∃h,StV o n h/\n'=n.log (zcE h.slot) { n.k with tab:=(zaf n.k.tab h).1 }) \/
 (∃c,n.proofs o c=true/\n'=n.log (zdh c) { n.k with dag:=n.k.dag++[c] }) \/
 (∃r,(zaf n.k.tab (n.header r)).2.2=0/\n.room (zcl (n.header r))=true/\n.k.own.rd<r/\r=zdi n.k.dag/\n'={ n.log (zcl (n.header r)) { n.k with tab:=(zaf n.k.tab (n.header r)).1,own:=n.header r,slot:=(n.header r).slot } with vot:=[n.nu] }) \/
 (∃fr,¬fr∈n.vot/\cOf n.k.dag n.k.slot.1 n.k.slot.2.1<0/\o.signed fr n.k.slot=true/\n'={ n with vot:=n.vot++[fr] }) \/
 (zb4 n.nx n.txs n.nu=0/\zb1 n.k.sh (⟨n.nu,n.nx,n.txs.take 4⟩:BW).d=true/\n'={ n with nx:=n.nx+1,txs:=n.txs.drop 4 }) \/
 (∃t,n'={ n with trn:=t })
def zad (o:No)(n m:Nd):Prop:=∀P:Nd->Prop,(∀a b,zbP o a b->P a->P b)->P n->P m
theorem zad.refl {o:No}{n:Nd}:zad o n n:=λ_ _ h=>h
theorem zad.tail {o:No}{n a b:Nd}(h:zad o n a)(s:zbP o a b):zad o n b:=λP c d=>c a b s (h P c d)
theorem zad.trans {o:No}{a b c:Nd}(h:zad o a b)(k:zad o b c):zad o a c:=λP d f=>k P d (h P d f)
theorem zad.one {o:No}{a b:Nd}(h:zbP o a b):zad o a b:=zad.refl.tail h
theorem zad.keeps {o:No}{P:Nd->Prop}(d:∀a b,zbP o a b->P a->P b){a b:Nd}(h:zad o a b)(c:P a):P b:=h P d c
theorem zbP.send {o:No}{n:Nd}{d:Int}(b:0<=d/\d<4){m:MC}(h:zoF n m):zbP o n (n.send d m):=.inl ⟨d,m,b,h,rfl⟩
theorem ze2 (n:Nd)(d:Int)(m:MC):(n.send d m).k=n.k:=by unfold Nd.send;split<;>rfl
theorem zmu (n:Nd)(d:Int)(m:MC):(n.send d m).nu=n.nu:=by unfold Nd.send;split<;>rfl
theorem zge (n:Nd)(d:Int)(m:MC):(n.send d m).vot=n.vot:=by unfold Nd.send;split<;>rfl
theorem zoG (o:No)(n:Nd)(m:MC)(h:zoF n m)(j:Nat)(c:j<=4):zad o n (n.sendTo m j)/\(n.sendTo m j).k=n.k/\(n.sendTo m j).nu=n.nu/\(n.sendTo m j).vot=n.vot:=by
 induction j with
 | zero=>exact⟨zad.refl,rfl,rfl,rfl⟩
 | succ j b=>
  have b:=b (by omega);refine⟨b.1.tail (zbP.send (by omega) ?_),(ze2 _ _ _).trans b.2.1,(zmu _ _ _).trans b.2.2.1,(zge _ _ _).trans b.2.2.2⟩;unfold zoF;rw[b.2.1];exact h
theorem zgK (o:No)(n:Nd)(m:MC)(h:zoF n m):zad o n (n.sendAll m):=(zoG o n m h 4 (by omega)).1
theorem zx7 {l:List BW}{d:L_}{b:BW}(h:bOf l d=some b):b∈l:=List.mem_of_find?_eq_some h
theorem zm9 {l:List BW}{b:BW}(h:b∈l):zb1 l b.d=true:=by
 rw[zb1,aT_];exact⟨b,h,by simp⟩
theorem zp5 (o:No)(n:Nd)(t:Int)(f:0<=t/\t<4)(d:L_):zad o n (n.sendD t d)/\(n.sendD t d).k=n.k/\(n.sendD t d).nu=n.nu/\(n.sendD t d).vot=n.vot:=by
 unfold Nd.sendD
 split
 rename_i b c
 exact⟨zad.one (zbP.send f (.inl ⟨b,rfl,zm9 (zx7 c)⟩)),ze2 _ _ _,zmu _ _ _,zge _ _ _⟩;exact⟨zad.refl,rfl,rfl,rfl⟩
theorem zkI (o:No)(t:Int)(g:0<=t/\t<4)(l:List (L_))(n:Nd):zad o n (n.sendB t l)/\(n.sendB t l).k=n.k/\(n.sendB t l).nu=n.nu/\(n.sendB t l).vot=n.vot:=by
 induction l generalizing n with
 | nil=>exact⟨zad.refl,rfl,rfl,rfl⟩
 | cons d l ih=>
  obtain⟨a,b,c,e⟩:=zp5 o n t g d;obtain⟨a',b',c',f⟩:=ih (n.sendD t d);exact⟨a.trans a',b'.trans b,c'.trans c,f.trans e⟩
theorem zh3 (o:No)(n:Nd)(b:BW):zad o n (n.hearB b):=by
 unfold Nd.hearB
 split
 rename_i h
 rw[Bool.and_eq_true]at h;exact zad.one (.inr (.inl ⟨b,h.1,h.2,rfl⟩));exact zad.refl
theorem ztA {m:Nat}(h:hit l au rd m=true):(zd1 l m).1=au/\(zd1 l m).2.1=rd:=of_decide_eq_true h
theorem zvC {m:Nat}(h:m<l.length):zd1 l m∈l:=by simp[zd1,List.getD,h]
theorem zkJ {s:SV}(h:(za6 l s).2=0):zgd (za6 l s).1 s:=by
 unfold za6 at h|-
 split
 rename_i m b
 rw[b]at h
 simp only at h
 split at h
 rename_i e
 rw[iP_ e];obtain⟨d,c,_⟩:=zrN b;exact⟨zd1 l m,zvC d,(ztA c).1,(ztA c).2,e⟩;cases h
 rename_i b
 rw[b]at h
 simp only at h
 split at h
 cases h
 rename_i e
 rw[iN_ e];exact⟨s,by simp,rfl,rfl,rfl⟩
theorem zgU {h:CV}(e:(zaf l h).2.2=0):zdt l=0/\h.hf=0/\(za6 l h.slot).2=0/\zaf l h=((za6 l h.slot).1,h.slot,0):=by
 unfold zaf zcL at e|-
 split at e
 cases e
 rename_i d
 split at e
 rename_i b;exact absurd e b
 rename_i b
 split at e
 rename_i c;exact absurd e c
 rename_i c
 rw[iN_ d,iN_ b,iN_ c];exact⟨by simpa using d,by simpa[CV.hf]using b,by simpa[CV.slot,CV.d]using c,rfl⟩
theorem zkK {h:CV}(e:(zaf l h).2.2=0):zgd (zaf l h).1 h.slot:=by
 obtain⟨_,_,b,c⟩:=zgU e;rw[c];exact zkJ b
theorem ztB {s:SV}(h:(za6 l s).2=0):((za6 l s).1=l/\zgd l s)\/((za6 l s).1=l++[s]/\zbp l s.1 s.2.1 l.length=none/\l.length<400):=by
 have b:=zkJ h;rcases zrM l s with⟨e,_⟩|e|e|⟨e,c,d⟩;rw[e]at b|-;exact .inl ⟨rfl,b⟩;rw[e]at h;cases h;rw[e]at h;cases h;rw[e];exact .inr ⟨rfl,c,d⟩
theorem zgf {h:CV}(e:(zaf l h).2.2=0):((zaf l h).1=l/\zgd l h.slot)\/((zaf l h).1=l++[h.slot]/\zbp l h.au h.rd l.length=none/\l.length<400):=by
 obtain⟨_,_,b,c⟩:=zgU e;rw[c];exact ztB b
theorem zy6 {h:CV}(e:h.hf=0):0<=h.au/\h.au<4:=by
 unfold CV.hf zO at e
 split at e
 cases e
 rename_i g
 simp only[not_or,Decidable.not_not]at g;exact g.1
theorem zp6 (o:No)(n:Nd)(h:CV):zad o n (n.hearO o h):=by
 unfold Nd.hearO
 split
 exact zad.refl
 rename_i f
 split
 exact zad.refl
 rename_i b
 have b:(zaf n.k.tab h).2.2=0:=by simpa using b
 simp only[not_or]at f;obtain⟨j,l,d,m⟩:=f;have g:=zy6 (by simpa using d)
 split
 rename_i c
 split
 rename_i p
 refine(zad.one (.inr (.inr (.inl ⟨h,⟨j,by simpa using l,by simpa using d,by simpa using m,b,c,p⟩,rfl⟩)))).tail (zbP.send g (.inr (.inr (.inl ⟨h.slot,rfl,?_⟩))));exact zkK b;exact zad.refl
 rename_i c
 refine zad.one (zbP.send g (.inr (.inr (.inl ⟨h.slot,rfl,?_⟩))));rcases zgf b with⟨_,e⟩|⟨e,_,_⟩;exact e;rw[e]at c;simp at c
theorem zkL (o:No)(n:Nd)(c:CV):zad o n (n.hearP o c):=by
 unfold Nd.hearP
 split
 rename_i h;exact zad.one (.inr (.inr (.inr (.inl ⟨c,h,rfl⟩))))
 exact zad.refl
theorem zp7 (o:No)(n:Nd)(fr:Int)(s:SV):zad o n (n.hearV o fr s):=by
 unfold Nd.hearV
 split
 exact zad.refl
 rename_i d
 simp only[not_or]at d;obtain⟨c,l,f,g⟩:=d;have c:s=n.k.slot:=by simpa using c
 subst c;have b:zad o n { n with vot:=n.vot++[fr] }:=zad.one (.inr (.inr (.inr (.inr (.inr (.inl ⟨fr,f,by omega,by simpa using g,rfl⟩))))))
 split
 exact b
 split
 rename_i j
 refine(b.trans (zkL o _ _)).trans (zgK o _ _ (.inr (.inr (.inr (.inl ⟨_,rfl,?_⟩)))));unfold Nd.hearP;rw[iP_ j];show _∈n.k.dag++[_]
 simp
 exact b
theorem zvD (x c:CV)(l:List CV):c∈ziX x l->c=x\/c∈l:=by
 induction l with
 | nil=>intro h;simpa[ziX]using h
 | cons y l ih=>
  intro h;unfold ziX at h
  split at h
  simpa using h
  rcases List.mem_cons.1 h with e|e;exact .inr (by simp[e]);rcases ih e with g|g;exact .inl g;exact .inr (mC_ _ g)
theorem ztC (c:CV)(l:List CV):c∈zko l->c∈l:=by
 induction l with
 | nil=>intro h;cases h
 | cons y l ih=>
  intro h;rcases zvD y c (zko l) h with e|e;simp[e];exact mC_ _ (ih e)
theorem zrP {l:List CV}{c:CV}(h:c∈zjU l r):c∈l:=by
 have:=ztC c _ (List.mem_of_mem_take h);exact(List.mem_filter.1 this).1
theorem zrQ (o:No)(t:Int)(d:0<=t/\t<4)(l:List CV)(n:Nd)(h:∀c∈l,c∈n.k.dag):zad o n (n.tell t l):=by
 induction l generalizing n with
 | nil=>exact zad.refl
 | cons c l ih=>
  obtain⟨a,b,_,_⟩:=zkI o t d c.bl n;have g:zad o n (n.tellC t c):=a.tail (zbP.send d (.inr (.inr (.inr (.inl ⟨c,rfl,by rw[b];exact h c (by simp)⟩)))));refine g.trans (ih _ (λc' f=>?_));rw[Nd.tellC,ze2,b];exact h c' (mC_ _ f)
theorem zfT (o:No)(n:Nd)(m:MC)(d:0<=m.fr/\m.fr<4):zad o n (n.hear o m):=by
 unfold Nd.hear
 split
 exact zh3 o n _
 split
 exact zp6 o n _
 split
 exact zp7 o n _ _
 split
 exact zkL o n _
 split
 exact zrQ o _ d _ n (λc b=>zrP b);exact zad.refl
theorem zvE (n:Nd)(b:BW):(n.hearB b).nx=n.nx/\(n.hearB b).txs=n.txs/\(n.hearB b).nu=n.nu/\(n.hearB b).k.dag=n.k.dag/\(n.hearB b).k.own=n.k.own:=by
 unfold Nd.hearB;split<;>exact⟨rfl,rfl,rfl,rfl,rfl⟩
theorem zoH (o:No)(n:Nd):zad o n n.gather:=by
 unfold Nd.gather
 split
 exact zad.refl
 rename_i c
 have c:zb4 n.nx n.txs n.nu=0:=by simpa using c
 obtain⟨f,g,j,_⟩:=zvE n ⟨n.nu,n.nx,n.txs.take 4⟩
 split
 rename_i d
 refine(zh3 o n ⟨n.nu,n.nx,n.txs.take 4⟩).trans ?_;generalize l:n.hearB ⟨n.nu,n.nx,n.txs.take 4⟩=q at*;refine zad.trans (zad.one (b:={ q with nx:=n.nx+1,txs:=n.txs.drop 4 }) (.inr (.inr (.inr (.inr (.inr (.inr (.inl ?_)))))))) (zgK o _ _ (.inl ⟨_,rfl,d⟩));rw[f,g,j];exact⟨c,d,rfl⟩;exact zh3 o n _
theorem zAM (q:Nd)(m:MC):(q.sendAll m).k=q.k:=by
 show(((((q.send 0 m).send 1 m).send 2 m).send 3 m)).k=q.k;rw[ze2,ze2,ze2,ze2]
theorem zmv (o:No)(n:Nd)(r:Int)(c:n.k.own.rd<r)(b:r=zdi n.k.dag):zad o n (n.offerNew r):=by
 unfold Nd.offerNew
 split
 rename_i h
 exact(zad.one (.inr (.inr (.inr (.inr (.inl ⟨r,h.1,h.2,c,b,rfl⟩)))))).trans (zgK o _ _ (.inr (.inl rfl)));exact zad.refl
theorem znJ (o:No)(n:Nd)(j:Nat)(d:j<=4):zad o n (n.againTo j)/\(n.againTo j).k=n.k:=by
 induction j with
 | zero=>exact⟨zad.refl,rfl⟩
 | succ j c=>
  have c:=c (by omega);unfold Nd.againTo
  split
  exact c;obtain⟨a,b,_,_⟩:=zkI o j (by omega) n.k.own.bl (n.againTo j);refine⟨(c.1.trans a).tail (zbP.send (by omega) (.inr (.inl ?_))),(ze2 _ _ _).trans (b.trans c.2)⟩;rw[b,c.2]
theorem ztD (o:No)(n:Nd):zad o n (n.due (zdi n.k.dag)):=by
 unfold Nd.due
 split
 rename_i h;exact zmv o n _ h rfl
 split
 exact zad.refl;exact(znJ o n 4 (by omega)).1
theorem ztE (x:Int):0<=zcs x/\zcs x<4:=by unfold zcs;omega
theorem zw9 (n:Nd):0<=n.turn/\n.turn<4:=by unfold Nd.turn;split<;>exact ztE _
theorem ztF (o:No)(n:Nd)(r:Int):zad o n (n.ask r):=
 (zad.one (.inr (.inr (.inr (.inr (.inr (.inr (.inr ⟨n.turn,rfl⟩)))))))).tail (zbP.send (zw9 n) (.inr (.inr (.inr (.inr ⟨_,rfl⟩)))))
theorem zgV (o:No)(n:Nd):zad o n n.work:=
 ((zoH o n).trans (ztD o n.gather)).trans (ztF o _ _)
theorem zbP.up {o:No}{a b:Nd}(s:zbP o a b):b.up=a.up:=by
 rcases s with⟨d,m,c,_,rfl⟩|⟨b,_,_,rfl⟩|⟨_,_,rfl⟩|⟨_,_,rfl⟩|⟨_,_,_,_,_,rfl⟩|⟨_,_,_,_,rfl⟩|⟨_,_,rfl⟩|⟨_,rfl⟩;unfold Nd.send;split<;>rfl
 all_goals rfl
theorem zdq {Q:Nd->Prop}{o:No}{a b:Nd}(h:∀x y,x.up=true->zbP o x y->Q x->Q y)(s:zad o a b)(g:a.up=true)(f:Q a):Q b:=
 (zad.keeps (P:=λn=>n.up=true/\Q n) (λx y d c=>⟨(zbP.up d).trans c.1,h x y c.1 d c.2⟩) s ⟨g,f⟩).2
theorem zfC {f:Fl}(h:f.runs i=true):(f.node i).up=true:=by
 unfold Fl.runs at h;rw[Bool.and_eq_true]at h;exact h.2
theorem zAv {f:Fl}(h:f.runs i=true):i≠f.no.bad:=by
 unfold Fl.runs at h;rw[Bool.and_eq_true]at h;exact of_decide_eq_true h.1
structure zc5 (S:ByteArray->Prop)(Q:Int->Nd->Prop):Prop where
 step:∀i o a b,0<=i/\i<4->a.up=true->zbP o a b->Q i a->Q i b
 crash:∀i n p,0<=i/\i<4->0<=p->Q i n->Q i (n.crash p)
 up:∀i n,0<=i/\i<4->Q i n->Q i { n with up:=true }
 synced:∀i n,0<=i/\i<4->Q i n->Q i { n with wai:=[],syn:=(zae n.recs).length }
 sub:∀i n t,0<=i/\i<4->S t->zcD n.nx n.txs t=0->Q i n->Q i { n with txs:=n.txs++[t] }
def zah (Q:Int->Nd->Prop)(f:Fl):Prop:=f.nd.length=4/\∀i,0<=i/\i<4->Q i (f.node i)
theorem zah.set {Q:Int->Nd->Prop}{f:Fl}(h:zah Q f){i:Int}(c:0<=i/\i<4){n:Nd}(d:Q i n):zah Q (f.set i n):=by
 refine⟨(zau _ _ _).trans h.1,λj b=>?_⟩;by_cases e:j=i;subst e;rw[set_here n h.1 b];exact d;rw[set_there n c.1 b.1 e];exact h.2 j b
theorem zah.nd {Q:Int->Nd->Prop}{f g:Fl}(h:zah Q f)(e:g.nd=f.nd):zah Q g:=⟨by rw[e];exact h.1,λj b=>by rw[zev e];exact h.2 j b⟩
def MC.post (m:MC):Prop:=(0<=m.fr/\m.fr<4)/\0<=m.tt/\m.tt<4
theorem zah.come {S:ByteArray->Prop}{Q:Int->Nd->Prop}(k:zc5 S Q){f:Fl}(h:zah Q f){i:Int}(c:0<=i/\i<4){m:MC}(d:0<=m.fr/\m.fr<4):zah Q (f.come i m):=by
 unfold Fl.come
 split
 rename_i g
 exact h.set c (zdq (λa b u s=>k.step i f.no a b c u s) (zfT f.no (f.node i) m d) (zfC g) (h.2 i c));exact h
theorem zah.comes {S:ByteArray->Prop}{Q:Int->Nd->Prop}(k:zc5 S Q)(l:List MC){f:Fl}(h:zah Q f)(b:∀m∈l,m.post):zah Q (comes f l):=by
 induction l generalizing f with
 | nil=>exact h
 | cons m l ih=>exact ih (h.come k (b m (by simp)).2 (b m (by simp)).1) (λd c=>b d (mC_ _ c))
theorem zeU {l:List MC}(h:k<l.length):l.getD k MC.z∈l:=by simp[List.getD,h]
theorem zhw {m:MC}(h:zh2 t=some m):0<=m.fr/\m.fr<4:=by
 unfold zh2 at h
 split at h
 rename_i e
 cases h;exact(zhI e.2).1;cases h
theorem zah.does {S:ByteArray->Prop}{Q:Int->Nd->Prop}(k:zc5 S Q){f:Fl}(h:zah Q f)(c:∀m∈f.away,m.post){a:Ac}(l:a.ok)(j:a.k=1->S a.t):zah Q (f.does a):=by
 obtain⟨_,_,o,p,t,_⟩:=l;have b:0<=a.i/\a.i<4:=⟨o,p⟩;unfold Fl.does Fl.act
 split
 unfold Fl.pick
 split
 exact h
 rename_i B
 split
 exact h.nd rfl
 split
 have d:=c _ (zeU (Nat.mod_lt a.p.toNat (show 0<f.away.length by omega)));exact zah.come k (h.nd (g:={ f with away:=f.away.eraseIdx (a.p.toNat % f.away.length) }) rfl) d.2 d.1;exact h.nd rfl
 split
 exact zah.comes k f.away (h.nd (g:={ f with away:=[] }) rfl) c
 split
 rename_i q
 unfold Fl.submit
 split
 exact h.nd rfl
 split
 rename_i z;exact zah.nd (h.set b (k.sub a.i _ a.t b (j q) z (h.2 a.i b))) rfl
 exact h.nd rfl
 split
 unfold Fl.forge
 split
 rename_i m r
 split
 exact h;exact zah.come k h b (zhw r);exact h
 split
 unfold Fl.start
 split
 exact h;exact h.set b (k.up a.i _ b (h.2 a.i b))
 split
 split
 rename_i A
 split
 exact h.set b (zdq (λx y u s=>k.step a.i f.no x y b u s) (zgV f.no (f.node a.i)) (zfC A) (h.2 a.i b))
 split
 exact zah.nd (h.set b (k.synced a.i _ b (h.2 a.i b))) (zdO _ _);exact h.set b (k.crash a.i _ a.p b t (h.2 a.i b));exact h;exact h
structure zeF (i:Int)(n:Nd):Prop where
 nu:n.nu=i
 fr:∀m∈n.wai,m.fr=i/\0<=m.tt/\m.tt<4
theorem zix {n:Nd}{d:Int}{m:MC}(h:zeF i n)(b:0<=d/\d<4):zeF i (n.send d m):=by
 unfold Nd.send
 split
 exact h;refine⟨h.nu,λx c=>?_⟩;rcases mA_.1 c with g|g;exact h.fr x g;rw[mS_.1 g];exact⟨h.nu,b⟩
theorem zh4 (l:List MC)(n:Nd):(l.foldl Nd.recall n).nu=n.nu/\(l.foldl Nd.recall n).up=n.up/\(l.foldl Nd.recall n).wai=n.wai/\(l.foldl Nd.recall n).recs=n.recs/\(l.foldl Nd.recall n).syn=n.syn/\(l.foldl Nd.recall n).txs=n.txs/\(l.foldl Nd.recall n).k=l.foldl Kn.rcl n.k/\(l.foldl Nd.recall n).trn=n.trn:=by
 induction l generalizing n with
 | nil=>exact⟨rfl,rfl,rfl,rfl,rfl,rfl,rfl,rfl⟩
 | cons m l ih=>
  obtain⟨a,b,c,d,e,g,h,j⟩:=ih (n.recall m);exact⟨a,b,c,d,e,g,h,j⟩
theorem zc8 (n:Nd)(p:Int):(n.crash p).nu=n.nu/\(n.crash p).up=false/\(n.crash p).wai=[]/\(n.crash p).recs=n.kept p/\(n.crash p).syn=(zae (n.kept p)).length/\(n.crash p).txs=[]/\(n.crash p).k=(n.kept p).foldl Kn.rcl Kn.z/\(n.crash p).trn=0:=by
 obtain⟨a,b,c,d,e,g,h,j⟩:=zh4 (n.kept p) { Nd.z n.nu with recs:=n.kept p,syn:=(zae (n.kept p)).length };exact⟨a,b,c,d,e,g,h,j⟩
theorem zf0:zc5 (λ_=>True) zeF where
 step:=λi o a b j _ s h=>by
  rcases s with⟨d,m,g,_,rfl⟩|⟨b,_,_,rfl⟩|⟨_,_,rfl⟩|⟨_,_,rfl⟩|⟨_,_,_,_,_,rfl⟩|⟨_,_,_,_,rfl⟩|⟨_,_,rfl⟩|⟨_,rfl⟩
  .exact zix h g
  all_goals exact⟨h.nu,h.fr⟩
 crash:=λi n p _ _ h=>by
  obtain⟨a,_,c,_⟩:=zc8 n p
  exact⟨a.trans h.nu,λm f=>by rw[c]at f;cases f⟩
 up:=λi n _ h=>⟨h.nu,h.fr⟩
 synced:=λi n _ h=>⟨h.nu,λm f=>by cases f⟩
 sub:=λi n t _ _ _ h=>⟨h.nu,h.fr⟩
theorem zhx (l:List MC){f:Fl}(h:∀m∈f.away,m.post)(c:∀m∈l,m.post):∀m∈(l.foldl Fl.out f).away,m.post:=by
 induction l generalizing f with
 | nil=>exact h
 | cons x l ih=>
  refine ih (f:=f.out x) (λm b=>?_) (λm b=>c m (mC_ _ b));have b:m∈zct f.away x:=b;unfold zct at b
  split at b
  rcases mA_.1 b with g|g;exact h m g;rw[mS_.1 g];exact c x (by simp);exact h m b
structure zcn (f:Fl):Prop where
 posts:zah zeF f
 aw:∀m∈f.away,m.post
theorem zcn.does {f:Fl}(h:zcn f){a:Ac}(c:a.ok):zcn (f.does a):=by
 refine⟨h.posts.does zf0 h.aw c (λ_=>trivial),?_⟩;obtain⟨_,_,o,p,s,_⟩:=c;have d:0<=a.i/\a.i<4:=⟨o,p⟩;unfold Fl.does Fl.act
 split
 unfold Fl.pick
 split
 exact h.aw
 rename_i r
 have q:=h.aw _ (zeU (Nat.mod_lt a.p.toNat (show 0<f.away.length by omega)))
 split
 intro m b;have b:m∈zct f.away _:=b;unfold zct at b
 split at b
 rcases mA_.1 b with g|g;exact h.aw m g;rw[mS_.1 g];exact q;exact h.aw m b
 split
 rw[zcj];intro m b;exact h.aw m (List.mem_of_mem_eraseIdx b);intro m b;exact h.aw m (List.mem_of_mem_eraseIdx b)
 split
 rw[zfw,zej];intro m b;cases b
 split
 unfold Fl.submit
 split
 exact h.aw
 split<;>exact h.aw
 split
 exact zcq (P:=λg=>∀m∈g.away,m.post) _ _ h.aw (λm=>by rw[zcj];exact h.aw)
 split
 unfold Fl.start
 split<;>exact h.aw
 split
 split
 split
 exact h.aw
 split
 unfold Fl.sync;refine zhx _ h.aw (λm b=>?_);obtain⟨j,l⟩:=(h.posts.2 a.i d).fr m b;exact⟨by rw[j];exact d,l⟩;exact h.aw;exact h.aw;exact h.aw
theorem zf1 (r:Int)(i:Int)(b:0<=i/\i<4):(Fl.z r).node i={ Nd.z i with up:=true }:=by
 have:i=0\/i=1\/i=2\/i=3:=by omega
 rcases this with e|e|e|e<;>subst e<;>rfl
theorem zcn.z (r:Int):zcn (Fl.z r):=⟨⟨rfl,λi c=>by rw[zf1 r i c];exact⟨rfl,λm b=>by cases b⟩⟩,λm b=>by cases b⟩
theorem zah.run {S:ByteArray->Prop}{Q:Int->Nd->Prop}(k:zc5 S Q)(l:List Ac){f:Fl}(j:zcn f)(h:zah Q f)(d:∀a∈l,a.ok)(g:∀a∈l,a.k=1->S a.t):zah Q (f.run l):=by
 induction l generalizing f with
 | nil=>exact h
 | cons a l ih=>exact ih (j.does (d a (by simp))) (h.does k j.aw (d a (by simp)) (g a (by simp))) (λb c=>d b (mC_ _ c)) (λb c=>g b (mC_ _ c))
def zdf (_:Int)(n:Nd):Prop:=n.k=n.recs.foldl Kn.rcl Kn.z
theorem zmN {k:Kn}{b:BW}(h:zbG k.sh b=true):k.rcl (zed b)={ k with sh:=k.sh++[b] }:=by
 show(if zbG k.sh b=true then _ else _)=_;rw[iP_ h];rfl
theorem zmO {k:Kn}{h:CV}(d:h.vl=[])(c:h.hf=0)(b:(zaf k.tab h).2.2=0):k.rcl (zcl h)={ k with tab:=(zaf k.tab h).1,own:=h,slot:=h.slot }:=by
 have e:(zcl h).h=h:=by cases h;cases d;rfl
 show(if(zcl h).h.hf=0 then { k with own:=(zcl h).h,slot:=(zcl h).h.slot,tab:=if(zaf k.tab (zcl h).h).2.2=0 then(zaf k.tab (zcl h).h).1 else k.tab } else k)=_;rw[e,iP_ c,iP_ b]
theorem zmP (k:Kn)(s:SV):k.rcl (zcE s)={ k with tab:=k.tab++[s] }:=rfl
theorem zmQ {k:Kn}{c:CV}(h:za8 k.dag c=0):k.rcl (zdh c)={ k with dag:=k.dag++[c] }:=by
 show(if za8 k.dag c=0 then _ else _)=_;rw[iP_ h];rfl
theorem zdm {n:Nd}{m:MC}{k:Kn}(h:zdf i n)(e:n.k.rcl m=k):zdf i (n.log m k):=by
 show k=(n.recs++[m]).foldl Kn.rcl Kn.z;rw[List.foldl_append,<-h];exact e.symm
theorem zib:zc5 (λ_=>True) zdf where
 step:=λi o a b l _ s h=>by
  rcases s with⟨d,m,j,_,rfl⟩|⟨b,f,_,rfl⟩|⟨x,f,rfl⟩|⟨c,f,rfl⟩|⟨r,f,_,_,_,rfl⟩|⟨_,_,_,_,rfl⟩|⟨_,_,rfl⟩|⟨_,rfl⟩
  .unfold Nd.send;split<;>exact h
  .exact zdm h (zmN f)
  .refine zdm h ?_
   rw[zmP]
   rcases zgf f.cast with⟨g,_⟩|⟨g,_,_⟩
   .have:=f.more;rw[g]at this;omega
   .rw[g]
  .unfold Nd.proofs at f
   simp only[Bool.and_eq_true,dE_]at f
   exact zdm h (zmQ f.1.1)
  .exact zdm h (zmO rfl (zgU f).2.1 f)
  all_goals exact h
 crash:=λi n p _ _ h=>by
  obtain⟨_,_,_,d,_,_,g,_⟩:=zc8 n p
  show(n.crash p).k=_
  rw[g,d]
 up:=λi n _ h=>h
 synced:=λi n _ h=>h
 sub:=λi n t _ _ _ h=>h
theorem zjh (l:List MC):zeo (zae l).length l=l:=by
 induction l with
 | nil=>rfl
 | cons m l ih=>
  have e:(zae (m::l)).length=m.onTape.length+(zae l).length:=by simp[zae]
  rw[zeo,iP_ (by omega),e,Nat.add_sub_cancel_left,ih]
theorem zgl (f:Fl)(i:Int):(f.start i).no=f.no:=by unfold Fl.start;split<;>rfl
theorem zpG {f:Fl}(h:i=f.no.bad):f.runs i=false:=by unfold Fl.runs;simp[h]
theorem ziy {f:Fl}(h:i≠f.no.bad):f.runs i=(f.node i).up:=by unfold Fl.runs;simp[h]
theorem zzL {h:CV}(e:(zaf l h).2.2=0):∃t,(zaf l h).1=l++t:=by
 rcases zgf e with⟨g,_⟩|⟨g,_,_⟩;exact⟨[],by rw[g,List.append_nil]⟩;exact⟨_,g⟩
theorem zf5 {α:Type}(l:List α):∃e,l=l++e:=⟨[],(List.append_nil l).symm⟩
theorem zz5 (l:List GV)(g:GV):zfS l g=l\/zfS l g=l++[g]:=by
 unfold zfS
 split
 exact .inl rfl
 rename_i h
 split
 rename_i b
 unfold zec at b|-
 split at b
 cases b
 rename_i d
 split at b
 rename_i c;exact absurd b c
 rename_i c
 rw[iN_ d,iN_ c,iN_ h];exact .inr rfl;exact .inl rfl
theorem zAw (o:No)(m:MC):∃e,(o.sign m).sg=o.sg++e/\∀g∈e,g.1=m.fr:=by
 have none:∃e,o.sg=o.sg++e/\∀g∈e,g.1=m.fr:=⟨[],by simp,λg b=>by cases b⟩;have c:∀g:GV,g.1=m.fr->∃e,zfS o.sg g=o.sg++e/\∀x∈e,x.1=m.fr:=λg b=>by
  rcases zz5 o.sg g with e|e;rw[e];exact none;exact⟨[g],e,λx d=>by rw[mS_.1 d];exact b⟩
 unfold No.sign
 split
 split
 exact c _ rfl;exact none
 split
 exact c _ rfl;exact none
theorem zzR (l:List MC)(f:Fl)(i:Int)(c:∀m∈l,m.fr=i):∃e,(l.foldl Fl.out f).no.sg=f.no.sg++e/\∀g∈e,g.1=i:=by
 induction l generalizing f with
 | nil=>exact⟨[],by simp,λg b=>by cases b⟩
 | cons m l ih=>
  obtain⟨d,o,r⟩:=zAw f.no m;obtain⟨j,p,s⟩:=ih (f.out m) (λx q=>c x (mC_ _ q));refine⟨d++j,?_,λg b=>?_⟩;rw[List.foldl_cons,p,<-List.append_assoc,<-o];rfl;rcases mA_.1 b with g1|g1;rw[r g g1];exact c m (by simp);exact s g g1
theorem zqJ (q:Nd)(m:MC):(q.sendAll m).vot=q.vot:=by
 show(((((q.send 0 m).send 1 m).send 2 m).send 3 m)).vot=q.vot;rw[zge,zge,zge,zge]
variable {g:GV}{p:Int}
theorem zz6 {P:Fl->Prop}{a:Ac}(A:∀f,P f->zcn f)
  (B:∀f i n,P f->0<=i/\i<4->f.runs i=true->zad f.no (f.node i) n->P (f.set i n))
  (C:∀f i p,P f->0<=i/\i<4->f.runs i=true->0<=p->P (f.set i ((f.node i).crash p)))
  (sy:∀f i,P f->0<=i/\i<4->f.runs i=true->P (f.sync i))
  (q:∀f l,P f->(∀m∈l,m∈f.away)->P { f with away:=l })
  (up:∀f i,a.k=8->P f->0<=i/\i<4->i≠f.no.bad->P (f.set i { f.node i with up:=true }))
  (M:∀f i t,P f->0<=i/\i<4->f.runs i=true->P (f.set i { f.node i with txs:=(f.node i).txs++[t] }))
  (s:∀f c,P f->P { f with codes:=c })
  {f:Fl} (h:P f) (D:a.ok):P (f.does a):=by
 obtain⟨N,O,G,H,I,_⟩:=D;have j:0<=a.i/\a.i<4:=⟨G,H⟩;have u:∀(g:Fl) (i:Int) (m:MC),P g->0<=i/\i<4->0<=m.fr/\m.fr<4->P (g.come i m):=λg i m o j b=>by
  unfold Fl.come
  split
  rename_i d;exact B g i _ o j d (zfT g.no (g.node i) m b)
  exact o
 have F:∀(l:List MC) (g:Fl),P g->(∀m∈l,m.post)->P (comes g l):=λl=>by
  induction l with
  | nil=>intro g o _;exact o
  | cons m l ih=>intro g o r;exact ih _ (u g m.tt m o (r m (by simp)).2 (r m (by simp)).1) (λx J=>r x (mC_ _ J))
 unfold Fl.does Fl.act
 split
 unfold Fl.pick
 split
 exact h
 rename_i r
 have y:=zeU (Nat.mod_lt a.p.toNat (show 0<f.away.length by omega));have z:=(A f h).aw _ y
 split
 refine q f _ h (λm b=>?_);unfold zct at b
 split at b
 rcases mA_.1 b with g|g;exact g;rw[mS_.1 g];exact y;exact b
 split
 exact u { f with away:=f.away.eraseIdx (a.p.toNat % f.away.length) } _ _ (q f _ h (λm b=>List.mem_of_mem_eraseIdx b)) z.2 z.1;exact q f _ h (λm b=>List.mem_of_mem_eraseIdx b)
 split
 exact F f.away { f with away:=[] } (q f [] h (λm b=>by cases b)) (A f h).aw
 split
 unfold Fl.submit
 split
 exact s f _ h
 rename_i d
 have d:f.runs a.i=true:=by simpa using d
 split
 exact s _ _ (M f a.i a.t h j d);exact s f _ h
 split
 unfold Fl.forge
 split
 rename_i m b
 split
 exact h;exact u f a.i m h j (zhw b);exact h
 split
 rename_i L
 unfold Fl.start
 split
 exact h
 rename_i E;exact up f a.i L h j E
 split
 split
 rename_i d
 split
 exact B f a.i _ h j d (zgV f.no (f.node a.i))
 split
 exact sy f a.i h j d;exact C f a.i a.p h j d I;exact h;exact h
def zbX (l:List MC):Kn:=l.foldl Kn.rcl Kn.z
theorem zz7 (k:Kn)(m:MC):∃e,(k.rcl m).tab=k.tab++e:=by
 unfold Kn.rcl
 split
 split<;>exact zf5 _
 split
 split
 show ∃e,(if(zaf k.tab m.h).2.2=0 then(zaf k.tab m.h).1 else k.tab)=_
 split
 rename_i h;exact zzL h
 exact zf5 _;exact zf5 _
 split
 exact⟨_,rfl⟩
 split
 split<;>exact zf5 _
 exact zf5 _
theorem zzV (l:List MC)(k:Kn):∃e,(l.foldl Kn.rcl k).tab=k.tab++e:=by
 induction l generalizing k with
 | nil=>exact zf5 _
 | cons m l ih=>
  obtain⟨b,d⟩:=zz7 k m;obtain⟨c,f⟩:=ih (k.rcl m);exact⟨b++c,by rw[List.foldl_cons,f,d,List.append_assoc]⟩
theorem zgd.more {e:List SV}{s:SV}(h:zgd l s):zgd (l++e) s:=by
 obtain⟨t,c,b⟩:=h;exact⟨t,List.mem_append_left _ c,b⟩
theorem zz1 {l e:List MC}{s:SV}(h:zgd (zbX l).tab s):zgd (zbX (l++e)).tab s:=by
 obtain⟨x,b⟩:=zzV e (zbX l);have:zbX (l++e)=e.foldl Kn.rcl (zbX l):=List.foldl_append;rw[this,b];exact h.more
theorem zzM (k:Nat)(l:List MC):∃e,l=zeo k l++e:=by
 induction l generalizing k with
 | nil=>exact⟨[],rfl⟩
 | cons m l ih=>
  rw[zeo]
  split
  obtain⟨e,b⟩:=ih (k-m.onTape.length);exact⟨e,by rw[List.cons_append,<-b]⟩;exact⟨m::l,rfl⟩
theorem zxX (k j:Nat)(h:k<=j)(l x:List MC):∃e,zeo j (l++x)=zeo k l++e:=by
 induction l generalizing k j with
 | nil=>exact⟨_,rfl⟩
 | cons m l ih=>
  rw[List.cons_append,zeo,zeo];by_cases g:m.onTape.length<=k;rw[iP_ g,iP_ (nT_ g h)];obtain⟨e,b⟩:=ih (k-m.onTape.length) (j-m.onTape.length) (by omega);exact⟨e,by rw[b,List.cons_append]⟩;rw[iN_ g];exact⟨_,rfl⟩
def Nd.safe (n:Nd):List MC:=zeo n.syn n.recs
theorem zAo {sy:Nat}(c:sy<=n)(b:0<=p):sy<=zdT n sy p:=by
 unfold zdT;split<;>omega
structure zji (k:Kn):Prop where
 tab:zdt k.tab=0
 own:k.own.hf=0->zgd k.tab k.own.slot
theorem zji.z:zji Kn.z:=⟨zAn,λh=>by exact absurd h (by decide)⟩
theorem zAp {h:CV}(e:h.hf=0):zbf h.slot.1 h.slot.2.1 h.slot.2.2.length=0:=by
 have b:h.slot.2.2.length=32:=zbD _ _ _ _;unfold CV.hf zO at e
 split at e
 cases e
 rename_i g
 show zbf h.au h.rd h.slot.2.2.length=0;rw[b,zbf,iN_ g,iN_ (by decide)]
theorem zzN {h:CV}(e:(zaf l h).2.2=0):zdt (zaf l h).1=0:=by
 obtain⟨b,f,_,_⟩:=zgU e;rcases zgf e with⟨g,_⟩|⟨g,c,d⟩;rw[g];exact b;rw[g];exact zAh b d (zAp f) c
theorem zji.cast {k:Kn}(h:zji k){x:CV}(e:(zaf k.tab x).2.2=0):zji { k with tab:=(zaf k.tab x).1 }:=by
 refine⟨zzN e,λg=>?_⟩;obtain⟨t,b⟩:=zzL e;show zgd (zaf k.tab x).1 k.own.slot;rw[b];exact(h.own g).more
structure zdo (n:Nd):Prop where
 tape:n.k=zbX n.recs
 each:∀l e,n.recs=l++e->zji (zbX l)
 says:∀m∈n.wai,(m.ki=2->m.h.hf=0->zgd n.k.tab m.h.slot)/\(m.ki=3->zgd n.k.tab m.s)
 syn:n.syn<=(zae n.recs).length
theorem zdo.now {n:Nd}(h:zdo n):zji n.k:=by rw[h.tape];exact h.each n.recs [] (by simp)
theorem zz9 (l e:List MC):(zae l).length<=(zae (l++e)).length:=by simp[zae]
theorem zdo.log {n:Nd}(h:zdo n){m:MC}{k:Kn}(e:n.k.rcl m=k)(p:zji k):zdo (n.log m k):=by
 have g:zbX (n.recs++[m])=k:=by
  show(n.recs++[m]).foldl Kn.rcl Kn.z=k;rw[List.foldl_append,show n.recs.foldl Kn.rcl Kn.z=n.k from h.tape.symm];exact e
 refine⟨g.symm,λl x c=>?_,λy q=>?_,nT_ h.syn (zz9 _ _)⟩;have c:n.recs++[m]=l++x:=c;rcases List.append_eq_append_iff.1 c with⟨a,d,f⟩|⟨a,d,f⟩;cases a with
 | nil=>exact h.each l [] (by rw[d];simp)
 | cons y a=>
  have:a=[]/\x=[]:=by
   have o:=cA_ List.length f;simp only[List.length_cons,lP_,List.length_nil]at o;exact⟨eN_ (by omega),eN_ (by omega)⟩
  obtain⟨rfl,rfl⟩:=this;have:l=n.recs++[m]:=by rw[c,List.append_nil]
  rw[this,g];exact p
 exact h.each l a d;obtain⟨t,j⟩:=zz7 n.k m;rw[e]at j;have:=h.says y q;show(y.ki=2->y.h.hf=0->zgd k.tab y.h.slot)/\(y.ki=3->zgd k.tab y.s);rw[j];exact⟨λa b=>(this.1 a b).more,λa=>(this.2 a).more⟩
theorem zoF.votes {n:Nd}{m:MC}(h:zoF n m)(d:zji n.k):(m.ki=2->m.h.hf=0->zgd n.k.tab m.h.slot)/\(m.ki=3->zgd n.k.tab m.s):=by
 rcases h with⟨b,rfl,_⟩|rfl|⟨s,rfl,f⟩|⟨c,rfl,_⟩|⟨r,rfl⟩;exact⟨λe=>absurd (show(1:Int)=2 from e) (by decide),λe=>absurd (show(1:Int)=3 from e) (by decide)⟩;exact⟨λ_ e=>d.own e,λe=>absurd (show(2:Int)=3 from e) (by decide)⟩;exact⟨λe=>absurd (show(3:Int)=2 from e) (by decide),λ_=>f⟩;exact⟨λe=>absurd (show(4:Int)=2 from e) (by decide),λe=>absurd (show(4:Int)=3 from e) (by decide)⟩;exact⟨λe=>absurd (show(5:Int)=2 from e) (by decide),λe=>absurd (show(5:Int)=3 from e) (by decide)⟩
theorem zdo.step {o:No}{a b:Nd}(s:zbP o a b)(h:zdo a):zdo b:=by
 have j:=h.now;rcases s with⟨d,m,q,l,rfl⟩|⟨b,f,_,rfl⟩|⟨x,f,rfl⟩|⟨c,f,rfl⟩|⟨r,f,_,_,_,rfl⟩|⟨_,_,_,_,rfl⟩|⟨_,_,rfl⟩|⟨_,rfl⟩;unfold Nd.send
 split
 exact h;refine⟨h.tape,h.each,λy p=>?_,h.syn⟩;rcases mA_.1 p with g|g;exact h.says y g;rw[mS_.1 g];exact l.votes j;exact h.log (zmN f) ⟨j.tab,j.own⟩;refine h.log ?_ (j.cast f.cast);rw[zmP];rcases zgf f.cast with⟨g,_⟩|⟨g,_,_⟩;have:=f.more;rw[g]at this;omega;rw[g];unfold Nd.proofs at f;simp only[Bool.and_eq_true,dE_]at f;exact h.log (zmQ f.1.1) ⟨j.tab,j.own⟩;have:=h.log (zmO rfl (zgU f).2.1 f) ⟨zzN f,λ_=>zkK f⟩;exact⟨this.tape,this.each,this.says,this.syn⟩;exact⟨h.tape,h.each,h.says,h.syn⟩;exact⟨h.tape,h.each,h.says,h.syn⟩;exact⟨h.tape,h.each,h.says,h.syn⟩
theorem zdo.steps {o:No}{a b:Nd}(s:zad o a b)(h:zdo a):zdo b:=zad.keeps (λ_ _ c h=>zdo.step c h) s h
theorem zzy (n:Nd)(p:Int):∃e,n.recs=n.kept p++e:=zzM _ _
theorem zdo.crash {n:Nd}(h:zdo n)(p:Int):zdo (n.crash p):=by
 obtain⟨_,_,c,d,e,_,g,_⟩:=zc8 n p;obtain⟨x,j⟩:=zzy n p;refine⟨by rw[g,d];rfl,λl y f=>?_,(λm b=>by rw[c]at b;cases b),by rw[e,d];exact nR_ _⟩;rw[d]at f;exact h.each l (y++x) (by rw[j,f,List.append_assoc])
theorem zdo.z (i:Int):zdo { Nd.z i with up:=true }:=by
 refine⟨rfl,λl e h=>?_,(λm b=>by cases b),nR_ _⟩;have h:[]=l++e:=h;have:l=[]:=by cases l with|nil=>rfl|cons a l=>cases h
 rw[this];exact zji.z
def zc1 (a b:Nd):Prop:=∃e,b.safe=a.safe++e
theorem zc1.refl {a b:Nd}(c:b.syn=a.syn)(d:b.recs=a.recs):zc1 a b:=⟨[],by rw[Nd.safe,Nd.safe,c,d,List.append_nil]⟩
theorem zc1.trans {a b c:Nd}(h:zc1 a b)(k:zc1 b c):zc1 a c:=by
 obtain⟨e,h⟩:=h;obtain⟨d,k⟩:=k;exact⟨e++d,by rw[k,h,List.append_assoc]⟩
theorem zc1.voted {a b:Nd}(h:zc1 a b){s:SV}(c:zgd (zbX a.safe).tab s):zgd (zbX b.safe).tab s:=by
 obtain⟨e,h⟩:=h;rw[h];exact zz1 c
theorem zoM (n:Nd)(m:MC)(k:Kn):zc1 n (n.log m k):=zxX n.syn n.syn (nR_ _) n.recs [m]
theorem zbP.safe {o:No}{a b:Nd}(s:zbP o a b):zc1 a b:=by
 rcases s with⟨d,m,g,j,rfl⟩|⟨b,f,_,rfl⟩|⟨x,f,rfl⟩|⟨c,f,rfl⟩|⟨r,f,_,_,_,rfl⟩|⟨_,_,_,_,rfl⟩|⟨_,_,rfl⟩|⟨_,rfl⟩;unfold Nd.send;split<;>exact zc1.refl rfl rfl;exact zoM _ _ _;exact zoM _ _ _;exact zoM _ _ _;exact zoM a (zcl (a.header r)) a.k
 all_goals exact zc1.refl rfl rfl
theorem zad.safe {o:No}{a b:Nd}(s:zad o a b):zc1 a b:=zad.keeps (P:=λn=>zc1 a n) (λ_ _ c h=>h.trans (zbP.safe c)) s (zc1.refl rfl rfl)
theorem zAa {n:Nd}(g:n.syn<=(zae n.recs).length){p:Int}(f:0<=p):zc1 n (n.crash p):=by
 obtain⟨_,_,_,d,e,_⟩:=zc8 n p;have c:(n.crash p).safe=n.kept p:=by rw[Nd.safe,e,d,zjh]
 obtain⟨x,b⟩:=zxX n.syn (zdT (zae n.recs).length n.syn p) (zAo g f) n.recs [];rw[List.append_nil]at b;exact⟨x,by rw[c];exact b⟩
theorem zAi (n:Nd):zc1 n { n with wai:=[],syn:=(zae n.recs).length }:=by
 obtain⟨e,b⟩:=zzM n.syn n.recs;exact⟨e,by show zeo (zae n.recs).length n.recs=zeo n.syn n.recs++e;rw[zjh];exact b⟩
def zzQ (o:No)(c:CV):Prop:=c.f=0/\∀v,v=c.au\/v∈c.vl->v=o.bad\/(v,c.au,c.rd,c.d)∈o.sg
theorem zzS {o:No}{c:CV}(h:o.proven c=true):zzQ o c:=by
 unfold No.proven at h;have h:=of_decide_eq_true h;unfold zfl at h
 split at h
 rename_i g;exact absurd h g
 split at h
 rename_i g;exact absurd h g
 rename_i g
 split at h
 cases h
 rename_i b
 refine⟨by simpa using g,λv f=>?_⟩;simp only[Bool.or_eq_true,not_or,aT_,not_exists,not_and]at b;have j:∀v,¬zdI o.sg o.bad c.au c.rd c.d v=true->v=o.bad\/(v,c.au,c.rd,c.d)∈o.sg:=λv d=>by
  unfold zdI at d;simp only[Bool.and_eq_true,dE_,Bool.not_eq_true',decide_eq_false_iff_not,not_and,Decidable.not_not]at d;by_cases e:v=o.bad;exact .inl e;exact .inr (d e)
 rcases f with rfl|f;exact j _ b.1;exact j v (b.2 v f)
theorem zzQ.more {o b:No}{c:CV}(h:zzQ o c)(d:b.bad=o.bad){e:List GV}(f:b.sg=o.sg++e):zzQ b c:=
 ⟨h.1,λv j=>by
  rcases h.2 v j with g|g
  .exact .inl (by rw[d];exact g)
  .exact .inr (by rw[f];exact List.mem_append_left _ g)⟩
def zeJ (o:No)(n:Nd):Prop:=∀m∈n.recs,m.ki=4->zzQ o m.ct
theorem zeJ.log {o:No}{n:Nd}(h:zeJ o n){m:MC}{k:Kn}(b:m.ki=4->zzQ o m.ct):zeJ o (n.log m k):=λx c e=>by
 rcases mA_.1 c with g|g
 .exact h x g e
 .rw[mS_.1 g]at e|-;exact b e
theorem zeJ.step {o:No}{a b:Nd}(s:zbP o a b)(h:zeJ o a):zeJ o b:=by
 rcases s with⟨d,m,g,j,rfl⟩|⟨b,f,_,rfl⟩|⟨x,f,rfl⟩|⟨c,f,rfl⟩|⟨r,f,_,_,_,rfl⟩|⟨_,_,_,_,rfl⟩|⟨_,_,rfl⟩|⟨_,rfl⟩;unfold Nd.send;split<;>exact h;exact h.log (λe=>absurd (show(1:Int)=4 from e) (by decide));exact h.log (λe=>absurd (show(3:Int)=4 from e) (by decide));refine h.log (λ_=>?_);unfold Nd.proofs at f;simp only[Bool.and_eq_true,dE_]at f;exact zzS f.1.2;exact h.log (k:=a.k) (λe=>absurd (show(2:Int)=4 from e) (by decide));exact h;exact h;exact h
theorem zeJ.steps {o:No}{a b:Nd}(s:zad o a b)(h:zeJ o a):zeJ o b:=zad.keeps (λ_ _ c h=>zeJ.step c h) s h
theorem zeJ.crash {o:No}{n:Nd}(h:zeJ o n)(p:Int):zeJ o (n.crash p):=λm b e=>by
 obtain⟨_,_,_,d,_⟩:=zc8 n p
 obtain⟨x,c⟩:=zzy n p
 rw[d]at b
 exact h m (by rw[c];exact List.mem_append_left _ b) e
structure zgO (f:Fl):Prop where
 ok:zcn f
 good:∀i,0<=i/\i<4->zdo (f.node i)
 prov:∀i,0<=i/\i<4->zeJ f.no (f.node i)
 sgn:∀g∈f.no.sg,(0<=g.1/\g.1<4)/\g.1≠f.no.bad/\zgd (zbX (f.node g.1).safe).tab g.2
theorem zgO.set {f:Fl}(h:zgO f){i:Int}(b:0<=i/\i<4){n:Nd}(r:zeF i n)(p:zdo n)(t:zeJ f.no n)(s:zc1 (f.node i) n):zgO (f.set i n):=by
 have l:=h.ok.posts.1;refine⟨⟨h.ok.posts.set b r,h.ok.aw⟩,λj c=>?_,λj c=>?_,λg q=>?_⟩;by_cases e:j=i;subst e;rw[set_here _ l b];exact p;rw[set_there _ b.1 c.1 e];exact h.good j c;by_cases e:j=i;subst e;rw[set_here _ l b];exact t;rw[set_there _ b.1 c.1 e];exact h.prov j c;obtain⟨m,o,d⟩:=h.sgn g q;refine⟨m,o,?_⟩;by_cases e:g.1=i;rw[e,set_here _ l b];rw[e]at d;exact s.voted d;rw[set_there _ b.1 m.1 e];exact d
theorem zyq {o:No}{a b:Nd}(c:0<=i/\i<4)(s:zad o a b)(d:a.up=true)(h:zeF i a):zeF i b:=zdq (λx y u f=>zf0.step i o x y c u f) s d h
theorem zzW {l:List GV}{x:GV}(h:x∈zfS l g):x∈l\/x=g:=by
 rcases zz5 l g with e|e;rw[e]at h;exact .inl h;rw[e]at h;rcases mA_.1 h with k|k;exact .inl k;exact .inr (mS_.1 k)
theorem zAb (l:List MC)(f:Fl){x:GV}(h:x∈(l.foldl Fl.out f).no.sg):x∈f.no.sg\/∃m∈l,x.1=m.fr/\((m.ki=2/\m.h.hf=0/\x.2=m.h.slot)\/(m.ki=3/\x.2=m.s)):=by
 induction l generalizing f with
 | nil=>exact .inl h
 | cons m l ih=>
  rcases ih (f.out m) h with g|⟨y,d,g⟩;have g:x∈(f.no.sign m).sg:=g;unfold No.sign at g
  split at g
  rename_i c
  split at g
  rename_i b
  rcases zzW g with k|k;exact .inl k;exact .inr ⟨m,by simp,by rw[k],.inl ⟨c,b,by rw[k]⟩⟩;exact .inl g
  split at g
  rename_i b
  rcases zzW g with k|k;exact .inl k;exact .inr ⟨m,by simp,by rw[k],.inr ⟨b,by rw[k]⟩⟩;exact .inl g;exact .inr ⟨y,mC_ _ d,g⟩
theorem zgO.does {f:Fl}(h:zgO f){a:Ac}(L:a.ok):zgO (f.does a):=by
 refine zz6 (P:=zgO) (λ_ h=>h.ok) ?_ ?_ ?_ ?_ ?_ ?_ ?_ h L;intro f i n h b E s;exact h.set b (zyq b s (zfC E) (h.ok.posts.2 i b)) ((h.good i b).steps s) ((h.prov i b).steps s) s.safe;intro f i p h b _ q;exact h.set b (zf0.crash i _ p b q (h.ok.posts.2 i b)) ((h.good i b).crash p) ((h.prov i b).crash p) (zAa (h.good i b).syn q);intro f i h b E;have r:=h.ok.posts.1;have y:=h.good i b;obtain⟨x,T,_⟩:=zzR (f.node i).wai (f.set i { f.node i with wai:=[],syn:=(zae (f.node i).recs).length }) i (λm d=>((h.ok.posts.2 i b).fr m d).1);have O:(f.sync i).no.sg=f.no.sg++x:=T;have N:zcn (f.sync i):=by
  refine⟨zah.nd (h.ok.posts.set b (n:={ f.node i with wai:=[],syn:=(zae (f.node i).recs).length }) ⟨(h.ok.posts.2 i b).nu,λm d=>by cases d⟩) (zdO _ _),?_⟩;unfold Fl.sync;refine zhx _ h.ok.aw (λm d=>?_);obtain⟨z,C⟩:=(h.ok.posts.2 i b).fr m d;exact⟨by rw[z];exact b,C⟩
 refine⟨N,λj u=>?_,λj u=>?_,λg o=>?_⟩;rw[zhS r b u]
 split
 exact⟨y.tape,y.each,(λm d=>by cases d),nR_ _⟩;exact h.good j u;have H:zeJ (f.sync i).no (f.node j):=λm d e=>((h.prov j u) m d e).more (zlm f i) O;rw[zhS r b u]
 split
 rename_i e;subst e;exact H
 exact H;have V:zgd (zbX (f.node i).recs).tab g.2->zgd (zbX ((f.sync i).node i).safe).tab g.2:=λR=>by
  rw[zhS r b b,iP_ rfl];show zgd (zbX (zeo (zae (f.node i).recs).length (f.node i).recs)).tab g.2;rw[zjh];exact R
 have G:=zlm f i;rcases zAb (f.node i).wai _ o with k|⟨m,d,z,C⟩;obtain⟨F,J,D⟩:=h.sgn g k;refine⟨F,by rw[G];exact J,?_⟩;by_cases e:g.1=i;rw[e,zhS r b b,iP_ rfl];rw[e]at D;exact(zAi (f.node i)).voted D;rw[zhS r b F,iN_ e];exact D;obtain⟨U,X⟩:=(h.ok.posts.2 i b).fr m d;rw[U]at z;rw[z];refine⟨b,by rw[G];exact zAv E,V ?_⟩;rw[show(zbX (f.node i).recs)=(f.node i).k from y.tape.symm];rcases C with⟨A,I,B⟩|⟨A,B⟩;rw[B];exact(y.says m d).1 A I;rw[B];exact(y.says m d).2 A;intro f l h M;exact⟨⟨h.ok.posts.nd rfl,λm d=>h.ok.aw m (M m d)⟩,h.good,h.prov,h.sgn⟩;intro f i _ h b _;have q:=h.ok.posts.2 i b;have o:=h.good i b;exact h.set b ⟨q.nu,q.fr⟩ ⟨o.tape,o.each,o.says,o.syn⟩ (h.prov i b) (zc1.refl rfl rfl);intro f i t h b _;have q:=h.ok.posts.2 i b;have o:=h.good i b;exact h.set b ⟨q.nu,q.fr⟩ ⟨o.tape,o.each,o.says,o.syn⟩ (h.prov i b) (zc1.refl rfl rfl);intro f c h;exact⟨⟨h.ok.posts.nd rfl,h.ok.aw⟩,h.good,h.prov,h.sgn⟩
theorem zgO.z (r:Int):zgO (Fl.z r):=
 ⟨zcn.z r,λi b=>by rw[zf1 r i b];exact zdo.z i,λi b=>(λm c=>by rw[zf1 r i b]at c;cases c),λg d=>by cases d⟩
theorem zgO.run (l:List Ac){f:Fl}(h:zgO f)(c:∀a∈l,a.ok):zgO (f.run l):=by
 induction l generalizing f with
 | nil=>exact h
 | cons a l ih=>exact ih (h.does (c a (by simp))) (λb d=>c b (mC_ _ d))
end Go.Proofs.YtpnpikpmdfipfaaGreatDoor
