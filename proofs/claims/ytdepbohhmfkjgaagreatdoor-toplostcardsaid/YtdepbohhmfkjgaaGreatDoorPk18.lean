import Derived.Test.YtdepbohhmfkjgaaGreatDoorPk17
set_option maxRecDepth 100000
set_option maxHeartbeats 4000000
namespace Go.Proofs.YtdepbohhmfkjgaaGreatDoor
open Go.RowKit Tryz
variable {w:World}{qs:List zi}{ra:Option Addr}{rc:Nat}
theorem zpO {n:Nd}{t:Int}{d:List Int}{b:BW}(h:bOf n.k.sh d=some b):n.sendD t d=n.send t (zeH b):=by rw[Nd.sendD,h]
theorem zpP {n:Nd}{t:Int}{d:List Int}(h:bOf n.k.sh d=none):n.sendD t d=n:=by rw[Nd.sendD,h]
theorem zuR (h:zy w ra rc qs)(k:Nat)(d:k<qs.length):∃ b c,ra=some ⟨b,c,none⟩∧C_ w b (c+k) (.slice (qs[k]).sa (qs[k]).bs.length (qs[k]).cap):=by
 rcases h.parts.cells with h|⟨b,c,e,h⟩
 ·subst h;simp at d
 ·exact ⟨b,c,e,h k d⟩
theorem zpQ (n:Nd)(t:Int)(bl:List zi)(k:Nat)(b:k<bl.length):n.sendB t (zQ (bl.take (k+1)))=(n.sendB t (zQ (bl.take k))).sendD t (bl[k]).bs:=by
 rw[tS_ b];simp only[zQ,List.map_append,Nd.sendB,List.foldl_append]
 rfl
theorem zlD (x:NM)(b:Ct)(f:Int)(w:World)(U:Nat→Bool)(F o:Nat)(T:TypeId)(r:Array Value)(h:zae w U F o T r x)(X:HAt (zo U w) b.ba b.bc b.bl b.pa b.pc b.pl)(ht:0≤f∧f<4) :
  Calls prog 122 #[P_ F o,I_ f,.agg (hrow_ b)] w fun e w'=>(∃ v,e=.returned v)∧zac w U F o T r x w' (x.v.sendB f (zQ b.bl)):=by
 have z:=zO w (.cells (hrow_ b) 56);have L:=hN_ w (.cells (hrow_ b) 56);have aj:b.bl.length≤9000000000000000000:=X.lb.small;go_in;go_upto_region 1 with fail
 generalize w.alloc (.cells (hrow_ b) 56)=W0 at z L ⊢;have O:=h.below z;have ac:=NTo.below (F:=F) (o:=o) U r x z;have ab:=X.lb.sub (zah.below U z).sub;have d2:=zb L 2 _ rfl;go_wp2_with fail
 clear d2 L;go_loopw [12] (fun j wr=>∃ (k:Nat) (d:Nat→Bool) (g:Array Value) (c:NM),k≤b.bl.length∧j=I_ k∧zae wr d F o T g c∧NTo U d W0 wr F o r g x c∧Hid (c.v=x.v.sendB f (zQ (b.bl.take k)))) (fun j _=>b.bl.length-(intOf j).toNat)
 case atStart=>exact ⟨0,U,r,x,nZ_ _,rfl,O,NTo.refl _ _ _ _ _ _,rfl⟩
 case round=>
  obtain ⟨k,d,g,c,hk,rfl,y,C,B⟩:=hrel;by_cases hlt:k<b.bl.length
  ·have ai:(k:Int)<b.bl.length:=by omega
   have E:=ab.sub (C.sub O);obtain ⟨sb,so,ad,ck⟩:=zuR (E.sub (zH d wr)) k hlt;have G:zf wr (b.bl[k]).sa (b.bl[k]).cap (b.bl[k]).bs:=((E.sub (zH d wr)).parts.each _ (gM_ hlt));have D:Hid _:=zpQ x.v f b.bl k hlt;rw[ad];clear E;generalize b.bl[k]=p at *;go_wp2_with fail
   refine (zlA c p.bs p.sa _ p.cap wr d F o T g y rfl G).mono ?_;rintro _ w2 ⟨rfl,Y⟩;dsimp only;have l:=y.below Y;have J:=C.trans (NTo.below (F:=F) (o:=o) d g c Y);clear ck;rcases zrn (shw c.sh) p.bs with ⟨q,-,m⟩|⟨i,I,q,-,m⟩
   ·have u:Hid (c.v=x.v.sendB f (zQ (b.bl.take (k+1)))):=by show _=_;rw[D.out,←B.out];exact (zpP m).symm
    rw[q];clear q m G;go_wp2_with fail
    go_roundw
    case rel=>exact ⟨k+1,d,g,c,by omega,by go_num,l,J,u⟩
    case measure=>simp[intOf];omega
   ·have A:i<c.sh.length:=by rw[zbS] at I;exact I
    have N:(shw c.sh)[i]=(c.sh[i]).b.v:=by simp[shw]
    rw[N] at m;have u:Hid (∀ n,n=c.v.send f (zeH (c.sh[i]).b.v)→n=x.v.sendB f (zQ (b.bl.take (k+1)))):=by
     show ∀ _,_;intro n hn;rw[D.out,←B.out,hn];exact (zpO m).symm
    rw[q];have ag:(0:Int)≤(i:Int):=by omega
    have ah:(i:Int)<c.sh.length:=by omega
    obtain ⟨ak,al,ae,c0,c1,c2,c3⟩:=l.shs.at i A;have M:=l.cell 4 _ rfl;have V:zcG (zo d w2) (c.sh[i]).b:=(l.esh _ (gM_ A)).b;have Z:(c.sh[i]).b.v.f=0:=l.inv.shf _ (by show _∈shw c.sh;exact List.mem_map.2 ⟨_,gM_ A,rfl⟩);rw[ae] at M;clear q m N I D G;generalize c.sh[i]=s at *;clear A;go_wp2_with fail
    refine (zk4 s.b w2).mono ?_;rintro _ w3 ⟨rfl,H⟩;dsimp only;have R:=l.below H;have n3:=J.trans (NTo.below (F:=F) (o:=o) d g c H);clear c0 c1 c2 c3 M;go_wp2_with fail
    refine (zd6 c (zeI s.b) f w3 d F o T g R ((zrA V Z).sub (zah.below d H).sub) ht).mono ?_;rintro e w4 ⟨⟨v,t⟩,U4,fc4,x4,h4,n4,v4⟩;subst t;dsimp only;have af:=n3.trans n4;have aa:Hid _:=u.out _ v4;clear v4 u V Z R n3 n4 y C J l;go_wp2_with fail
    go_roundw
    case rel=>exact ⟨k+1,U4,fc4,x4,by omega,by go_num,h4,af,aa⟩
    case measure=>simp[intOf];omega
  ·obtain rfl:k=b.bl.length:=by omega
   rw[tL_ (nR_ _)] at B;go_wp2_with fail
   go_end0;exact ⟨⟨_,rfl⟩,d,g,c,y,ac.trans C,B.out⟩
theorem zpR (v n:Int)(g:Nat)(w:World)(b:C_ w g 0 (I_ n)) :
  Calls prog 168 #[I_ v,(P_ g 0)] w fun e w'=>e=.returned (.bool (decide (v=n)))∧B_ w w':=by
 go_in;go_wp2_with fail
 go_ret;exact ⟨by simp[BEq.beq],bR_ _ _⟩
theorem zh9 (x:NM)(n:Int)(w:World)(U:Nat→Bool)(F o:Nat)(T:TypeId)(q:Array Value)(h:zae w U F o T q x) :
  Calls prog 121 #[P_ F o,I_ n] w fun e w'=>e=.returned (.bool (decide (n∈x.vot)))∧B_ w w':=by
 have C:∀ (fn:Fn) (first f:Array Value) (w:World),(Instr.makeFunc fn first f).run prog w=.ok (.func fn first f) w:=fun _ _ _ _=>rfl;have b:=zO w (.cells #[I_ n] 3);have m:=hN_ w (.cells #[I_ n] 3);go_in;go_upto_region 2 with fail
 generalize w.alloc (.cells #[I_ n] 3)=d at b m ⊢;have j:=h.below b;have B:=j.cell 14 _ rfl;have p:=zb m 0 _ rfl;have l:zav d x.oa x.vot:=by
  obtain ⟨E,G,e,_,z,_⟩:=zee j.rvo;cases e;exact z
 have r:x.vot.length≤4:=h.inv.vot.1;have c:=zfR 168 #[P_ w.heap.size 0] (fun v=>decide (v=n)) (eO_ func168) x.vot x.oa _ x.oc d rfl (by omega) l (fun v _ W t=>zpR v n w.heap.size W (zr t p));have s:Hid (x.vot.any (fun v=>decide (v=n))=decide (n∈x.vot)):=by
  show _=_;by_cases g:n∈x.vot
  ·rw[dT_ g];exact List.any_eq_true.2 ⟨n,g,by simp⟩
  ·rw[dF_ g];exact List.any_eq_false.2 (fun v A=>by simp;intro e;subst e;exact g A)
 clear r l;go_wp2_with fail
 refine c.mono ?_;rintro _ D ⟨rfl,u⟩;dsimp only;clear c;go_wp2_with fail
 go_ret;exact ⟨by rw[s.out];rfl,b.trans (u.mono b.size)⟩
variable {U:Nat→Bool}{F o:Nat}{fc:Array Value}{T:TypeId}{x:NM}
theorem zrE (n:Nd)(t:Int)(m:MC):(n.send t m).k=n.k∧(n.send t m).vot=n.vot∧(n.send t m).nu=n.nu:=by rw[Nd.send];split<;>exact ⟨rfl,rfl,rfl⟩
theorem zuS (n:Nd)(t:Int)(d:List Int):(n.sendD t d).k=n.k∧(n.sendD t d).vot=n.vot∧(n.sendD t d).nu=n.nu:=by
 rw[Nd.sendD];split
 ·exact zrE _ _ _
 ·exact ⟨rfl,rfl,rfl⟩
theorem zoX (n:Nd)(t:Int)(l:List (List Int)):(n.sendB t l).k=n.k∧(n.sendB t l).vot=n.vot∧(n.sendB t l).nu=n.nu:=by
 induction l generalizing n with
 | nil=>exact ⟨rfl,rfl,rfl⟩
 | cons d l ih=>
  have b:=ih (n.sendD t d);have c:=zuS n t d;exact ⟨b.1.trans c.1,b.2.1.trans c.2.1,b.2.2.trans c.2.2⟩
theorem zlE (n:Nd)(k:Nat):(n.againTo k).k=n.k∧(n.againTo k).vot=n.vot:=by
 induction k with
 | zero=>exact ⟨rfl,rfl⟩
 | succ k ih=>
  rw[Nd.againTo]
  split
  ·exact ih
  ·have b:=zoX (n.againTo k) k n.k.own.bl;have c:=zrE ((n.againTo k).sendB k n.k.own.bl) k (zer n.k.own);exact ⟨c.1.trans (b.1.trans ih.1),c.2.1.trans (b.2.1.trans ih.2)⟩
theorem U8L.of {l:List zi}(h:∀ b∈zQ l,∀ x∈b,0≤x∧x≤255):U8L l:=fun p c=>h p.bs (List.mem_map.2 ⟨p,c,rfl⟩)
theorem zae.ownU (h:zae w U F o T fc x):U8L x.own.bl∧U8L x.own.pl:=
 ⟨U8L.of (fun b c=>h.inv.ou8 b (List.mem_append_left _ c)),U8L.of (fun b c=>h.inv.ou8 b (List.mem_append_right _ c))⟩
theorem zae.own_gm (h:zae w U F o T fc x)(b:x.v.k.own.hf=0):GM (zo U w) (zd7 x.own):=
 zrB h.hdr.hat (by rw[Ct.hf_v];exact b) h.ownU.1 h.ownU.2
theorem zpS (x:NM)(w:World)(U:Nat→Bool)(F o:Nat)(T:TypeId)(r:Array Value)(h:zae w U F o T r x)(M:x.v.k.own.hf=0) :
  Calls prog 91 #[P_ F o] w fun e w'=>(∃ v,e=.returned v)∧zac w U F o T r x w' (x.v.againTo 4):=by
 go_in;go_wp2_with fail
 go_loopw [3] (fun j wr=>∃ (k:Nat) (c:Nat→Bool) (d:Array Value) (b:NM),k≤4∧j=I_ k∧zae wr c F o T d b∧NTo U c w wr F o r d x b∧Hid (b.v=x.v.againTo k)) (fun j _=>4-(intOf j).toNat)
 case atStart=>exact ⟨0,U,r,x,by decide,rfl,h,NTo.refl _ _ _ _ _ _,rfl⟩
 case round=>
  obtain ⟨k,c,d,b,hk,rfl,s,B,p⟩:=hrel;by_cases hlt:k<4
  ·have aa:(k:Int)<4:=by omega
   have O:Hid (b.vot=x.v.vot):=by show b.v.vot=_;rw[p.out];exact (zlE _ _).2
   have H:Hid (b.own.v=x.v.k.own):=by show b.v.k.own=_;rw[p.out,(zlE _ _).1]
   have g:=zh9 b k wr c F o T d s;have q:Hid (x.v.againTo (k+1)=if (k:Int)∈b.vot then x.v.againTo k else ((x.v.againTo k).sendB k b.own.v.bl).send k (zer b.own.v)):=by show _=_;rw[O.out,H.out];rfl
   by_cases hm:(k:Int)∈b.vot;rw[dT_ hm] at g;rw[if_pos hm] at q
   rotate_left
   rw[dF_ hm] at g;rw[if_neg hm,←p.out] at q
   rotate_left
   all_goals
    clear hm;go_wp2_with fail
    refine g.mono ?_;rintro _ w2 ⟨rfl,m⟩;dsimp only;clear g
   ·go_wp2_with fail
    go_roundw
    case rel=>exact ⟨k+1,c,d,b,by omega,by go_num,s.below m,B.trans (NTo.below (F:=F) (o:=o) c d b m),by show _=_;rw[q.out];exact p.out⟩
    case measure=>simp[intOf];omega
   ·have l:=s.below m;have X:=B.trans (NTo.below (F:=F) (o:=o) c d b m);have u:=l.cell 7 _ rfl;have y:=l.cell 8 _ rfl;have z:=l.cell 9 _ rfl;have t:=l.cell 10 _ rfl;have C:=zlD b b.own k w2 c F o T d l l.hdr.hat ⟨by omega,by omega⟩;go_wp2_with fail
    refine C.mono ?_;rintro e Y ⟨⟨v,f⟩,U3,fc3,x3,h3,n3,v3⟩;subst f;dsimp only;clear C u y z t;have R:=X.trans n3;have G:Hid (x3.own.v=b.own.v):=by show x3.v.k.own=_;rw[v3,(zoX _ _ _).1];rfl
    have I:Hid _:=v3;clear v3;have N:Hid (x3.v.k.own.hf=0):=by show x3.own.v.hf=0;rw[G.out,H.out];exact M
    have u:=h3.cell 7 _ rfl;have y:=h3.cell 8 _ rfl;have z:=h3.cell 9 _ rfl;have t:=h3.cell 10 _ rfl;have D:=zk5 x3.own Y;go_wp2_with fail
    refine D.mono ?_;rintro _ Z ⟨rfl,A⟩;dsimp only;clear D u y z t;have L:=h3.below A;have E:=zd6 x3 (zd7 x3.own) k Z U3 F o T fc3 L ((h3.own_gm N.out).sub (h3.later A)) ⟨by omega,by omega⟩;go_wp2_with fail
    refine E.mono ?_;rintro e w5 ⟨⟨v,f⟩,U5,fc5,x5,h5,n5,v5⟩;subst f;dsimp only;clear E;have V:=(R.trans (NTo.below (F:=F) (o:=o) U3 fc3 x3 A)).trans n5;have J:Hid (x5.v=x.v.againTo (k+1)):=by
     show _=_;rw[v5,q.out,I.out];show (Nd.sendB b.v k (zQ b.own.bl)).send k (zer x3.own.v)=_;rw[G.out];rfl
    clear v5;go_wp2_with fail
    go_roundw
    case rel=>exact ⟨k+1,U5,fc5,x5,by omega,by go_num,h5,V,J⟩
    case measure=>simp[intOf];omega
  ·obtain rfl:k=4:=by omega
   go_wp2_with fail
   go_end0;exact ⟨⟨_,rfl⟩,c,d,b,s,B,p.out⟩
def zhS (nu:Int)(s:Nat):NM:=⟨nu,false,1,none,0,[],none,0,[],none,0,[],s,O_,O_,[],[],⟨0,0,none,0,[],none,0,[],none,0,[]⟩,⟨0,0,⟨none,0,[]⟩⟩,none,0,[],none,0,[],0,none,0,[],0⟩
def zbM (nu:Int)(s:Nat):Array Value:=#[I_ nu,.bool false,I_ 1,O_,O_,O_,(P_ s 0),I_ 0,I_ 0,O_,O_,I_ 0,I_ 0,O_,O_,O_,I_ 0,O_,I_ 0]
theorem ziE {f:Int}(h:0≤f∧f<4):zaT (Nd.z f):=
 ⟨h,(by decide:zaG 1 []=0),nZ_ _,(fun b d=>by cases d),(by decide:zbI []=0),.inl rfl,rfl,⟨nZ_ _,(fun v l=>by cases l),List.nodup_nil⟩,nZ_ _,nR_ _,nZ_ _,⟨Int.le_refl _,by show (0:Int)<4;decide⟩,nZ_ _,(fun s j=>by cases j),(fun x m=>by cases m),(fun b d=>by cases d),(fun c g=>by cases g)⟩
theorem zrF (w:World):HAt w none 0 [] none 0 []:=zfZ w
theorem ztn {N s:Nat}{d:Int}(f:w.heap[N]? = some (.cells fc T (0,0)))(u:o+19≤fc.size)(m:∀ j,j<19→fc[o+j]? = (zbM d s)[j]?)(t:w.heap[s]? = some (.cells #[O_,O_] 125 (0,0)))(y:U N=true)(z:U s=true)(q:s≠N)(l:Bnd U w)(g:zby (zo U w))(r:0≤d∧d<4):zae w U N o T fc (zhS d s):=by
 refine ⟨f,u,fun j p=>?_,y,fun b e=>?_,l,g,⟨nR_ _,nZ_ _,(fun _=>rfl),zgE _⟩,oN_ _ _ _ _,(fun x c=>by cases c),oN_ _ _ _ _,(fun x c=>by cases c),⟨t,oN_ _ _ _ _,oN_ _ _ _ _,(fun x c=>by cases c),(fun x c=>by cases c),rfl,(fun x c=>by cases c)⟩,⟨zrF _,⟨.inl rfl⟩,by show (0:Nat)≤_;omega⟩,zfC _,oN_ _ _ _ _,zfC _,(fun x c=>by cases c),oN_ _ _ _ _,(fun x c=>by cases c),ziE r⟩
 ·rw[m j p];show (zbM d s)[j]? = (zhS d s).cs[j]?;rw[←Array.getElem?_toList]
  rfl
 ·rcases e with e|e|e|e|e|e|e
  ·have e:b=s:=e;rw[e];exact ⟨z,q⟩
  all_goals cases e
theorem zgF:(prog.info? 101).map (·.size)=some 19:=by kernel_rfl
theorem zm1 (b:Int)(w:World):Calls prog 42 #[I_ b] w fun e w'=>∃ s,e=.returned (.agg (zbM b s))∧w'.heap[s]? = some (.cells #[O_,O_] 125 (0,0))∧w.heap.size≤s∧Below w.heap.size w w':=by
 refine kO_ ?A0 ?_;exact Obj.cells #[I_ 0,.bool false,I_ 0,O_,O_,O_,.pointer none,I_ 0,I_ 0,O_,O_,I_ 0,I_ 0,O_,O_,O_,I_ 0,O_,I_ 0] 101;have c:=hX_ w ?A0 (.cells #[O_,O_] 125);have f:=hY_ w ?A0 (.cells #[O_,O_] 125);have d:Below w.heap.size w ((w.alloc ?A0).alloc (.cells #[O_,O_] 125)):=((bR_ _ _).alloc (nR_ _) _).alloc (by simp) _;go_in;refine kA_ ?B0 ?_;exact #[I_ b,.bool false,I_ 1,O_,O_,O_,(P_ (w.heap.size+1) 0),I_ 0,I_ 0,O_,O_,I_ 0,I_ 0,O_,O_,O_,I_ 0,O_,I_ 0];go_wp2_with (refine wpList_store_row rfl 101 _ _ rfl w.heap.size ?B0 rfl rfl 101 _ c zgF rfl (by simp[Value.oneCell']) ?_)
 refine bP_ (v:=.agg ?B0) (results_cell_row (fn:=Tryz.f42) (p:=2) (ty:=101) rfl _ _ w.heap.size 101 _ (0,0) _ rfl (setRow_heap _ _ _ _ _ _ c) underlying101 rfl zgF) rfl ⟨w.heap.size+1,rfl,?_,by omega,(Upd.setRow c).below d d.size (by omega)⟩;rw[setRow_other _ w.heap.size (w.heap.size+1) _ (by omega)];exact f
variable {n:Nat}
theorem ziF {t:List Int}(r:List Int)(h:t.length=n):tT n (t++r,false)=t∧nx n (t++r,false)=(r,false):=by
 obtain ⟨b,c,d⟩:=ziX (n:=n) (l:=t++r) (by simp;omega);refine ⟨b.trans ?_,?_⟩
 ·subst h;simp
 ·show (tkL n (t++r) false,tkS n (t++r) false)=(r,false);rw[c,d];subst h
  simp
theorem zd8 (a:Int)(r:List Int):nB 1 (a::r,false)=a∧nx 1 (a::r,false)=(r,false):=by
 obtain ⟨b,c⟩:=ziF (n:=1) (t:=[a]) r rfl;refine ⟨?_,c⟩;show za3 (tT 1 ([a]++r,false))=a;rw[b];simp[za3]
theorem zhT (n:Int)(r:List Int):nB 3 (rd3 n++r,false)=n∧nx 3 (rd3 n++r,false)=(r,false):=by
 obtain ⟨b,c⟩:=ziF (n:=3) (t:=rd3 n) r rfl;refine ⟨?_,c⟩;show za3 (tT 3 (rd3 n++r,false))=n;rw[b];simp[za3,rd3];omega
theorem zvG (b:List zi)(r:List Int)(h:∀ p∈b,p.bs.length=32)(k:Nat)(q:k≤b.length):dgL (zam b++r) false k=(zam (b.drop k)++r,false)∧dgD (zam b++r) false k=(b.take k).map (·.bs):=by
 induction k with
 | zero=>exact ⟨rfl,rfl⟩
 | succ k ih=>
  obtain ⟨c,f⟩:=ih (by omega);have j:b.drop k=b[k]::b.drop (k+1):=List.drop_eq_getElem_cons (by omega);have g:(b[k]).bs.length=32:=h _ (gM_ (by omega));obtain ⟨l,o⟩:=ziF (n:=32) (t:=(b[k]).bs) (zam (b.drop (k+1))++r) g;have d:zam (b.drop k)++r=(b[k]).bs++(zam (b.drop (k+1))++r):=by rw[j,zam,List.append_assoc]
  constructor
  ·show (tkL 32 (dgL (zam b++r) false k).1 (dgL (zam b++r) false k).2,tkS 32 (dgL (zam b++r) false k).1 (dgL (zam b++r) false k).2)=_;rw[c];show (tkL 32 (zam (b.drop k)++r) false,tkS 32 (zam (b.drop k)++r) false)=_;rw[d];exact o
  ·show dgD (zam b++r) false k++[tkT 32 (dgL (zam b++r) false k).1 (dgL (zam b++r) false k).2]=_;rw[c,f];show _++[tkT 32 (zam (b.drop k)++r) false]=_;rw[d];have m:tkT 32 ((b[k]).bs++(zam (b.drop (k+1))++r)) false=(b[k]).bs:=l;rw[m,tS_ (by omega),List.map_append]
   rfl
theorem zm2 (b:List zi)(r:List Int)(h:∀ p∈b,p.bs.length=32):dgs (za6 b++r,false)=b.map (·.bs)∧dgS (za6 b++r,false)=(r,false):=by
 have j:za6 b++r=(b.length:Int)::(zam b++r):=rfl;obtain ⟨l,d⟩:=zd8 (b.length:Int) (zam b++r);have c:dN ((b.length:Int)::(zam b++r)) false=b.length:=by
  show (nB 1 ((b.length:Int)::(zam b++r),false)).toNat=_;rw[l];omega
 obtain ⟨f,g⟩:=zvG b r h b.length (nR_ _);rw[j]
 constructor
 refine K_ (?A0:St) ?_;exact nx 1 ((b.length:Int)::(zam b++r),false)
 ·show dgD (?A0).1 (?A0).2 (dN ((b.length:Int)::(zam b++r)) false)=_;rw[d,c,g,tL_ (nR_ _)]
 ·show dgL (?A0).1 (?A0).2 (dN ((b.length:Int)::(zam b++r)) false)=_;rw[d,c,f,List.drop_of_length_le (nR_ _)]
  rfl
theorem zvH (vl r:List Int)(k:Nat)(j:k≤vl.length):nL (vl++r,false) k=(vl.drop k++r,false)∧nV (vl++r,false) k=vl.take k:=by
 induction k with
 | zero=>exact ⟨rfl,rfl⟩
 | succ k ih=>
  obtain ⟨b,d⟩:=ih (by omega);have c:vl.drop k=vl[k]::vl.drop (k+1):=List.drop_eq_getElem_cons (by omega);obtain ⟨f,g⟩:=zd8 (vl[k]) (vl.drop (k+1)++r)
  constructor
  ·show nx 1 (nL (vl++r,false) k)=_;rw[b,c];exact g
  ·show nV (vl++r,false) k++[nB 1 (nL (vl++r,false) k)]=_;rw[b,d,c,tS_ (by omega)];show _++[nB 1 (vl[k]::(vl.drop (k+1)++r),false)]=_;rw[f]
theorem zuT (s:ByteArray):zaf (tb s)=s:=by
 apply zg3
 rw[ByteArray.toList_eq,ByteArray.toList_eq,zfy,tb];rw[List.map_map]
 conv=>rhs;rw[←List.map_id s.data.toList]
 refine List.map_congr_left fun x b=>?_
 simp
theorem zvI (ss:List ByteArray)(r:List Int)(k:Nat)(l:k≤ss.length):bL (za1 ss++r,false) k=(za1 (ss.drop k)++r,false)∧bT (za1 ss++r,false) k=ss.take k:=by
 induction k with
 | zero=>exact ⟨rfl,rfl⟩
 | succ k ih=>
  obtain ⟨b,g⟩:=ih (by omega);have j:ss.drop k=ss[k]::ss.drop (k+1):=List.drop_eq_getElem_cons (by omega);have c:za1 (ss.drop k)++r=((ss[k]).size:Int)::(tb (ss[k])++(za1 (ss.drop (k+1))++r)):=by rw[j];simp[za1]
  obtain ⟨d,f⟩:=zd8 ((ss[k]).size:Int) (tb (ss[k])++(za1 (ss.drop (k+1))++r));obtain ⟨u1,u2⟩:=ziF (n:=(ss[k]).size) (t:=tb (ss[k])) (za1 (ss.drop (k+1))++r) (zd2 _)
  constructor
  ·show nx (nB 1 (bL (za1 ss++r,false) k)).toNat (nx 1 (bL (za1 ss++r,false) k))=_;rw[b,c,d,f];exact u2
  ·show bT (za1 ss++r,false) k++[zaf (tT (nB 1 (bL (za1 ss++r,false) k)).toNat (nx 1 (bL (za1 ss++r,false) k)))]=_;rw[b,g,c,d,f];show _++[zaf (tT (ss[k]).size (tb (ss[k])++(za1 (ss.drop (k+1))++r),false))]=_;rw[u1,zuT,tS_ (by omega)]
theorem zlF (au rd:Int)(bl pl:List zi)(r:List Int)(o:∀ p∈bl,p.bs.length=32)(q:∀ p∈pl,p.bs.length=32) :
  nB 1 (zaQ au rd bl pl++r,false)=au∧nB 3 (nx 1 (zaQ au rd bl pl++r,false))=rd∧dgs (nx 3 (nx 1 (zaQ au rd bl pl++r,false)))=bl.map (·.bs)∧dgs (dgS (nx 3 (nx 1 (zaQ au rd bl pl++r,false))))=pl.map (·.bs)∧dgS (dgS (nx 3 (nx 1 (zaQ au rd bl pl++r,false))))=(r,false):=by
 have e:zaQ au rd bl pl++r=au::(rd3 rd++(za6 bl++(za6 pl++r))):=by simp[zaQ]
 obtain ⟨b,c⟩:=zd8 au (rd3 rd++(za6 bl++(za6 pl++r)));obtain ⟨d,f⟩:=zhT rd (za6 bl++(za6 pl++r));obtain ⟨g,j⟩:=zm2 bl (za6 pl++r) o;obtain ⟨l,m⟩:=zm2 pl r q;rw[e,b,c,d,f,g,j,l,m];exact ⟨rfl,rfl,rfl,rfl,rfl⟩
theorem zaU {α:Type}{l:List α}(h:n=l.length)(b:n=0):l=[]:=eN_ (by omega)
theorem zhU (x:MV)(r:List Int)(L:MAt w x)(hc:x.car=0)(q:zaj (zZ x.m)=true):pM (x.bytes++r,false)=x.c∧mS (x.bytes++r,false)=(r,false):=by
 have hb:x.bytes++r=x.m.ki::(x.m.fr::(x.m.tt::(zcj x.m x.ss x.bl x.pl x.cbl x.cpl x.ds x.vl++r))):=by simp[MV.bytes,zd5]
 rw[hb];obtain ⟨f,g⟩:=zd8 x.m.ki (x.m.fr::(x.m.tt::(zcj x.m x.ss x.bl x.pl x.cbl x.cpl x.ds x.vl++r)));obtain ⟨j,l⟩:=zd8 x.m.fr (x.m.tt::(zcj x.m x.ss x.bl x.pl x.cbl x.cpl x.ds x.vl++r));obtain ⟨m,o⟩:=zd8 x.m.tt (zcj x.m x.ss x.bl x.pl x.cbl x.cpl x.ds x.vl++r);have C:zB x.m x.ss x.bl x.pl x.cbl x.cpl x.vl=0:=hc;have H:=L.at';rcases zcJ C with k|k|k|k|k
 ·rw[zhD k] at C;rw[zg7 k] at f g j l m o ⊢;simp[zZ,zaj,k] at q;obtain ⟨d,b,c,u,y⟩:=q;have z:=zaU H.e2 d.2.2.1;have F:=zaU H.e3 d.2.2.2;have A:=zaU L.dn b.2.2;have B:=zaU H.e4 c.2.2.1;have G:=zaU H.e5 c.2.2.2;have I:=zaU H.e6 u;have e:zbK x.m.bau x.m.bnu x.ss++r=x.m.bau::(rd3 x.m.bnu++((x.ss.length:Int)::(za1 x.ss++r))):=by simp[zbK]
  obtain ⟨E,s⟩:=zd8 x.m.bau (rd3 x.m.bnu++((x.ss.length:Int)::(za1 x.ss++r)));obtain ⟨M,J⟩:=zhT x.m.bnu ((x.ss.length:Int)::(za1 x.ss++r));obtain ⟨g1,g2⟩:=zd8 (x.ss.length:Int) (za1 x.ss++r);obtain ⟨N,O⟩:=zvI x.ss r x.ss.length (nR_ _);have hN:bN (x.m.bau::(rd3 x.m.bnu++((x.ss.length:Int)::(za1 x.ss++r))),false)=x.ss.length:=by
   show (nB 1 (nx 3 (nx 1 _))).toNat=_;rw[s,J,g1];omega
  have T:bS3 (x.m.bau::(rd3 x.m.bnu++((x.ss.length:Int)::(za1 x.ss++r))),false)=((x.ss.length:Int)::(za1 x.ss++r),false):=by
   show nx 3 (nx 1 _)=_;rw[s,J]
  rw[e] at f g j l m o ⊢;rw[pM,mS,f,if_pos k,if_pos k,g,j,l,m,o,E,s,M,T,hN,g2,N,O,tL_ (nR_ _),List.drop_of_length_le (nR_ _)];refine ⟨?_,rfl⟩;simp only[MV.c,z,F,A,B,G,I,d,b,c,y,List.map_nil]
 ·rw[zhE k] at C;rw[zg8 k] at f g j l m o ⊢;obtain ⟨_,_,_,_,Y,Z⟩:=za7 C;simp[zZ,zaj,k] at q;obtain ⟨d,b,c,u,y⟩:=q;have z:=zaU H.e1 d.2.2;have A:=zaU L.dn b.2.2;have B:=zaU H.e4 c.2.2.1;have G:=zaU H.e5 c.2.2.2;have I:=zaU H.e6 u;obtain ⟨E,s,U,V,X⟩:=zlF x.m.hau x.m.hrd x.bl x.pl r Y Z;have p:¬x.m.ki=1:=by omega
  rw[pM,mS,f,if_neg p,if_neg p,if_pos k,if_pos k,g,j,l,m,o,E,s,U,V,X];refine ⟨?_,rfl⟩;simp only[MV.c,z,A,B,G,I,d,b,c,y,List.map_nil]
 ·rw[zhF k] at C;rw[zg9 k] at f g j l m o ⊢;obtain ⟨_,_,g3⟩:=zgl C;simp[zZ,zaj,k] at q;obtain ⟨d,b,c,u,y⟩:=q;have z:=zaU H.e1 d.2.2;have F:=zaU H.e2 b.2.2.1;have A:=zaU H.e3 b.2.2.2;have B:=zaU H.e4 c.2.2.1;have G:=zaU H.e5 c.2.2.2;have I:=zaU H.e6 u;have e:[x.m.sau]++rd3 x.m.srd++x.ds++r=x.m.sau::(rd3 x.m.srd++(x.ds++r)):=by simp
  obtain ⟨E,s⟩:=zd8 x.m.sau (rd3 x.m.srd++(x.ds++r));obtain ⟨M,J⟩:=zhT x.m.srd (x.ds++r);obtain ⟨N,O⟩:=ziF (n:=32) (t:=x.ds) r (by have:=L.dn;omega);rw[e] at f g j l m o ⊢;have p:¬x.m.ki=1:=by omega
  have D:¬x.m.ki=2:=by omega
  rw[pM,mS,f,if_neg p,if_neg p,if_neg D,if_neg D,if_pos k,if_pos k,g,j,l,m,o,E,s,M,J,N,O];refine ⟨?_,rfl⟩;simp only[MV.c,z,F,A,B,G,I,d,b,c,y,List.map_nil]
 ·rw[zhG k] at C;rw[zha k] at f g j l m o ⊢;obtain ⟨hh,_,_,_⟩:=zhC C;obtain ⟨_,_,_,_,Y,Z⟩:=za7 hh;simp[zZ,zaj,k] at q;obtain ⟨d,b,c,y⟩:=q;have z:=zaU H.e1 d.2.2;have F:=zaU H.e2 b.2.2.1;have A:=zaU H.e3 b.2.2.2;have B:=zaU L.dn c.2.2;have e:zdW x.m.cau x.m.crd x.cbl x.cpl x.vl++r=zaQ x.m.cau x.m.crd x.cbl x.cpl++((x.vl.length:Int)::(x.vl++r)):=by simp[zdW]
  obtain ⟨E,s,U,V,X⟩:=zlF x.m.cau x.m.crd x.cbl x.cpl ((x.vl.length:Int)::(x.vl++r)) Y Z;obtain ⟨n1,n2⟩:=zd8 (x.vl.length:Int) (x.vl++r);obtain ⟨N,O⟩:=zvH x.vl r x.vl.length (nR_ _);have T:hS4 (zaQ x.m.cau x.m.crd x.cbl x.cpl++((x.vl.length:Int)::(x.vl++r)),false)=((x.vl.length:Int)::(x.vl++r),false):=X;have hN:cN (zaQ x.m.cau x.m.crd x.cbl x.cpl++((x.vl.length:Int)::(x.vl++r)),false)=x.vl.length:=by
   show (nB 1 (hS4 _)).toNat=_;rw[T,n1];omega
  rw[e] at f g j l m o ⊢;have p:¬x.m.ki=1:=by omega
  have D:¬x.m.ki=2:=by omega
  have R:¬x.m.ki=3:=by omega
  rw[pM,mS,f,if_neg p,if_neg p,if_neg D,if_neg D,if_neg R,if_neg R,if_pos k,if_pos k,g,j,l,m,o,E,s,U,V,T,hN,n2,N,O,tL_ (nR_ _),List.drop_of_length_le (nR_ _)];refine ⟨?_,rfl⟩;simp only[MV.c,z,F,A,B,d,b,c,y,List.map_nil]
 ·rw[zhb k] at f g j l m o ⊢;simp[zZ,zaj,k] at q;obtain ⟨d,b,c,u,y⟩:=q;have z:=zaU H.e1 d.2.2;have F:=zaU H.e2 b.2.2.1;have A:=zaU H.e3 b.2.2.2;have l0:=zaU L.dn c.2.2;have B:=zaU H.e4 u.2.2.1;have G:=zaU H.e5 u.2.2.2;have I:=zaU H.e6 y;obtain ⟨M,J⟩:=zhT x.m.ro r;have p:¬x.m.ki=1:=by omega
  have D:¬x.m.ki=2:=by omega
  have R:¬x.m.ki=3:=by omega
  have k4:¬x.m.ki=4:=by omega
  rw[pM,mS,f,if_neg p,if_neg p,if_neg D,if_neg D,if_neg R,if_neg R,if_neg k4,if_neg k4,g,j,l,m,o,M,J];refine ⟨?_,rfl⟩;simp only[MV.c,l0,z,F,A,B,G,I,d,b,c,u,List.map_nil]
def ap (q:List Int)(s:St):St:=(s.1++q,s.2)
theorem zm3 {s:St}(q:List Int)(h:(nx n s).2=false):nx n (ap q s)=ap q (nx n s)∧tT n (ap q s)=tT n s∧s.2=false:=by
 obtain ⟨l,sh⟩:=s;have h':tkS n l sh=false:=h;simp only[tkS,Bool.or_eq_false_iff,decide_eq_false_iff_not] at h';obtain ⟨rfl,m⟩:=h';obtain ⟨b,c,d⟩:=ziX (n:=n) (l:=l) (by omega);obtain ⟨f,g,j⟩:=ziX (n:=n) (l:=l++q) (by simp;omega);refine ⟨?_,?_,rfl⟩
 ·show (tkL n (l++q) false,tkS n (l++q) false)=(tkL n l false++q,tkS n l false);rw[c,d,g,j,List.drop_append_of_le_length (by omega)]
 ·show tkT n (l++q) false=tkT n l false;rw[b,f,List.take_append_of_le_length (by omega)]
theorem zvJ {s:St}(q:List Int)(h:(nx n s).2=false):nB n (ap q s)=nB n s:=by
 show za3 (tT n (ap q s))=za3 (tT n s);rw[(zm3 q h).2.1]
theorem zvK {s:St}(q:List Int)(k:Nat)(h:(dgL s.1 s.2 k).2=false):dgL (ap q s).1 (ap q s).2 k=ap q (dgL s.1 s.2 k)∧s.2=false:=by
 induction k with
 | zero=>exact ⟨rfl,h⟩
 | succ k ih=>
  have d:(nx 32 (dgL s.1 s.2 k)).2=false:=h;obtain ⟨b,_,c⟩:=zm3 q d;obtain ⟨f,g⟩:=ih c;refine ⟨?_,g⟩;show nx 32 (dgL (ap q s).1 (ap q s).2 k)=ap q (nx 32 (dgL s.1 s.2 k));rw[f,b]
theorem zoY {s:St}(q:List Int)(h:(dgS s).2=false):dgS (ap q s)=ap q (dgS s)∧s.2=false:=by
 obtain ⟨c,b⟩:=zvK (s:=nx 1 s) q (dN s.1 s.2) h;obtain ⟨d,_,f⟩:=zm3 q b;refine ⟨?_,f⟩;have g:dN (ap q s).1 (ap q s).2=dN s.1 s.2:=by
  show (nB 1 (ap q s)).toNat=(nB 1 s).toNat;rw[zvJ q b]
 show dgL (nx 1 (ap q s)).1 (nx 1 (ap q s)).2 (dN (ap q s).1 (ap q s).2)=_;rw[g,d,c]
 rfl
structure zuh (w w':World)(e:Ending)(bs:List Int):Prop where
 out:(zbk bs≠0∧e=.returned (.tuple #[.agg mz_,I_ (zbk bs)]))∨(zbk bs=0∧∃ x:MV,x.c=pM (bs,false)∧MAt w' x∧zbH (fun q=>w.heap.size≤q) x∧((zL x.m x.car=0∧e=.returned (.tuple #[.agg (mrow_ x.m),I_ 0]))∨(zL x.m x.car≠0∧e=.returned (.tuple #[.agg mz_,I_ (zL x.m x.car)]))))
 below:B_ w w'
variable {rd au:Int}{bl pl:List zi}
theorem zW.app {a b:List Int}(c:zW a)(d:zW b):zW (a++b):=fun x f=>(List.mem_append.1 f).elim (c x) (d x)
theorem zW.cons {a:Int}{b:List Int}(c:0≤a∧a≤255)(d:zW b):zW (a::b):=fun x f=>by
 rcases List.mem_cons.1 f with h|h
 ·rw[h];exact c
 ·exact d x h
theorem zW.nil:zW []:=fun x b=>by cases b
theorem zkk {n:Int}(h:1≤n∧n≤1048576):zW (rd3 n):=zW.cons (by omega) (zW.cons (by omega) (zW.cons (by omega) zW.nil))
theorem zuU (b:List zi)(h:∀ p∈b,∀ x∈p.bs,0≤x∧x≤255):zW (zam b):=by
 induction b with
 | nil=>exact zW.nil
 | cons p b ih=>exact zW.app (h p (by simp)) (ih fun q c=>h q (by simp[c]))
theorem zoZ (b:List zi)(c:b.length≤255)(h:∀ p∈b,∀ x∈p.bs,0≤x∧x≤255):zW (za6 b):=zW.cons (by omega) (zuU b h)
theorem zwq (s:ByteArray):zW (tb s):=fun x c=>by
 obtain ⟨b,_,rfl⟩:=List.mem_map.1 c
 have:=b.toNat_lt
 omega
theorem zvL (ss:List ByteArray)(h:∀ s∈ss,s.size≤20):zW (za1 ss):=by
 induction ss with
 | nil=>exact zW.nil
 | cons s ss ih=>
  have:=h s (by simp);exact zW.cons (by omega) (zW.app (zwq s) (ih fun q b=>h q (by simp[b])))
theorem zo0 (h:zK au rd bl pl=0)(c:∀ p∈bl,∀ x∈p.bs,0≤x∧x≤255)(d:∀ p∈pl,∀ x∈p.bs,0≤x∧x≤255):zW (zaQ au rd bl pl):=by
 obtain ⟨f,b,g,j,_,_⟩:=za7 h;exact zW.app (zW.app (zW.app (zW.cons (by omega) zW.nil) (zkk b)) (zoZ bl (by omega) c)) (zoZ pl (by omega) d)
theorem zvM {x:MV}(h:zL x.m x.car=0)(c:U8M x.bl x.pl x.cbl x.cpl x.ds):zW x.bytes:=by
 obtain ⟨r,t,m,_⟩:=zcg h;have b:zB x.m x.ss x.bl x.pl x.cbl x.cpl x.vl=0:=m;have o:=zcJ b;refine zW.app (zW.cons (by omega) (zW.cons (by omega) (zW.cons (by omega) zW.nil))) ?_;rcases o with k|k|k|k|k
 ·rw[zhD k] at b;rw[zg7 k];obtain ⟨f,d,j,g⟩:=zim b;exact zW.app (zW.app (zW.app (zW.cons (by omega) zW.nil) (zkk d)) (zW.cons (by omega) zW.nil)) (zvL _ fun s p=>(g s p).2)
 ·rw[zhE k] at b;rw[zg8 k];exact zo0 b c.hb c.hp
 ·rw[zhF k] at b;rw[zg9 k];obtain ⟨f,d,_⟩:=zgl b;exact zW.app (zW.app (zW.cons (by omega) zW.nil) (zkk d)) c.sd
 ·rw[zhG k] at b;rw[zha k];obtain ⟨f,d,j,g⟩:=zhC b;exact zW.app (zW.app (zo0 f c.cb c.cp) (zW.cons (by omega) zW.nil)) (fun y q=>by have:=g y q;omega)
 ·rw[zmR k] at b;rw[zhb k]
  split at b
  ·rename_i l
   exact zkk l
  ·cases b
theorem zuV {x:MV}(c:MAt w x)(h:zL x.m x.car=0):3<x.bytes.length∧x.bytes.length≤323:=by
 obtain ⟨_,_,d,_⟩:=zcg h;have b:zB x.m x.ss x.bl x.pl x.cbl x.cpl x.vl=0:=d;have f:=zjN (ds:=x.ds) c.dn b;have e:x.bytes.length=3+(zcj x.m x.ss x.bl x.pl x.cbl x.cpl x.ds x.vl).length:=by simp[MV.bytes,zd5];omega
 have g:0<(zcj x.m x.ss x.bl x.pl x.cbl x.cpl x.ds x.vl).length:=by
  rcases zcJ b with k|k|k|k|k
  ·rw[zg7 k];simp[zbK]
  ·rw[zg8 k];simp[zaQ]
  ·rw[zg9 k];simp
  ·rw[zha k];simp[zdW];omega
  ·rw[zhb k];simp[rd3]
 omega
end Go.Proofs.YtdepbohhmfkjgaaGreatDoor
