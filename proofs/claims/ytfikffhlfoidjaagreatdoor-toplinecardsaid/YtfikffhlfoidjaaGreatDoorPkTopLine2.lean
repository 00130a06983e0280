import Derived.Test.YtfikffhlfoidjaaGreatDoorPkTopLine1
import Derived.Test.YtfikffhlfoidjaaGreatDoorPk18
set_option maxRecDepth 100000
set_option maxHeartbeats 4000000
namespace Go.Proofs.YtfikffhlfoidjaaGreatDoor
open Go.RowKit _root_.Go.Proofs.Tryz
variable {w:World}{B:Nat}
def zjn (k:Nat)(l:List UInt8)(ended:Bool):Int:=if 3000<=k then 1 else if ended=false then 4 else if rdB l=false then 4 else(rdV l).e
theorem zz3 {b:Nat}{cs f:X_}{t:TypeId}{a:World}(h:Below B a w)(c:B<=w.heap.size)(q:w.heap[b]? = some (.cells f t (0,0)))(d:B<=b):Below B a (w.setRow b cs):=(Upd.setRow q).below h c d
theorem zCN (l:List UInt8)(h:l.length<=140737488355328):(rdV l).t.size<=maxLen:=by
 show(⟨(stJ (zaI (bfC 32 l)) l 3).t.toArray⟩:ByteArray).size<=maxLen;rw[zzO];have m:∀(x:List UInt8),(zzY x).length<=x.length:=by
  intro x;have:∀(n:Nat) (x y:List UInt8),x.length<=n->zdV x=some y->y.length<=x.length:=by
   intro n
   induction n with
   | zero=>
    intro x y d c;obtain rfl:x=[]:=eN_ (by omega);simp[zdV]at c;subst c
    simp
   | succ n ih=>
    intro x y d c
    match x,d,c with
    | [],_,c=>simp[zdV]at c;subst c;simp
    | [_],_,c=>simp[zdV]at c
    | a::b::x,d,c=>
     rw[zdV]at c
     split at c
     cases c;cases hu:zdV x with
     | none=>rw[hu]at c;cases c
     | some z=>
      rw[hu]at c
      simp at c
      subst c;have:=ih x z (by simp at d;omega) hu
      simp
      omega
  unfold zzY;cases hu:zdV x with
  | none=>simp
  | some y=>exact this x.length x y (nR_ _) hu
 have r:=zCB (zaI (bfC 32 l)) l 2;have p:∀j,j<=2->(stJ (zaI (bfC 32 l)) l j).t=[]:=by
  have f:(stJ (zaI (bfC 32 l)) l 0).t=[]:=rfl;have g:(stJ (zaI (bfC 32 l)) l 1).t=[]:=by
   rw[zCn,st1]
   split
   exact f;exact f
  have q:(stJ (zaI (bfC 32 l)) l 2).t=[]:=by
   rw[zCo,st2]
   split
   exact g;exact g
  intro j o
  match j,o with
  | 0,_=>exact f
  | 1,_=>exact g
  | 2,_=>exact q
 rw[zCp,st3]
 split
 have s:=m (bfC 32 (stJ (zaI (bfC 32 l)) l 2).r);have t:=zBg 32 (stJ (zaI (bfC 32 l)) l 2).r;show(zzY (bfC 32 (stJ (zaI (bfC 32 l)) l 2).r)).length<=maxLen;unfold maxLen;omega;rw[p 2 (nR_ _)]
 decide
structure zC6 (w w':World)(e:Ending)(k:Nat)(l:List UInt8)(ended:Bool):Prop where
 out:∃a:AV,e=.returned (.tuple #[.agg #[I_ a.k,I_ a.n,I_ a.p,.string a.t],I_ (zjn k l ended)])/\(zjn k l ended=0->a=rdV l)
 below:B_ w w'
theorem zBZ (k:Nat)(s:ByteArray)(m:Bool)(w:World)(hk:k<=1000000)(U:s.size<=140737488355328)(F:zzw w) :
  Calls prog 16 #[I_ k,.string s,.bool m] w λe w'=>zC6 w w' e k s.data.toList m:=by
 have f:=zC w (.cells #[I_ 0,I_ 0,I_ 0,.string ⟨#[]⟩] 48);have g:=hN_ w (.cells #[I_ 0,I_ 0,I_ 0,.string ⟨#[]⟩] 48);have u:=zB9 s (w.alloc (.cells #[I_ 0,I_ 0,I_ 0,.string ⟨#[]⟩] 48)) U (F.below f);have ah:=zCN s.data.toList (by rw[show s.data.toList.length=s.size from Array.length_toList];exact U);have d:Hid (zjn k s.data.toList m=if 3000<=k then 1 else if m=false then 4 else if rdB s.data.toList=false then 4 else(rdV s.data.toList).e):=rfl;have ai:=F.below f;by_cases h1:3000<=k
 .have c:Hid (zjn k s.data.toList m=1):=by show _=_;rw[d.out,iP_ h1]
  have aa:(3000:Int)<=k:=by omega
  clear u d;go_in;go_upto_region 2 with fail
  generalize w.alloc (.cells #[I_ 0,I_ 0,I_ 0,.string ⟨#[]⟩] 48)=M at*;go_wp2_with (refine wS_ rfl 48 _ _ rfl w.heap.size #[I_ 0,I_ 0,I_ 0,.string ⟨#[]⟩] rfl rfl 48 _ g zAJ rfl (by simp[Value.oneCell']) ?_)
  exact bP_ (v:=.tuple #[.agg #[I_ 0,I_ 0,I_ 0,.string ⟨#[]⟩],I_ 1]) (zj5 (fn:=Tryz.f16) (p:=6) (q:=7) (ty:=48) rfl _ _ w.heap.size 48 _ (0,0) _ (I_ 1) ⟨rfl,rfl⟩ (sH_ _ _ _ _ _ _ g) underlying48 rfl zAJ) rfl ⟨⟨⟨0,0,0,⟨#[]⟩⟩,by rw[c.out],λh=>by rw[c.out]at h;cases h⟩,zz3 f f.size g (nR_ _)⟩
 have aa:¬(3000:Int)<=k:=by omega
 cases m
 .have c:Hid (zjn k s.data.toList false=4):=by show _=_;rw[d.out,iN_ h1,iP_ rfl]
  clear u d;go_in;go_upto_region 4 with fail
  generalize w.alloc (.cells #[I_ 0,I_ 0,I_ 0,.string ⟨#[]⟩] 48)=M at*;go_wp2_with (refine wS_ rfl 48 _ _ rfl w.heap.size #[I_ 0,I_ 0,I_ 0,.string ⟨#[]⟩] rfl rfl 48 _ g zAJ rfl (by simp[Value.oneCell']) ?_)
  exact bP_ (v:=.tuple #[.agg #[I_ 0,I_ 0,I_ 0,.string ⟨#[]⟩],I_ 4]) (zj5 (fn:=Tryz.f16) (p:=6) (q:=7) (ty:=48) rfl _ _ w.heap.size 48 _ (0,0) _ (I_ 4) ⟨rfl,rfl⟩ (sH_ _ _ _ _ _ _ g) underlying48 rfl zAJ) rfl ⟨⟨⟨0,0,0,⟨#[]⟩⟩,by rw[c.out],λh=>by rw[c.out]at h;cases h⟩,zz3 f f.size g (nR_ _)⟩
 .generalize hl:s.data.toList=l at*;clear hl;go_in;go_wp2_with fail
  generalize w.alloc (.cells #[I_ 0,I_ 0,I_ 0,.string ⟨#[]⟩] 48)=M at*;refine u.mono ?_;rintro e r⟨⟨a,I,G⟩,hb1⟩;subst I;dsimp only;have V:=zk hb1 g;have N:=zm f hb1;have b:(r.alloc (.cells #[I_ a.k,I_ a.n,I_ a.p,.string a.t] 48)).heap[w.heap.size]? = some (.cells #[I_ 0,I_ 0,I_ 0,.string ⟨#[]⟩] 48 (0,0)):=zR V;have o:=hN_ r (.cells #[I_ a.k,I_ a.n,I_ a.p,.string a.t] 48);have z:=N.alloc N.size (.cells #[I_ a.k,I_ a.n,I_ a.p,.string a.t] 48);have ag:r.heap.size≠w.heap.size:=by have:=ze V;omega
  clear u g f hb1;rcases hrb:rdB l with _|_
  .have c:Hid (zjn k l true=4):=by show _=_;rw[d.out,iN_ h1,iN_ (by simp),iP_ hrb]
   clear G d;go_upto_region 7 with fail
   generalize r.alloc (.cells #[I_ a.k,I_ a.n,I_ a.p,.string a.t] 48)=y at*;go_wp2_with (refine wS_ rfl 48 _ _ rfl w.heap.size #[I_ 0,I_ 0,I_ 0,.string ⟨#[]⟩] rfl rfl 48 _ b zAJ rfl (by simp[Value.oneCell']) ?_)
   exact bP_ (v:=.tuple #[.agg #[I_ 0,I_ 0,I_ 0,.string ⟨#[]⟩],I_ 4]) (zj5 (fn:=Tryz.f16) (p:=6) (q:=7) (ty:=48) rfl _ _ w.heap.size 48 _ (0,0) _ (I_ 4) ⟨rfl,rfl⟩ (sH_ _ _ _ _ _ _ b) underlying48 rfl zAJ) rfl ⟨⟨⟨0,0,0,⟨#[]⟩⟩,by rw[c.out],λh=>by rw[c.out]at h;cases h⟩,zz3 z z.size b (nR_ _)⟩
  .have B:=G hrb;have ac:a.t.size<=maxLen:=by rw[B];exact ah
   have c:Hid (zjn k l true=a.e):=by show _=_;rw[d.out,iN_ h1,iN_ (by simp),iN_ (by rw[hrb];simp),<-B]
   have Y:Hid (a=rdV l):=B;clear G d B;go_upto_region 8 with fail
   have T:=(F.below z).k;generalize r.alloc (.cells #[I_ a.k,I_ a.n,I_ a.p,.string a.t] 48)=y at*;generalize ab:r.heap.size=j at*;clear ab;have Z:=zb o 0 _ rfl;have c1:=zb o 1 _ rfl;have c2:=zb o 2 _ rfl;have c3:=zb o 3 _ rfl;have z0:=zb b 0 _ rfl;have z1:=zb b 1 _ rfl;have z2:=zb b 2 _ rfl;have z3:=zb b 3 _ rfl;have aj:=zd b 0;have ak:=zd b 1;have al:=zd b 2;have zf3:=zd b 3;have L:=λW (h:B_ y W)=>zj8 a.k a.n a.p a.t W ac (T.below h T.lt);have R:zeS a.k a.n a.p a.t.size=a.e:=rfl;rw[R]at L;clear R;generalize ad:a.e=E at*;clear ad;have ae:=ze o;have af:=ze b;go_wp2_with fail
   refine wR_ (S:=λw'=>C_ w' j 0 (I_ a.k)/\C_ w' j 1 (I_ a.n)/\C_ w' j 2 (I_ a.p)/\C_ w' j 3 (.string a.t)) (by kernel_rfl) ⟨Z,c1,c2,c3⟩ (λA=>?_);refine tks_ 2 [(0,24,.agg #[I_ a.k,I_ a.n,I_ a.p,.string a.t]),(1,25,.agg #[I_ a.k,I_ a.n,I_ a.p,.string a.t])] A ?_;simp only[tkf_,zf];refine zE 2 rfl (λK D=>?_);refine zj rfl 26 rfl 12 [.tmp 25] #[48] rfl [.agg #[I_ a.k,I_ a.n,I_ a.p,.string a.t]] rfl (eO_ func12) (λv w'=>v=I_ E/\B_ y w') ((L y.drew (bR_ _ _).drew).mono (λe w9 ⟨I,h9⟩=>⟨_,I,rfl,zbE h9⟩)) ?_;rintro v X⟨rfl,H⟩;have t:=(H.block _ ae).trans o;have J:=(H.block _ af).trans b;have O:=zm z H;refine D.out _ _ ⟨zb t 0 _ rfl,zb t 1 _ rfl,zb t 2 _ rfl,zb t 3 _ rfl⟩ (λA=>?_);simp only[zf];refine zE 3 rfl (λK D=>?_);refine zBC rfl rfl 48 _ _ rfl w.heap.size #[I_ a.k,I_ a.n,I_ a.p,.string a.t] rfl rfl 48 _ J zAJ rfl (by simp[Value.oneCell']) ?_;have C:(X.setRow w.heap.size #[I_ a.k,I_ a.n,I_ a.p,.string a.t]).heap[j]? = _:=(sO_ X w.heap.size j #[I_ a.k,I_ a.n,I_ a.p,.string a.t] ag).trans t;refine D.out _ _ ⟨zb C 0 _ rfl,zb C 1 _ rfl,zb C 2 _ rfl,zb C 3 _ rfl⟩ (λA=>?_);refine zU 4 7 (I_ E) rfl rfl A ?_;simp only[zf];refine wD_ (by kernel_rfl) ?_ _;go_wp2_with fail
   exact bP_ (v:=.tuple #[.agg #[I_ a.k,I_ a.n,I_ a.p,.string a.t],I_ E]) (zj5 (fn:=Tryz.f16) (p:=6) (q:=7) (ty:=48) rfl _ _ w.heap.size 48 _ (0,0) _ (I_ E) ⟨rfl,rfl⟩ (sH_ _ _ _ _ _ _ J) underlying48 rfl zAJ) rfl ⟨⟨a,by rw[c.out],λ_=>Y.out⟩,zz3 O O.size J (nR_ _)⟩
variable {k:Nat}
def zf4:Nat->Nat->List UInt8->List AV×Int
 | 0,_,_=>([],0)
 | f+1,k,l=>if l=[]then([],0)else if zjn k (bfC 10 l) (zdc 10 l)≠0 then([],zjn k (bfC 10 l) (zdc 10 l))else(rdV (bfC 10 l)::(zf4 f (k+1) (afC 10 l)).1,(zf4 f (k+1) (afC 10 l)).2)
def zAO (l:List UInt8):List AV×Int:=zf4 (l.length+1) 0 l
def zjS (l:List UInt8):List AV:=if(zAO l).2=0 then(zAO l).1 else []
def zA4 (l:List UInt8):Int:=if(zAO l).2=0 then 0 else((zAO l).1.length:Int)
def zA5 (l:List UInt8):Int:=(zAO l).2
theorem zC7 {c:UInt8}{l:List UInt8}(h:zdc c l=true):(afC c l).length<l.length:=by
 rcases zAT c l with⟨_,b,_⟩|⟨o,_,b,_,_,d⟩;rw[b]at h;cases h;rw[d,List.length_drop];omega
theorem zCO {l:List UInt8}{b:Bool}(h:zjn k l b=0):k<3000/\b=true/\rdB l=true/\(rdV l).e=0:=by
 unfold zjn at h
 split at h
 cases h
 split at h
 cases h
 rename_i f c
 split at h
 cases h
 rename_i d
 exact⟨by omega,eq_true_of_ne_false c,eq_true_of_ne_false d,h⟩
def zCR:Value->Nat
 | .string b=>b.size
 | _=>0
structure zC8 (w w':World)(e:Ending)(l:List UInt8):Prop where
 out:∃v,e=.returned (.tuple #[v,I_ (zA4 l),I_ (zA5 l)])/\w'.ownsRow w.heap.size 48 4 v (zjS l).length (avs (zjS l))
 below:B_ w w'
theorem zCC (s:ByteArray)(w:World)(hs:s.size<=140737488355328)(U:zzw w) :
  Calls prog 7 #[.string s] w λe w'=>zC8 w w' e s.data.toList:=by
 have aj:s.data.toList.length=s.size:=Array.length_toList;go_in;go_wp2_with fail
 go_loopw [0,5] (λx v wr=>∃(k f:Nat) (r:List UInt8) (c:List AV),k<=3000/\x=.string ⟨r.toArray⟩/\r.length<=s.size/\r.length<f/\Hid (c.length=k)/\B_ w wr/\wr.ownsRow w.heap.size 48 4 v k (avs c)/\Hid (zAO s.data.toList=(c++(zf4 f k r).1,(zf4 f k r).2))) (λx _ _=>zCR x)
 case atStart=>exact⟨0,s.data.toList.length+1,s.data.toList,[],by omega,by simp,by omega,by omega,rfl,bR_ _ _,oN_ _ _ _ _,by show _=_;simp[zAO]⟩
 case round=>
  obtain⟨k,f,r,c,L,rfl,am,al,p,I,G,o⟩:=hrel;by_cases hr:r=[]
  .subst hr;have j:Hid (zA5 s.data.toList=0/\zA4 s.data.toList=0/\zjS s.data.toList=c):=by
    show _/\_/\_;have e:zf4 f k []=([],0):=by cases f<;>simp[zf4]
    have m:=o.out;rw[e]at m
    simp at m
    unfold zA5 zA4 zjS;rw[m]
    simp
   have u:Hid (wr.ownsRow w.heap.size 48 4 u5 (zjS s.data.toList).length (avs (zjS s.data.toList))):=by
    show World.ownsRow _ _ _ _ _ _ _;rw[j.out.2.2,p.out];exact G
   go_wp2_with fail
   go_ret3;exact⟨⟨_,by rw[j.out.1,j.out.2.1];rfl,u.out⟩,I⟩
  obtain⟨d,rfl⟩:∃d,f=d+1:=⟨f-1,by omega⟩;have ak:r.isEmpty=false:=by
   cases r with
   | nil=>exact absurd rfl hr
   | cons a r=>rfl
  have y:Hid (zf4 (d+1) k r=if zjn k (bfC 10 r) (zdc 10 r)≠0 then([],zjn k (bfC 10 r) (zdc 10 r))else(rdV (bfC 10 r)::(zf4 d (k+1) (afC 10 r)).1,(zf4 d (k+1) (afC 10 r)).2)):=by show _=_;rw[zf4,iN_ hr]
  have z:=zAQ ⟨r.toArray⟩ 10 wr (by rw[zzO];unfold maxLen;omega);rw[zqT]at z;have ai:=zBg 10 r;have ah:=zBh 10 r;have aa:Hid (zdc 10 r=true->(afC 10 r).length<r.length):=zC7;clear hr;obtain⟨M,t,hv,D,hm⟩:∃M t,u5=.slice M k t/\k=c.length/\k<=3000:=by
   rcases G.2 with⟨rfl,D⟩|⟨g,t,af,rfl,_⟩;subst D;exact⟨none,0,rfl,p.out.symm,L⟩;exact⟨_,t,rfl,p.out.symm,L⟩
  clear D hm;subst hv;generalize bfC 10 r=X at*;generalize afC 10 r=Y at*;generalize zdc 10 r=b at*;go_wp2_with fail
  refine z.mono ?_;rintro _ w1⟨rfl,J⟩;dsimp only;have H:=zm I J;have A:=zBZ k ⟨X.toArray⟩ b w1 (by omega) (by rw[zzO];omega) (U.below H);rw[zqT]at A;have ab:=zw G J;clear z;go_wp2_with fail
  refine A.mono ?_;rintro e w2⟨⟨a,C,B⟩,hb2⟩;subst C;dsimp only;have l:=zm H hb2;have u:=zw ab hb2;have F:Hid (zjn k X b=0->k<3000/\b=true/\rdB X=true/\(rdV X).e=0):=zCO;generalize zjn k X b=E at*;clear A;by_cases hE:E=0;refine kO_ ?A0 ?_;exact Obj.cells #[I_ a.k,I_ a.n,I_ a.p,.string a.t] 48
  .obtain⟨n1,n2,_,_⟩:=F.out hE;have T:Hid (zAO s.data.toList=((c++[a])++(zf4 d (k+1) Y).1,(zf4 d (k+1) Y).2)):=by
    show _=_;rw[o.out,y.out,iN_ (by simp[hE]),<-B hE]
    simp
   have V:=aa.out n2;subst hE;clear o y B F;have R:=l.alloc l.size ?A0;have q1:((w2.alloc ?A0).alloc ?A0).heap[w2.heap.size+1]? = some (.cells a.cs.toArray 48 (0,0)):=zco _ _ _ (by simp);go_wp2_with (at_builtin;refine zkz rfl _ _ rfl w.heap.size _ k c rfl ((u.alloc _).alloc _) (w2.heap.size+1) a rfl q1 (by omega) (by have:=l.size;simp;omega) ?_)
   intro v' w3 ad Z;go_wp2_with fail
   go_roundw
   case rel=>
    refine⟨k+1,d,Y,c++[a],by omega,rfl,by omega,by omega,by show _=_;rw[lP_,p.out];rfl,?_,ad,T⟩;exact(R.alloc (by have:=l.size;simp;omega) _).trans (Z.below (by have:=l.size;simp;omega) (λq e=>(u.lt q e).1))
   case measure=>
    simp only[zCR,zzO];exact V
  have ag:(E != 0)=true:=by simp[hE]
  have j:Hid (zA5 s.data.toList=E/\zA4 s.data.toList=k/\zjS s.data.toList=[]):=by
   show _/\_/\_;have m:=o.out;rw[y.out,iP_ hE]at m
   simp at m
   unfold zA5 zA4 zjS;rw[m];simp[hE,p.out]
  have ae:Hid (w2.ownsRow w.heap.size 48 4 (O_) (zjS s.data.toList).length (avs (zjS s.data.toList))):=by
   show World.ownsRow _ _ _ _ _ _ _;rw[j.out.2.2];exact oN_ _ _ _ _
  have O:B_ w (w2.alloc ?A0):=l.alloc l.size _;have N:Hid ((w2.alloc ?A0).ownsRow w.heap.size 48 4 (O_) (zjS s.data.toList).length (avs (zjS s.data.toList))):=zw ae.out ((bR_ w2.heap.size w2).alloc (nR_ _) ?A0);clear o y B F;go_wp2_with fail
  go_ret3;exact⟨⟨_,by rw[j.out.1,j.out.2.1];rfl,N.out⟩,O⟩
def noC (c:UInt8)(l:List UInt8):Prop:=∀b∈l,b≠c
theorem zBD {c:UInt8}{a b:List UInt8}(d:noC c a)(f:noC c b):noC c (a++b):=λx g=>(mA_.1 g).elim (d x) (f x)
theorem zB0 {c:UInt8}:∀{l r:List UInt8},noC c l->bfC c (l++c::r)=l/\afC c (l++c::r)=r/\zdc c (l++c::r)=true
 | [],r,_=>by simp[bfC,afC,zdc]
 | b::l,r,h=>by
  have d:b≠c:=h b (by simp)
  have m:(b != c)=true:=by simp[d]
  have o:(b == c)=false:=by simp[d]
  obtain⟨f,g,j⟩:=zB0 (c:=c) (l:=l) (r:=r) (λx p=>h x (by simp[p]))
  unfold bfC afC zdc at*
  rw[List.cons_append]
  simp only[List.takeWhile_cons,List.dropWhile_cons,List.any_cons,m,o,if_true,Bool.false_or,f,g,j,and_self]
theorem zB1 {c:UInt8}:∀{l:List UInt8},noC c l->bfC c l=l/\afC c l=[]/\zdc c l=false
 | [],_=>by simp[bfC,afC,zdc]
 | b::l,h=>by
  have d:b≠c:=h b (by simp)
  have m:(b != c)=true:=by simp[d]
  have o:(b == c)=false:=by simp[d]
  obtain⟨f,g,j⟩:=zB1 (c:=c) (l:=l) (λx p=>h x (by simp[p]))
  unfold bfC afC zdc at*
  simp only[List.takeWhile_cons,List.dropWhile_cons,List.any_cons,m,o,if_true,Bool.false_or,f,g,j,and_self]
def zBi (t:List UInt8):Prop:=t=[]\/∃r,t=32::r
theorem zA6 {l t:List UInt8}(h:noC 32 l)(f:zBi t):bfC 32 (l++t)=l/\afC 32 (l++t)=t.tail/\zdc 32 (l++t)=!t.isEmpty:=by
 rcases f with rfl|⟨r,rfl⟩;rw[List.append_nil];obtain⟨b,c,d⟩:=zB1 h;exact⟨b,by rw[c];rfl,by rw[d];rfl⟩;obtain⟨b,c,d⟩:=zB0 (r:=r) h;exact⟨b,by rw[c];rfl,by rw[d];rfl⟩
theorem zBL (u:Nat):∀b∈Lib.decDigits u,48<=b.toNat/\b.toNat<=57:=by
 induction u using Nat.strongRecOn with
 | ind u ih=>
  rw[Lib.decDigits]
  split
  rename_i h
  intro b c;rw[mS_]at c;subst c;have:(UInt8.ofNat (48+u)).toNat=48+u:=by rw[UInt8.toNat_ofNat'];omega
  rw[this];omega
  rename_i h
  intro b c;rcases mA_.1 c with g|g;exact ih (u / 10) (by omega) b g;rw[mS_]at g;subst g;have:(UInt8.ofNat (48+u % 10)).toNat=48+u % 10:=by rw[UInt8.toNat_ofNat'];omega
  rw[this];omega
theorem zC9 (u:Nat):Lib.decDigits u≠[]:=by
 rw[Lib.decDigits]
 split<;>simp
theorem zB2 (n:Int)(h:0<=n):Lib.itoa n=Lib.decDigits n.toNat:=by rw[Lib.itoa,iN_ (by omega)]
theorem zBl (n:Int)(h:0<=n)(c:UInt8)(f:c.toNat<48):noC c (Lib.itoa n):=by
 rw[zB2 n h];intro b d e;have:=zBL n.toNat b d;subst e;omega
theorem zBy (d:UInt8):∀(l:List UInt8) (b x:Nat),Lib.parseUint10 b l=.ok x->Lib.parseUint10 b (l++[d])=Lib.parseUint10 x [d]
 | [],b,x,h=>by
  simp only[Lib.parseUint10]at h
  injection h with h
  subst h
  rfl
 | c::l,b,x,h=>by
  rw[List.cons_append]
  rw[Lib.parseUint10]at h|-
  split at h
  .rename_i f
   rw[iP_ f]
   split at h
   .cases h
   .rename_i g
    rw[iN_ g]
    split at h
    .cases h
    .rename_i j
     rw[iN_ j]
     exact zBy d l _ x h
  .cases h
theorem zCD (u:Nat)(b:u<9223372036854775808):Lib.parseUint10 0 (Lib.decDigits u)=.ok u:=by
 induction u using Nat.strongRecOn with
 | ind u ih=>
  rw[Lib.decDigits]
  split
  rename_i h
  have e:(UInt8.ofNat (48+u)).toNat=48+u:=by rw[UInt8.toNat_ofNat'];omega
  rotate_left
  rename_i h
  rw[zBy _ _ _ _ (ih (u / 10) (by omega) (by omega))];have e:(UInt8.ofNat (48+u % 10)).toNat=48+u % 10:=by rw[UInt8.toNat_ofNat'];omega
  rotate_left
  all_goals
   rw[Lib.parseUint10,e,iP_ (by omega),iN_ (by omega),iN_ (by omega),Lib.parseUint10]
   congr 1
   omega
theorem zCE (n:Int)(h:0<=n)(j:n<=9223372036854775807):Lib.atoiAll (Lib.itoa n)=.ok n:=by
 rw[zB2 n h];have d:=zCD n.toNat (by omega);have b:=zBL n.toNat;have g:=zC9 n.toNat;cases hl:Lib.decDigits n.toNat with
 | nil=>exact absurd hl g
 | cons c r=>
  rw[hl]at d b;have l:=b c (by simp);rw[Lib.atoiAll_plain c r (by omega) (by omega)];have f:Lib.parseMag (c::r)=.ok n.toNat:=by rw[Lib.parseMag,iN_ (by simp)];exact d
  rw[f];have e:((n.toNat:Nat):Int)=n:=by omega
  simp only[Lib.signless];rw[iN_ (by omega),e]
theorem zB3 (n:Int)(h:0<=n)(d:n<=9223372036854775807):zd6 (Lib.itoa n)=true/\zlJ (Lib.itoa n)=n:=by
 have c:zBe (Lib.itoa n)=n:=by
  unfold zBe;rw[zCE n h d];simp[h]
 have b:zd6 (Lib.itoa n)=true:=by unfold zd6;rw[c];simp[h]
 exact⟨b,by rw[zlJ,iP_ b,c]⟩
theorem zCe:∀n:Nat,n<16->hxv (hxd n)=n:=by
 intro n b;have c:∀n:Fin 16,hxv (hxd n.val)=(n.val:Int):=by decide +kernel
 exact c ⟨n,b⟩
theorem zBM:∀n:Nat,n<16->48<=(hxd n).toNat:=by
 intro n b;have c:∀n:Fin 16,48<=(hxd n.val).toNat:=by decide +kernel
 exact c ⟨n,b⟩
theorem zBz:∀l:List UInt8,zdV (zfF l)=some l
 | []=>rfl
 | c::l=>by
  have f:=c.toNat_lt
  have e:zfF (c::l)=hxd (c.toNat / 16)::hxd (c.toNat % 16)::zfF l:=by simp[zfF]
  have b:=zCe (c.toNat / 16) (by omega)
  have d:=zCe (c.toNat % 16) (by omega)
  rw[e,zdV,b,d,iN_ (by omega),zBz l,Option.map_some]
  congr 2
  have:16*((c.toNat / 16:Nat):Int).toNat+((c.toNat % 16:Nat):Int).toNat=c.toNat:=by omega
  rw[this]
  simp
theorem zCP (l:List UInt8):zAB (zfF l)=true/\zzY (zfF l)=l:=by
 unfold zAB zzY;rw[zBz];exact⟨rfl,rfl⟩
theorem zCf (l:List UInt8)(c:UInt8)(m:c.toNat<48):noC c (zfF l):=by
 intro b d e;simp only[zfF,List.mem_flatMap]at d;obtain⟨x,_,f⟩:=d;have g:=zBM (x.toNat / 16) (by have:=x.toNat_lt;omega);have j:=zBM (x.toNat % 16) (by omega);simp only[List.mem_cons,List.not_mem_nil,or_false]at f;subst e;rcases f with rfl|rfl<;>omega
theorem zCg (k:Int)(c:UInt8)(g:c.toNat<48):noC c (zn2 k):=by
 have f:∀j:Fin 11,∀b∈zn2 ((j.val:Nat):Int),48<=b.toNat:=by decide +kernel
 intro b d e;by_cases h:0<=k/\k<=10;obtain⟨j,rfl⟩:∃j:Nat,k=j:=⟨k.toNat,by omega⟩;have:=f ⟨j,by omega⟩ b d;subst e;omega;have:zn2 k=[]:=by
  unfold zn2
  repeat rw[iN_ (by omega)]
 rw[this]at d;cases d
def AV.body (a:AV):List UInt8:=zn2 a.k++((if hN a.k=true then 32::Lib.itoa a.n else [])++((if hP a.k=true then 32::Lib.itoa a.p else [])++(if hT a.k=true then 32::zfF a.t.data.toList else [])))
theorem AV.line_body (a:AV):a.line=a.body++[10]:=by
 unfold AV.line zBj AV.body
 simp
theorem zBE {b:Bool}{x t:List UInt8}(c:zBi t):zBi ((if b=true then 32::x else [])++t):=by
 cases b
 simpa using c
 exact .inr ⟨x++t,rfl⟩
theorem zCY {a:AV}(h:a.e=0):noC 10 a.body:=by
 obtain⟨_,j,l,_,_⟩:=zAU h;have c:(10:UInt8).toNat<48:=by decide
 have f:∀x:List UInt8,noC 10 x->noC 10 (32::x):=λx m b d=>by
  rcases List.mem_cons.1 d with rfl|g
  decide
  exact m b g
 have nil:noC 10 []:=λb d=>by cases d
 refine zBD (zCg _ _ c) (zBD ?_ (zBD ?_ ?_))
 split
 exact f _ (zBl _ j.1 _ c);exact nil
 split
 exact f _ (zBl _ l.1 _ c);exact nil
 split
 exact f _ (zCf _ _ c);exact nil
theorem zCZ {a:AV}(h:a.e=0):rdB a.body=true/\rdV a.body=a:=by
 obtain⟨A,m,o,O,c⟩:=zAU h;have f:(32:UInt8).toNat<48:=by decide
 have t:zBi []:=.inl rfl;have s:zBi (if hT a.k=true then 32::zfF a.t.data.toList else []):=by
  have:=zBE (b:=hT a.k) (x:=zfF a.t.data.toList) t
  rwa [List.append_nil]at this
 have r:=zBE (b:=hP a.k) (x:=Lib.itoa a.p) s;have J:=zBE (b:=hN a.k) (x:=Lib.itoa a.n) r;have g:=zA6 (zCg a.k 32 f) J;have C:bfC 32 a.body=zn2 a.k:=g.1;have p:zaI (bfC 32 a.body)=a.k:=by rw[C];exact zCl a.k A
 obtain⟨u,L⟩:=zB3 a.n m.1 (by omega);obtain⟨y,M⟩:=zB3 a.p o.1 (by omega);obtain⟨z,N⟩:=zCP a.t.data.toList;have j:=zA6 (zBl a.n m.1 32 f) r;have l:=zA6 (zBl a.p o.1 32 f) s;have d:=zA6 (zCf a.t.data.toList 32 f) t;rw[List.append_nil]at d;have D:hN a.k=false->a.n=0:=by
  intro e;simp only[zja,e,Bool.not_false,Bool.and_true,Bool.or_eq_false_iff,decide_eq_false_iff_not,Decidable.not_not]at c;exact c.1.1
 have E:hP a.k=false->a.p=0:=by
  intro e;simp only[zja,e,Bool.not_false,Bool.and_true,Bool.or_eq_false_iff,decide_eq_false_iff_not,Decidable.not_not]at c;exact c.1.2
 have F:hT a.k=false->a.t.data.toList=[]:=by
  intro e;simp only[zja,e,Bool.not_false,Bool.and_true,Bool.or_eq_false_iff,decide_eq_false_iff_not,Decidable.not_not]at c;have B:=c.2;exact eN_ (by rw[show a.t.data.toList.length=a.t.size from Array.length_toList];exact B)
 have G:stJ a.k a.body 0=⟨((if hN a.k=true then 32::Lib.itoa a.n else [])++((if hP a.k=true then 32::Lib.itoa a.p else [])++(if hT a.k=true then 32::zfF a.t.data.toList else []))).tail,!((if hN a.k=true then 32::Lib.itoa a.n else [])++((if hP a.k=true then 32::Lib.itoa a.p else [])++(if hT a.k=true then 32::zfF a.t.data.toList else []))).isEmpty,0,0,[],false,false,false⟩:=by
  show(⟨afC 32 a.body,zdc 32 a.body,0,0,[],false,false,false⟩:StL)=_;rw[show afC 32 a.body=_ from g.2.1,show zdc 32 a.body=_ from g.2.2]
 have H:stJ a.k a.body 1=⟨((if hP a.k=true then 32::Lib.itoa a.p else [])++(if hT a.k=true then 32::zfF a.t.data.toList else [])).tail,!((if hP a.k=true then 32::Lib.itoa a.p else [])++(if hT a.k=true then 32::zfF a.t.data.toList else [])).isEmpty,a.n,0,[],hN a.k,false,false⟩:=by
  rw[zCn,G];cases e:hN a.k;rw[st1,iN_ (by rw[e];simp),D e];rfl;rw[st1,iP_ ⟨e,rfl⟩];simp only[if_true,List.cons_append,List.tail_cons];rw[j.1,j.2.1,j.2.2,u,L]
 have I:stJ a.k a.body 2=⟨(if hT a.k=true then 32::zfF a.t.data.toList else []).tail,!(if hT a.k=true then 32::zfF a.t.data.toList else []).isEmpty,a.n,a.p,[],hN a.k,hP a.k,false⟩:=by
  rw[zCo,H];cases e:hP a.k;rw[st2,iN_ (by rw[e];simp),E e];rfl;rw[st2,iP_ ⟨e,rfl⟩];simp only[if_true,List.cons_append,List.tail_cons];rw[l.1,l.2.1,l.2.2,y,M]
 have q:stJ a.k a.body 3=⟨[],false,a.n,a.p,a.t.data.toList,hN a.k,hP a.k,hT a.k⟩:=by
  rw[zCp,I];cases e:hT a.k;rw[st3,iN_ (by rw[e];simp),F e];rfl;rw[st3,iP_ ⟨e,rfl⟩];simp only[if_true,List.tail_cons];rw[d.1,d.2.1,d.2.2,z,N];rfl
 constructor
 unfold rdB;rw[p,q,dT_ (show a.k≠0 by omega)]
 simp
 unfold rdV;rw[p,q]
theorem zBA:∀(l:List AV) (f k:Nat) (r:List UInt8),(∀a∈l,a.e=0)->(l.flatMap AV.line++r).length<f->k+l.length<=3000->∃b,r.length<b/\zf4 f k (l.flatMap AV.line++r)=(l++(zf4 b (k+l.length) r).1,(zf4 b (k+l.length) r).2)
 | [],f,k,r,_,hf,_=>⟨f,by simpa using hf,by simp⟩
 | a::l,0,k,r,_,hf,_=>by omega
 | a::l,f+1,k,r,h,hf,hk=>by
  have d:a.e=0:=h a (by simp)
  have c:(a::l).flatMap AV.line++r=a.body++10::(l.flatMap AV.line++r):=by
   simp[AV.line_body]
  have g:=zB0 (r:=l.flatMap AV.line++r) (zCY d);obtain⟨m,j⟩:=zCZ d;have q:(l.flatMap AV.line++r).length<f:=by
   rw[c]at hf
   simp at hf|-
   omega
  obtain⟨b,o,p⟩:=zBA l f (k+1) r (λx c=>h x (by simp[c])) q (by simp at hk;omega);refine⟨b,o,?_⟩;have s:zjn k a.body true=0:=by
   unfold zjn;rw[iN_ (by simp at hk;omega),iN_ (by simp),iN_ (by rw[m];simp),j,d]
  rw[c,zf4,iN_ (by simp),g.1,g.2.1,g.2.2,s,iN_ (by simp),j,p];have e:k+1+l.length=k+(a::l).length:=by simp;omega
  rw[e]
  rfl
theorem zCF (l:List AV)(h:∀a∈l,a.e=0)(g:l.length<=3000):zA5 (l.flatMap AV.line)=0/\zA4 (l.flatMap AV.line)=0/\zjS (l.flatMap AV.line)=l:=by
 obtain⟨c,f,b⟩:=zBA l ((l.flatMap AV.line).length+1) 0 [] h (by simp) (by omega);obtain⟨m,rfl⟩:∃m,c=m+1:=⟨c - 1,by omega⟩;have d:zf4 (m+1) (0+l.length) []=([],0):=by rw[zf4,iP_ rfl]
 rw[d]at b;simp only[List.append_nil]at b;have e:zAO (l.flatMap AV.line)=(l,0):=b;unfold zA5 zA4 zjS;rw[e];exact⟨rfl,rfl,rfl⟩
theorem zC0 (l:List AV)(h:∀a∈l,a.e=0)(c:l.length<=3000):zAL l=0/\zAM l=0/\zAN l=l.flatMap AV.line:=by
 have b:=zCA l h;refine⟨?_,?_,?_⟩;rw[zAL,iN_ (by omega),iN_ (by omega)];rw[zAM,iN_ (by omega),iN_ (by omega)];rw[zAN,iN_ (by omega),iN_ (by omega)]
theorem topLine_walk (sa:Q_)(af:Nat)(rs:List Ft)(n:Int)(w:World)(aX:zfn w sa rs)(_hc_rs:rs.length<=af)(n1:-9223372036854775808<=n)(n2:n<=9223372036854775807)(C:(zcw w/\za2 w)/\zzw w) :
  Calls prog 3 #[.slice sa rs.length af,I_ n] w λe w'=>e=.returned (.bool true)/\B_ w w':=by
 have F:Hid (∀W:World,B_ w W->zcw W/\za2 W):=λW J=>⟨C.1.1.below J C.1.1.lt,C.1.2.below J⟩;have HL:Hid (∀W:World,B_ w W->zzw W):=λW J=>C.2.below J;clear C;obtain⟨a3,a4⟩:=zW n 5 (by decide);have Z:=zg9 n w n1 n2;obtain⟨b,aG⟩:∃b,b=pk n 5-1:=⟨_,rfl⟩;have aH:-1<=b/\b<=3:=by omega
 rw[<-aG]at Z;clear aG a3 a4 n1 n2;go_in;go_wp2_with fail
 refine Z.mono ?_;rintro _ w0⟨rfl,rfl⟩;dsimp only;clear Z;go_wp2_with fail
 refine(zeu rs sa _ af 40 w rfl aX (by decide)).mono ?_;rintro e aR⟨v,l,g,A,hl,a8,f⟩;subst g;dsimp only;obtain⟨aa,ac,hv,ak,aL⟩:=zbd A hl;subst hv;have q:Hid _:=hl;have a5:Hid _:=aL;clear A hl aL;have ag:=f;clear f;obtain⟨s1,s2,s3⟩:=zC0 l (λa m=>(q.out a m).1) (by omega);obtain⟨r1,r2,r3⟩:=zCF l (λa m=>(q.out a m).1) (by omega);have aM:=zBI l (λa m=>(q.out a m).1);have E:=zCM l aa _ ac aR rfl (by unfold maxLen;omega) ak (HL.out aR ag).s;rw[s1,s2,s3]at E;clear s1 s2 s3;obtain⟨S,hS⟩:∃S,S=l.flatMap AV.line:=⟨_,rfl⟩;rw[<-hS]at E r1 r2 r3 aM;clear hS;go_wp2_with fail
 refine E.mono ?_;rintro _ w2⟨rfl,f⟩;dsimp only;clear E;have ah:=zm ag f;have aC:=ak.below f;clear ag ak;clear f;have av:=zCC ⟨S.toArray⟩ w2 (by show S.toArray.size<=_;simp;omega) (HL.out w2 ah);go_wp2_with fail
 refine av.mono ?_;rintro e w3 an;obtain⟨v,g,A⟩:=an.out;have f:=an.below;rw[r2,r1]at g;rw[r3]at A;subst g;dsimp only;clear av an r1 r2 r3 aM;obtain⟨ka,kc,hv,aK,-⟩:=zbd A q.out;subst hv;clear A;have H:=zm ah f;have aj:=aC.below f;clear ah aC;clear f;have B:=zc4 b aH l aa _ ac w3 rfl (by omega) aj (λa m=>(q.out a m).1) (F.out w3 H).1 (F.out w3 H).2;go_wp2_with fail
 refine B.mono ?_;rintro e U⟨x,g,aN,hxv,a9,f⟩;subst g;dsimp only;clear B;have ab:Hid _:=hxv;clear hxv;have az:=zm H f;have aD:=aj.below f;have aA:=aK.below f;clear H aj aK;clear f;refine kO_ ?A0 ?_;exact Obj.cells #[.slice x.na 4 x.nc,.slice x.ga x.gs.length x.gc,I_ x.aw,.slice x.ca x.cs.length x.cc] 35;have t:=zC U ?A0;have M:=hN_ U ?A0;go_upto_region 6 with fail
 generalize U.alloc ?A0=ae at t M|-;generalize U.heap.size=X at M|-;have G:=zm az t;have aE:=aN.below t;have a6:=aD.below t;have ai:=aA.below t;clear az aN aD aA;clear t;have B:=zc4 b aH l ka _ kc ae rfl (by omega) ai (λa m=>(q.out a m).1) (F.out ae G).1 (F.out ae G).2;go_wp2_with fail
 refine B.mono ?_;rintro e T⟨y,g,aO,aP,a2,f⟩;subst g;dsimp only;clear B;have ad:Hid _:=aP;clear aP;have ay:=zm G f;have aF:=aE.below f;have aB:=ai.below f;have aQ:=zk f M;clear G aE ai M;clear f;refine kO_ ?B0 ?_;exact Obj.cells #[.slice y.na 4 y.nc,.slice y.ga y.gs.length y.gc,I_ y.aw,.slice y.ca y.cs.length y.cc] 35;have p:=zC T ?B0;have D:=hN_ T ?B0;go_upto_region 7 with fail
 generalize T.alloc ?B0=aT at p D|-;generalize T.heap.size=Y at D|-;have aW:=zm ay p;have aY:=aF.below p;have aZ:=aO.below p;have a7:=aB.below p;have aq:=zk p aQ;clear ay aF aO aB aQ;clear p;have aw:y.aw=x.aw:=by rw[zcA ad.out,zcA ab.out]
 have ax:y.gs.length=x.gs.length:=by rw[ziw ad.out,ziw ab.out]
 have aS:Hid (∀i,i<4->zcx (x.y i).v (y.y i).v):=λi hi=>zcx.of (by rw[zb0 ab.out i hi,zb0 ad.out i hi]);have f2:=zb aq 2 (I_ x.aw) rfl;have g2:=zb D 2 (I_ y.aw) rfl;have f1:=zb aq 1 (.slice x.ga x.gs.length x.gc) rfl;have g1:=zb D 1 (.slice y.ga y.gs.length y.gc) rfl;rw[aw]at g2;rw[ax]at g1;clear aw ax;go_wp2_with fail
 clear f1 f2 g1 g2;go_loopw [17] (λj wr=>∃k:Nat,k<=4/\j=I_ k/\B_ aT wr) (λj _=>4-(intOf j).toNat)
 case atStart=>exact⟨0,nZ_ _,rfl,bR_ _ _⟩
 case round=>
  obtain⟨k,hk,rfl,z⟩:=hrel;have ar:=zk z aq;have au:=zk z D;by_cases hlt:k<4
  .have a1:(k:Int)<4:=by omega
   have ao:=aY.below z;have ap:=aZ.below z;have HR:Hid (∀V:World,B_ wr V->Calls prog 9 #[.agg (vrow_ (x.y k)),.agg (vrow_ (y.y k))] V λe w'=>e=.returned (.bool true)/\B_ V w'):=λV hV=>zdC (x.y k) (y.y k) V ((ao.vm k hlt).below hV) ((ap.vm k hlt).below hV) (a2.vw k hlt) (aS.out k hlt);obtain⟨r,aI,al⟩:=ao.row hlt;obtain⟨s,aJ,am⟩:=ap.row hlt;generalize x.y k=c at HR al;generalize y.y k=d at HR am;have I:=dB_ wr;have L:C_ wr.drew X 0 (.slice (some (p_ r 0)) 4 x.nc):=by rw[<-aI];exact zb ar 0 _ rfl
   have O:C_ wr.drew Y 0 (.slice (some (p_ s 0)) 4 y.nc):=by rw[<-aJ];exact zb au 0 _ rfl
   have N:=zde al;have R:=zde am;clear ao ap al am aI aJ ar au;go_upto_region 12 with fail
   refine wR_ (S:=λw'=>C_ w' X 0 (.slice (some (p_ r 0)) 4 x.nc)/\C_ w' Y 0 (.slice (some (p_ s 0)) 4 y.nc)/\w'.rangeAt r (k*6) c.cs/\w'.rangeAt s (k*6) d.cs) (by kernel_rfl) ⟨L,O,N,R⟩ (λo=>?_);generalize wr.drew=V0 at I L O N R o|-;refine tks_ 4 [(0,80,(P_ X 0)),(1,81,.slice (some (p_ r 0)) 4 x.nc),(2,82,I_ (k:Int)),(3,83,(P_ r (k*6)))] o ?_;simp only[tkf_,zf];refine tQ_ 4 84 (.agg (vrow_ c)) rfl rfl (yieldsIf_load_mid (by rfl) 44 _ rfl r (k*6) rfl c.cs _ (λw0 h=>h.2.2.1) underlying44 rfl zck) o ?_;simp only[zf];refine tks_ 4 [(5,85,(P_ Y 0)),(6,86,.slice (some (p_ s 0)) 4 y.nc),(7,87,I_ (k:Int)),(8,88,(P_ s (k*6)))] o ?_;simp only[tkf_,zf];refine tQ_ 9 89 (.agg (vrow_ d)) rfl rfl (yieldsIf_load_mid (by rfl) 44 _ rfl s (k*6) rfl d.cs _ (λw0 h=>h.2.2.2) underlying44 rfl zck) o ?_;simp only[zf];refine zE 10 rfl (λK9 hK=>?_);refine zj rfl 90 rfl 9 [.tmp 84,.tmp 89] #[44,44] rfl [.agg (vrow_ c),.agg (vrow_ d)] rfl (eO_ func9) (λv w'=>v=.bool true/\B_ V0 w') ((HR.out V0 I).mono (λe w2 h=>⟨_,h.1,rfl,h.2⟩)) ?_;rintro v V1⟨rfl,u⟩;have a0:=zm I u;refine hK.out _ _ ⟨zr u L,zr u O,zdd N u,zdd R u⟩ (λo=>?_);simp only[zf];refine zU 11 91 (.bool false) rfl rfl o ?_;simp only[zf];refine wD_ (by kernel_rfl) ?_ _;have aU:=zm z a0;clear L O N R o I u;go_wp2_with fail
   go_roundw
   case rel=>exact⟨k+1,by omega,by go_num,aU⟩
   case measure=>simp[intOf];omega
  obtain rfl:k=4:=by omega
  have a1:¬((4:Nat):Int)<4:=by omega
  have aV:=zm aW z;clear ar au hlt hk;go_wp2_with fail
  go_ret;exact⟨rfl,aV⟩
end Go.Proofs.YtfikffhlfoidjaaGreatDoor
