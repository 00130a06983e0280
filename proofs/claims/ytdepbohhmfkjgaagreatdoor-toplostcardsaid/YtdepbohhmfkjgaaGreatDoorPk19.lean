import Derived.Test.YtdepbohhmfkjgaaGreatDoorPk18
set_option maxRecDepth 100000
set_option maxHeartbeats 4000000
namespace Go.Proofs.YtdepbohhmfkjgaaGreatDoor
open Go.RowKit Tryz
variable {w w' w0:World}
theorem zrG {x:MV}(b:zL x.m x.car=0)(r:List Int):x.bytes++r≠[]∧(x.bytes++r).getD 0 0=x.m.ki∧1≤x.m.ki∧x.m.ki≤5:=by
 obtain ⟨_,_,c,_⟩:=zcg b;have d:zB x.m x.ss x.bl x.pl x.cbl x.cpl x.vl=0:=c;have f:=zcJ d;have e:x.bytes++r=x.m.ki::(x.m.fr::(x.m.tt::(zcj x.m x.ss x.bl x.pl x.cbl x.cpl x.ds x.vl++r))):=by simp[MV.bytes,zd5]
 rw[e];exact ⟨by simp,rfl,by omega,by omega⟩
theorem zm4 {e:Ending}{x:MV}(c:MAt w0 x)(b:zL x.m x.car=0)(h:zuh w w' e x.bytes) :
  ∃ y:MV,y.c=x.c∧MAt w' y∧zbH (fun q=>w.heap.size≤q) y∧e=.returned (.tuple #[.agg (mrow_ y.m),I_ 0])∧B_ w w':=by
 obtain ⟨_,_,u,d⟩:=zcg b;obtain ⟨_,E⟩:=zuV c b;obtain ⟨f,g,C,D⟩:=zrG b [];obtain ⟨m,o⟩:=zhU x [] c u d;rw[List.append_nil] at f g m o;have t:zbk x.bytes=0:=by
  rw[zbk,if_neg (by omega),if_neg f,g,if_neg (by omega),o,if_neg (by simp),if_neg (by simp)]
 rcases h.out with ⟨p,_⟩|⟨_,y,B,j,s,A⟩
 ·exact absurd t p
 ·have l:y.c=x.c:=B.trans m;have z:=(zuQ c j l).trans b;rcases A with ⟨_,d⟩|⟨r,_⟩
  ·exact ⟨y,l,j,s,d,h.below⟩
  ·exact absurd z r
variable {n:Nat}{qs:List zi}{bs:List Int}
theorem zkl {s:St}(h:(nx n s).2=false):s.1=tT n s++(nx n s).1∧(tT n s).length=n∧s.2=false:=by
 obtain ⟨l,sh⟩:=s;have h':tkS n l sh=false:=h;simp only[tkS,Bool.or_eq_false_iff,decide_eq_false_iff_not] at h';obtain ⟨rfl,f⟩:=h';obtain ⟨b,c,d⟩:=ziX (n:=n) (l:=l) (by omega);refine ⟨?_,?_,rfl⟩
 ·show l=tkT n l false++tkL n l false;rw[b,c,List.take_append_drop]
 ·show (tkT n l false).length=n;rw[b,lT9_];omega
theorem zaL {s:St}(h:zW s.1):zW (nx n s).1:=zW.tkL h
theorem zui {s:St}(h:zW s.1):zW (tT n s):=zW.tkT h
theorem zbw {s:St}(h:(nx 1 s).2=false):s.1=nB 1 s::(nx 1 s).1∧s.2=false:=by
 obtain ⟨b,c,d⟩:=zkl h;refine ⟨?_,d⟩
 match ht:tT 1 s,c with
 | [a],_=>
  have f:nB 1 s=a:=by show za3 (tT 1 s)=a;rw[ht];simp[za3]
  rw[ht] at b;rw[f];exact b
theorem zgm {s:St}(m:zW s.1)(h:(nx 3 s).2=false):s.1=rd3 (nB 3 s)++(nx 3 s).1∧s.2=false:=by
 obtain ⟨f,g,j⟩:=zkl h;have d:=zui (n:=3) m;refine ⟨?_,j⟩
 match ht:tT 3 s,g with
 | [a,b,c],_=>
  rw[ht] at f d;have o:=d a (by simp);have p:=d b (by simp);have q:=d c (by simp);have l:nB 3 s=65536*a+256*b+c:=by
   show za3 (tT 3 s)=_;rw[ht];simp[za3];omega
  have e:rd3 (nB 3 s)=[a,b,c]:=by
   rw[l];simp only[rd3,List.cons.injEq,and_true];refine ⟨?_,?_,?_⟩<;>omega
  rw[e];exact f
theorem zwr {s:St}(k:Nat)(h:(dgL s.1 s.2 k).2=false):s.1=(dgD s.1 s.2 k).flatten++(dgL s.1 s.2 k).1∧(dgD s.1 s.2 k).length=k∧s.2=false:=by
 induction k with
 | zero=>exact ⟨rfl,rfl,h⟩
 | succ k ih=>
  have d:(nx 32 (dgL s.1 s.2 k)).2=false:=h;obtain ⟨b,_,c⟩:=zkl d;obtain ⟨f,g,j⟩:=ih c;refine ⟨?_,?_,j⟩
  ·show s.1=(dgD s.1 s.2 k++[tT 32 (dgL s.1 s.2 k)]).flatten++(nx 32 (dgL s.1 s.2 k)).1;rw[List.flatten_append,List.flatten_singleton,List.append_assoc,←b];exact f
  ·show (dgD s.1 s.2 k++[tkT 32 (dgL s.1 s.2 k).1 (dgL s.1 s.2 k).2]).length=k+1;rw[lP_,g];rfl
theorem ziG {s:St}(l:zW s.1)(h:(dgS s).2=false):s.1=((dgs s).length:Int)::((dgs s).flatten++(dgS s).1)∧s.2=false:=by
 obtain ⟨c,d,f⟩:=zwr (s:=nx 1 s) (dN s.1 s.2) h;obtain ⟨b,g⟩:=zbw f;refine ⟨?_,g⟩;have m:0≤nB 1 s:=by
  have:=l (nB 1 s) (by rw[b];simp);omega
 have j:((dgs s).length:Int)=nB 1 s:=by
  have e:(dgs s).length=(nB 1 s).toNat:=d;rw[e];omega
 rw[j];have e:(nx 1 s).1=(dgs s).flatten++(dgS s).1:=c;rw[←e];exact b
theorem zm5 {s:St}(b:zW s.1)(h:(dgS s).2=false):zW (dgS s).1:=fun x c=>b x (by rw[(ziG b h).1];simp[c])
theorem zws {s:St}(k:Nat)(h:(nL s k).2=false):s.1=nV s k++(nL s k).1∧(nV s k).length=k∧s.2=false:=by
 induction k with
 | zero=>exact ⟨rfl,rfl,h⟩
 | succ k ih=>
  have d:(nx 1 (nL s k)).2=false:=h;obtain ⟨b,c⟩:=zbw d;obtain ⟨f,g,j⟩:=ih c;refine ⟨?_,?_,j⟩
  ·show s.1=(nV s k++[nB 1 (nL s k)])++(nx 1 (nL s k)).1;rw[List.append_assoc,List.singleton_append,←b];exact f
  ·show (nV s k++[nB 1 (nL s k)]).length=k+1;rw[lP_,g];rfl
theorem zuW {l:List Int}(h:zW l):tb (zaf l)=l:=by
 rw[tb,zfy,List.map_map]
 conv=>rhs;rw[←List.map_id l]
 refine List.map_congr_left fun x b=>?_;have:=h x b
 simp
 omega
theorem zwt {s:St}(o:zW s.1)(k:Nat)(h:(bL s k).2=false):s.1=za1 (bT s k)++(bL s k).1∧(bT s k).length=k∧s.2=false∧zW (bL s k).1:=by
 induction k with
 | zero=>exact ⟨rfl,rfl,h,o⟩
 | succ k ih=>
  have l:(nx (nB 1 (bL s k)).toNat (nx 1 (bL s k))).2=false:=h;obtain ⟨d,f,g⟩:=zkl l;obtain ⟨c,j⟩:=zbw g;obtain ⟨p,q,r,b⟩:=ih j;have m:0≤nB 1 (bL s k):=by
   have:=b (nB 1 (bL s k)) (by rw[c];simp);omega
  refine ⟨?_,?_,r,zaL (zaL b)⟩
  ·show s.1=za1 (bT s k++[zaf (tT (nB 1 (bL s k)).toNat (nx 1 (bL s k)))])++(nx (nB 1 (bL s k)).toNat (nx 1 (bL s k))).1;rw[zls,zlv,zuW (zui (zaL b)),f,List.append_assoc,List.cons_append,←d,Int.toNat_of_nonneg m,←c];exact p
  ·show (bT s k++[zaf (tT (nB 1 (bL s k)).toNat (nx 1 (bL s k)))]).length=k+1;rw[lP_,q];rfl
theorem zkm {l:List (List Int)}(h:qs.map (·.bs)=l):za6 qs=(l.length:Int)::l.flatten:=by
 subst h;rw[za6,List.length_map]
 congr 1
 induction qs with
 | nil=>rfl
 | cons p qs ih=>simp[zam,ih]
theorem zvN {y:MV}(hC:zL y.m y.car=0)(g:zW bs)(d:mS (bs,false)=([],false))(b:y.c=pM (bs,false)):y.bytes=bs:=by
 have f:(mS (bs,false)).2=false:=by rw[d]
 obtain ⟨s,T⟩:∃ s:St,(bs,false)=s:=⟨_,rfl⟩;have Z:bs=s.1:=by rw[←T]
 rw[T] at d f b;rw[Z] at g ⊢;clear T Z;have hB:y.bytes=y.m.ki::y.m.fr::y.m.tt::zcj y.m y.ss y.bl y.pl y.cbl y.cpl y.ds y.vl:=rfl;rw[hB];by_cases k1:nB 1 s=1;refine K_ (?A0:St) ?_;exact nx 1 (nx 1 (nx 1 s));refine K_ (?B0:St) ?_;exact nx 3 (nx 1 ?A0)
 ·rw[pM,if_pos k1] at b;rw[mS,if_pos k1] at d f;simp only[MV.c,MC.mk.injEq] at b;obtain ⟨m,o,c,e4,e5,Y,_⟩:=b;have am:zW (nx 1 (bS3 ?A0)).1:=zaL (zaL (zaL (zaL (zaL (zaL g)))));obtain ⟨I,J,L,_⟩:=zwt am _ f;obtain ⟨F,M⟩:=zbw L;obtain ⟨j,l⟩:=zgm (s:=nx 1 ?A0) (zaL (zaL (zaL (zaL g)))) M;obtain ⟨A,B⟩:=zbw l;obtain ⟨p,q⟩:=zbw B;obtain ⟨r,t⟩:=zbw q;obtain ⟨u,H⟩:=zbw t;have al:0≤nB 1 (bS3 ?A0):=by
   have:=(show zW (bS3 ?A0).1 from zaL (zaL (zaL (zaL (zaL g))))) (nB 1 (bS3 ?A0)) (by rw[F];simp);omega
  have R:(y.ss.length:Int)=nB 1 (bS3 ?A0):=by
   rw[Y,J];show (((nB 1 (bS3 ?A0)).toNat:Nat):Int)=_;omega
  rw[zg7 (c.trans k1),zbK,R,c,m,o,e4,e5,Y];rw[u,r,p,A,j];have G:(?B0).1=nB 1 (bS3 ?A0)::(nx 1 (bS3 ?A0)).1:=F;rw[G,I,d]
  simp
 ·by_cases k2:nB 1 s=2
  ·rw[pM,if_neg k1,if_pos k2] at b;rw[mS,if_neg k1,if_pos k2] at d f;simp only[MV.c,MC.mk.injEq] at b;obtain ⟨m,o,c,_,_,_,e7,e8,e9,ab,_⟩:=b;have C:zW (?B0).1:=zaL (zaL (zaL (zaL (zaL g))));obtain ⟨D,E⟩:=ziG (fun z hz=>by
    have O:(dgS ?B0).2=false:=(zoY [] f).2;exact zm5 C O z hz) f
   obtain ⟨U,V⟩:=ziG C E;obtain ⟨j,l⟩:=zgm (zaL (zaL (zaL (zaL g)))) V;obtain ⟨A,B⟩:=zbw l;obtain ⟨p,q⟩:=zbw B;obtain ⟨r,t⟩:=zbw q;obtain ⟨u,H⟩:=zbw t;rw[zg8 (c.trans k2),zaQ,zkm e9,zkm ab,c,m,o,e7,e8];rw[u,r,p,A,j,U,D,d]
   simp
  ·by_cases k3:nB 1 s=3
   ·rw[pM,if_neg k1,if_neg k2,if_pos k3] at b;rw[mS,if_neg k1,if_neg k2,if_pos k3] at d f;simp only[MV.c,MC.mk.injEq] at b;obtain ⟨m,o,c,_,_,_,_,_,_,_,ac,ad,ae,_⟩:=b;obtain ⟨D,_,E⟩:=zkl f;obtain ⟨j,l⟩:=zgm (zaL (zaL (zaL (zaL g)))) E;obtain ⟨A,B⟩:=zbw l;obtain ⟨p,q⟩:=zbw B;obtain ⟨r,t⟩:=zbw q;obtain ⟨u,H⟩:=zbw t;rw[zg9 (c.trans k3),c,m,o,ac,ad,ae];rw[u,r,p,A,j,D,d]
    simp
   ·by_cases k4:nB 1 s=4
    ·rw[pM,if_neg k1,if_neg k2,if_neg k3,if_pos k4] at b;rw[mS,if_neg k1,if_neg k2,if_neg k3,if_pos k4] at d f;simp only[MV.c,MC.mk.injEq] at b;obtain ⟨m,o,c,_,_,_,_,_,_,_,_,_,_,af,ag,ah,ai,X,_⟩:=b;obtain ⟨I,J,L⟩:=zws _ f;obtain ⟨F,M⟩:=zbw L;have C:zW (?B0).1:=zaL (zaL (zaL (zaL (zaL g))));have N:(dgS (dgS ?B0)).2=false:=M;have b5:(dgS ?B0).2=false:=(zoY [] N).2;have aa:=zm5 C b5;have an:=zm5 aa N;obtain ⟨D,E⟩:=ziG aa N;obtain ⟨U,V⟩:=ziG C E;obtain ⟨j,l⟩:=zgm (zaL (zaL (zaL (zaL g)))) V;obtain ⟨A,B⟩:=zbw l;obtain ⟨p,q⟩:=zbw B;obtain ⟨r,t⟩:=zbw q;obtain ⟨u,H⟩:=zbw t;have G:(dgS (dgS ?B0)).1=nB 1 (hS4 ?A0)::(nx 1 (hS4 ?A0)).1:=F;have al:0≤nB 1 (hS4 ?A0):=by
      have:=an (nB 1 (hS4 ?A0)) (by rw[G];simp);omega
     have R:(y.vl.length:Int)=nB 1 (hS4 ?A0):=by
      rw[X,J];show (((nB 1 (hS4 ?A0)).toNat:Nat):Int)=_;omega
     rw[zha (c.trans k4),zdW,zaQ,zkm ah,zkm ai,R,c,m,o,af,ag,X];rw[u,r,p,A,j,U,D,G,I,d]
     simp
    ·rw[pM,if_neg k1,if_neg k2,if_neg k3,if_neg k4] at b;rw[mS,if_neg k1,if_neg k2,if_neg k3,if_neg k4] at d f;simp only[MV.c,MC.mk.injEq] at b;obtain ⟨m,o,c,_,_,_,_,_,_,_,_,_,_,_,_,_,_,_,aj⟩:=b;obtain ⟨j,l⟩:=zgm (zaL (zaL (zaL g))) f;obtain ⟨p,q⟩:=zbw l;obtain ⟨r,t⟩:=zbw q;obtain ⟨u,H⟩:=zbw t;have k5:y.m.ki=5:=by
      obtain ⟨_,_,O,_⟩:=zcg hC;have ak:zB y.m y.ss y.bl y.pl y.cbl y.cpl y.vl=0:=O;have:=zcJ ak;omega
     rw[zhb k5,c,m,o,aj];rw[u,r,p,j,d]
     simp
variable {k:Nat}
theorem zlG {l:List Int}(h:k<l.length):l.getD k 0∈l:=by
 have e:l.getD k 0=l[k]:=by simp[List.getD,h]
 rw[e];exact gM_ h
def zct (bs:List Int):Prop:=∀ (w0:World) (x:MV) (r:List Int),MAt w0 x→zaK x→bs≠x.onTape++r
theorem zdQ {x:MV}{r:List Int}(h:bs=x.onTape++r):bs.getD 0 0=(x.bytes.length:Int) / 256∧bs.getD 1 0=(x.bytes.length:Int) % 256∧bs.length=2+x.bytes.length+r.length∧(bs.drop 2).take x.bytes.length=x.bytes:=by
 subst h;refine ⟨rfl,rfl,by simp[MV.onTape];omega,?_⟩;simp[MV.onTape]
theorem zm6 {x y:MV}(d:MAt w x)(f:MAt w0 y)(b:zL x.m x.car=0)(c:zL y.m y.car=0)(h:y.bytes=x.bytes):y.c=x.c:=by
 have g:=(zhU x [] d (zcg b).2.2.1 (zcg b).2.2.2).1;have j:=(zhU y [] f (zcg c).2.2.1 (zcg c).2.2.2).1;rw[←g,←j,h]
theorem zrH {y:MV}(b:zL y.m y.car=0)(h:zcq y.m 0=0):zaK y:=by
 obtain ⟨_,_,c,d⟩:=zcg b;rw[zcq,if_neg (by simp)] at h
 split at h
 ·cases h
 ·rename_i f
  exact ⟨c,d,by omega,by omega,by omega⟩
theorem zo1 {y:MV}(h:zaK y):zcq y.m 0=0:=by
 rw[zcq,if_neg (by simp),if_neg];rintro (h9|h9|h9)
 ·exact h9 h.fr
 ·exact h9 h.tt
 ·exact h.ki h9
theorem zrI {x y:MV}(h:y.c=x.c):zcq y.m 0=zcq x.m 0:=by
 simp only[MV.c,MC.mk.injEq] at h;rw[zcq,zcq,h.1,h.2.1,h.2.2.1]
variable {B base:Nat}{xs:List Value}{ms:List MV}
theorem zlH (ys:List MV)(h:∀ y∈ys,2≤y.onTape.length):2*ys.length≤(zu ys).length:=by
 induction ys with
 | nil=>simp[zu]
 | cons y l ih=>
  have d:=h y (by simp);have b:=ih (fun z c=>h z (by simp[c]));simp only[zu,List.flatMap_cons,lP_,List.length_cons] at b ⊢;omega
theorem ze6 (y:MV):2≤y.onTape.length:=by simp[MV.onTape]
theorem zcA {c:Nat}{e:TypeId}{s:Nat}{v:Value}(h:w.ownsRow base e s v n xs)(m:c≤base):w.ownsRow c e s v n xs:=by
 obtain ⟨j,b⟩:=h;refine ⟨j,?_⟩;rcases b with b|⟨g,d,f,rfl,o,l,r⟩
 ·exact .inl b
 ·exact .inr ⟨g,d,f,rfl,by omega,l,r⟩
theorem zcK.mono {C:Nat}{v:Value}(h:zcK w B v ms)(d:C≤B):zcK w C v ms:=fun x b=>⟨(h x b).1,(h x b).2.1,(h x b).2.2.mono (fun _ c=>⟨nT_ d c.1,c.2⟩)⟩
theorem zcK.far {b:Nat}{v:Value}(h:zcK w B v ms)(f:b<B)(d:∀ k,k≠b→w'.heap[k]? = w.heap[k]?):zcK w' B v ms:=fun x c=>⟨(h x c).1.stays (G:=fun k=>B≤k∧v.ownBlock≠some k) (fun k g=>d k (by have:=g.1;omega)) (h x c).2.2,(h x c).2.1,(h x c).2.2⟩
theorem zoc {x y:MV}{p q:List Int}(j:MAt w x)(l:MAt w0 y)(m:zaK x)(o:zaK y)(h:y.onTape++p=x.onTape++q):y.bytes=x.bytes∧y.c=x.c∧y.onTape=x.onTape∧p=q:=by
 obtain ⟨r,s,t,d⟩:=zdQ (bs:=y.onTape++p) (x:=y) rfl;obtain ⟨u,z,A,f⟩:=zdQ h;have g:y.bytes.length=x.bytes.length:=by omega
 have b:y.bytes=x.bytes:=by rw[←d,g,f]
 have c:y.onTape=x.onTape:=by rw[MV.onTape,MV.onTape,b]
 refine ⟨b,zm6 j l m.check o.check b,c,?_⟩;rw[c] at h;exact List.append_cancel_left h
structure zgG (ys ms:List MV):Prop where
 le:ys.length≤ms.length
 same:∀ (i:Nat) (h1:i<ys.length) (h2:i<ms.length),(ms[i]).c=(ys[i]).c
 tape:zu ys=zu (ms.take ys.length)
theorem zgG.nil (ms:List MV):zgG [] ms:=⟨nZ_ _,(fun _ h=>by simp at h),rfl⟩
theorem zgG.cons {x y:MV}{ys:List MV}(h:zgG ys ms)(d:y.c=x.c)(f:y.onTape=x.onTape):zgG (y::ys) (x::ms):=by
 refine ⟨by have:=h.le;simp;omega,?_,?_⟩
 ·intro i b c;cases i with
  | zero=>exact d.symm
  | succ i=>exact h.same i (by simpa using b) (by simpa using c)
 ·have:=h.tape;simp only[zu,List.flatMap_cons,List.length_cons,List.take_succ_cons] at this ⊢;rw[this,f]
theorem zdF (x:MV)(l:List MV):zu (x::l)=x.onTape++zu l:=rfl
theorem zi4 {c:List zi}(h:c.map (·.bs)=qs.map (·.bs))(j:∀ p∈c,∀ x∈p.bs,0≤x∧x≤255):∀ q∈qs,∀ x∈q.bs,0≤x∧x≤255:=by
 intro q g x l;have b:q.bs∈qs.map (·.bs):=List.mem_map_of_mem g;rw[←h] at b;obtain ⟨p,f,e⟩:=List.mem_map.1 b;have d:p.bs=q.bs:=e;exact j p f x (by rw[d];exact l)
theorem zuX {x y:MV}(h:x.c=y.c)(b:U8M x.bl x.pl x.cbl x.cpl x.ds):U8M y.bl y.pl y.cbl y.cpl y.ds:=by
 simp only[MV.c,MC.mk.injEq] at h;obtain ⟨l,t,u,z,A,B,C,D,j,c,m,o,d,p,q,f,g,r,s⟩:=h;exact ⟨zi4 j b.hb,zi4 c b.hp,zi4 f b.cb,zi4 g b.cp,by rw[←d];exact b.sd⟩
variable {rd au r:Int}{l:List CV}
theorem zrJ {m:Msg}{e:Int}(h:zL m e=0):(0≤m.fr∧m.fr<4)∧0≤m.tt∧m.tt<4:=by
 unfold zL at h
 split at h
 ·cases h
 ·rename_i g
  simp only[not_or,Decidable.not_not] at g;exact g
def zhj (l:List SV)(s:SV):Prop:=∃ t∈l,t.1=s.1∧t.2.1=s.2.1∧txL t.2.2=txL s.2.2
def zm7 (n:Nd)(m:MC):Prop:=(∃ b,m=zeH b∧zbX n.k.sh b.d=true)∨m=zer n.k.own∨(∃ s,m=zcx s∧zhj n.k.tab s)∨(∃ c,m=zdh c∧c∈n.k.dag)∨∃ r,m=zpG r
structure StV (o:No)(n:Nd)(h:CV):Prop where
 other:h.au≠n.nu
 knows:n.k.knows h=true
 hf:h.hf=0
 signed:o.signed h.au h.slot=true
 cast:(zak n.k.tab h).2.2=0
 more:n.k.tab.length<(zak n.k.tab h).1.length
 room:n.room (zcx h.slot)=true
def zd9 (o:No)(n n':Nd):Prop:=
 (∃ d m,(0≤d∧d<4)∧zm7 n m∧n'=n.send d m) ∨
 (∃ b,zcy n.k.sh b=true∧n.room (zeH b)=true∧n'=n.log (zeH b) { n.k with sh:=n.k.sh++[b] }) ∨
 (∃ h,StV o n h∧n'=n.log (zcx h.slot) { n.k with tab:=(zak n.k.tab h).1 }) ∨
 (∃ c,n.proofs o c=true∧n'=n.log (zdh c) { n.k with dag:=n.k.dag++[c] }) ∨
 (∃ r,(zak n.k.tab (n.header r)).2.2=0∧n.room (zer (n.header r))=true∧n.k.own.rd<r∧r=zcX n.k.dag∧n'={ n.log (zer (n.header r)) { n.k with tab:=(zak n.k.tab (n.header r)).1,own:=n.header r,slot:=(n.header r).slot } with vot:=[n.nu] }) ∨
 (∃ fr,¬fr∈n.vot∧cOf n.k.dag n.k.slot.1 n.k.slot.2.1<0∧o.signed fr n.k.slot=true∧n'={ n with vot:=n.vot++[fr] }) ∨
 (zbR n.nx n.txs n.nu=0∧zbX n.k.sh (⟨n.nu,n.nx,n.txs.take 4⟩:BW).d=true∧n'={ n with nx:=n.nx+1,txs:=n.txs.drop 4 }) ∨
 (∃ t,n'={ n with trn:=t })
def zad (o:No)(n m:Nd):Prop:=∀ P:Nd→Prop,(∀ a b,zd9 o a b→P a→P b)→P n→P m
theorem zad.refl {o:No}{n:Nd}:zad o n n:=fun _ _ h=>h
theorem zad.tail {o:No}{n a b:Nd}(h:zad o n a)(s:zd9 o a b):zad o n b:=fun P c d=>c a b s (h P c d)
theorem zad.trans {o:No}{a b c:Nd}(h:zad o a b)(k:zad o b c):zad o a c:=fun P d f=>k P d (h P d f)
theorem zad.one {o:No}{a b:Nd}(h:zd9 o a b):zad o a b:=zad.refl.tail h
theorem zad.keeps {o:No}{P:Nd→Prop}(d:∀ a b,zd9 o a b→P a→P b){a b:Nd}(h:zad o a b)(c:P a):P b:=h P d c
theorem zd9.send {o:No}{n:Nd}{d:Int}(b:0≤d∧d<4){m:MC}(h:zm7 n m):zd9 o n (n.send d m):=.inl ⟨d,m,b,h,rfl⟩
theorem zi5 (n:Nd)(d:Int)(m:MC):(n.send d m).k=n.k:=by unfold Nd.send;split<;>rfl
theorem zk8 (n:Nd)(d:Int)(m:MC):(n.send d m).nu=n.nu:=by unfold Nd.send;split<;>rfl
theorem zm8 (n:Nd)(d:Int)(m:MC):(n.send d m).vot=n.vot:=by unfold Nd.send;split<;>rfl
theorem zm9 (o:No)(n:Nd)(m:MC)(h:zm7 n m)(j:Nat)(c:j≤4):zad o n (n.sendTo m j)∧(n.sendTo m j).k=n.k∧(n.sendTo m j).nu=n.nu∧(n.sendTo m j).vot=n.vot:=by
 induction j with
 | zero=>exact ⟨zad.refl,rfl,rfl,rfl⟩
 | succ j b=>
  have b:=b (by omega);refine ⟨b.1.tail (zd9.send (by omega) ?_),(zi5 _ _ _).trans b.2.1,(zk8 _ _ _).trans b.2.2.1,(zm8 _ _ _).trans b.2.2.2⟩;unfold zm7;rw[b.2.1];exact h
theorem zfO (o:No)(n:Nd)(m:MC)(h:zm7 n m):zad o n (n.sendAll m):=(zm9 o n m h 4 (by omega)).1
theorem zvO {l:List BW}{d:List Int}{b:BW}(h:bOf l d=some b):b∈l:=List.mem_of_find?_eq_some h
theorem zrK {l:List BW}{b:BW}(h:b∈l):zbX l b.d=true:=by
 rw[zbX,List.any_eq_true];exact ⟨b,h,by simp⟩
theorem zod (o:No)(n:Nd)(t:Int)(f:0≤t∧t<4)(d:List Int):zad o n (n.sendD t d)∧(n.sendD t d).k=n.k∧(n.sendD t d).nu=n.nu∧(n.sendD t d).vot=n.vot:=by
 unfold Nd.sendD
 split
 ·rename_i b c
  exact ⟨zad.one (zd9.send f (.inl ⟨b,rfl,zrK (zvO c)⟩)),zi5 _ _ _,zk8 _ _ _,zm8 _ _ _⟩
 ·exact ⟨zad.refl,rfl,rfl,rfl⟩
theorem zjp (o:No)(t:Int)(g:0≤t∧t<4)(l:List (List Int))(n:Nd):zad o n (n.sendB t l)∧(n.sendB t l).k=n.k∧(n.sendB t l).nu=n.nu∧(n.sendB t l).vot=n.vot:=by
 induction l generalizing n with
 | nil=>exact ⟨zad.refl,rfl,rfl,rfl⟩
 | cons d l ih=>
  obtain ⟨a,b,c,e⟩:=zod o n t g d;obtain ⟨a',b',c',f⟩:=ih (n.sendD t d);exact ⟨a.trans a',b'.trans b,c'.trans c,f.trans e⟩
theorem zgT (o:No)(n:Nd)(b:BW):zad o n (n.hearB b):=by
 unfold Nd.hearB
 split
 ·rename_i h
  rw[Bool.and_eq_true] at h;exact zad.one (.inr (.inl ⟨b,h.1,h.2,rfl⟩))
 ·exact zad.refl
theorem zrL {l:List SV}{m:Nat}(h:hit l au rd m=true):(zdA l m).1=au∧(zdA l m).2.1=rd:=of_decide_eq_true h
theorem zto {l:List SV}{m:Nat}(h:m<l.length):zdA l m∈l:=by simp[zdA,List.getD,h]
theorem zjq {l:List SV}{s:SV}(h:(zaW l s).2=0):zhj (zaW l s).1 s:=by
 unfold zaW at h ⊢
 split
 ·rename_i m b
  rw[b] at h
  simp only at h
  split at h
  ·rename_i e
   rw[if_pos e];obtain ⟨d,c,_⟩:=zpL b;exact ⟨zdA l m,zto d,(zrL c).1,(zrL c).2,e⟩
  ·cases h
 ·rename_i b
  rw[b] at h
  simp only at h
  split at h
  ·cases h
  ·rename_i e
   rw[if_neg e];exact ⟨s,by simp,rfl,rfl,rfl⟩
theorem zkn {l:List SV}{h:CV}(e:(zak l h).2.2=0):zcV l=0∧h.hf=0∧(zaW l h.slot).2=0∧zak l h=((zaW l h.slot).1,h.slot,0):=by
 unfold zak zco at e ⊢
 split at e
 ·cases e
 ·rename_i d
  split at e
  ·rename_i b;exact absurd e b
  ·rename_i b
   split at e
   ·rename_i c;exact absurd e c
   ·rename_i c
    rw[if_neg d,if_neg b,if_neg c];exact ⟨by simpa using d,by simpa[CV.hf] using b,by simpa[CV.slot,CV.d] using c,rfl⟩
theorem zoe {l:List SV}{h:CV}(e:(zak l h).2.2=0):zhj (zak l h).1 h.slot:=by
 obtain ⟨_,_,b,c⟩:=zkn e;rw[c];exact zjq b
theorem zrM {l:List SV}{s:SV}(h:(zaW l s).2=0):((zaW l s).1=l∧zhj l s)∨((zaW l s).1=l++[s]∧zbq l s.1 s.2.1 l.length=none∧l.length<400):=by
 have b:=zjq h;rcases zpK l s with ⟨e,_⟩|e|e|⟨e,c,d⟩
 ·rw[e] at b ⊢;exact .inl ⟨rfl,b⟩
 ·rw[e] at h;cases h
 ·rw[e] at h;cases h
 ·rw[e];exact .inr ⟨rfl,c,d⟩
theorem zna {l:List SV}{h:CV}(e:(zak l h).2.2=0):((zak l h).1=l∧zhj l h.slot)∨((zak l h).1=l++[h.slot]∧zbq l h.au h.rd l.length=none∧l.length<400):=by
 obtain ⟨_,_,b,c⟩:=zkn e;rw[c];exact zrM b
theorem zwu {h:CV}(e:h.hf=0):0≤h.au∧h.au<4:=by
 unfold CV.hf zK at e
 split at e
 ·cases e
 ·rename_i g
  simp only[not_or,Decidable.not_not] at g;exact g.1
theorem zof (o:No)(n:Nd)(h:CV):zad o n (n.hearO o h):=by
 unfold Nd.hearO
 split
 ·exact zad.refl
 ·rename_i f
  split
  ·exact zad.refl
  ·rename_i b
   have b:(zak n.k.tab h).2.2=0:=by simpa using b
   simp only[not_or] at f;obtain ⟨j,l,d,m⟩:=f;have g:0≤h.au∧h.au<4:=zwu (by simpa using d)
   split
   ·rename_i c
    split
    ·rename_i p
     refine (zad.one (.inr (.inr (.inl ⟨h,⟨j,by simpa using l,by simpa using d,by simpa using m,b,c,p⟩,rfl⟩)))).tail (zd9.send g (.inr (.inr (.inl ⟨h.slot,rfl,?_⟩))));exact zoe b
    ·exact zad.refl
   ·rename_i c
    refine zad.one (zd9.send g (.inr (.inr (.inl ⟨h.slot,rfl,?_⟩))));rcases zna b with ⟨_,e⟩|⟨e,_,_⟩
    ·exact e
    ·rw[e] at c;simp at c
theorem zjr (o:No)(n:Nd)(c:CV):zad o n (n.hearP o c):=by
 unfold Nd.hearP
 split
 ·rename_i h;exact zad.one (.inr (.inr (.inr (.inl ⟨c,h,rfl⟩))))
 ·exact zad.refl
theorem zog (o:No)(n:Nd)(d:Int)(s:SV):zad o n (n.hearV o d s):=by
 unfold Nd.hearV
 split
 ·exact zad.refl
 ·rename_i f
  simp only[not_or] at f;obtain ⟨c,m,g,j⟩:=f;have c:s=n.k.slot:=by simpa using c
  subst c;have b:zad o n { n with vot:=n.vot++[d] }:=zad.one (.inr (.inr (.inr (.inr (.inr (.inl ⟨d,g,by omega,by simpa using j,rfl⟩))))))
  split
  ·exact b
  ·split
   ·rename_i l
    refine (b.trans (zjr o _ _)).trans (zfO o _ _ (.inr (.inr (.inr (.inl ⟨_,rfl,?_⟩)))));unfold Nd.hearP;rw[if_pos l];show _∈n.k.dag++[_]
    simp
   ·exact b
theorem ztp (x c:CV)(l:List CV):c∈zhM x l→c=x∨c∈l:=by
 induction l with
 | nil=>intro h;simpa[zhM] using h
 | cons y l ih=>
  intro h;unfold zhM at h
  split at h
  ·simpa using h
  ·rcases List.mem_cons.1 h with e|e
   ·exact .inr (by simp[e])
   ·rcases ih e with g|g
    ·exact .inl g
    ·exact .inr (List.mem_cons_of_mem _ g)
theorem zrN (c:CV)(l:List CV):c∈zi3 l→c∈l:=by
 induction l with
 | nil=>intro h;cases h
 | cons y l ih=>
  intro h;rcases ztp y c (zi3 l) h with e|e
  ·simp[e]
  ·exact List.mem_cons_of_mem _ (ih e)
theorem zpT {c:CV}(h:c∈ziC l r):c∈l:=by
 have:=zrN c _ (List.mem_of_mem_take h);exact (List.mem_filter.1 this).1
theorem zpU (o:No)(t:Int)(d:0≤t∧t<4)(l:List CV)(n:Nd)(h:∀ c∈l,c∈n.k.dag):zad o n (n.tell t l):=by
 induction l generalizing n with
 | nil=>exact zad.refl
 | cons c l ih=>
  obtain ⟨a,b,_,_⟩:=zjp o t d c.bl n;have g:zad o n (n.tellC t c):=a.tail (zd9.send d (.inr (.inr (.inr (.inl ⟨c,rfl,by rw[b];exact h c (by simp)⟩)))));refine g.trans (ih _ (fun c' f=>?_));rw[Nd.tellC,zi5,b];exact h c' (List.mem_cons_of_mem _ f)
theorem zpV (o:No)(n:Nd)(m:MC)(d:0≤m.fr∧m.fr<4):zad o n (n.hear o m):=by
 unfold Nd.hear
 split
 ·exact zgT o n _
 ·split
  ·exact zof o n _
  ·split
   ·exact zog o n _ _
   ·split
    ·exact zjr o n _
    ·split
     ·exact zpU o _ d _ n (fun c b=>zpT b)
     ·exact zad.refl
theorem ztq (n:Nd)(b:BW):(n.hearB b).nx=n.nx∧(n.hearB b).txs=n.txs∧(n.hearB b).nu=n.nu∧(n.hearB b).k.dag=n.k.dag∧(n.hearB b).k.own=n.k.own:=by
 unfold Nd.hearB;split<;>exact ⟨rfl,rfl,rfl,rfl,rfl⟩
theorem znb (o:No)(n:Nd):zad o n n.gather:=by
 unfold Nd.gather
 split
 ·exact zad.refl
 ·rename_i c
  have c:zbR n.nx n.txs n.nu=0:=by simpa using c
  obtain ⟨f,g,j,_⟩:=ztq n ⟨n.nu,n.nx,n.txs.take 4⟩
  split
  ·rename_i d
   refine (zgT o n ⟨n.nu,n.nx,n.txs.take 4⟩).trans ?_;generalize l:n.hearB ⟨n.nu,n.nx,n.txs.take 4⟩=q at *;refine zad.trans (zad.one (b:={ q with nx:=n.nx+1,txs:=n.txs.drop 4 }) (.inr (.inr (.inr (.inr (.inr (.inr (.inl ?_)))))))) (zfO o _ _ (.inl ⟨_,rfl,d⟩));rw[f,g,j];exact ⟨c,d,rfl⟩
  ·exact zgT o n _
theorem zk9 (o:No)(n:Nd)(r:Int)(c:n.k.own.rd<r)(b:r=zcX n.k.dag):zad o n (n.offerNew r):=by
 unfold Nd.offerNew
 split
 ·rename_i h
  exact (zad.one (.inr (.inr (.inr (.inr (.inl ⟨r,h.1,h.2,c,b,rfl⟩)))))).trans (zfO o _ _ (.inr (.inl rfl)))
 ·exact zad.refl
theorem zl6 (o:No)(n:Nd)(j:Nat)(d:j≤4):zad o n (n.againTo j)∧(n.againTo j).k=n.k:=by
 induction j with
 | zero=>exact ⟨zad.refl,rfl⟩
 | succ j c=>
  have c:=c (by omega);unfold Nd.againTo
  split
  ·exact c
  ·obtain ⟨a,b,_,_⟩:=zjp o j (by omega) n.k.own.bl (n.againTo j);refine ⟨(c.1.trans a).tail (zd9.send (by omega) (.inr (.inl ?_))),(zi5 _ _ _).trans (b.trans c.2)⟩;rw[b,c.2]
theorem zrO (o:No)(n:Nd):zad o n (n.due (zcX n.k.dag)):=by
 unfold Nd.due
 split
 ·rename_i h;exact zk9 o n _ h rfl
 ·split
  ·exact zad.refl
  ·exact (zl6 o n 4 (by omega)).1
theorem zrP (x:Int):0≤zcc x∧zcc x<4:=by unfold zcc;omega
theorem zuY (n:Nd):0≤n.turn∧n.turn<4:=by unfold Nd.turn;split<;>exact zrP _
theorem zrQ (o:No)(n:Nd)(r:Int):zad o n (n.ask r):=
 (zad.one (.inr (.inr (.inr (.inr (.inr (.inr (.inr ⟨n.turn,rfl⟩)))))))).tail (zd9.send (zuY n) (.inr (.inr (.inr (.inr ⟨_,rfl⟩)))))
theorem zpW (o:No)(n:Nd):zad o n n.work:=
 ((znb o n).trans (zrO o n.gather)).trans (zrQ o _ _)
theorem zgU (l:List MC)(n:Nd):(l.foldl Nd.recall n).nu=n.nu∧(l.foldl Nd.recall n).up=n.up∧(l.foldl Nd.recall n).wai=n.wai∧(l.foldl Nd.recall n).recs=n.recs∧(l.foldl Nd.recall n).syn=n.syn∧(l.foldl Nd.recall n).txs=n.txs∧(l.foldl Nd.recall n).k=l.foldl Kn.rcl n.k∧(l.foldl Nd.recall n).trn=n.trn:=by
 induction l generalizing n with
 | nil=>exact ⟨rfl,rfl,rfl,rfl,rfl,rfl,rfl,rfl⟩
 | cons m l ih=>
  obtain ⟨a,b,c,d,e,g,h,j⟩:=ih (n.recall m);exact ⟨a,b,c,d,e,g,h,j⟩
theorem ztr (n:Nd)(p:Int):(n.crash p).nu=n.nu∧(n.crash p).up=false∧(n.crash p).wai=[]∧(n.crash p).recs=n.kept p∧(n.crash p).syn=(zaX (n.kept p)).length∧(n.crash p).txs=[]∧(n.crash p).k=(n.kept p).foldl Kn.rcl Kn.z∧(n.crash p).trn=0:=by
 obtain ⟨a,b,c,d,e,g,h,j⟩:=zgU (n.kept p) { Nd.z n.nu with recs:=n.kept p,syn:=(zaX (n.kept p)).length };exact ⟨a,b,c,d,e,g,h,j⟩
end Go.Proofs.YtdepbohhmfkjgaaGreatDoor
