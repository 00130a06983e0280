import Derived.Test.YtdnaljbnebnlhaaGreatDoorPk18
set_option maxRecDepth 100000
set_option maxHeartbeats 4000000
namespace Go.Proofs.YtdnaljbnebnlhaaGreatDoor
open Go.RowKit Tryz
structure zwG (w w':World)(e:Ending)(bs:List Int):Prop where
 out:(zbt bs≠0/\e=.returned (.tuple #[.agg mz_,I_ (zbt bs)]))\/(zbt bs=0/\∃x:MV,x.c=pM (bs,false)/\MAt w' x/\zbU (λq=>w.heap.size<=q) x/\((zP x.m x.car=0/\e=.returned (.tuple #[.agg (mrow_ x.m),I_ 0]))\/(zP x.m x.car≠0/\e=.returned (.tuple #[.agg mz_,I_ (zP x.m x.car)]))))
 below:B_ w w'
variable {w:World}{rd au:Int}{bl pl:List zi}
theorem zZ.app {a b:List Int}(c:zZ a)(d:zZ b):zZ (a++b):=λx f=>(List.mem_append.1 f).elim (c x) (d x)
theorem zZ.cons {a:Int}{b:List Int}(c:0<=a/\a<=255)(d:zZ b):zZ (a::b):=λx f=>by
 rcases List.mem_cons.1 f with h|h
 .rw[h];exact c
 .exact d x h
theorem zZ.nil:zZ []:=λx b=>by cases b
theorem zlL {n:Int}(h:1<=n/\n<=1048576):zZ (rd3 n):=zZ.cons (by omega) (zZ.cons (by omega) (zZ.cons (by omega) zZ.nil))
theorem zxj (b:List zi)(h:∀p∈b,∀x∈p.bs,0<=x/\x<=255):zZ (zat b):=by
 induction b with
 | nil=>exact zZ.nil
 | cons p b ih=>exact zZ.app (h p (by simp)) (ih λq c=>h q (by simp[c]))
theorem zq1 (b:List zi)(c:b.length<=255)(h:∀p∈b,∀x∈p.bs,0<=x/\x<=255):zZ (zbh b):=zZ.cons (by omega) (zxj b h)
theorem zy7 (s:ByteArray):zZ (tb s):=λx c=>by
 obtain⟨b,_,rfl⟩:=List.mem_map.1 c
 have:=b.toNat_lt
 omega
theorem zyi (ss:List ByteArray)(h:∀s∈ss,s.size<=20):zZ (zbc ss):=by
 induction ss with
 | nil=>exact zZ.nil
 | cons s ss ih=>
  have:=h s (by simp);exact zZ.cons (by omega) (zZ.app (zy7 s) (ih λq b=>h q (by simp[b])))
theorem zq2 (h:zO au rd bl pl=0)(c:∀p∈bl,∀x∈p.bs,0<=x/\x<=255)(d:∀p∈pl,∀x∈p.bs,0<=x/\x<=255):zZ (zaZ au rd bl pl):=by
 obtain⟨f,b,g,j,_,_⟩:=zbi h;exact zZ.app (zZ.app (zZ.app (zZ.cons (by omega) zZ.nil) (zlL b)) (zq1 bl (by omega) c)) (zq1 pl (by omega) d)
theorem zyj {x:MV}(h:zP x.m x.car=0)(c:U8M x.bl x.pl x.cbl x.cpl x.ds):zZ x.bytes:=by
 obtain⟨r,t,m,_⟩:=zcB h;have b:zD x.m x.ss x.bl x.pl x.cbl x.cpl x.vl=0:=m;have o:=zc7 b;refine zZ.app (zZ.cons (by omega) (zZ.cons (by omega) (zZ.cons (by omega) zZ.nil))) ?_;rcases o with k|k|k|k|k
 .rw[ziO k]at b;rw[zig k];obtain⟨f,d,j,g⟩:=zjR b;exact zZ.app (zZ.app (zZ.app (zZ.cons (by omega) zZ.nil) (zlL d)) (zZ.cons (by omega) zZ.nil)) (zyi _ λs p=>(g s p).2)
 .rw[ziP k]at b;rw[zih k];exact zq2 b c.hb c.hp
 .rw[ziQ k]at b;rw[zii k];obtain⟨f,d,_⟩:=zho b;exact zZ.app (zZ.app (zZ.cons (by omega) zZ.nil) (zlL d)) c.sd
 .rw[ziR k]at b;rw[zij k];obtain⟨f,d,j,g⟩:=ziN b;exact zZ.app (zZ.app (zq2 f c.cb c.cp) (zZ.cons (by omega) zZ.nil)) (λy q=>by have:=g y q;omega)
 .rw[zoB k]at b;rw[zik k]
  split at b
  .rename_i l
   exact zlL l
  .cases b
theorem zxk {x:MV}(c:MAt w x)(h:zP x.m x.car=0):3<x.bytes.length/\x.bytes.length<=323:=by
 obtain⟨_,_,d,_⟩:=zcB h;have b:zD x.m x.ss x.bl x.pl x.cbl x.cpl x.vl=0:=d;have f:=zk7 (ds:=x.ds) c.dn b;have e:x.bytes.length=3+(zcG x.m x.ss x.bl x.pl x.cbl x.cpl x.ds x.vl).length:=by simp[MV.bytes,zeL];omega
 have g:0<(zcG x.m x.ss x.bl x.pl x.cbl x.cpl x.ds x.vl).length:=by
  rcases zc7 b with k|k|k|k|k
  .rw[zig k];simp[zbY]
  .rw[zih k];simp[zaZ]
  .rw[zii k];simp
  .rw[zij k];simp[zeE];omega
  .rw[zik k];simp[rd3]
 omega
variable {w' w0:World}
theorem zt0 {x:MV}(b:zP x.m x.car=0)(r:List Int):x.bytes++r≠[]/\(x.bytes++r).getD 0 0=x.m.ki/\1<=x.m.ki/\x.m.ki<=5:=by
 obtain⟨_,_,c,_⟩:=zcB b;have d:zD x.m x.ss x.bl x.pl x.cbl x.cpl x.vl=0:=c;have f:=zc7 d;have e:x.bytes++r=x.m.ki::(x.m.fr::(x.m.tt::(zcG x.m x.ss x.bl x.pl x.cbl x.cpl x.ds x.vl++r))):=by simp[MV.bytes,zeL]
 rw[e];exact⟨by simp,rfl,by omega,by omega⟩
theorem zoS {e:Ending}{x:MV}(c:MAt w0 x)(b:zP x.m x.car=0)(h:zwG w w' e x.bytes) :
  ∃y:MV,y.c=x.c/\MAt w' y/\zbU (λq=>w.heap.size<=q) y/\e=.returned (.tuple #[.agg (mrow_ y.m),I_ 0])/\B_ w w':=by
 obtain⟨_,_,u,d⟩:=zcB b;obtain⟨_,E⟩:=zxk c b;obtain⟨f,g,C,D⟩:=zt0 b [];obtain⟨m,o⟩:=zi5 x [] c u d;rw[List.append_nil]at f g m o;have t:zbt x.bytes=0:=by
  rw[zbt,if_neg (by omega),if_neg f,g,if_neg (by omega),o,if_neg (by simp),if_neg (by simp)]
 rcases h.out with⟨p,_⟩|⟨_,y,B,j,s,A⟩
 .exact absurd t p
 .have l:y.c=x.c:=B.trans m;have z:=(zxf c j l).trans b;rcases A with⟨_,d⟩|⟨r,_⟩
  .exact⟨y,l,j,s,d,h.below⟩
  .exact absurd z r
variable {n:Nat}{qs:List zi}{bs:List Int}
theorem zlM {s:St}(h:(nx n s).2=false):s.1=tT n s++(nx n s).1/\(tT n s).length=n/\s.2=false:=by
 obtain⟨l,sh⟩:=s;have h':tkS n l sh=false:=h;simp only[tkS,Bool.or_eq_false_iff,decide_eq_false_iff_not]at h';obtain⟨rfl,f⟩:=h';obtain⟨b,c,d⟩:=zke (n:=n) (l:=l) (by omega);refine⟨?_,?_,rfl⟩
 .show l=tkT n l false++tkL n l false;rw[b,c,List.take_append_drop]
 .show(tkT n l false).length=n;rw[b,lT9_];omega
theorem zaU {s:St}(h:zZ s.1):zZ (nx n s).1:=zZ.tkL h
theorem zwH {s:St}(h:zZ s.1):zZ (tT n s):=zZ.tkT h
theorem zbH {s:St}(h:(nx 1 s).2=false):s.1=nB 1 s::(nx 1 s).1/\s.2=false:=by
 obtain⟨b,c,d⟩:=zlM h;refine⟨?_,d⟩
 match ht:tT 1 s,c with
 | [a],_=>
  have f:nB 1 s=a:=by show zbe (tT 1 s)=a;rw[ht];simp[zbe]
  rw[ht]at b;rw[f];exact b
theorem zhp {s:St}(m:zZ s.1)(h:(nx 3 s).2=false):s.1=rd3 (nB 3 s)++(nx 3 s).1/\s.2=false:=by
 obtain⟨f,g,j⟩:=zlM h;have d:=zwH (n:=3) m;refine⟨?_,j⟩
 match ht:tT 3 s,g with
 | [a,b,c],_=>
  rw[ht]at f d;have o:=d a (by simp);have p:=d b (by simp);have q:=d c (by simp);have l:nB 3 s=65536*a+256*b+c:=by
   show zbe (tT 3 s)=_;rw[ht];simp[zbe];omega
  have e:rd3 (nB 3 s)=[a,b,c]:=by
   rw[l];simp only[rd3,List.cons.injEq,and_true];refine⟨?_,?_,?_⟩<;>omega
  rw[e];exact f
theorem zy8 {s:St}(k:Nat)(h:(dgL s.1 s.2 k).2=false):s.1=(dgD s.1 s.2 k).flatten++(dgL s.1 s.2 k).1/\(dgD s.1 s.2 k).length=k/\s.2=false:=by
 induction k with
 | zero=>exact⟨rfl,rfl,h⟩
 | succ k ih=>
  have d:(nx 32 (dgL s.1 s.2 k)).2=false:=h;obtain⟨b,_,c⟩:=zlM d;obtain⟨f,g,j⟩:=ih c;refine⟨?_,?_,j⟩
  .show s.1=(dgD s.1 s.2 k++[tT 32 (dgL s.1 s.2 k)]).flatten++(nx 32 (dgL s.1 s.2 k)).1;rw[List.flatten_append,List.flatten_singleton,List.append_assoc,<-b];exact f
  .show(dgD s.1 s.2 k++[tkT 32 (dgL s.1 s.2 k).1 (dgL s.1 s.2 k).2]).length=k+1;rw[lP_,g];rfl
theorem zjY {s:St}(l:zZ s.1)(h:(dgS s).2=false):s.1=((dgs s).length:Int)::((dgs s).flatten++(dgS s).1)/\s.2=false:=by
 obtain⟨c,d,f⟩:=zy8 (s:=nx 1 s) (dN s.1 s.2) h;obtain⟨b,g⟩:=zbH f;refine⟨?_,g⟩;have m:0<=nB 1 s:=by
  have:=l (nB 1 s) (by rw[b];simp);omega
 have j:((dgs s).length:Int)=nB 1 s:=by
  have e:(dgs s).length=(nB 1 s).toNat:=d;rw[e];omega
 rw[j];have e:(nx 1 s).1=(dgs s).flatten++(dgS s).1:=c;rw[<-e];exact b
theorem zoT {s:St}(b:zZ s.1)(h:(dgS s).2=false):zZ (dgS s).1:=λx c=>b x (by rw[(zjY b h).1];simp[c])
theorem zy9 {s:St}(k:Nat)(h:(nL s k).2=false):s.1=nV s k++(nL s k).1/\(nV s k).length=k/\s.2=false:=by
 induction k with
 | zero=>exact⟨rfl,rfl,h⟩
 | succ k ih=>
  have d:(nx 1 (nL s k)).2=false:=h;obtain⟨b,c⟩:=zbH d;obtain⟨f,g,j⟩:=ih c;refine⟨?_,?_,j⟩
  .show s.1=(nV s k++[nB 1 (nL s k)])++(nx 1 (nL s k)).1;rw[List.append_assoc,List.singleton_append,<-b];exact f
  .show(nV s k++[nB 1 (nL s k)]).length=k+1;rw[lP_,g];rfl
theorem zxl {l:List Int}(h:zZ l):tb (zai l)=l:=by
 rw[tb,zgr,List.map_map]
 conv=>rhs;rw[<-List.map_id l]
 refine List.map_congr_left λx b=>?_;have:=h x b
 simp
 omega
theorem zza {s:St}(o:zZ s.1)(k:Nat)(h:(bL s k).2=false):s.1=zbc (bT s k)++(bL s k).1/\(bT s k).length=k/\s.2=false/\zZ (bL s k).1:=by
 induction k with
 | zero=>exact⟨rfl,rfl,h,o⟩
 | succ k ih=>
  have l:(nx (nB 1 (bL s k)).toNat (nx 1 (bL s k))).2=false:=h;obtain⟨d,f,g⟩:=zlM l;obtain⟨c,j⟩:=zbH g;obtain⟨p,q,r,b⟩:=ih j;have m:0<=nB 1 (bL s k):=by
   have:=b (nB 1 (bL s k)) (by rw[c];simp);omega
  refine⟨?_,?_,r,zaU (zaU b)⟩
  .show s.1=zbc (bT s k++[zai (tT (nB 1 (bL s k)).toNat (nx 1 (bL s k)))])++(nx (nB 1 (bL s k)).toNat (nx 1 (bL s k))).1;rw[zm7,zmU,zxl (zwH (zaU b)),f,List.append_assoc,List.cons_append,<-d,Int.toNat_of_nonneg m,<-c];exact p
  .show(bT s k++[zai (tT (nB 1 (bL s k)).toNat (nx 1 (bL s k)))]).length=k+1;rw[lP_,q];rfl
theorem zlN {l:List (List Int)}(h:qs.map (·.bs)=l):zbh qs=(l.length:Int)::l.flatten:=by
 subst h;rw[zbh,List.length_map]
 congr 1
 induction qs with
 | nil=>rfl
 | cons p qs ih=>simp[zat,ih]
theorem zyk {y:MV}(hC:zP y.m y.car=0)(g:zZ bs)(d:mS (bs,false)=([],false))(b:y.c=pM (bs,false)):y.bytes=bs:=by
 have f:(mS (bs,false)).2=false:=by rw[d]
 obtain⟨s,T⟩:∃s:St,(bs,false)=s:=⟨_,rfl⟩;have Z:bs=s.1:=by rw[<-T]
 rw[T]at d f b;rw[Z]at g|-;clear T Z;have hB:y.bytes=y.m.ki::y.m.fr::y.m.tt::zcG y.m y.ss y.bl y.pl y.cbl y.cpl y.ds y.vl:=rfl;rw[hB];by_cases k1:nB 1 s=1;refine K_ (?A0:St) ?_;exact nx 1 (nx 1 (nx 1 s));refine K_ (?B0:St) ?_;exact nx 3 (nx 1 ?A0)
 .rw[pM,if_pos k1]at b;rw[mS,if_pos k1]at d f;simp only[MV.c,MC.mk.injEq]at b;obtain⟨m,o,c,e4,e5,Y,_⟩:=b;have am:zZ (nx 1 (bS3 ?A0)).1:=zaU (zaU (zaU (zaU (zaU (zaU g)))));obtain⟨I,J,L,_⟩:=zza am _ f;obtain⟨F,M⟩:=zbH L;obtain⟨j,l⟩:=zhp (s:=nx 1 ?A0) (zaU (zaU (zaU (zaU g)))) M;obtain⟨A,B⟩:=zbH l;obtain⟨p,q⟩:=zbH B;obtain⟨r,t⟩:=zbH q;obtain⟨u,H⟩:=zbH t;have al:0<=nB 1 (bS3 ?A0):=by
   have:=(show zZ (bS3 ?A0).1 from zaU (zaU (zaU (zaU (zaU g))))) (nB 1 (bS3 ?A0)) (by rw[F];simp);omega
  have R:(y.ss.length:Int)=nB 1 (bS3 ?A0):=by
   rw[Y,J];show(((nB 1 (bS3 ?A0)).toNat:Nat):Int)=_;omega
  rw[zig (c.trans k1),zbY,R,c,m,o,e4,e5,Y];rw[u,r,p,A,j];have G:(?B0).1=nB 1 (bS3 ?A0)::(nx 1 (bS3 ?A0)).1:=F;rw[G,I,d]
  simp
 .by_cases k2:nB 1 s=2
  .rw[pM,if_neg k1,if_pos k2]at b;rw[mS,if_neg k1,if_pos k2]at d f;simp only[MV.c,MC.mk.injEq]at b;obtain⟨m,o,c,_,_,_,e7,e8,e9,ab,_⟩:=b;have C:zZ (?B0).1:=zaU (zaU (zaU (zaU (zaU g))));obtain⟨D,E⟩:=zjY (λz hz=>by
    have O:(dgS ?B0).2=false:=(zq0 [] f).2;exact zoT C O z hz) f
   obtain⟨U,V⟩:=zjY C E;obtain⟨j,l⟩:=zhp (zaU (zaU (zaU (zaU g)))) V;obtain⟨A,B⟩:=zbH l;obtain⟨p,q⟩:=zbH B;obtain⟨r,t⟩:=zbH q;obtain⟨u,H⟩:=zbH t;rw[zih (c.trans k2),zaZ,zlN e9,zlN ab,c,m,o,e7,e8];rw[u,r,p,A,j,U,D,d]
   simp
  .by_cases k3:nB 1 s=3
   .rw[pM,if_neg k1,if_neg k2,if_pos k3]at b;rw[mS,if_neg k1,if_neg k2,if_pos k3]at d f;simp only[MV.c,MC.mk.injEq]at b;obtain⟨m,o,c,_,_,_,_,_,_,_,ac,ad,ae,_⟩:=b;obtain⟨D,_,E⟩:=zlM f;obtain⟨j,l⟩:=zhp (zaU (zaU (zaU (zaU g)))) E;obtain⟨A,B⟩:=zbH l;obtain⟨p,q⟩:=zbH B;obtain⟨r,t⟩:=zbH q;obtain⟨u,H⟩:=zbH t;rw[zii (c.trans k3),c,m,o,ac,ad,ae];rw[u,r,p,A,j,D,d]
    simp
   .by_cases k4:nB 1 s=4
    .rw[pM,if_neg k1,if_neg k2,if_neg k3,if_pos k4]at b;rw[mS,if_neg k1,if_neg k2,if_neg k3,if_pos k4]at d f;simp only[MV.c,MC.mk.injEq]at b;obtain⟨m,o,c,_,_,_,_,_,_,_,_,_,_,af,ag,ah,ai,X,_⟩:=b;obtain⟨I,J,L⟩:=zy9 _ f;obtain⟨F,M⟩:=zbH L;have C:zZ (?B0).1:=zaU (zaU (zaU (zaU (zaU g))));have N:(dgS (dgS ?B0)).2=false:=M;have b5:(dgS ?B0).2=false:=(zq0 [] N).2;have aa:=zoT C b5;have an:=zoT aa N;obtain⟨D,E⟩:=zjY aa N;obtain⟨U,V⟩:=zjY C E;obtain⟨j,l⟩:=zhp (zaU (zaU (zaU (zaU g)))) V;obtain⟨A,B⟩:=zbH l;obtain⟨p,q⟩:=zbH B;obtain⟨r,t⟩:=zbH q;obtain⟨u,H⟩:=zbH t;have G:(dgS (dgS ?B0)).1=nB 1 (hS4 ?A0)::(nx 1 (hS4 ?A0)).1:=F;have al:0<=nB 1 (hS4 ?A0):=by
      have:=an (nB 1 (hS4 ?A0)) (by rw[G];simp);omega
     have R:(y.vl.length:Int)=nB 1 (hS4 ?A0):=by
      rw[X,J];show(((nB 1 (hS4 ?A0)).toNat:Nat):Int)=_;omega
     rw[zij (c.trans k4),zeE,zaZ,zlN ah,zlN ai,R,c,m,o,af,ag,X];rw[u,r,p,A,j,U,D,G,I,d]
     simp
    .rw[pM,if_neg k1,if_neg k2,if_neg k3,if_neg k4]at b;rw[mS,if_neg k1,if_neg k2,if_neg k3,if_neg k4]at d f;simp only[MV.c,MC.mk.injEq]at b;obtain⟨m,o,c,_,_,_,_,_,_,_,_,_,_,_,_,_,_,_,aj⟩:=b;obtain⟨j,l⟩:=zhp (zaU (zaU (zaU g))) f;obtain⟨p,q⟩:=zbH l;obtain⟨r,t⟩:=zbH q;obtain⟨u,H⟩:=zbH t;have k5:y.m.ki=5:=by
      obtain⟨_,_,O,_⟩:=zcB hC;have ak:zD y.m y.ss y.bl y.pl y.cbl y.cpl y.vl=0:=O;have:=zc7 ak;omega
     rw[zik k5,c,m,o,aj];rw[u,r,p,j,d]
     simp
variable {k:Nat}
theorem znh {l:List Int}(h:k<l.length):l.getD k 0∈l:=by
 have e:l.getD k 0=l[k]:=by simp[List.getD,h]
 rw[e];exact gM_ h
def zcS (bs:List Int):Prop:=∀(w0:World) (x:MV) (r:List Int),MAt w0 x->zaT x->bs≠x.onTape++r
theorem zet {x:MV}{r:List Int}(h:bs=x.onTape++r):bs.getD 0 0=(x.bytes.length:Int) / 256/\bs.getD 1 0=(x.bytes.length:Int) % 256/\bs.length=2+x.bytes.length+r.length/\(bs.drop 2).take x.bytes.length=x.bytes:=by
 subst h;refine⟨rfl,rfl,by simp[MV.onTape];omega,?_⟩;simp[MV.onTape]
theorem zoU {x y:MV}(d:MAt w x)(f:MAt w0 y)(b:zP x.m x.car=0)(c:zP y.m y.car=0)(h:y.bytes=x.bytes):y.c=x.c:=by
 have g:=(zi5 x [] d (zcB b).2.2.1 (zcB b).2.2.2).1;have j:=(zi5 y [] f (zcB c).2.2.1 (zcB c).2.2.2).1;rw[<-g,<-j,h]
theorem zt1 {y:MV}(b:zP y.m y.car=0)(h:zcO y.m 0=0):zaT y:=by
 obtain⟨_,_,c,d⟩:=zcB b;rw[zcO,if_neg (by simp)]at h
 split at h
 .cases h
 .rename_i f
  exact⟨c,d,by omega,by omega,by omega⟩
theorem zq3 {y:MV}(h:zaT y):zcO y.m 0=0:=by
 rw[zcO,if_neg (by simp),if_neg];rintro(h9|h9|h9)
 .exact h9 h.fr
 .exact h9 h.tt
 .exact h.ki h9
theorem zt2 {x y:MV}(h:y.c=x.c):zcO y.m 0=zcO x.m 0:=by
 simp only[MV.c,MC.mk.injEq]at h;rw[zcO,zcO,h.1,h.2.1,h.2.2.1]
variable {B base:Nat}{xs:List Value}{ms:List MV}
theorem zni (ys:List MV)(h:∀y∈ys,2<=y.onTape.length):2*ys.length<=(zam ys).length:=by
 induction ys with
 | nil=>simp[zam]
 | cons y l ih=>
  have d:=h y (by simp);have b:=ih (λz c=>h z (by simp[c]));simp only[zam,List.flatMap_cons,lP_,List.length_cons]at b|-;omega
theorem zfW (y:MV):2<=y.onTape.length:=by simp[MV.onTape]
theorem zcX {c:Nat}{e:TypeId}{s:Nat}{v:Value}(h:w.ownsRow base e s v n xs)(m:c<=base):w.ownsRow c e s v n xs:=by
 obtain⟨j,b⟩:=h;refine⟨j,?_⟩;rcases b with b|⟨g,d,f,rfl,o,l,r⟩
 .exact .inl b
 .exact .inr ⟨g,d,f,rfl,by omega,l,r⟩
theorem zda.mono {C:Nat}{v:Value}(h:zda w B v ms)(d:C<=B):zda w C v ms:=λx b=>⟨(h x b).1,(h x b).2.1,(h x b).2.2.mono (λ_ c=>⟨nT_ d c.1,c.2⟩)⟩
theorem zda.far {b:Nat}{v:Value}(h:zda w B v ms)(f:b<B)(d:∀k,k≠b->w'.heap[k]? = w.heap[k]?):zda w' B v ms:=λx c=>⟨(h x c).1.stays (G:=λk=>B<=k/\v.ownBlock≠some k) (λk g=>d k (by have:=g.1;omega)) (h x c).2.2,(h x c).2.1,(h x c).2.2⟩
theorem zqc {x y:MV}{p q:List Int}(j:MAt w x)(l:MAt w0 y)(m:zaT x)(o:zaT y)(h:y.onTape++p=x.onTape++q):y.bytes=x.bytes/\y.c=x.c/\y.onTape=x.onTape/\p=q:=by
 obtain⟨r,s,t,d⟩:=zet (bs:=y.onTape++p) (x:=y) rfl;obtain⟨u,z,A,f⟩:=zet h;have g:y.bytes.length=x.bytes.length:=by omega
 have b:y.bytes=x.bytes:=by rw[<-d,g,f]
 have c:y.onTape=x.onTape:=by rw[MV.onTape,MV.onTape,b]
 refine⟨b,zoU j l m.check o.check b,c,?_⟩;rw[c]at h;exact List.append_cancel_left h
structure zhN (ys ms:List MV):Prop where
 le:ys.length<=ms.length
 same:∀(i:Nat) (h1:i<ys.length) (h2:i<ms.length),(ms[i]).c=(ys[i]).c
 tape:zam ys=zam (ms.take ys.length)
theorem zhN.nil (ms:List MV):zhN [] ms:=⟨nZ_ _,(λ_ h=>by simp at h),rfl⟩
theorem zhN.cons {x y:MV}{ys:List MV}(h:zhN ys ms)(d:y.c=x.c)(f:y.onTape=x.onTape):zhN (y::ys) (x::ms):=by
 refine⟨by have:=h.le;simp;omega,?_,?_⟩
 .intro i b c;cases i with
  | zero=>exact d.symm
  | succ i=>exact h.same i (by simpa using b) (by simpa using c)
 .have:=h.tape;simp only[zam,List.flatMap_cons,List.length_cons,List.take_succ_cons]at this|-;rw[this,f]
theorem zeg (x:MV)(l:List MV):zam (x::l)=x.onTape++zam l:=rfl
theorem zkp {c:List zi}(h:c.map (·.bs)=qs.map (·.bs))(j:∀p∈c,∀x∈p.bs,0<=x/\x<=255):∀q∈qs,∀x∈q.bs,0<=x/\x<=255:=by
 intro q g x l;have b:q.bs∈qs.map (·.bs):=List.mem_map_of_mem g;rw[<-h]at b;obtain⟨p,f,e⟩:=List.mem_map.1 b;have d:p.bs=q.bs:=e;exact j p f x (by rw[d];exact l)
theorem zxm {x y:MV}(h:x.c=y.c)(b:U8M x.bl x.pl x.cbl x.cpl x.ds):U8M y.bl y.pl y.cbl y.cpl y.ds:=by
 simp only[MV.c,MC.mk.injEq]at h;obtain⟨l,t,u,z,A,B,C,D,j,c,m,o,d,p,q,f,g,r,s⟩:=h;exact⟨zkp j b.hb,zkp c b.hp,zkp f b.cb,zkp g b.cp,by rw[<-d];exact b.sd⟩
end Go.Proofs.YtdnaljbnebnlhaaGreatDoor
