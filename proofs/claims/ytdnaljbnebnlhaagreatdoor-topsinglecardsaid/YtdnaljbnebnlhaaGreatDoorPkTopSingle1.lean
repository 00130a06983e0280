import Derived.Test.YtdnaljbnebnlhaaGreatDoorPk37
import Derived.Test.YtdnaljbnebnlhaaGreatDoorPkTopSingle0
set_option maxRecDepth 100000
set_option maxHeartbeats 4000000
namespace Go.Proofs.YtdnaljbnebnlhaaGreatDoor
open Go.RowKit _root_.Go.Proofs.Tryz
theorem CV.d_u8 (c:CV):∀x∈c.d,0<=x/\x<=255:=zzg _ _ _ _
theorem zAF {b ys:List Int}(c:∀x∈b,0<=x/\x<=255)(d:∀x∈ys,0<=x/\x<=255)(h:txL b=txL ys):b=ys:=by
 exact ziD c d (zhf h)
variable {k:Nat}{l:List SV}{vl:List Int}{i:Int}
theorem zAq {m:Nat}(h:vTo vl m=0)(b:k<=m):vTo vl k=0:=by
 by_cases e:vTo vl k=0
 .exact e
 .rw[zs4 vl k m e b]at h;exact h
theorem zAr (h:zep vl=0):3<=vl.length/\∀k,k<vl.length->(0<=vl.getD k 0/\vl.getD k 0<4)/\(0<k->vl.getD (k-1) 0<vl.getD k 0):=by
 unfold zep at h
 split at h
 .rename_i g;exact absurd h g
 .rename_i g
  split at h
  .cases h
  .rename_i m
   have g:vTo vl vl.length=0:=by
    by_cases e:vTo vl vl.length=0
    .exact e
    .exact absurd e g
   refine⟨by omega,λk d=>?_⟩;have b:=zAq g (show k+1<=vl.length from d);have f:=zAq g (Nat.le_of_lt d);rw[vTo,if_neg (by rw[f];exact λx=>x rfl)]at b;unfold vAt at b
   split at b
   .cases b
   .rename_i c
    split at b
    .cases b
    .rename_i l
     have c:0<=vl.getD k 0/\vl.getD k 0<4:=by
      by_cases e:0<=vl.getD k 0/\vl.getD k 0<4
      .exact e
      .exact absurd e c
     exact⟨c,λj=>by
      by_cases e:vl.getD k 0<=vl.getD (k-1) 0
      .exact absurd ⟨j,e⟩ l
      .omega⟩
theorem zz3 (h:zep vl=0):∃a b c:Int,a∈vl/\b∈vl/\c∈vl/\(0<=a/\a<b/\b<c/\c<4):=by
 obtain⟨p,d⟩:=zAr h;have m:∀k,k<vl.length->vl.getD k 0∈vl:=λk h=>by simp[List.getD,h]
 have g:=d 0 (by omega);have j:=d 1 (by omega);have f:=d 2 (by omega);have l:=j.2 (by omega);have o:=f.2 (by omega);exact⟨vl.getD 0 0,vl.getD 1 0,vl.getD 2 0,m 0 (by omega),m 1 (by omega),m 2 (by omega),g.1.1,l,o,f.1.2⟩
theorem zAy {s:List Int}(h:zep vl=0)(k:zep s=0)(t:Int):∃v,v∈vl/\v∈s/\v≠t/\0<=v/\v<4:=by
 obtain⟨a,b,c,d,f,j,q⟩:=zz3 h;obtain⟨x,y,z,l,m,o,r⟩:=zz3 k;have D:∀v:Int,v∈vl->v∈s->0<=v->v<4->v≠t->∃v,v∈vl/\v∈s/\v≠t/\0<=v/\v<4:=λv F G H I J=>⟨v,F,G,J,H,I⟩;have L:(∃u v:Int,u≠v/\(u∈vl/\u∈s/\0<=u/\u<4)/\(v∈vl/\v∈s/\0<=v/\v<4)):=by
  have A:a=0\/a=1:=by omega
  have X:x=0\/x=1:=by omega
  have B:b=1\/b=2:=by omega
  have Y:y=1\/y=2:=by omega
  have C:c=2\/c=3:=by omega
  have Z:z=2\/z=3:=by omega
  by_cases e1:a=x
  .subst e1;by_cases e2:b=y
   .subst e2;exact⟨a,b,by omega,⟨d,l,by omega,by omega⟩,⟨f,m,by omega,by omega⟩⟩
   .by_cases e3:c=z
    .subst e3;exact⟨a,c,by omega,⟨d,l,by omega,by omega⟩,⟨j,o,by omega,by omega⟩⟩
    .by_cases e4:b=z
     .subst e4;exact⟨a,b,by omega,⟨d,l,by omega,by omega⟩,⟨f,o,by omega,by omega⟩⟩
     .obtain rfl:c=y:=by omega
      exact⟨a,c,by omega,⟨d,l,by omega,by omega⟩,⟨j,m,by omega,by omega⟩⟩
  .by_cases e2:c=z
   .subst e2;by_cases e3:b=y
    .subst e3;exact⟨b,c,by omega,⟨f,m,by omega,by omega⟩,⟨j,o,by omega,by omega⟩⟩
    .by_cases e4:a=y
     .subst e4;exact⟨a,c,by omega,⟨d,m,by omega,by omega⟩,⟨j,o,by omega,by omega⟩⟩
     .obtain rfl:b=x:=by omega
      exact⟨b,c,by omega,⟨f,l,by omega,by omega⟩,⟨j,o,by omega,by omega⟩⟩
   .by_cases e3:b=x
    .subst e3;obtain rfl:c=y:=by omega
     exact⟨b,c,by omega,⟨f,l,by omega,by omega⟩,⟨j,m,by omega,by omega⟩⟩
    .obtain rfl:a=y:=by omega
     obtain rfl:b=z:=by omega
     exact⟨a,b,by omega,⟨d,m,by omega,by omega⟩,⟨f,o,by omega,by omega⟩⟩
 obtain⟨u,v,E,p,q⟩:=L;by_cases e:u=t
 .exact D v q.1 q.2.1 q.2.2.1 q.2.2.2 (λg=>E (e.trans g.symm))
 .exact D u p.1 p.2.1 p.2.2.1 p.2.2.2 e
theorem zAG (h:zdt l=0){s t:SV}(D:s∈l)(E:t∈l)(p:s.1=t.1)(q:s.2.1=t.2.1):s=t:=by
 obtain⟨i,u,c⟩:=List.getElem_of_mem D;obtain⟨j,y,d⟩:=List.getElem_of_mem E;have o:∀k (z:k<l.length),zd1 l k=l[k]:=λk z=>by simp[zd1,List.getD,z]
 have no:∀a b (r:a<l.length) (m:b<l.length),a<b->(l[a]).1=(l[b]).1->(l[a]).2.1=(l[b]).2.1->False:=λa b r m C A B=>by
  have f:=(zmY h).2 b m;rw[zeD,Bool.or_eq_false_iff]at f;have f:=f.2;simp only[zff,List.any_eq_false]at f;refine f a (by simpa using C) ?_;rw[hit,o a r,o b m];exact dT_ ⟨A,B⟩
 rcases Nat.lt_trichotomy i j with g|g|g
 .exact(no i j u y g (by rw[c,d];exact p) (by rw[c,d];exact q)).elim
 .subst g;rw[<-c,<-d]
 .exact(no j i y u g (by rw[c,d];exact p.symm) (by rw[c,d];exact q.symm)).elim
theorem zAH {k:Kn}{m:MC}{c:CV}(h:c∈(k.rcl m).dag):c∈k.dag\/(m.ki=4/\m.ct=c):=by
 unfold Kn.rcl at h
 split at h
 .split at h<;>exact .inl h
 .split at h
  .split at h<;>exact .inl h
  .split at h
   .exact .inl h
   .split at h
    .rename_i e
     split at h
     .rcases List.mem_append.1 h with g|g
      .exact .inl g
      .exact .inr ⟨e,(List.mem_singleton.1 g).symm⟩
     .exact .inl h
    .exact .inl h
theorem zAz (l:List MC)(k:Kn){c:CV}(h:c∈(l.foldl Kn.rcl k).dag):c∈k.dag\/∃m∈l,m.ki=4/\m.ct=c:=by
 induction l generalizing k with
 | nil=>exact .inl h
 | cons m l ih=>
  rcases ih (k.rcl m) h with g|⟨x,b,e⟩
  .rcases zAH g with g|g
   .exact .inl g
   .exact .inr ⟨m,by simp,g⟩
  .exact .inr ⟨x,List.mem_cons_of_mem _ b,e⟩
theorem zgz.proven {f:Fl}(h:zgz f){i:Int}(d:0<=i/\i<4){c:CV}(b:c∈(f.node i).k.dag):zzP f.no c:=by
 rw[(h.good i d).tape]at b;rcases zAz _ _ b with g|⟨m,j,e,g⟩
 .cases g
 .rw[<-g];exact h.prov i d m j e
theorem CV.voters {c:CV}(h:c.f=0):zep c.vl=0:=by
 unfold CV.f zap at h
 split at h
 .rename_i g;exact absurd h g
 .split at h
  .cases h
  .exact h
theorem zgz.one {f:Fl}(h:zgz f){i j:Int}(C:0<=i/\i<4)(D:0<=j/\j<4){c d:CV}(A:c∈(f.node i).k.dag)(B:d∈(f.node j).k.dag)(y:c.au=d.au)(z:c.rd=d.rd):c.d=d.d:=by
 have r:=h.proven C A;have s:=h.proven D B;obtain⟨v,I,J,q,N,O⟩:=zAy (CV.voters r.1) (CV.voters s.1) f.no.bad;have L:(v,c.au,c.rd,c.d)∈f.no.sg:=(r.2 v (.inr I)).resolve_left q;have M:(v,d.au,d.rd,d.d)∈f.no.sg:=(s.2 v (.inr J)).resolve_left q;obtain⟨_,_,t,E,g,l,b⟩:=h.sgn _ L;obtain⟨_,_,u,F,m,o,p⟩:=h.sgn _ M;obtain⟨x,G⟩:=zxX (f.node v).syn (f.node v).recs;have H:=((h.good v ⟨N,O⟩).each _ _ G).tab;have g:t.1=c.au:=g;have l:t.2.1=c.rd:=l;have m:u.1=d.au:=m;have o:u.2.1=d.rd:=o;have e:=zAG H E F (by rw[g,m,y]) (by rw[l,o,z]);rw[e]at b;have b:txL u.2.2=txL c.d:=b;have p:txL u.2.2=txL d.d:=p;exact zAF c.d_u8 d.d_u8 (b.symm.trans p)
theorem zAc {f:Fl}{c:CV}(h:c∈(f.view i).cs):c∈(f.node i).k.dag:=by
 unfold Fl.view at h
 split at h
 .cases h
 .exact h
theorem zAI (r:Int)(l:List Ac)(q:∀a∈l,a.ok){i j:Int}(o:0<=i/\i<4)(p:0<=j/\j<4){c d:CV}(g:c∈(((Fl.z r).run l).view i).cs)(m:d∈(((Fl.z r).run l).view j).cs)(b:c.au=d.au)(f:c.rd=d.rd):c.d=d.d:=
 (zgz.run l (zgz.z r) q).one o p (zAc g) (zAc m) b f
variable {r:Int}
theorem zAd {l:List Ct}{c:Ct}(h:c∈l):c.v∈zI l:=List.mem_map_of_mem h
theorem zAA {l:List AV}{o:Om}(h:o.v=((Fl.z r).run (l.map AV.ac)).told)(t:∀a∈l,a.e=0/\a.t.size<=4000):∀i k,i<4->k<4->∀c∈(o.y i).ls,∀d∈(o.y k).ls,c.v.au=d.v.au->c.v.rd=d.v.rd->c.v.d=d.v.d:=by
 intro i k q s c m d p g j;have b:c.v∈(((Fl.z r).run (l.map AV.ac)).view ((i:Nat):Int)).cs:=by rw[<-zb0 h i q];exact zAd m
 have f:d.v∈(((Fl.z r).run (l.map AV.ac)).view ((k:Nat):Int)).cs:=by rw[<-zb0 h k s];exact zAd p
 exact zAI r _ (ziz t) (by omega) (by omega) b f g j
theorem topSingle_walk (G:Option Addr)(B:Nat)(rs:List Ft)(n:Int)(w:World)(ar:zfn w G rs)(_hc_rs:rs.length<=B)(n1:-9223372036854775808<=n)(n2:n<=9223372036854775807)(s:zcw w/\zbJ w) :
  Calls prog 3 #[.slice G rs.length B,I_ n] w λe w'=>e=.returned (.bool true)/\B_ w w':=by
 have A:Hid (∀W:World,B_ w W->zcw W/\zbJ W):=λW Y=>⟨s.1.below Y s.1.lt,s.2.below Y⟩;clear s;obtain⟨ay,az⟩:=zW n 5 (by decide);have y:=zg9 n w n1 n2;obtain⟨b,ab⟩:∃b,b=pk n 5-1:=⟨_,rfl⟩;have aw:-1<=b/\b<=3:=by omega
 rw[<-ab]at y;clear ab ay az n1 n2;go_in;go_wp2_with fail
 refine y.mono ?_;rintro _ w0⟨rfl,rfl⟩;dsimp only;clear y;go_wp2_with fail
 refine(zeu rs G _ B 80 w rfl ar (by decide)).mono ?_;rintro e aA⟨v,l,d,g,E,aG,c⟩;subst d;dsimp only;obtain⟨aa,ac,p,af,ag⟩:=zbd g E;subst p;have al:Hid _:=E;have am:Hid _:=ag;clear g E ag;have N:=c;clear c;go_wp2_with fail
 refine(zAx 4 (by omega) aA).mono ?_;rintro e aB⟨v,d,ad,c⟩;subst d;dsimp only;obtain⟨ka,kc,p,D,ae⟩:=zbd ad (zAb 4);subst p;have z:Hid ((zdE 4).length=4+9*4/\∀a∈zdE 4,a.e=0/\a.t.size<=4000):=⟨zz2 _,zAb _⟩;have ak:Hid _:=ae;clear ad ae;have O:=zm N c;have C:=af.below c;clear N af;clear c;have Z:=zcZ l (zdE 4) aa _ ac ka _ kc aB rfl rfl C D am.out ak.out (by have:=z.out.1;omega);go_wp2_with fail
 refine Z.mono ?_;rintro e H⟨v,d,g,c⟩;subst d;dsimp only;clear Z;have q:Hid _:=zc9 al.out z.out.2;obtain⟨m,t⟩:∃z9,z9=l++zdE 4:=⟨_,rfl⟩;rw[<-t]at g q;have an:Hid (m.length=l.length+(4+9*4)/\m=l++zdE 4):=⟨by rw[t,lP_,z.out.1],t⟩;clear t;obtain⟨ma,mc,p,F,ah⟩:=zbd g q.out;subst p;have aC:Hid _:=ah;have aH:m.length<=120:=by have:=an.out.1;omega
 clear g ah;have r:=zm O c;have V:=C.below c;have X:=D.below c;clear O C D;clear c;have J:=zc4 b aw m ma _ mc H rfl (by omega) F (λa ha=>(q.out a ha).1) (A.out H r).1 (A.out H r).2;go_wp2_with fail
 refine J.mono ?_;rintro e u⟨o,d,ai,aj,ax,c⟩;subst d;dsimp only;clear J;have ao:Hid _:=aj;clear aj;have L:=zm r c;have R:=V.below c;have T:=X.below c;have U:=F.below c;clear r V X F;clear c;refine kO_ ?A0 ?_;exact Obj.cells #[.slice o.na 4 o.nc,.slice o.ga o.gs.length o.gc,I_ o.aw,.slice o.ca o.cs.length o.cc] 28;have f:=zC u ?A0;have j:=hN_ u ?A0;go_upto_region 3 with fail
 generalize u.alloc ?A0=ap at f j|-;generalize u.heap.size=Bo at j|-;have M:=zm L f;have au:=ai.below f;have aD:=R.below f;have aE:=T.below f;have aF:=U.below f;clear L ai R T U;clear f;have I:=zAE o ap au (λi hi=>ax.vw i hi) (zAA ao.out q.out) (A.out _ M).2;have c0:=zb j 0 (.slice o.na 4 o.nc) rfl;have c1:=zb j 1 (.slice o.ga o.gs.length o.gc) rfl;have c2:=zb j 2 (I_ o.aw) rfl;have c3:=zb j 3 (.slice o.ca o.cs.length o.cc) rfl;go_wp2_with fail
 refine I.mono ?_;rintro _ w9⟨rfl,av⟩;dsimp only;clear I c0 c1 c2 c3;have aq:=zm M av;go_wp2_with fail
 go_ret;exact⟨rfl,aq⟩
end Go.Proofs.YtdnaljbnebnlhaaGreatDoor
