import Derived.Test.YtpnpikpmdfipfaaGreatDoorPk17
import Derived.Test.YtpnpikpmdfipfaaGreatDoorRows
import Derived.Lib.LaidTab
import Derived.Stop.LaidErr
set_option maxRecDepth 100000
set_option maxHeartbeats 4000000
namespace Go.Proofs.YtpnpikpmdfipfaaGreatDoor
open Go.RowKit _root_.Go.Proofs.Tryz
theorem zwv (r:Int)(q:-1<=r/\r<=3)(l:List AV)(b:Q_)(n c:Nat)(w:World)(p:n=l.length)(d:l.length<=3000)(f:zbq w b l)(g:∀a∈l,a.e=0)(j:zcw w)(m:za2 w) :
  Calls prog 10 #[I_ r,.slice b n c] w λe w'=>∃o:Om,e=.returned (.tuple #[.agg #[.slice o.na 4 o.nc,.slice o.ga o.gs.length o.gc,I_ o.aw,.slice o.ca o.cs.length o.cc],I_ 0])/\zex w' o/\o.v=((Fl.z r).run (l.map AV.ac)).told/\zjd o/\B_ w w':=
 zxJ znS r q l b n c w p d f g j m
theorem zjd.ok {o:Om}(h:zjd o):zwk o:=by
 intro v b;simp only[List.mem_cons,List.not_mem_nil,or_false]at b;rcases b with e|e|e|e<;>subst e;exact h.v0.dag;exact h.v1.dag;exact h.v2.dag;exact h.v3.dag
theorem zc4 (r:Int)(hr:-1<=r/\r<=3)(l:List AV)(C:Q_)(n E:Nat)(w:World)(hn:n=l.length)(h3:l.length<=3000)(hA:zbq w C l)(hE:∀a∈l,a.e=0)(p:zcw w)(hT:za2 w) :
  Calls prog 6 #[I_ r,.slice C n E] w λe w'=>∃o:Om,e=.returned (.tuple #[.agg #[.slice o.na 4 o.nc,.slice o.ga o.gs.length o.gc,I_ o.aw,.slice o.ca o.cs.length o.cc],.bool true])/\zex w' o/\o.v=((Fl.z r).run (l.map AV.ac)).told/\zjd o/\B_ w w':=by
 subst hn;have b:=zC w (.cells #[O_,O_,I_ 0,O_] 31);have q:=hN_ w (.cells #[O_,O_,I_ 0,O_] 31);go_in;go_upto_region 1 with fail
 generalize w.alloc (.cells #[O_,O_,I_ 0,O_] 31)=W0 at b q|-;have N:=zwv r hr l C _ E W0 rfl h3 (hA.below b) hE (p.below b p.lt) (hT.below b);generalize F:w.heap.size=B at q|-;have Y:Hid (w.heap.size=B):=F;clear F;go_wp2_with fail
 refine N.mono ?_;rintro e m⟨o,he,J,T,O,z⟩;subst he;dsimp only;clear N;have Z:Hid _:=T;clear T;have A:=zk z q;have H:=zm b z;refine kA_ ?A0 ?_;exact(#[.slice o.na 4 o.nc,.slice o.ga o.gs.length o.gc,I_ o.aw,.slice o.ca o.cs.length o.cc]:X_);have c:=zC m (.cells ?A0 31);have s:=hN_ m (.cells ?A0 31);go_upto_region 2 with fail
 generalize m.alloc (.cells ?A0 31)=u at c s|-;have X:=zk c A;have L:=J.below c;have I:=zm H c;have R:m.heap.size≠B:=λe=>by have:=ze A;omega
 generalize m.heap.size=G at s R|-;have d:=dB_ u;have t:=zk d s;have g:=zk d X;have M:=L.below d;have y:=zm I d;have D:C_ u.drew G 0 (.slice o.na 4 o.nc):=zb t 0 _ rfl;refine wR_ (S:=λw'=>R_ w' G ?A0 31/\C_ w' G 0 (.slice o.na 4 o.nc)) (by kernel_rfl) ⟨t,D⟩ (λf=>?_);generalize u.drew=V at t g M y D f|-;clear J L c H z b q A s X d I;refine kW_ ?B0 ?_;exact V.setRow B ?A0;have ab:zex ?B0 o:=zex.put M O.ok g;have aa:=(Upd.setRow (cs:=?A0) g).below y y.size (by rw[Y.out];exact nR_ _);have j:=sH_ V B _ ?A0 _ _ g;have d0:(?B0).cell? (p_ B 0)=some (.slice o.na 4 o.nc):=zb j 0 _ rfl;have d1:(?B0).cell? (p_ B 1)=some (.slice o.ga o.gs.length o.gc):=zb j 1 _ rfl;have d2:(?B0).cell? (p_ B 2)=some (I_ o.aw):=zb j 2 _ rfl;have d3:(?B0).cell? (p_ B 3)=some (.slice o.ca o.cs.length o.cc):=zb j 3 _ rfl;have U:=(sO_ V B G ?A0 R).trans t;have k2:(?B0).cell? (p_ G 0)=some (.slice o.na 4 o.nc):=zb U 0 _ rfl;clear j;refine tQ_ 0 14 (.agg ?A0) rfl rfl (Or.inl ⟨by rfl,λw0 ac=>zL 31 _ rfl G rfl 31 ?A0 (0,0) _ ac.1 underlying31 rfl zli⟩) f ?_;simp only[zf];refine tks_ 8 [(1,15,I_ 0),(2,16,.bool true),(3,17,.bool true),(4,18,(P_ G 0)),(5,19,.slice o.na 4 o.nc),(6,20,I_ 4),(7,21,.bool true),(8,22,.bool true)] f ?_;simp only[tkf_,zf];refine zE 9 rfl (λK9 p=>?_);refine zdW rfl rfl 31 (.tmp 4) (.tmp 14) rfl B ?A0 rfl rfl 31 _ g zli rfl (by simp[Value.oneCell']) ?_;refine p.out _ _ ⟨U,k2⟩ (λf=>?_);refine zU 10 5 (.bool true) rfl rfl f ?_;simp only[zf];refine wD_ (by kernel_rfl) ?_ _;go_wp2_with fail
 exact bP_ (v:=.tuple #[.agg ?A0,.bool true]) (by simp[results,results6,go_sem,d0,d1,d2,d3]) rfl ⟨o,rfl,ab,Z.out,O,aa⟩
variable {w w':World}{n o B cap:Nat}{T:TypeId}{sa:Q_}{xs:List Value}
theorem zdd {b:Nat}{cs:List Value}(h:w.rangeAt b o cs)(d:B_ w w'):w'.rangeAt b o cs:=λj v c=>(d.cell (p:=p_ b (o+j)) (bL_ (h j v c))).trans (h j v c)
theorem zei {s:Nat}(h:w.ownsRow B T s (.slice sa n cap) n xs){k:Nat}(m:k<n){d:List Value}(z:d.length=s)(o:∀t,t<s->xs[k*s+t]? = d[t]?):∃b,sa=some (p_ b 0)/\w.rangeAt b (k*s) d:=by
 have C:=h.1;rcases h.2 with⟨e,A⟩|⟨g,p,r,e,y⟩;omega;cases e;refine⟨g,rfl,λj v c=>?_⟩;have l:j<s:=by
  rcases lG_ j s with q|q;exact q;rw[List.getElem?_eq_none (by omega)]at c;cases c
 have f:k*s+j<n*s:=by
  have:(k+1)*s<=n*s:=Nat.mul_le_mul_right _ m;have u:(k+1)*s=k*s+s:=Nat.succ_mul k s;omega
 rw[World.ownsRow.cellAt h (k*s+j) f,o j l];exact c
def Om.y (o:Om)(i:Nat):Vm:=if i=0 then o.y0 else if i=1 then o.y1 else if i=2 then o.y2 else o.y3
theorem zsL {P:Nat->Prop}(b:P 0)(c:P 1)(d:P 2)(f:P 3):∀i,i<4->P i
 | 0,_=>b
 | 1,_=>c
 | 2,_=>d
 | 3,_=>f
theorem zex.vm {o:Om}(h:zex w o):∀i,i<4->zfX w (o.y i):=zsL h.e0 h.e1 h.e2 h.e3
theorem zjd.vw {o:Om}(h:zjd o):∀i,i<4->zlk (o.y i).v:=zsL h.v0 h.v1 h.v2 h.v3
theorem zex.row {o:Om}(h:zex w o){i:Nat}(c:i<4):∃b,o.na=some (p_ b 0)/\w.rangeAt b (i*6) (o.y i).cs:=by
 refine zei h.nd c (by rfl) (λt d=>?_);refine zsL (P:=λi=>(vmv [o.y0,o.y1,o.y2,o.y3])[i*6+t]? = (o.y i).cs[t]?) ?_ ?_ ?_ ?_ i c
 all_goals
  rcases(by omega:t=0\/t=1\/t=2\/t=3\/t=4\/t=5)with e|e|e|e|e|e<;>subst e<;>rfl
theorem zb0 {o:Om}{f:Fl}(h:o.v=f.told):∀i,i<4->(o.y i).v=f.view ((i:Nat):Int):=
 zsL (cA_ (λx:Ou=>x.v0) h) (cA_ (λx:Ou=>x.v1) h) (cA_ (λx:Ou=>x.v2) h) (cA_ (λx:Ou=>x.v3) h)
theorem zbd {v:Value}{l:List AV}(h:w.ownsRow B 26 4 v l.length (avs l))(r:∀a∈l,a.e=0/\a.t.size<=4000):∃c f,v=.slice c l.length f/\zbq w c l/\(c=none->l.length=0/\f=0):=by
 obtain⟨j,m,d,-,-,p⟩:=zpg h (λa q=>nT_ (r a q).2 (by decide));refine⟨j,m,d,p,λe=>?_⟩;rcases h.2 with⟨b,o⟩|⟨g,s,t,b,_⟩;rw[d]at b;simp only[Value.slice.injEq]at b;exact⟨o,b.2.2⟩;rw[d]at b;cases b;cases e
theorem zhy {a:AV}(h:a.e=0):a.ac.ok:=by
 obtain⟨b,c,d,_⟩:=zn3 h;exact⟨b.1,b.2,c.1,c.2,d.1,d.2⟩
theorem ziz {l:List AV}(h:∀a∈l,a.e=0/\a.t.size<=4000):∀x∈l.map AV.ac,x.ok:=λx c=>by
 obtain⟨a,b,rfl⟩:=mM_.1 c
 exact zhy (h a b).1
theorem zc9 {l m:List AV}(h:∀a∈l,a.e=0/\a.t.size<=4000)(k:∀a∈m,a.e=0/\a.t.size<=4000):∀a∈l++m,a.e=0/\a.t.size<=4000:=λa b=>by
 rcases mA_.1 b with g|g
 .exact h a g
 .exact k a g
variable {rd:Int}
theorem zz3 {l:List CV}{j:Nat}(h:j<l.length):zaM l j∈l:=by
 have e:zaM l j=l[j]:=by simp[zaM,h]
 rw[e];exact gM_ h
theorem CV.d_u8 (c:CV):∀x∈c.d,0<=x/\x<=255:=zzg _ _ _ _
theorem zB1 {l:List CV}{pl:List (L_)}{m:Nat}(h:∀k,k<m->ziM l rd (pl.getD k [])=0):zb5 l rd pl m=0/\zdL l pl m=[]:=by
 induction m with
 | zero=>exact⟨rfl,rfl⟩
 | succ m ih=>
  obtain⟨d,f⟩:=ih (λk j=>h k (by omega));have b:=h m (by omega);refine⟨?_,?_⟩;rw[zb5,d,iN_ (by decide),iP_ b];have c:¬pOf l (pl.getD m [])<0:=by
   intro g;rw[ziM,iP_ g]at b;cases b
  rw[zdL,iN_ c,f]
theorem zCg {l:List CV}{d:L_}(h:0<=pOf l d)(b:(zaM l (pOf l d).toNat).rd=rd-1):ziM l rd d=0:=by
 rw[ziM,iN_ (by omega),iN_ (λg=>g b)]
theorem zCh {l:List CV}{i:Nat}(c:i<l.length):0<=pOf l (zaM l i).d/\(pOf l (zaM l i).d).toNat<=i/\txL (zaM l (pOf l (zaM l i).d).toNat).d=txL (zaM l i).d:=by
 have b:0<=pOf l (zaM l i).d:=by
  rcases Int.lt_or_le (pOf l (zaM l i).d) 0 with h|h;have:=zqP _ _ h i c;simp[zmi]at this;exact h
 have f:=zoq (zmi l (zaM l i).d) l.length b;refine⟨b,?_,of_decide_eq_true f⟩;rcases lG_ i (pOf l (zaM l i).d).toNat with g|g;have d:zaC (zmi l (zaM l i).d) (i+1)=pOf l (zaM l i).d\/zaC (zmi l (zaM l i).d) (i+1)<0:=by
  rcases Int.lt_or_le (zaC (zmi l (zaM l i).d) (i+1)) 0 with q|q;exact .inr q;exact .inl (zm5 _ _ _ q c).symm
 rcases d with q|q;have:=(zkl (zmi l (zaM l i).d) (i+1)).2;omega;have:=zqP _ _ q i (by omega);simp[zmi]at this;exact g
theorem zCt {b ys:L_}(c:∀x∈b,0<=x/\x<=255)(d:∀x∈ys,0<=x/\x<=255)(h:txL b=txL ys):b=ys:=by
 exact ziD c d (zhf h)
variable {i:Int}{k:Nat}{l:List SV}{vl:L_}
theorem zAk {m:Nat}(h:vTo vl m=0)(b:k<=m):vTo vl k=0:=by
 by_cases e:vTo vl k=0;exact e;rw[zs4 vl k m e b]at h;exact h
theorem zAl (h:zep vl=0):3<=vl.length/\∀k,k<vl.length->(0<=vl.getD k 0/\vl.getD k 0<4)/\(0<k->vl.getD (k-1) 0<vl.getD k 0):=by
 unfold zep at h
 split at h
 rename_i g;exact absurd h g
 rename_i g
 split at h
 cases h
 rename_i m
 have g:vTo vl vl.length=0:=by
  by_cases e:vTo vl vl.length=0;exact e;exact absurd e g
 refine⟨by omega,λk d=>?_⟩;have b:=zAk g (show k+1<=vl.length from d);have f:=zAk g (Nat.le_of_lt d);rw[vTo,iN_ (by rw[f];exact λx=>x rfl)]at b;unfold vAt at b
 split at b
 cases b
 rename_i c
 split at b
 cases b
 rename_i l
 have c:0<=vl.getD k 0/\vl.getD k 0<4:=by
  by_cases e:0<=vl.getD k 0/\vl.getD k 0<4;exact e;exact absurd e c
 exact⟨c,λj=>by
  by_cases e:vl.getD k 0<=vl.getD (k-1) 0
  .exact absurd ⟨j,e⟩ l
  .omega⟩
theorem zAq (h:zep vl=0):∃a b c:Int,a∈vl/\b∈vl/\c∈vl/\(0<=a/\a<b/\b<c/\c<4):=by
 obtain⟨p,d⟩:=zAl h;have m:∀k,k<vl.length->vl.getD k 0∈vl:=λk h=>by simp[List.getD,h]
 have g:=d 0 (by omega);have j:=d 1 (by omega);have f:=d 2 (by omega);have l:=j.2 (by omega);have o:=f.2 (by omega);exact⟨vl.getD 0 0,vl.getD 1 0,vl.getD 2 0,m 0 (by omega),m 1 (by omega),m 2 (by omega),g.1.1,l,o,f.1.2⟩
theorem zCi {s:L_}(h:zep vl=0)(k:zep s=0)(t:Int):∃v,v∈vl/\v∈s/\v≠t/\0<=v/\v<4:=by
 obtain⟨a,b,c,d,f,j,q⟩:=zAq h;obtain⟨x,y,z,l,m,o,r⟩:=zAq k;have D:∀v:Int,v∈vl->v∈s->0<=v->v<4->v≠t->∃v,v∈vl/\v∈s/\v≠t/\0<=v/\v<4:=λv F G H I J=>⟨v,F,G,J,H,I⟩;have L:(∃u v:Int,u≠v/\(u∈vl/\u∈s/\0<=u/\u<4)/\(v∈vl/\v∈s/\0<=v/\v<4)):=by
  have A:a=0\/a=1:=by omega
  have X:x=0\/x=1:=by omega
  have B:b=1\/b=2:=by omega
  have Y:y=1\/y=2:=by omega
  have C:c=2\/c=3:=by omega
  have Z:z=2\/z=3:=by omega
  by_cases e1:a=x;subst e1;by_cases e2:b=y;subst e2;exact⟨a,b,by omega,⟨d,l,by omega,by omega⟩,⟨f,m,by omega,by omega⟩⟩;by_cases e3:c=z;subst e3;exact⟨a,c,by omega,⟨d,l,by omega,by omega⟩,⟨j,o,by omega,by omega⟩⟩;by_cases e4:b=z;subst e4;exact⟨a,b,by omega,⟨d,l,by omega,by omega⟩,⟨f,o,by omega,by omega⟩⟩;obtain rfl:c=y:=by omega
  exact⟨a,c,by omega,⟨d,l,by omega,by omega⟩,⟨j,m,by omega,by omega⟩⟩;by_cases e2:c=z;subst e2;by_cases e3:b=y;subst e3;exact⟨b,c,by omega,⟨f,m,by omega,by omega⟩,⟨j,o,by omega,by omega⟩⟩;by_cases e4:a=y;subst e4;exact⟨a,c,by omega,⟨d,m,by omega,by omega⟩,⟨j,o,by omega,by omega⟩⟩;obtain rfl:b=x:=by omega
  exact⟨b,c,by omega,⟨f,l,by omega,by omega⟩,⟨j,o,by omega,by omega⟩⟩;by_cases e3:b=x;subst e3;obtain rfl:c=y:=by omega
  exact⟨b,c,by omega,⟨f,l,by omega,by omega⟩,⟨j,m,by omega,by omega⟩⟩;obtain rfl:a=y:=by omega
  obtain rfl:b=z:=by omega
  exact⟨a,b,by omega,⟨d,m,by omega,by omega⟩,⟨f,o,by omega,by omega⟩⟩
 obtain⟨u,v,E,p,q⟩:=L;by_cases e:u=t;exact D v q.1 q.2.1 q.2.2.1 q.2.2.2 (λg=>E (e.trans g.symm));exact D u p.1 p.2.1 p.2.2.1 p.2.2.2 e
theorem zCu (h:zdt l=0){s t:SV}(D:s∈l)(E:t∈l)(p:s.1=t.1)(q:s.2.1=t.2.1):s=t:=by
 obtain⟨i,u,c⟩:=List.getElem_of_mem D;obtain⟨j,y,d⟩:=List.getElem_of_mem E;have o:∀k (z:k<l.length),zd1 l k=l[k]:=λk z=>by simp[zd1,List.getD,z]
 have no:∀a b (r:a<l.length) (m:b<l.length),a<b->(l[a]).1=(l[b]).1->(l[a]).2.1=(l[b]).2.1->False:=λa b r m C A B=>by
  have f:=(zmY h).2 b m;rw[zeD,Bool.or_eq_false_iff]at f;have f:=f.2;simp only[zff,List.any_eq_false]at f;refine f a (by simpa using C) ?_;rw[hit,o a r,o b m];exact dT_ ⟨A,B⟩
 rcases Nat.lt_trichotomy i j with g|g|g;exact(no i j u y g (by rw[c,d];exact p) (by rw[c,d];exact q)).elim;subst g;rw[<-c,<-d];exact(no j i y u g (by rw[c,d];exact p.symm) (by rw[c,d];exact q.symm)).elim
theorem zAx {k:Kn}{m:MC}{c:CV}(h:c∈(k.rcl m).dag):c∈k.dag\/(m.ki=4/\m.ct=c):=by
 unfold Kn.rcl at h
 split at h
 split at h<;>exact .inl h
 split at h
 split at h<;>exact .inl h
 split at h
 exact .inl h
 split at h
 rename_i e
 split at h
 rcases mA_.1 h with g|g;exact .inl g;exact .inr ⟨e,(mS_.1 g).symm⟩;exact .inl h;exact .inl h
theorem zAr (l:List MC)(k:Kn){c:CV}(h:c∈(l.foldl Kn.rcl k).dag):c∈k.dag\/∃m∈l,m.ki=4/\m.ct=c:=by
 induction l generalizing k with
 | nil=>exact .inl h
 | cons m l ih=>
  rcases ih (k.rcl m) h with g|⟨x,b,e⟩;rcases zAx g with g|g;exact .inl g;exact .inr ⟨m,by simp,g⟩;exact .inr ⟨x,mC_ _ b,e⟩
theorem zgO.proven {f:Fl}(h:zgO f){i:Int}(d:0<=i/\i<4){c:CV}(b:c∈(f.node i).k.dag):zzQ f.no c:=by
 rw[(h.good i d).tape]at b;rcases zAr _ _ b with g|⟨m,j,e,g⟩;cases g;rw[<-g];exact h.prov i d m j e
theorem CV.voters {c:CV}(h:c.f=0):zep c.vl=0:=by
 unfold CV.f zap at h
 split at h
 rename_i g;exact absurd h g
 split at h
 cases h;exact h
theorem zgO.one {f:Fl}(h:zgO f){i j:Int}(C:0<=i/\i<4)(D:0<=j/\j<4){c d:CV}(A:c∈(f.node i).k.dag)(B:d∈(f.node j).k.dag)(y:c.au=d.au)(z:c.rd=d.rd):c.d=d.d:=by
 have r:=h.proven C A;have s:=h.proven D B;obtain⟨v,I,J,q,N,O⟩:=zCi (CV.voters r.1) (CV.voters s.1) f.no.bad;have L:=(r.2 v (.inr I)).resolve_left q;have M:=(s.2 v (.inr J)).resolve_left q;obtain⟨_,_,t,E,g,l,b⟩:=h.sgn _ L;obtain⟨_,_,u,F,m,o,p⟩:=h.sgn _ M;obtain⟨x,G⟩:=zzM (f.node v).syn (f.node v).recs;have H:=((h.good v ⟨N,O⟩).each _ _ G).tab;have g:t.1=c.au:=g;have l:t.2.1=c.rd:=l;have m:u.1=d.au:=m;have o:u.2.1=d.rd:=o;have e:=zCu H E F (by rw[g,m,y]) (by rw[l,o,z]);rw[e]at b;have b:txL u.2.2=txL c.d:=b;have p:txL u.2.2=txL d.d:=p;exact zCt c.d_u8 d.d_u8 (b.symm.trans p)
theorem zBA {f:Fl}{c:CV}(h:c∈(f.view i).cs):c∈(f.node i).k.dag:=by
 unfold Fl.view at h
 split at h
 cases h;exact h
theorem zCv (r:Int)(l:List Ac)(q:∀a∈l,a.ok){i j:Int}(o:0<=i/\i<4)(p:0<=j/\j<4){c d:CV}(g:c∈(((Fl.z r).run l).view i).cs)(m:d∈(((Fl.z r).run l).view j).cs)(b:c.au=d.au)(f:c.rd=d.rd):c.d=d.d:=
 (zgO.run l (zgO.z r) q).one o p (zBA g) (zBA m) b f
variable {base fuel:Nat}{W:World}
theorem cS:prog.cellsOf 9=1:=by kernel_rfl
theorem cBl:prog.cellsOf 4=1:=by kernel_rfl
theorem c3B:prog.cellsOf 103=3:=by kernel_rfl
theorem cKd:prog.cellsOf 105=4:=by kernel_rfl
theorem zzr {cs:List Value}{i:Nat}{v:Value}(h:(cs.drop i).take 1=[v]):cs[i]? = some v:=by
 have:=cA_ (·[0]?) h
 simpa[List.getElem?_take,List.getElem?_drop]using this
theorem zmM {H:Type}{G:TypeId×Value->H}{Z:Nat->Bool}{J:Bool}{cs:List Value}{ds:List (DataW H)}{p:List MemPlace}
  (h:DataW.trod G prog w base Z J fuel 106 cs=some (.agg ds,p)) (i:Nat) (L:i<11) (l:List UInt8) (a b c:Bool) (B:ds[i]? = some (.agg [.lit (.string l),.agg [.lit (.bool a),.lit (.bool b),.lit (.bool c)]])) :
  cs[i*4]? = some (.string ⟨l.toArray⟩)/\cs[i*4+1]? = some (.bool a)/\cs[i*4+2]? = some (.bool b)/\cs[i*4+3]? = some (.bool c):=by
 obtain⟨y,f,rfl,R,hl,hn,N⟩:=DataW.trod_array underlying106 h;have V:ds=y.map (·.1):=by
  have:=cA_ Prod.fst R
  simpa using this
 have E:=N i L;have C:i<y.length:=by omega
 rw[List.getElem?_eq_getElem C,cKd]at E;have t:(y[i]).1=.agg [.lit (.string l),.agg [.lit (.bool a),.lit (.bool b),.lit (.bool c)]]:=by
  rw[V,List.getElem?_map,List.getElem?_eq_getElem C]at B
  simpa using B
 obtain⟨y0,y1,m,I,_,z,A⟩:=Go.ChangeShapes.trod_struct2 underlying105 E;rw[I]at t;simp only[DataW.agg.injEq,List.cons.injEq,and_true]at t;obtain⟨d,o⟩:=t;simp only[cS,c3B,List.drop_zero]at z A;obtain⟨s,F,O,_⟩:=DataW.trod_string underlying9 z;obtain⟨zs,g,_,X,_,aa,Y⟩:=DataW.trod_array underlying103 A;rw[O]at d;rw[X]at o;simp only[DataW.lit.injEq,Lit.string.injEq]at d;simp only[DataW.agg.injEq]at o;have r:∀j,j<3->∀v:Bool,[DataW.lit (H:=H) (.bool a),.lit (.bool b),.lit (.bool c)][j]? = some (.lit (.bool v))->cs[i*4+1+j]? = some (.bool v):=by
  intro j M v u;have D:=Y j M;rw[List.getElem?_eq_getElem (by omega),cBl]at D;obtain⟨x,T,U⟩:=DataW.trod_bool underlying4 D;have:x=v:=by
   rw[<-o,List.getElem?_map,List.getElem?_eq_getElem (by omega)]at u;simp[U]at u;exact u
  subst this;have q:=cA_ (·[0]?) T;obtain rfl|rfl|rfl:j=0\/j=1\/j=2:=by omega
  all_goals simpa[List.getElem?_take,List.getElem?_drop,Nat.add_assoc]using q
 refine⟨?_,r 0 (by omega) a rfl,r 1 (by omega) b rfl,r 2 (by omega) c rfl⟩;rw[List.take_take,show min 1 4=1 by rfl]at F;have q:=zzr F;rw[q]
 congr 2
 rw[<-d]
theorem zyR:(prog.globals[0]?).map (·.type)=some 106:=by kernel_rfl
theorem zsN:Rows.laid_sheaves_lines_kinds (H:=Unit)=.agg ((List.range 11).map λk:Nat=>.agg [.lit (.string (zn2 (k:Int))),.agg [.lit (.bool (hN (k:Int))),.lit (.bool (hP (k:Int))),.lit (.bool (hT (k:Int)))]]):=by rfl
theorem zxP {l:String}{r:List (String×DataW Unit)}(g:prog.globalNamed l=some 0)(h:laidMet prog ((l,Rows.laid_sheaves_lines_kinds)::r) W):zcw W:=by
 obtain⟨y,⟨u,t',cs,t,p,q,m,o,s,f,_,_⟩,_⟩:=h;obtain rfl:=Option.some.inj (g.symm.trans m);obtain rfl:=Option.some.inj (zyR.symm.trans o);rw[zsN]at f;have H:∀k:Nat,k<11->_:=λk j=>zmM f k j (zn2 k) (hN k) (hP k) (hT k) (by rw[List.getElem?_map,List.getElem?_range j];rfl);have b:=λi=>World.var?_cell g s i;refine⟨λk c d=>?_,λk c d=>?_,λk c d=>?_,λk c d=>?_⟩;rw[b,<-Array.getElem?_toList];exact(H k (by omega)).1;rw[b,<-Array.getElem?_toList];exact(H k (by omega)).2.1;rw[b,<-Array.getElem?_toList];exact(H k (by omega)).2.2.1;rw[b,<-Array.getElem?_toList];exact(H k (by omega)).2.2.2
theorem zwx {j n2 l b:String}{c d f:DataW Unit}(g:prog.globalNamed b=some 0)
  (h:laidMet prog [(j,c),(n2,d),(l,f),(b,Rows.laid_sheaves_lines_kinds)] W):zcw W:=zxP g h.tail.tail.tail
variable {P:Program}
theorem zjv {H:Type}{g:TypeId×Value->H}{u:Nat->Bool}{l:Bool}{t e i:TypeId}{m:Nat}{k:IntKind}{cs:List Value}{d:List (L_)}{p:List MemPlace}
  (N:P.underlying t=some (.array n e)) (B:P.underlying e=some (.array m i)) (C:P.underlying i=some (.int k)) (A:P.cellsOf i=1) (j:P.cellsOf e=m) (E:0<m)
  (h:DataW.trod g P w base u l fuel t cs=some (.agg (d.map (Lib.tabData k)),p)) (q:Nat) (G:q<n*m):cs[q]? = ((d.getD (q / m) []).map (Value.int k))[q % m]?:=by
 obtain⟨b,f,rfl,O,T,F,I⟩:=DataW.trod_array N h;have o:=Nat.div_lt_of_lt_mul (by rw[Nat.mul_comm];exact G);have s:=I (q / m) o;have R:b.map (·.1)=d.map (Lib.tabData k):=by
  have:=cA_ Prod.fst O
  simpa using this.symm
 have c:(b.map (·.1))[q / m]? = some (b[q / m]'(by omega)).1:=by simp[F,o]
 rw[R]at c;simp only[List.getElem?_map,Option.map_eq_some_iff]at c;obtain⟨r,J,L⟩:=c;rw[List.getElem?_eq_getElem (by omega),j]at s;have M:DataW.trod g P w base u l f e ((cs.drop (q / m*m)).take m)=some (Lib.tabData k r,(b[q / m]'(by omega)).2):=by
  rw[s,L]
 have z:=Lib.cells_of_tab B C A j M;have D:q % m<m:=Nat.mod_lt _ E;have y:((cs.drop (q / m*m)).take m)[q % m]? = cs[q]?:=by
  rw[List.getElem?_take,iP_ D,List.getElem?_drop,Nat.mul_comm,Nat.div_add_mod]
 rw[<-y,z];simp[List.getD,J]
theorem zyS:(prog.globals[1]?).map (·.type)=some 244:=by kernel_rfl
theorem zxQ:(prog.globals[2]?).map (·.type)=some 274:=by kernel_rfl
theorem zyT:(prog.globals[3]?).map (·.type)=some 276:=by kernel_rfl
theorem zzI:prog.cellsOf 243=1:=by kernel_rfl
theorem zzt:prog.cellsOf 244=8:=by kernel_rfl
theorem zzu:prog.cellsOf 273=16:=by kernel_rfl
theorem zzJ:prog.cellsOf 275=4:=by kernel_rfl
def zrg:List (L_):=[[0,1,2,3,4,5,6,7,8,9,10,11,12,13,14,15],[14,10,4,8,9,15,13,6,1,12,0,2,11,7,5,3],[11,8,12,0,5,2,15,13,10,14,3,6,7,1,9,4],[7,9,3,1,13,12,11,14,2,6,5,10,4,0,15,8],[9,0,5,7,2,4,10,15,14,1,11,12,6,8,3,13],[2,12,6,10,0,11,8,3,4,13,7,5,15,14,1,9],[12,5,1,15,14,13,4,10,0,7,6,3,9,2,8,11],[13,11,7,14,12,1,3,9,5,0,15,4,8,6,2,10],[6,15,14,9,11,3,0,8,12,2,13,7,1,4,10,5],[10,2,8,4,7,6,1,5,15,11,9,14,3,12,13,0]]
def zpD:List (L_):=[[0,4,8,12],[1,5,9,13],[2,6,10,14],[3,7,11,15],[0,5,10,15],[1,6,11,12],[2,7,8,13],[3,4,9,14]]
theorem zpE:∀q,q<160->(zrg.getD (q / 16) [])[q % 16]? = some ((zhT.getD q 0:Nat):Int):=by decide +kernel
theorem znV:∀q,q<32->(zpD.getD (q / 4) [])[q % 4]? = some ((zaH.getD q 0:Nat):Int):=by decide +kernel
theorem zyU:Rows.laid_sheaves_blake_firstWords (H:=Unit)=Lib.tabData .u32 fw:=rfl
theorem zxR:Rows.laid_sheaves_blake_orders (H:=Unit)=.agg (zrg.map (Lib.tabData .u8)):=rfl
theorem zyV:Rows.laid_sheaves_blake_lanes (H:=Unit)=.agg (zpD.map (Lib.tabData .u8)):=rfl
theorem zpF {z n2 A:String}{r:List (String×DataW Unit)}(s:prog.globalNamed z=some 1)(u:prog.globalNamed n2=some 2)(t:prog.globalNamed A=some 3)
  (d:laidMet prog ((z,Rows.laid_sheaves_blake_firstWords)::(n2,Rows.laid_sheaves_blake_orders)::(A,Rows.laid_sheaves_blake_lanes)::r) W):za2 W:=by
 have f:=d.tail;have y:=f.tail;rw[zyU]at d;rw[zxR]at f;rw[zyV]at y;have E:=Lib.tabIs_of_head s zyS underlying244 underlying243 zzI zzt d;refine⟨λi b=>E.cell s i b,λi b=>?_,λi b=>?_⟩;obtain⟨D,⟨C,t',cs,B,p,q,l,m,o,j,_,_⟩,_⟩:=f;obtain rfl:=Option.some.inj (u.symm.trans l);obtain rfl:=Option.some.inj (zxQ.symm.trans m);have g:=World.var?_cell u o i;have c:=zjv underlying274 underlying273 underlying5 cU8 zzu (by decide) j i b;rw[g];have:=zpE i b
 rotate_left
 obtain⟨D,⟨C,t',cs,B,p,q,l,m,o,j,_,_⟩,_⟩:=y;obtain rfl:=Option.some.inj (t.symm.trans l);obtain rfl:=Option.some.inj (zyT.symm.trans m);have g:=World.var?_cell t o i;have c:=zjv underlying276 underlying275 underlying5 cU8 zzJ (by decide) j i b;rw[g];have:=znV i b
 rotate_left
 all_goals
  simp only[List.getElem?_map,this,Option.map_some]at c
  simpa using c
theorem tabsB_of {b n2 c d:String}(f:prog.globalNamed b=some 1)(g:prog.globalNamed n2=some 2)(j:prog.globalNamed c=some 3)(l:prog.globalNamed d=some 0)
  (h:laidMet prog [(b,Rows.laid_sheaves_blake_firstWords),(n2,Rows.laid_sheaves_blake_orders),(c,Rows.laid_sheaves_blake_lanes),(d,Rows.laid_sheaves_lines_kinds)] W):zcw W/\za2 W:=⟨zwx l h,zpF f g j h⟩
def zhd:Nat->List AV
 | 0=>[]
 | k+1=>zhd k++[⟨8,k,0,⟨#[]⟩⟩]
def zfg:Nat->List AV
 | 0=>[]
 | k+1=>zfg k++[⟨2,k,0,⟨#[]⟩⟩,⟨3,k,0,⟨#[]⟩⟩]
def zdc (R:Nat):List AV:=match R with
 | 0=>zhd 4
 | R+1=>zdc R++zfg 4++[⟨10,0,0,⟨#[]⟩⟩]
theorem zB2 (k:Nat)(c:k<=4):∀a∈zhd k,a.e=0/\a.t.size<=4000:=by
 induction k with
 | zero=>intro a b;cases b
 | succ k ih=>
  refine zc9 (ih (by omega)) (λa b=>?_);rw[mS_.1 b];exact⟨zaL _ _ _ _ (by decide) (by omega) (by decide) (by decide) (λh=>by cases h) (λ_=>rfl) (λ_=>rfl),by show ByteArray.size ⟨#[]⟩<=4000;decide⟩
theorem zCj (k:Nat)(hk:k<=4):∀a∈zfg k,a.e=0/\a.t.size<=4000:=by
 induction k with
 | zero=>intro a ha;cases ha
 | succ k ih=>
  refine zc9 (ih (by omega)) (λa ha=>?_);simp only[List.mem_cons,List.not_mem_nil,or_false]at ha;rcases ha with e|e<;>subst e<;>exact⟨zaL _ _ _ _ (by decide) (by omega) (by decide) (by decide) (λh=>by cases h) (λ_=>rfl) (λ_=>rfl),by show ByteArray.size ⟨#[]⟩<=4000;decide⟩
theorem zBB (R:Nat):∀a∈zdc R,a.e=0/\a.t.size<=4000:=by
 induction R with
 | zero=>exact zB2 4 (nR_ _)
 | succ R ih=>
  refine zc9 (zc9 ih (zCj 4 (nR_ _))) (λa b=>?_);rw[mS_.1 b];exact⟨zaL _ _ _ _ (by decide) (by decide) (by decide) (by decide) (λ_=>rfl) (λ_=>rfl) (λ_=>rfl),by show ByteArray.size ⟨#[]⟩<=4000;decide⟩
theorem zCk (R:Nat):(zdc R).length=4+9*R:=by
 induction R with
 | zero=>rfl
 | succ R ih=>rw[zdc,lP_,lP_,ih];show 4+9*R+8+1=_;omega
end Go.Proofs.YtpnpikpmdfipfaaGreatDoor
