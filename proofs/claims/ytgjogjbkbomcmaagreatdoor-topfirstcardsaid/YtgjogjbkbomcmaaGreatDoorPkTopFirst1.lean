import Derived.Test.YtgjogjbkbomcmaaGreatDoorPkTopFirst0
import Derived.Test.YtgjogjbkbomcmaaGreatDoorPk21
set_option maxRecDepth 100000
set_option maxHeartbeats 4000000
namespace Go.Proofs.YtgjogjbkbomcmaaGreatDoor
open Go.RowKit _root_.Go.Proofs.Tryz
variable {B:Nat}{i:Int}
def wgt (m:MC):Nat:=if m.ki=2 then 1 else if m.ki=3 then 3 else if m.ki=5 then 8 else 0
def zjS (l:List MC):Nat:=(l.map wgt).sum
def zfV (k:Int)(l:List MC):Nat:=(l.filter λm=>decide (m.ki=k)).length
theorem zAD (m:MC)(l:List MC):zjS (m::l)=wgt m+zjS l:=rfl
theorem zA0 (l r:List MC):zjS (l++r)=zjS l+zjS r:=by simp[zjS]
theorem zAJ (k:Int)(l r:List MC):zfV k (l++r)=zfV k l+zfV k r:=by simp[zfV]
theorem zAU (k:Int)(m:MC)(l:List MC):zfV k (m::l)=(if m.ki=k then 1 else 0)+zfV k l:=by
 unfold zfV;rw[List.filter_cons];by_cases h:m.ki=k<;>simp[h];omega
def CP (b:Int)(L:Nat)(i:Int)(o:No)(n:Nd):Prop:=0<=cOf n.k.dag i ((L:Int)+1)->∃c,c.au=i/\c.rd=(L:Int)+1/\Leg b (L+1) c/\zzQ o c/\∀k:Nat,k<4->(k:Int)≠i->(zdh c).ft i k∈n.wai
structure HR (b:Int)(L:Nat)(i:Int)(o:No)(B C:Nat)(m:MC)(n n':Nd):Prop where
 res:Res b L i o (wgt m) (decide (m.ki=2)) n n'
 vot:∀v∈n.vot,v∈n'.vot
 dag:∃e,n'.k.dag=n.k.dag++e
 one:B<=L->C<=L->n'.k.dag=n.k.dag/\n'.vot=n.vot
 two:C<=L->∀c∈n'.k.dag,c∈n.k.dag\/c.au=i
 cp:C<=L->n.wai.length<=390->CP b L i o n->CP b L i o n'
 po:m.ki=2->m.fr≠i->n.wai.length<400->(zcE m.h.slot).ft i m.fr∈n'.wai
 pv:m.ki=3->m.s=(Hx b L i).slot->m.fr∈n'.vot\/0<=cOf n'.k.dag i ((L:Int)+1)
 pp:m.ki=4->0<=cOf n'.k.dag m.ct.au m.ct.rd
theorem CP.keep {b:Int}{L:Nat}{o:No}{n d:Nd}(h:CP b L i o n)(p:d.k.dag=n.k.dag)(u:∃e,d.wai=n.wai++e):CP b L i o d:=by
 intro q;rw[p]at q;obtain⟨c,f,g,j,l,m⟩:=h q;obtain⟨e,r⟩:=u;exact⟨c,f,g,j,l,λk s t=>by rw[r];exact mA_.2 (.inl (m k s t))⟩
theorem Res.more {b:Int}{L:Nat}{o:No}{w:Nat}{f:Bool}{n c:Nd}(h:Res b L i o w f n c):∃e,c.wai=n.wai++e:=by
 obtain⟨e,d,_⟩:=h.wai;exact⟨e,d⟩
theorem zCr (n:Nd)(o:No)(fr:Int)(s:SV):∀v∈n.vot,v∈(n.hearV o fr s).vot:=by
 intro v b;unfold Nd.hearV
 split
 exact b
 split
 exact mA_.2 (.inl b)
 split
 rw[zqJ];unfold Nd.hearP
 split<;>exact mA_.2 (.inl b)
 exact mA_.2 (.inl b)
theorem zCU {b:Int}{L:Nat}{o:No}{n:Nd}{A C:Nat}(J:NC b)(H:L<=5)(U:Gd b i)(g:Gen b i o n)(h:NB b L i n)(G:NO b L i o n)(hA:A<=L+1)(hB:B<=L+1)(R:C<=L+1){m:MC}(I:MsA b A B C o m) :
  HR b L i o B C m n (n.hear o m):=by
 obtain⟨N,I⟩:=I;rcases I with⟨k,r,X,f,y⟩|⟨k,⟨j,r,V,X,f⟩,y⟩|⟨k,f,y⟩|k;have e:n.hear o m=n.hearO o (Hx b r m.fr):=by unfold Nd.hear;rw[iN_ (by omega),iP_ k,f]
 rw[f]at y;obtain⟨t,d,u,D⟩:=zCn J H g h G N (by omega:r<L+1) y;have z:wgt m=1:=by unfold wgt;rw[iP_ k]
 rw[e];refine⟨by rw[z,dT_ k];exact t,λv E=>by rw[u];exact E,⟨[],by rw[d,List.append_nil]⟩,λ_ _=>⟨d,u⟩,λ_ c l=>.inl (by rw[<-d];exact l),λ_ _ q=>q.keep d t.more,λ_ Z F=>by rw[f];exact D Z F,λq=>by omega,λq=>by omega⟩;have e:n.hear o m=n.hearV o m.fr (Hx b r j).slot:=by unfold Nd.hear;rw[iN_ (by omega),iN_ (by omega),iP_ k,f]
 rw[f]at y;obtain⟨t,d,u,D⟩:=zCq J H U g h G N V (by omega:r<L+1) y;have z:wgt m=3:=by unfold wgt;rw[iN_ (by omega),iP_ k]
 rw[e];refine⟨by rw[z,dF_ (by omega)];exact t,zCr n o m.fr _,?_,λq _=>?_,?_,?_,λq=>by omega,λ_ q=>?_,λq=>by omega⟩;rcases D with q|⟨c,q,_⟩;exact⟨[],by rw[q,List.append_nil]⟩;exact⟨[c],q⟩;rw[d (by omega)];exact⟨rfl,rfl⟩;intro _ c l;rcases D with q|⟨x,q,F,_⟩;exact .inl (by rw[<-q];exact l);rw[q]at l;rcases mA_.1 l with p|p;exact .inl p;rw[mS_.1 p];exact .inr F;intro _ Y T;rcases D with q|⟨x,q,F,q3,q4,q5,q6⟩;exact T.keep q t.more;exact λ_=>⟨x,F,q3,q4,q5,q6 Y⟩;rw[f]at q;have O:r=L:=by
  have:((r:Int)+1)=(L:Int)+1:=cA_ (λs:SV=>s.2.1) q;omega
 exact u O (cA_ (λs:SV=>s.1) q);have e:n.hear o m=n.hearP o m.ct:=by unfold Nd.hear;rw[iN_ (by omega),iN_ (by omega),iN_ (by omega),iP_ k]
 obtain⟨t,d,u,D⟩:=zCo J H g h G (f.mono R) y;have z:wgt m=0:=by unfold wgt;rw[iN_ (by omega),iN_ (by omega),iN_ (by omega)]
 rw[e];have M:C<=L->n.hearP o m.ct=n:=λq=>D (f.mono q);refine⟨by rw[z,dF_ (by omega)];exact t,λv E=>by rw[u];exact E,?_,λ_ q=>by rw[M q];exact⟨rfl,rfl⟩,λq c l=>by rw[M q]at l;exact .inl l,λq _ p=>by rw[M q];exact p,λq=>by omega,λq=>by omega,λ_=>d⟩;unfold Nd.hearP
 split
 exact⟨[m.ct],rfl⟩;exact⟨[],by rw[List.append_nil]⟩;have e:n.hear o m=n.hearW m.fr m.ro:=by unfold Nd.hear;rw[iN_ (by omega),iN_ (by omega),iN_ (by omega),iN_ (by omega),iP_ k]
 obtain⟨t,d,u⟩:=zCp g h G m.fr m.ro;have z:wgt m=8:=by unfold wgt;rw[iN_ (by omega),iN_ (by omega),iP_ k]
 rw[e];exact⟨by rw[z,dF_ (by omega)];exact t,λv E=>by rw[u];exact E,⟨[],by rw[d,List.append_nil]⟩,λ_ _=>⟨d,u⟩,λ_ c l=>.inl (by rw[<-d];exact l),λ_ _ q=>q.keep d t.more,λq=>by omega,λq=>by omega,λq=>by omega⟩
def Rch (b:Int)(f:Fl):Prop:=∃l:List Ac,(∀a∈l,a.ok)/\f=(Fl.z b).run l
theorem Rch.does {b:Int}{f:Fl}(h:Rch b f){a:Ac}(c:a.ok):Rch b (f.does a):=by
 obtain⟨l,d,rfl⟩:=h;exact⟨l++[a],(λx g=>by
  rcases mA_.1 g with q|q
  .exact d x q
  .rw[mS_.1 q];exact c),by rw[Fl.zwo]⟩
theorem Rch.safe {b:Int}{f:Fl}(h:Rch b f):zgO f:=by
 obtain⟨l,c,rfl⟩:=h;exact zgO.run l (zgO.z b) c
theorem Rch.len {b:Int}{f:Fl}(h:Rch b f):f.nd.length=4:=by
 obtain⟨l,c,rfl⟩:=h;exact zjf b l
theorem Rch.bad {b:Int}{f:Fl}(h:Rch b f):f.no.bad=b:=by
 obtain⟨l,c,rfl⟩:=h;exact zxU l _
theorem Rch.gen {b:Int}(m:-1<=b/\b<=3){f:Fl}(h:Rch b f){i:Int}(d:0<=i/\i<4):Gen b i f.no (f.node i):=by
 have j:=h.safe;refine⟨m,h.bad,?_,?_,(j.good i d).now,λc o=>j.proven d o⟩;obtain⟨l,g,rfl⟩:=h;exact zC6 l _ g (by rfl);obtain⟨l,g,rfl⟩:=h;exact zC9 b l g d
def tkA:Ac:=⟨4,0,0,ByteArray.empty⟩
theorem zpJ:tkA.ok:=zzP (by decide) (by decide) (by decide)
theorem zBT {f:Fl}{m:MC}{l:List MC}(h:f.away=m::l):f.does tkA={ f.come m.tt m with away:=l }:=by
 have e:f={ f with away:=m::l }:=by rw[<-h]
 rw[zuX (.inl rfl)];show f.pick 4 0=_;rw[e,zsT,<-e]
theorem zCI {f:Fl}(h:f.away=[]):f.flow=f:=by
 rw[zfw,h];show({ f with away:=[] }:Fl)=f;rw[<-h]
theorem zBo {f:Fl}{m:MC}{l:List MC}(h:f.away=m::l):f.flow=(f.does tkA).flow:=by
 rw[zBT h,zfw,zfw,h];show comes (({ f with away:=[] }:Fl).come m.tt m) l=comes { f.come m.tt m with away:=[] } l;rw[zfD]
def zeV (n:Nd):Nat:=n.wai.length
def zzO (n:Nd):Nat:=zfV 3 n.wai
def tot (b:Int)(p:Nd->Nat)(f:Fl):Nat:=(if 0=b then 0 else p (f.node 0))+(if 1=b then 0 else p (f.node 1))+(if 2=b then 0 else p (f.node 2))+(if 3=b then 0 else p (f.node 3))
theorem zAK {b:Int}{p:Nd->Nat}{f g:Fl}{t:Int}{w v:Nat}(j:0<=t/\t<4)(d:t≠b)(c:∀k,0<=k->k≠t->g.node k=f.node k)(h:p (g.node t)+v<=p (f.node t)+w):tot b p g+v<=tot b p f+w:=by
 unfold tot;rcases(by omega:t=0\/t=1\/t=2\/t=3)with e|e|e|e<;>subst e;rw[c 1 (by decide) (by decide),c 2 (by decide) (by decide),c 3 (by decide) (by decide),iN_ d,iN_ d];omega;rw[c 0 (by decide) (by decide),c 2 (by decide) (by decide),c 3 (by decide) (by decide),iN_ d,iN_ d];omega;rw[c 0 (by decide) (by decide),c 1 (by decide) (by decide),c 3 (by decide) (by decide),iN_ d,iN_ d];omega;rw[c 0 (by decide) (by decide),c 1 (by decide) (by decide),c 2 (by decide) (by decide),iN_ d,iN_ d];omega
theorem zBg {b:Int}{p:Nd->Nat}{f:Fl}(c:Gd b i):p (f.node i)<=tot b p f:=by
 have g:=c.1;have d:=c.2;unfold tot;rcases(by omega:i=0\/i=1\/i=2\/i=3)with e|e|e|e<;>subst e<;>rw[iN_ d]<;>omega
structure FI (b:Int)(L A B C:Nat)(f:Fl):Prop where
 re:Rch b f
 nb:∀i,Gd b i->NB b L i (f.node i)
 no:∀i,Gd b i->NO b L i f.no (f.node i)
 aw:∀m∈f.away,MsA b A B C f.no m
 to_:∀m∈f.away,0<=m.tt/\m.tt<4
 wa:∀i,Gd b i->∀x∈(f.node i).wai,MsW b (L+1) i f.no x/\((x.ki=4/\x.ct∈(f.node i).k.dag)\/x.ki=3)
 tl:tot b zeV f+zjS f.away<=80
 tv:tot b zzO f+zfV 2 f.away<=12
structure Cst (b:Int)(L A B C:Nat):Prop where
 hb:-1<=b/\b<=3
 hn:NC b
 hL:L<=5
 hA:A<=L+1
 hB:B<=L+1
 hC:C<=L+1
theorem Gd.runs {b L A B C i}{f:Fl}(h:FI b L A B C f)(c:Gd b i):f.runs i=true:=by
 rw[ziy (by rw[h.re.bad];exact c.2)];exact(h.nb i c).up
theorem FI.step {b L A B C}(k:Cst b L A B C){f:Fl}(h:FI b L A B C f){m:MC}{l:List MC}(e:f.away=m::l) :
  FI b L A B C (f.does tkA)/\(f.does tkA).away=l/\(f.does tkA).no=f.no/\∀i,Gd b i->((f.does tkA).node i=f.node i/\m.tt≠i)\/(m.tt=i/\HR b L i f.no B C m (f.node i) ((f.does tkA).node i)):=by
 have R:=h.re.does (a:=tkA) zpJ;have U:=h.re.len;have y:=h.to_ m (by rw[e];simp);have X:=h.aw m (by rw[e];simp);have Y:=h.tl;have Z:=h.tv;rw[e,zAD]at Y;rw[e,zAU]at Z;have I:∀x∈l,x∈f.away:=λx o=>by rw[e];exact mC_ _ o
 rw[zBT e]at R|-;have s:({ f.come m.tt m with away:=l }:Fl).no=f.no:=zew _ _ _;have d:∀i,({ f.come m.tt m with away:=l }:Fl).node i=(f.come m.tt m).node i:=λi=>rfl;refine⟨?_,rfl,s,?_⟩
 all_goals
  by_cases hr:f.runs m.tt=true
  .have t:Gd b m.tt:=⟨y,by rw[<-h.re.bad];exact zAv hr⟩;have r:f.come m.tt m=f.set m.tt ((f.node m.tt).hear f.no m):=iP_ hr;have u:(f.come m.tt m).node m.tt=(f.node m.tt).hear f.no m:=by rw[r,set_here _ U y]
   have D:∀j,0<=j->j≠m.tt->(f.come m.tt m).node j=f.node j:=λj F G=>by rw[r,set_there _ y.1 F G]
   have H:=zCU (A:=A) (B:=B) (C:=C) k.hn k.hL t (h.re.gen k.hb y) (h.nb _ t) (h.no _ t) k.hA k.hB k.hC X
   first
    | (
     refine⟨R,λi c=>?_,λi c=>?_,λx o=>by rw[s];exact h.aw x (I x o),λx o=>h.to_ x (I x o),λi c=>?_,?_,?_⟩
     .rw[d];by_cases q:i=m.tt
      .subst q;rw[u];exact H.res.nb
      .rw[D i c.1.1 q];exact h.nb i c
     .rw[d,s];by_cases q:i=m.tt
      .subst q;rw[u];exact H.res.no
      .rw[D i c.1.1 q];exact h.no i c
     .rw[d,s];by_cases q:i=m.tt
      .subst q;rw[u];obtain⟨T,E,_,O⟩:=H.res.wai;obtain⟨dg,V⟩:=H.dag;rw[E];intro x o;rcases mA_.1 o with p|p
       .obtain⟨J,M⟩:=h.wa _ t x p;exact⟨J,M.imp (λz=>⟨z.1,by rw[V];exact mA_.2 (.inl z.2)⟩) id⟩
       .obtain⟨J,M⟩:=O x p;exact⟨J,M.imp id (λz=>z.1)⟩
      .rw[D i c.1.1 q];exact h.wa i c
     .have:=zAK (b:=b) (p:=zeV) (f:=f) (g:=({ f.come m.tt m with away:=l }:Fl)) (w:=wgt m) (v:=0) y t.2 (λj F G=>D j F G) (by
       obtain⟨T,E,N,_⟩:=H.res.wai;rw[d,u];unfold zeV;rw[E,lP_];omega)
      show _+zjS l<=80;omega
     .have:=zAK (b:=b) (p:=zzO) (f:=f) (g:=({ f.come m.tt m with away:=l }:Fl)) (w:=if m.ki=2 then 1 else 0) (v:=0) y t.2 (λj F G=>D j F G) (by
       obtain⟨T,E,N,O⟩:=H.res.wai;rw[d,u];unfold zzO;rw[E,zAJ,Nat.add_zero];refine Nat.add_le_add_left ?_ _;by_cases q:m.ki=2
       .rw[iP_ q];have hw:wgt m=1:=by unfold wgt;rw[iP_ q]
        rw[hw]at N;exact nT_ (List.length_filter_le _ _) N
       .rw[iN_ q];unfold zfV;rw[List.filter_eq_nil_iff.2 (λx o=>by
         rcases(O x o).2 with z|z
         .have:=z.1;simp;omega
         .have:=of_decide_eq_true z.2;exact absurd this q)]
        exact nR_ _)
      show _+zfV 2 l<=12;omega)
    | (
     intro i c;rw[d];by_cases q:i=m.tt
     .subst q;rw[u];exact .inr ⟨rfl,H⟩
     .exact .inl ⟨D i c.1.1 q,λz=>q z.symm⟩)
  .have r:f.come m.tt m=f:=iN_ hr
   first
    | exact⟨R,λi c=>by rw[d,r];exact h.nb i c,λi c=>by rw[d,s,r];exact h.no i c,λx o=>by rw[s];exact h.aw x (I x o),λx o=>h.to_ x (I x o),λi c=>by rw[d,s,r];exact h.wa i c,by
      have:tot b zeV ({ f.come m.tt m with away:=l }:Fl)=tot b zeV f:=by unfold tot;rw[d,d,d,d,r]
      rw[this];show _+zjS l<=80;omega,by
      have:tot b zzO ({ f.come m.tt m with away:=l }:Fl)=tot b zzO f:=by unfold tot;rw[d,d,d,d,r]
      rw[this];show _+zfV 2 l<=12;omega⟩
    | (
     intro i c;rw[d,r];refine .inl ⟨rfl,λq=>hr ?_⟩;rw[q];exact Gd.runs h c)
theorem FI.flow {b L A B C}(k:Cst b L A B C)(Q:Fl->Prop)(c:∀f m l,FI b L A B C f->f.away=m::l->Q f->Q (f.does tkA)):∀(s:Nat) {f:Fl},f.away.length=s->FI b L A B C f->Q f->FI b L A B C f.flow/\f.flow.away=[]/\f.flow.no=f.no/\Q f.flow
 | 0,f,hs,h,q=>by
  have e:=eN_ hs
  rw[zCI e]
  exact⟨h,e,rfl,q⟩
 | s+1,f,hs,h,q=>by
  cases e:f.away with
  | nil=>rw[e]at hs;cases hs
  | cons m l=>
   obtain⟨d,g,j,_⟩:=h.step k e
   rw[zBo e]
   obtain⟨o,p,r,t⟩:=FI.flow k Q c s (f:=f.does tkA) (by rw[g];rw[e]at hs;exact Nat.succ.inj hs) d (c f m l h e q)
   exact⟨o,p,r.trans j,t⟩
theorem FI.ev {b L A B C}(k:Cst b L A B C)(R Q:Fl->Prop)(c:∀f m l,FI b L A B C f->f.away=m::l->R f->R (f.does tkA)/\(Q f->Q (f.does tkA)))(d:MC)(j:∀f l,FI b L A B C f->f.away=d::l->R f->Q (f.does tkA)):∀(s:Nat) {f:Fl},f.away.length=s->FI b L A B C f->R f->d∈f.away->Q f.flow
 | 0,f,hs,_,_,hm=>by
  rw[eN_ hs]at hm
  cases hm
 | s+1,f,hs,h,r,hm=>by
  cases e:f.away with
  | nil=>rw[e]at hs;cases hs
  | cons m l=>
   obtain⟨o,p,D,_⟩:=h.step k e
   have t:(f.does tkA).away.length=s:=by rw[p];rw[e]at hs;exact Nat.succ.inj hs
   obtain⟨u,E⟩:=c f m l h e r
   rw[zBo e]
   rw[e]at hm
   rcases List.mem_cons.1 hm with q|q
   .subst q
    exact(FI.flow k (λg=>R g/\Q g) (λg x y z w v=>⟨(c g x y z w v.1).1,(c g x y z w v.1).2 v.2⟩) s t o ⟨u,j f l h e r⟩).2.2.2.2
   .exact FI.ev k R Q c d j s t o u (by rw[p];exact q)
variable {rd au:Int}
theorem zBU {l:List CV}(h:0<=cOf l au rd):∃c∈l,c.au=au/\c.rd=rd:=by
 obtain⟨g,j⟩:=zlB l au rd;have b:zfp l au rd (cOf l au rd).toNat=true:=zoq _ _ h;unfold zfp at b;obtain⟨d,f⟩:=of_decide_eq_true b;exact⟨_,zz3 (by omega),d,f⟩
theorem zBp {l:List CV}:∀(d:Nat) (r:Int) (f:Nat),(∀s:Nat,s<d->3<=zhn l (r+s))->d<=f->zlI l r f=zlI l (r+d) (f-d)
 | 0,r,f,_,_=>by rw[Nat.sub_zero];simp
 | d+1,r,0,_,h=>absurd h (by omega)
 | d+1,r,f+1,h,hf=>by
  have b:=h 0 (by omega)
  rw[zlI,iP_ (by simpa using b),zBp d (r+1) f (λs c=>by
   have:=h (s+1) (by omega)
   rw[show r+1+(s:Int)=r+((s+1:Nat):Int) by omega];exact this) (by omega)]
  rw[show r+1+(d:Int)=r+((d+1:Nat):Int) by omega,show f+1-(d+1)=f-d by omega]
theorem zCV {b:Int}(h:-1<=b/\b<=3):∃j,Gd b j:=by
 rcases zAH h with e|e|e|e|e<;>subst e;exact⟨0,by decide,by decide⟩;exact⟨1,by decide,by decide⟩;exact⟨0,by decide,by decide⟩;exact⟨0,by decide,by decide⟩;exact⟨0,by decide,by decide⟩
theorem zBh {b:Int}(p:-1<=b/\b<=3){L:Nat}{i:Int}{n:Nd}(h:NB b L i n)(M:∀c∈n.k.dag,Leg b L c\/c.au=i):zdi n.k.dag=(L:Int)+1:=by
 have F:L<=n.k.dag.length:=by
  obtain⟨j,d⟩:=zCV p;have B:((List.range L).map λr:Nat=>(cOf n.k.dag j ((r:Int)+1)).toNat).Nodup:=by
   rw[List.Nodup,List.pairwise_map];refine List.Pairwise.imp_of_mem (λ{x y} g hy hxy e=>?_) (List.pairwise_lt_range);obtain⟨m,_,o,N,_⟩:=zAF h.leg (h.all j d x (List.mem_range.1 g));obtain⟨k,_,H,I,_⟩:=zAF h.leg (h.all j d y (List.mem_range.1 hy));rw[o,H]at e;have:m=k:=by omega
   subst this;rw[N]at I;omega
  have C:=zAA n.k.dag.length _ B (λx g=>by
   obtain⟨r,G,rfl⟩:=mM_.1 g;obtain⟨m,R,o,_⟩:=zAF h.leg (h.all j d r (List.mem_range.1 G));rw[o];omega)
  simpa using C
 have E:∀s:Nat,s<L->3<=zhn n.k.dag (1+(s:Int)):=λs t=>by
  rw[show(1:Int)+s=(s:Int)+1 by omega,<-zqQ h.uq,zB3 h.leg (λj d=>h.all j d s t)];exact(zBy p (s+1)).2 (by omega)
 have g:zhn n.k.dag ((L:Int)+1)<3:=by
  rw[<-zqQ h.uq,zml];have J:∀a:Int,a≠i->¬0<=cOf n.k.dag a ((L:Int)+1):=λa D q=>by
   obtain⟨c,u,A,O⟩:=zBU q;rcases M c u with z|z;obtain⟨r,Y,Z,_⟩:=z.rd;omega;exact D (by rw[<-A];exact z)
  have l:∀a:Int,(if 0<=cOf n.k.dag a ((L:Int)+1)then 1 else 0:Nat)<=if a=i then 1 else 0:=λa=>by
   by_cases q:a=i;rw[iP_ q];split<;>omega;rw[iN_ q,iN_ (J a q)];exact nR_ _
  have T:=l 0;have U:=l 1;have V:=l 2;have X:=l 3;have t:(if(0:Int)=i then 1 else 0:Nat)+(if(1:Int)=i then 1 else 0)+(if(2:Int)=i then 1 else 0)+(if(3:Int)=i then 1 else 0)<=1:=by
   by_cases q0:(0:Int)=i;subst q0;decide;rw[iN_ q0];by_cases q1:(1:Int)=i;subst q1;decide;rw[iN_ q1];by_cases q2:(2:Int)=i;subst q2;decide;rw[iN_ q2];split<;>omega
  omega
 unfold zdi;rw[zBp L 1 _ E F,show(1:Int)+L=(L:Int)+1 by omega];cases n.k.dag.length-L with
 | zero=>rfl
 | succ f=>rw[zlI,iN_ (by omega)]
structure WK (b:Int)(L:Nat)(i:Int)(n n':Nd):Prop where
 nb:NB b L i n'
 own:n'.k.own=Hx b L i
 slot:n'.k.slot=(Hx b L i).slot
 dag:n'.k.dag=n.k.dag
 wai:∃e,n'.wai=n.wai++e/\e.length<=4/\zjS e<=11/\zfV 2 e<=3/\∀x∈e,x.fr=i/\(0<=x.tt/\x.tt<4)/\((x.ki=2/\x.h=Hx b L i)\/x.ki=5)
structure OfS (b:Int)(L:Nat)(i:Int)(k:Nat)(n n':Nd):Prop where
 kn:n'.k=n.k
 vot:n'.vot=n.vot
 nu:n'.nu=n.nu
 up:n'.up=n.up
 tx:n'.txs=n.txs
 wai:∃e,n'.wai=n.wai++e/\e.length<=k/\∀x∈e,x.fr=i/\(0<=x.tt/\x.tt<4)/\x.ki=2/\x.h=Hx b L i
theorem OfS.refl {b L i n}:OfS b L i 0 n n:=⟨rfl,rfl,rfl,rfl,rfl,[],by simp,nR_ _,λx c=>by cases c⟩
theorem OfS.send {b L i k k' n n'}(h:OfS b L i k n n')(o:n.nu=i){d:Int}(m:0<=d/\d<4)(j:(d=i/\k<=k')\/(d≠i/\k+1<=k')):OfS b L i k' n (n'.send d (zcl (Hx b L i))):=by
 obtain⟨e,c,r,f⟩:=h.wai;have l:n'.nu=i:=h.nu.trans o;rcases j with⟨q,j⟩|⟨q,j⟩;have:n'.send d (zcl (Hx b L i))=n':=by unfold Nd.send;rw[iP_ (.inl (q.trans l.symm))]
 rw[this];exact⟨h.kn,h.vot,h.nu,h.up,h.tx,e,c,by omega,f⟩;refine⟨(ze2 _ _ _).trans h.kn,(zge _ _ _).trans h.vot,(zmu _ _ _).trans h.nu,(zBf _ _ _).trans h.up,(zAY _ _ _).trans h.tx,?_⟩;unfold Nd.send
 split
 exact⟨e,c,by omega,f⟩;refine⟨e++[(zcl (Hx b L i)).ft n'.nu d],by show n'.wai++_=_;rw[c,List.append_assoc],by rw[lP_];simp;omega,λx p=>?_⟩;rcases mA_.1 p with g|g;exact f x g;rw[mS_.1 g];exact⟨l,m,rfl,rfl⟩
def kk (i:Int)(j:Nat):Nat:=if i<(j:Int)then j-1 else j
theorem zBV (b:0<=i)(j:Nat):((j:Int)=i/\kk i j<=kk i (j+1))\/((j:Int)≠i/\kk i j+1<=kk i (j+1)):=by
 unfold kk;by_cases q:(j:Int)=i;exact .inl ⟨q,by rw[iN_ (by omega),iP_ (by omega)];omega⟩;refine .inr ⟨q,?_⟩;by_cases p:i<(j:Int);rw[iP_ p,iP_ (by omega)];omega;rw[iN_ p,iN_ (by omega)];exact nR_ _
theorem OfS.to {b L i n}(c:0<=i)(d:n.nu=i):∀j:Nat,j<=4->OfS b L i (kk i j) n (n.sendTo (zcl (Hx b L i)) j)
 | 0,_=>by
  have:kk i 0=0:=by unfold kk;rw[iN_ (by omega)]
  rw[this];exact OfS.refl
 | j+1,h=>(OfS.to c d j (by omega)).send d ⟨by omega,by omega⟩ (zBV c j)
theorem OfS.again {b L i n}(d:0<=i)(f:n.nu=i)(g:n.k.own=Hx b L i)(l:i∈n.vot):∀j:Nat,j<=4->OfS b L i (kk i j) n (n.againTo j)
 | 0,_=>by
  have:kk i 0=0:=by unfold kk;rw[iN_ (by omega)]
  rw[this];exact OfS.refl
 | j+1,h=>by
  have c:=OfS.again d f g l j (by omega)
  have k:=zBV d j
  show OfS b L i (kk i (j+1)) n (if(j:Int)∈n.vot then n.againTo j else((n.againTo j).sendB j n.k.own.bl).send j (zcl n.k.own))
  split
  .obtain⟨e,m,p,o⟩:=c.wai
   exact⟨c.kn,c.vot,c.nu,c.up,c.tx,e,m,by rcases k with k|k<;>omega,o⟩
  .rename_i q
   have r:(j:Int)≠i:=λz=>q (by rw[z];exact l)
   rw[g]
   show OfS b L i (kk i (j+1)) n ((n.againTo j).send j (zcl (Hx b L i)))
   exact c.send f ⟨by omega,by omega⟩ k
theorem zCs {l:List MC}(h:∀x∈l,x.ki=2):zjS l=l.length:=by
 induction l with
 | nil=>rfl
 | cons x l ih=>
  rw[zAD,ih (λy b=>h y (mC_ _ b)),List.length_cons];unfold wgt;rw[iP_ (h x (by simp))];omega
theorem zCW (k:Int)(l:List MC):zfV k l<=l.length:=List.length_filter_le _ _
theorem WK.ask {b L i n n1}{n2:Nd}(z:n2.k.dag=n.k.dag)(C:n2.wai=n.wai)(h:NB b L i n2)(A:n2.k.own=Hx b L i)(B:n2.k.slot=(Hx b L i).slot)(s:OfS b L i 3 n2 n1)(r:Int):WK b L i n (n1.ask r)/\(n1.ask r).vot=n2.vot/\∃e,(n1.ask r).wai=n1.wai++e:=by
 obtain⟨e,u,F,m⟩:=s.wai;have o:n1.nu=i:=s.nu.trans h.nu;have d:(n1.ask r).k=n2.k:=by unfold Nd.ask;rw[ze2];exact s.kn
 have D:∃x,(n1.ask r).wai=n1.wai++x/\x.length<=1/\∀y∈x,y.fr=i/\(0<=y.tt/\y.tt<4)/\y.ki=5:=by
  unfold Nd.ask Nd.send
  split
  exact⟨[],by simp,nZ_ _,λy c=>by cases c⟩;exact⟨_,rfl,nR_ _,λy c=>by rw[mS_.1 c];exact⟨o,zw9 n1,rfl⟩⟩
 obtain⟨x,p,E,f⟩:=D;refine⟨⟨⟨?_,?_,by rw[d];exact h.sh,?_,by rw[d];exact h.leg,by rw[d];exact h.all,by rw[d];exact h.uq,by rw[d];exact h.tab⟩,by rw[d];exact A,by rw[d];exact B,by rw[d];exact z,e++x,?_,by rw[lP_];omega,?_,?_,?_⟩,?_,x,p⟩;unfold Nd.ask;rw[zmu];exact o;unfold Nd.ask;rw[zBf];exact s.up.trans h.up;unfold Nd.ask;rw[zAY];exact s.tx.trans h.tx;rw[p,u,C,List.append_assoc];rw[zA0,zCs (λy c=>(m y c).2.2.1)];have:zjS x<=8:=by
  match x,E,f with
  | [],_,_=>exact nZ_ _
  | [y],_,f=>
   have:=(f y (by simp)).2.2;rw[zAD];unfold wgt;rw[iN_ (by omega),iN_ (by omega),iP_ this];exact nR_ _
  | _::_::_,h,_=>exact absurd h (by simp)
 omega;rw[zAJ];have G:=zCW 2 e;have H:zfV 2 x=0:=by
  unfold zfV;rw[List.filter_eq_nil_iff.2 (λy c=>by have:=(f y c).2.2;simp;omega)];rfl
 omega;intro y c;rcases mA_.1 c with q|q;obtain⟨g,j,l,t⟩:=m y q;exact⟨g,j,.inl ⟨l,t⟩⟩;obtain⟨g,j,l⟩:=f y q;exact⟨g,j,.inr l⟩;unfold Nd.ask;rw[zge];exact s.vot
theorem zBW {b:Int}(c:Gd b i):kk i 4=3:=by unfold kk;rw[iP_ (by have:=c.1;omega)]
theorem zCX {b L i n}(h:NB b L i n)(m:∀c∈n.k.dag,Leg b L c):n.header ((L:Int)+1)=Hx b L i:=by
 have f:dgF n.k.dag ((L:Int)+1-1)=Pz b L:=by
  rw[show(L:Int)+1-1=L by omega];cases L with
  | zero=>
   have:n.k.dag=[]:=List.eq_nil_iff_forall_not_mem.2 (λc d=>by obtain⟨r,o,_⟩:=(m c d).rd;omega);rw[this];rfl
  | succ l=>
   exact zB3 h.leg (λj g=>h.all j g l (by omega))
 unfold Nd.header;rw[f,h.sh,h.nu];rfl
theorem zCJ {b L i n}(p:NC b)(E:L<=5)(j:Gd b i){o:No}(g:Gen b i o n)(t:n.gather=n)(h:NB b L i n)(q:∀c∈n.k.dag,Leg b L c)(F:n.k.own.rd<=L)(G:n.wai.length<=390) :
  WK b L i n n.work/\n.work.vot=[i]/\∀k:Nat,k<4->(k:Int)≠i->(zcl (Hx b L i)).ft i k∈n.work.wai:=by
 have z:=zBh g.hb h (λc m=>.inl (q c m));have m:=zAS g.hb p (by omega:L+1<=6) g.kg.tab h.tab j (by omega:L<=6);have A:=zBz g.hb p (by omega:L+1<=6) g.kg.tab h.tab j (by omega:L<L+1);obtain⟨n2,f⟩:∃n2:Nd,n2={ n.log (zcl (Hx b L i)) { n.k with tab:=(zaf n.k.tab (Hx b L i)).1,own:=Hx b L i,slot:=(Hx b L i).slot } with vot:=[n.nu] }:=⟨_,rfl⟩;have r:n.due ((L:Int)+1)=n2.sendAll (zcl (Hx b L i)):=by
  unfold Nd.due;rw[iP_ (by omega)];unfold Nd.offerNew;rw[zCX h q,iP_ ⟨m,g.room h.sh (zBI (zAV g.hb p (by omega) j))⟩,f]
 have B:n.work=(n2.sendAll (zcl (Hx b L i))).ask ((L:Int)+1):=by
  unfold Nd.work;rw[t,z,r]
 have l:NB b L i n2:=by rw[f];exact⟨h.nu,h.up,h.sh,h.tx,h.leg,h.all,h.uq,A⟩
 have s:=OfS.to (b:=b) (L:=L) j.1.1 l.nu 4 (nR_ _);rw[zBW j]at s;obtain⟨C,w2,x,D⟩:=WK.ask (n:=n) (n2:=n2) (by rw[f];rfl) (by rw[f];rfl) l (by rw[f];rfl) (by rw[f];rfl) s ((L:Int)+1);rw[B];refine⟨C,w2.trans (by rw[f];show [n.nu]=[i];rw[h.nu]),λk u y=>?_⟩;rw[show(n2.sendAll (zcl (Hx b L i))).ask ((L:Int)+1)=(n2.sendTo (zcl (Hx b L i)) 4).ask ((L:Int)+1)from rfl,D];refine mA_.2 (.inl ?_);have:=zAI (zcl (Hx b L i)) (n:=n2) (d:=k) (by rw[l.nu];exact y) 4 u (by rw[f];show n.wai.length+4<=400;omega);rw[l.nu]at this;exact this
theorem zA9 {b L i n}(f:Gd b i)(l:-1<=b/\b<=3)(m:n.gather=n)(h:NB b L i n)(t:∀c∈n.k.dag,Leg b L c\/c.au=i)(d:n.k.own=Hx b L i)(p:n.k.slot=(Hx b L i).slot)(q:i∈n.vot) :
  WK b L i n n.work/\n.work.vot=n.vot/\∃e,n.work.wai=n.wai++e:=by
 have o:=zBh l h t;have r:n.work=(n.due ((L:Int)+1)).ask ((L:Int)+1):=by
  unfold Nd.work;rw[m,o]
 have g:OfS b L i 3 n (n.due ((L:Int)+1)):=by
  unfold Nd.due;rw[iN_ (by rw[d];show ¬((L:Int)+1<(L:Int)+1);omega)]
  split
  exact⟨rfl,rfl,rfl,rfl,rfl,[],by simp,nZ_ _,λx s=>by cases s⟩;have:=OfS.again (b:=b) (L:=L) f.1.1 h.nu d q 4 (nR_ _);rw[zBW f]at this;exact this
 obtain⟨u,w2,x,y⟩:=WK.ask (n:=n) (n2:=n) rfl rfl h d p g ((L:Int)+1);rw[r];obtain⟨e,j,_⟩:=g.wai;exact⟨u,w2,e++x,by rw[y,j,List.append_assoc]⟩
variable {g:GV}
theorem zBX {l:List GV}(h:zbF l=0)(b:gF g=0):g∈zfS l g:=by
 unfold zfS
 split
 assumption
 rename_i q
 have e:zec l g=(l++[g],0):=by unfold zec;rw[iN_ (by simpa using h),iN_ (by simpa using b),iN_ q]
 rw[e,iP_ rfl]
 simp
theorem zDd {f:Fl}(x:MC)(h:zbF f.no.sg=0):(x.ki=2->x.h.hf=0->gF (x.fr,x.h.slot)=0->(x.fr,x.h.slot)∈(f.out x).no.sg)/\(x.ki=3->gF (x.fr,x.s)=0->(x.fr,x.s)∈(f.out x).no.sg):=by
 refine⟨λk c b=>?_,λk b=>?_⟩;show _∈(f.no.sign x).sg;unfold No.sign;rw[iP_ k,iP_ c];exact zBX h b;show _∈(f.no.sign x).sg;unfold No.sign;rw[iN_ (by omega),iP_ k];exact zBX h b
theorem zBZ:∀(l:List MC) {f:Fl},zbF f.no.sg=0->f.away.length+l.length<=400 ->
  (l.foldl Fl.out f).away=f.away++l/\∀x∈l,(x.ki=2->x.h.hf=0->gF (x.fr,x.h.slot)=0->(x.fr,x.h.slot)∈(l.foldl Fl.out f).no.sg)/\(x.ki=3->gF (x.fr,x.s)=0->(x.fr,x.s)∈(l.foldl Fl.out f).no.sg)
 | [],f,_,_=>⟨by simp,λx d=>by cases d⟩
 | m::l,f,h,hl=>by
  rw[List.length_cons]at hl
  have g:(f.out m).away=f.away++[m]:=by
   show zct f.away m=_;unfold zct;rw[iP_ (by omega)]
  obtain⟨r,s⟩:=zBZ l (f:=f.out m) (zBM h m) (by rw[g,lP_];simp;omega);rw[List.foldl_cons];refine⟨by rw[r,g,List.append_assoc];rfl,λx d=>?_⟩;rcases List.mem_cons.1 d with q|q
  .subst q;obtain⟨e,j⟩:=zBK l (f.out x);obtain⟨o,p⟩:=zDd x h;rw[j];exact⟨λa b c=>mA_.2 (.inl (o a b c)),λa b=>mA_.2 (.inl (p a b))⟩
  .exact s x q
theorem zCY {b:Int}{f:Fl}(B:-1<=b/\b<=3)(h:Rch b f){i:Int}(c:Gd b i)(H:(f.node i).up=true)(I:(f.node i).work.up=true)(t:ByteArray)(D:f.away.length+(f.node i).work.wai.length<=400) :
  ∃g,g=(f.does ⟨2,i,0,t⟩).does ⟨3,i,0,t⟩/\Rch b g/\(∀x∈(f.node i).work.wai,x.fr=i/\0<=x.tt/\x.tt<4)/\(∃s,g.node i={ (f.node i).work with wai:=[],syn:=s })/\(∀j,0<=j->j≠i->g.node j=f.node j)/\g.away=f.away++(f.node i).work.wai/\(∃e,g.no.sg=f.no.sg++e) /\
   ∀x∈(f.node i).work.wai,(x.ki=2->x.h.hf=0->gF (x.fr,x.h.slot)=0->(x.fr,x.h.slot)∈g.no.sg)/\(x.ki=3->gF (x.fr,x.s)=0->(x.fr,x.s)∈g.no.sg):=by
 have o:=h.len;have u:i≠f.no.bad:=by rw[h.bad];exact c.2
 have E:f.runs i=true:=by rw[ziy u];exact H
 have l:f.does ⟨2,i,0,t⟩=f.set i (f.node i).work:=by rw[zBd rfl];show(if f.runs i then _ else _)=_;rw[E,iP_ rfl]
 have d:(f.set i (f.node i).work).node i=(f.node i).work:=set_here _ o c.1;have F:(f.set i (f.node i).work).runs i=true:=by rw[ziy (by rw[zCM];exact u),d];exact I
 have z:(f.does ⟨2,i,0,t⟩).does ⟨3,i,0,t⟩=(f.set i (f.node i).work).sync i:=by
  rw[l,zgB rfl];show(if(f.set i (f.node i).work).runs i then _ else _)=_;rw[F,iP_ rfl]
 have G:Rch b ((f.does ⟨2,i,0,t⟩).does ⟨3,i,0,t⟩):=(h.does (zzP (by decide) c.1 (by decide))).does (zzP (by decide) c.1 (by decide));have y:=(h.does (a:=⟨2,i,0,t⟩) (zzP (by decide) c.1 (by decide))).safe.ok.posts.2 i c.1;rw[l,d]at y;refine⟨_,rfl,G,y.fr,?_⟩;rw[z];unfold Fl.sync;rw[d];obtain⟨n2,m⟩:∃n2:Nd,n2={ (f.node i).work with wai:=[],syn:=(zae (f.node i).work.recs).length }:=⟨_,rfl⟩;rw[<-m];have A:(f.set i (f.node i).work).nd.length=4:=by rw[zau];exact o
 have r:∀j,((f.node i).work.wai.foldl Fl.out ((f.set i (f.node i).work).set i n2)).node j=((f.set i (f.node i).work).set i n2).node j:=λj=>zev (zdO _ _) j;obtain⟨J,L⟩:=zBZ (f.node i).work.wai (f:=(f.set i (f.node i).work).set i n2) ((h.gen B c.1).sg) D;refine⟨⟨_,by rw[r,set_here _ A c.1,m]⟩,λj p q=>by rw[r,set_there _ c.1.1 p q,set_there _ c.1.1 p q],J,?_,L⟩;obtain⟨e,C⟩:=zBK (f.node i).work.wai ((f.set i (f.node i).work).set i n2);exact⟨e,C⟩
structure Bd (b:Int)(L B C:Nat)(f:Fl):Prop where
 re:Rch b f
 aw:f.away=[]
 nb:∀i,Gd b i->NB b L i (f.node i)
 wa:∀i,Gd b i->∀x∈(f.node i).wai,(x.ki=4/\Leg b C x.ct/\zzQ f.no x.ct)\/(x.ki=3/\∃j r,Gd b j/\r<B/\x.s=(Hx b r j).slot)
 tl:tot b zeV f<=80
 tv:tot b zzO f<=12
structure Vt (b:Int)(L:Nat)(i:Int)(o:No)(n n':Nd):Prop where
 vin:i∈n'.vot
 vnd:n'.vot.Nodup
 vgd:∀v∈n'.vot,Gd b v/\((v,(Hx b L i).slot)∈o.sg\/(v=i/\∃x∈n'.wai,x.ki=2/\x.h=Hx b L i))
 few:n'.vot.length<3\/0<=cOf n.k.dag i ((L:Int)+1)
structure PI (b:Int)(L B C:Nat)(f0:Fl)(p:Nat)(f:Fl):Prop where
 re:Rch b f
 sg:∃e,f.no.sg=f0.no.sg++e
 un:∀i:Int,0<=i->(p:Int)<=i->f.node i=f0.node i
 dn:∀i,Gd b i->i<(p:Int)->∃s,f.node i={ (f0.node i).work with wai:=[],syn:=s }
 aw:∀m∈f.away,MsA b (L+1) B C f.no m/\0<=m.tt/\m.tt<4
 has:∀i,Gd b i->i<(p:Int)->∀x∈(f0.node i).work.wai,x∈f.away
 ln:tot b zeV f+f.away.length<=80+4*p
 ws:3*tot b zzO f+zjS f.away<=36+11*p
 tv:zfV 2 f.away<=3*p
theorem MsA.more {b:Int}{A C:Nat}{o g:No}{x:MC}(h:MsA b A B C o x)(m:g.bad=o.bad){e:List GV}(f:g.sg=o.sg++e):MsA b A B C g x:=by
 obtain⟨j,l⟩:=h;refine⟨j,?_⟩;rcases l with⟨k,r,a,c,d⟩|⟨k,a,d⟩|⟨k,a,d⟩|k;exact .inl ⟨k,r,a,c,by rw[f];exact mA_.2 (.inl d)⟩;exact .inr (.inl ⟨k,a,by rw[f];exact mA_.2 (.inl d)⟩);exact .inr (.inr (.inl ⟨k,a,d.more m f⟩));exact .inr (.inr (.inr k))
theorem zCZ {l:List MC}(h:∀x∈l,x.ki=4\/x.ki=3):zjS l=3*zfV 3 l/\zfV 2 l=0:=by
 induction l with
 | nil=>exact⟨rfl,rfl⟩
 | cons x l ih=>
  obtain⟨c,d⟩:=ih (λy b=>h y (mC_ _ b));rw[zAD,zAU,zAU,c,d];unfold wgt;rcases h x (by simp)with q|q<;>rw[q]<;>simp<;>omega
theorem PI.step {b L B C:_}{d:Fl}(k:Cst b L (L+1) B C)(O:Bd b L B C d)(W:∀i,Gd b i->WK b L i (d.node i) (d.node i).work){p:Nat}(hp:p<4){f:Fl}(h:PI b L B C d p f)(t:ByteArray):PI b L B C d (p+1) ((f.does ⟨2,p,0,t⟩).does ⟨3,p,0,t⟩):=by
 have aj:=h.ln;have al:=h.ws;have ak:=h.tv;have H:(0:Int)<=p/\(p:Int)<4:=by omega
 by_cases hg:Gd b (p:Int);have o:f.node p=d.node p:=h.un p H.1 (Int.le_refl _);have hw:=W _ hg;obtain⟨e,u,T,e3,e4,e5⟩:=hw.wai;have ai:zeV (d.node p)<=tot b zeV f:=by rw[<-o];exact zBg hg
 have ac:(f.node p).work.wai.length=zeV (d.node p)+e.length:=by rw[o,u,lP_];rfl
 obtain⟨g,ge,M,V,⟨s,F⟩,G,y,⟨sg,N⟩,U⟩:=zCY k.hb h.re hg (by rw[o];exact(O.nb _ hg).up) (by rw[o];exact hw.nb.up) t (by rw[ac];omega);rw[<-ge];rw[o]at F y U V;obtain⟨ah,aa⟩:=h.sg;have af:g.no.bad=f.no.bad:=by rw[M.bad,h.re.bad]
 have ab:=O.wa _ hg;have ad:∀x∈(d.node p).wai,x.ki=4\/x.ki=3:=λx I=>(ab x I).imp (λz=>z.1) (λz=>z.1);obtain⟨R,w2⟩:=zCZ ad;have t1:=zAK (b:=b) (p:=zeV) (f:=f) (g:=g) (w:=0) (v:=zeV (d.node p)) H hg.2 G (by rw[F,o];show 0+_<=_+0;omega);have t2:=zAK (b:=b) (p:=zzO) (f:=f) (g:=g) (w:=0) (v:=zzO (d.node p)) H hg.2 G (by rw[F,o];show 0+_<=_+0;omega);have R:zjS (d.node p).wai=3*zzO (d.node p):=R;have ae:(d.node p).work.wai.length=zeV (d.node p)+e.length:=by have q:=ac;rw[o]at q;exact q
 refine⟨M,⟨ah++sg,by rw[N,aa,List.append_assoc]⟩,λi c ag=>?_,λi c A=>?_,λm X=>?_,λi c A x I=>?_,?_,?_,?_⟩;rw[G i c (by omega)];exact h.un i c (by omega);by_cases q:i=(p:Int);subst q;exact⟨s,F⟩;rw[G i c.1.1 q];exact h.dn i c (by omega);rw[y]at X;rcases mA_.1 X with q|q;exact⟨(h.aw m q).1.more af N,(h.aw m q).2⟩;obtain⟨E,a2⟩:=V m q;obtain⟨s1,s2⟩:=U m q;refine⟨⟨by rw[E];exact hg,?_⟩,a2⟩;rw[u]at q;rcases mA_.1 q with z|z;rcases ab m z with⟨k4,J,l⟩|⟨k3,j,r,J,l,D⟩;refine .inr (.inr (.inl ⟨k4,J,?_⟩));exact l.more (by rw[M.bad,O.re.bad]) (by rw[N,aa,List.append_assoc]);refine .inr (.inl ⟨k3,⟨j,r,J,l,D⟩,s2 k3 ?_⟩);rw[E,D];exact zBs k.hb k.hn (by have:=k.hB;have:=k.hL;omega) hg J;obtain⟨_,_,l⟩:=e5 m z;rcases l with⟨l,D⟩|l;refine .inl ⟨l,L,by omega,by rw[E];exact D,s1 l ?_ ?_⟩;rw[D];exact zAV k.hb k.hn (by have:=k.hL;omega) hg;rw[E,D];exact zBs k.hb k.hn (by have:=k.hL;omega) hg hg;exact .inr (.inr (.inr l));rw[y];by_cases q:i=(p:Int);subst q;exact mA_.2 (.inr I);exact mA_.2 (.inl (h.has i c (by omega) x I));rw[y,lP_,ae];omega;rw[y,zA0,u,zA0,R];omega;rw[y,zAJ,u,zAJ,w2];omega;have hb:(p:Int)=f.no.bad:=by
  rw[h.re.bad];by_cases q:(p:Int)=b;exact q;exact absurd ⟨H,q⟩ hg
 have Z:f.runs p=false:=zpG hb;have u:f.does ⟨2,p,0,t⟩=f:=by rw[zBd rfl];show(if f.runs p then _ else _)=_;rw[Z];rfl
 have T:f.does ⟨3,p,0,t⟩=f:=by rw[zgB rfl];show(if f.runs p then _ else _)=_;rw[Z];rfl
 rw[u,T];have Y:∀i,Gd b i->i<((p+1:Nat):Int)->i<(p:Int):=λi c A=>by
  have:i≠(p:Int):=λz=>hg (by rw[<-z];exact c);omega
 exact⟨h.re,h.sg,λi c ag=>h.un i c (by omega),λi c A=>h.dn i c (Y i c A),h.aw,λi c A=>h.has i c (Y i c A),by omega,by omega,by omega⟩
theorem PI.all {b L B C:_}{c:Fl}(k:Cst b L (L+1) B C)(d:Bd b L B C c)(W:∀i,Gd b i->WK b L i (c.node i) (c.node i).work):∀p:Nat,p<=4->PI b L B C c p (c.run ((zfg p).map AV.ac))
 | 0,_=>by
  have j:=d.tl;have o:=d.tv
  refine⟨d.re,⟨[],by simp[zfg,Fl.run]⟩,λi _ _=>rfl,λi g l=>by have:=g.1;omega,λm f=>?_,λi g l=>by have:=g.1;omega,?_,?_,?_⟩
  .have f:m∈c.away:=f
   rw[d.aw]at f;cases f
  .show tot b zeV c+c.away.length<=_;rw[d.aw];simpa using j
  .show 3*tot b zzO c+zjS c.away<=_;rw[d.aw];show _+0<=_;omega
  .show zfV 2 c.away<=_;rw[d.aw];exact nR_ _
 | p+1,hp=>by
  have e:c.run ((zfg (p+1)).map AV.ac)=((c.run ((zfg p).map AV.ac)).does ⟨2,p,0,⟨#[]⟩⟩).does ⟨3,p,0,⟨#[]⟩⟩:=by
   show c.run ((zfg p++_).map AV.ac)=_;rw[List.map_append,Fl.run_append];rfl
  rw[e];exact(PI.all k d W p (by omega)).step k d W (by omega) _
theorem Bd.work {b L B C:_}{d:Fl}(k:Cst b L (L+1) B C)(I:Bd b L B C d)(W:∀i,Gd b i->WK b L i (d.node i) (d.node i).work)(V:∀i,Gd b i->Vt b L i d.no (d.node i) (d.node i).work) :
  ∃f,f=d.run ((zfg 4).map AV.ac)/\FI b L (L+1) B C f/\(∀i,Gd b i->(f.node i).k.dag=(d.node i).k.dag/\(f.node i).vot=(d.node i).work.vot/\∀x∈(d.node i).work.wai,x∈f.away):=by
 obtain⟨f,E⟩:∃f,f=d.run ((zfg 4).map AV.ac):=⟨_,rfl⟩;have h:=PI.all k I W 4 (nR_ _);rw[<-E]at h;have X:=h.ws;have U:=h.tv;have l:∀i,Gd b i->∃s,f.node i={ (d.node i).work with wai:=[],syn:=s }:=λi c=>h.dn i c (by have:=c.1;omega);have F:∀i,Gd b i->(f.node i).wai=[]:=λi c=>by obtain⟨s,e⟩:=l i c;rw[e]
 have G:∀(p:Nd->Nat),(∀n:Nd,n.wai=[]->p n=0)->tot b p f=0:=λp M=>by
  have o:∀j:Int,0<=j/\j<4->(if j=b then 0 else p (f.node j))=0:=λj J=>by
   split
   rfl
   rename_i q;exact M _ (F j ⟨J,q⟩)
  unfold tot;rw[o 0 (by decide),o 1 (by decide),o 2 (by decide),o 3 (by decide)]
 obtain⟨Y,N⟩:=h.sg;refine⟨f,E,⟨h.re,λi c=>?_,λi c=>?_,λm t=>(h.aw m t).1,λm t=>(h.aw m t).2,λi c x g=>(by rw[F i c]at g;cases g),?_,?_⟩,λi c=>?_⟩;obtain⟨s,e⟩:=l i c;have w:=(W i c).nb;rw[e];exact⟨w.nu,w.up,w.sh,w.tx,w.leg,w.all,w.uq,w.tab⟩;obtain⟨s,e⟩:=l i c;have w:=W i c;have v:=V i c;rw[e];refine⟨w.own,w.slot,v.vin,v.vnd,λx g=>?_,?_⟩;obtain⟨O,D⟩:=v.vgd x g;refine⟨O,?_⟩;rcases D with D|⟨rfl,y,R,Z,T⟩;rw[N];exact mA_.2 (.inl D);obtain⟨⟨_,q⟩,_⟩:=h.aw y (h.has x c (by have:=c.1;omega) y R);rcases q with⟨_,r,_,H,A⟩|⟨q,_⟩|⟨q,_⟩|q;rw[T]at H A;have:x=y.fr:=cA_ (λz:CV=>z.au) H;rw[<-this]at A;exact A;omega;omega;omega;show _\/0<=cOf (d.node i).work.k.dag _ _;rw[w.dag];exact v.few;rw[G zeV (λn u=>by unfold zeV;rw[u];rfl)];omega;rw[G zzO (λn u=>by unfold zzO;rw[u];rfl)];omega;obtain⟨s,e⟩:=l i c;refine⟨?_,?_,λx g=>h.has i c (by have:=c.1;omega) x g⟩;rw[e];exact(W i c).dag;rw[e]
theorem zA1 :∀(e:List CV) {l:List CV},0<=cOf l au rd->0<=cOf (l++e) au rd
 | [],l,h=>by rw[List.append_nil];exact h
 | c::e,l,h=>by
  rw[show l++c::e=(l++[c])++e by simp]
  exact zA1 e (zAZ h)
theorem zAL {b:Int}{f:Fl}(h:Rch b f){i:Int}(c:0<=i/\i<4)(m:(f.node i).txs=[])(j:(f.node i).nu=i):(f.node i).gather=f.node i:=by
 obtain⟨l,g,rfl⟩:=h;have d:=((zah.run zBq l (zcn.z b) (zAG.z b) g (λ_ _ _=>trivial)).2 i c).pool;unfold Nd.gather;rw[m]at d|-;rw[iP_ (zB4 d (by rw[j];exact c))]
def zA2:List AV:=zfg 4++[⟨10,0,0,⟨#[]⟩⟩]
theorem zBi (f:Fl):f.run (zA2.map AV.ac)=(f.run ((zfg 4).map AV.ac)).flow:=by
 unfold zA2;rw[List.map_append,Fl.run_append];show(f.run ((zfg 4).map AV.ac)).does ⟨10,0,0,⟨#[]⟩⟩=_;exact zuY rfl
theorem FI.wl {b L A B C}{f:Fl}(h:FI b L A B C f){i:Int}(c:Gd b i):(f.node i).wai.length<=80:=by
 have d:=h.tl;have g:zeV (f.node i)<=tot b zeV f:=zBg c;show zeV (f.node i)<=80;omega
theorem FI.bd {b L A B C D}(o:-1<=b/\b<=3){f:Fl}(h:FI b L A B C f)(l:f.away=[])(r:∀i,Gd b i->∀c∈(f.node i).k.dag,Leg b D c):Bd b L (L+1) D f:=by
 have g:=h.tl;have j:=h.tv;rw[l]at g j;refine⟨h.re,l,h.nb,λi d x p=>?_,g,j⟩;obtain⟨s,w2⟩:=h.wa i d x p;rcases w2 with⟨w2,m⟩|w2;exact .inl ⟨w2,r i d _ m,(h.re.gen o d.1).pr _ m⟩;refine .inr ⟨w2,?_⟩;rcases s.2 with q|q|q|q;have:=q.1;omega;exact q.2;have:=q.1;omega;omega
structure P0 (b:Int)(L:Nat)(f:Fl):Prop where
 bd:Bd b L L L f
 lo:∀i,Gd b i->∀c∈(f.node i).k.dag,Leg b L c
 own:∀i,Gd b i->(f.node i).k.own.rd<=L
structure P1 (b:Int)(L:Nat)(f:Fl):Prop where
 bd:Bd b L (L+1) L f
 lo:∀i,Gd b i->∀c∈(f.node i).k.dag,Leg b L c
 no:∀i,Gd b i->NO b L i f.no (f.node i)
 vt:∀i,Gd b i->(f.node i).vot=[i]
 vs:∀i j,Gd b i->Gd b j->j≠i->(zcE (Hx b L j).slot).ft i j∈(f.node i).wai
structure P2 (b:Int)(L:Nat)(f:Fl):Prop where
 bd:Bd b L (L+1) (L+1) f
 lo:∀i,Gd b i->∀c∈(f.node i).k.dag,Leg b L c\/c.au=i
 no:∀i,Gd b i->NO b L i f.no (f.node i)
 cp:∀i,Gd b i->CP b L i f.no (f.node i)
 has:∀i,Gd b i->0<=cOf (f.node i).k.dag i ((L:Int)+1)
theorem other :∃k:Nat,k<4/\(k:Int)≠i:=by
 by_cases h:i=0;exact⟨1,by omega,by omega⟩;exact⟨0,by omega,by omega⟩
theorem P0.round {b:Int}{L:Nat}(t:-1<=b/\b<=3)(E:NC b)(C:L<=5){f:Fl}(h:P0 b L f):P1 b L (f.run (zA2.map AV.ac)):=by
 have k:Cst b L (L+1) L L:=⟨t,E,C,nR_ _,by omega,by omega⟩;have s:∀i,Gd b i->WK b L i (f.node i) (f.node i).work/\(f.node i).work.vot=[i]/\∀k:Nat,k<4->(k:Int)≠i->(zcl (Hx b L i)).ft i k∈(f.node i).work.wai:=λi d=>by
  have u:=h.bd.nb i d;have h2:zeV (f.node i)<=tot b zeV f:=zBg d;have h3:=h.bd.tl;exact zCJ E C d (h.bd.re.gen t d.1) (zAL h.bd.re d.1 u.tx u.nu) u (h.lo i d) (h.own i d) (by show zeV (f.node i)<=390;omega)
 obtain⟨Z,M,B,A⟩:=h.bd.work k (λi d=>(s i d).1) (λi d=>by
  obtain⟨_,w2,Y⟩:=s i d;obtain⟨q,U,V⟩:=other (i:=i);refine⟨by rw[w2];simp,by rw[w2];simp,λv F=>?_,by rw[w2];exact .inl (by show 1<3;omega)⟩;rw[w2]at F;obtain rfl:=mS_.1 F;exact⟨d,.inr ⟨rfl,_,Y q U V,rfl,rfl⟩⟩)
 rw[zBi,<-M];obtain⟨G,X,r3,y⟩:=FI.flow k (λg=>∀i,Gd b i->(∀c∈(g.node i).k.dag,Leg b L c)/\(g.node i).vot=[i]) (λg m l o p q i d=>by
  obtain⟨_,_,_,r⟩:=o.step k p;rcases r i d with⟨z,_⟩|⟨_,z⟩
  .rw[z];exact q i d
  .obtain⟨R,T⟩:=z.one (nR_ _) (nR_ _);rw[R,T];exact q i d) _ rfl B (λi d=>by
  obtain⟨H,I,_⟩:=A i d;rw[H,I];exact⟨h.lo i d,(s i d).2.1⟩)
 refine⟨G.bd t X (λi d=>(y i d).1),λi d=>(y i d).1,G.no,λi d=>(y i d).2,λi j d D O=>?_⟩;have aa:=d.1;refine FI.ev k (λ_=>True) (λg=>(zcE (Hx b L j).slot).ft i j∈(g.node i).wai) (λg m l o p _=>⟨trivial,λq=>?_⟩) ((zcl (Hx b L j)).ft j i) (λg l o p _=>?_) _ rfl B trivial ?_;obtain⟨_,_,_,r⟩:=o.step k p;rcases r i d with⟨z,_⟩|⟨_,z⟩;rw[z];exact q;obtain⟨e,N⟩:=z.res.more;rw[N];exact mA_.2 (.inl q);obtain⟨_,_,_,r⟩:=o.step k p;have ab:=o.wl d;rcases r i d with⟨_,z⟩|⟨_,z⟩;exact absurd rfl z;exact z.po rfl O (by omega);obtain⟨_,_,J⟩:=A j D;refine J _ ?_;have:=(s j D).2.2 i.toNat (by omega) (by omega);rw[show((i.toNat:Nat):Int)=i by omega]at this;exact this
theorem zCw {l m:L_}(h:l.Nodup)(b:∀x∈l,x∈m):l.length<=m.length:=by
 induction l generalizing m with
 | nil=>exact nZ_ _
 | cons x l ih=>
  rw[List.nodup_cons]at h;have c:=b x (by simp);have:=ih (m:=m.erase x) h.2 (λy d=>by
   have f:y≠x:=λe=>h.1 (by rw[<-e];exact d);exact(List.mem_erase_of_ne f).2 (b y (mC_ _ d)))
  rw[List.length_erase_of_mem c]at this;have:=List.length_pos_of_mem c;rw[List.length_cons];omega
theorem P1.round {b:Int}{L:Nat}(y:-1<=b/\b<=3)(V:NC b)(R:L<=5){f:Fl}(h:P1 b L f):P2 b L (f.run (zA2.map AV.ac)):=by
 have k:Cst b L (L+1) (L+1) L:=⟨y,V,R,nR_ _,nR_ _,by omega⟩;have F:∀i,Gd b i->WK b L i (f.node i) (f.node i).work/\(f.node i).work.vot=(f.node i).vot/\∃e,(f.node i).work.wai=(f.node i).wai++e:=λi d=>by
  have H:=h.bd.nb i d;have no:=h.no i d;exact zA9 d y (zAL h.bd.re d.1 H.tx H.nu) H (λc A=>.inl (h.lo i d c A)) no.own no.slot no.vin
 obtain⟨o,O,I,E⟩:=h.bd.work k (λi d=>(F i d).1) (λi d=>by
  obtain⟨_,w2,_⟩:=F i d;have no:=h.no i d;exact⟨by rw[w2];exact no.vin,by rw[w2];exact no.vnd,by rw[w2];exact λv D=>⟨(no.vgd v D).1,.inl (no.vgd v D).2⟩,by rw[w2];exact no.few⟩)
 rw[zBi,<-O];have X:∀i,Gd b i->¬0<=cOf (o.node i).k.dag i ((L:Int)+1):=λi d q=>by
  rw[(E i d).1]at q;obtain⟨c,N,_,Z⟩:=zBU q;obtain⟨r,B,J,_⟩:=(h.lo i d c N).rd;omega
 obtain⟨B,J,r3,M⟩:=FI.flow k (λg=>∀i,Gd b i->(∀c∈(g.node i).k.dag,Leg b L c\/c.au=i)/\CP b L i g.no (g.node i)) (λg m l s u q i d=>by
  obtain⟨_,_,Y,C⟩:=s.step k u;have ab:=s.wl d;rw[Y];rcases C i d with⟨z,_⟩|⟨_,z⟩
  .rw[z];exact q i d
  .refine⟨λc A=>?_,z.cp (nR_ _) (by omega) (q i d).2⟩;rcases z.two (nR_ _) c A with p|p
   .exact(q i d).1 c p
   .exact .inr p) _ rfl I (λi d=>by
  refine⟨λc A=>.inl (h.lo i d c (by rw[<-(E i d).1];exact A)),λq=>absurd q (X i d)⟩)
 have D:∀i j,Gd b i->Gd b j->j≠i->(i∈(o.flow.node j).vot\/0<=cOf (o.flow.node j).k.dag j ((L:Int)+1)):=λi j d t U=>by
  refine FI.ev k (λ_=>True) (λg=>i∈(g.node j).vot\/0<=cOf (g.node j).k.dag j ((L:Int)+1)) (λg m l s u _=>⟨trivial,λq=>?_⟩) ((zcE (Hx b L j).slot).ft i j) (λg l s u _=>?_) _ rfl I trivial ?_;obtain⟨_,_,_,C⟩:=s.step k u;rcases C j t with⟨z,_⟩|⟨_,z⟩;rw[z];exact q;obtain⟨e,G⟩:=z.dag;exact q.imp (z.vot i) (λp=>by rw[G];exact zA1 e p);obtain⟨_,_,_,C⟩:=s.step k u;rcases C j t with⟨_,z⟩|⟨_,z⟩;exact absurd rfl z;exact z.pv rfl rfl;refine(E i d).2.2 _ ?_;obtain⟨_,_,e,G⟩:=F i d;rw[G];exact mA_.2 (.inl (h.vs i j d t U))
 have T:∀i,Gd b i->0<=cOf (o.flow.node i).k.dag i ((L:Int)+1):=λj t=>by
  rcases Int.lt_or_le (cOf (o.flow.node j).k.dag j ((L:Int)+1)) 0 with q|q
  exfalso
  have no:=B.no j t;have aa:(o.flow.node j).vot.length<3:=by rcases no.few with z|z;exact z;omega
  have h3:=zCw (l:=gds b) (m:=(o.flow.node j).vot) (zBe y).2.2 (λi d=>by
   have d:=zAg.1 d;by_cases e:j=i
   .rw[<-e];exact no.vin
   .rcases D i j d t e with z|z
    .exact z
    .omega)
  have:=(zBe y).1;omega;exact q
 refine⟨B.bd y J (λi d=>(B.nb i d).leg),λi d=>(M i d).1,B.no,λi d=>(M i d).2,T⟩
theorem P2.round {b:Int}{L:Nat}(B:-1<=b/\b<=3)(X:NC b)(R:L<=5){f:Fl}(h:P2 b L f):P0 b (L+1) (f.run (zA2.map AV.ac)):=by
 have k:Cst b L (L+1) (L+1) (L+1):=⟨B,X,R,nR_ _,nR_ _,nR_ _⟩;have A:∀i,Gd b i->WK b L i (f.node i) (f.node i).work/\(f.node i).work.vot=(f.node i).vot/\∃e,(f.node i).work.wai=(f.node i).wai++e:=λi d=>by
  have C:=h.bd.nb i d;have no:=h.no i d;exact zA9 d B (zAL h.bd.re d.1 C.tx C.nu) C (h.lo i d) no.own no.slot no.vin
 obtain⟨E,O,G,F⟩:=h.bd.work k (λi d=>(A i d).1) (λi d=>by
  obtain⟨_,w2,_⟩:=A i d;have no:=h.no i d;exact⟨by rw[w2];exact no.vin,by rw[w2];exact no.vnd,by rw[w2];exact λv H=>⟨(no.vgd v H).1,.inl (no.vgd v H).2⟩,by rw[w2];exact no.few⟩)
 rw[zBi,<-O];have I:∀i j,Gd b j->∀g m l,FI b L (L+1) (L+1) (L+1) g->g.away=m::l->0<=cOf (g.node j).k.dag i ((L:Int)+1)->0<=cOf ((g.does tkA).node j).k.dag i ((L:Int)+1):=λi j o g m l t p q=>by
  obtain⟨_,_,_,D⟩:=t.step k p;rcases D j o with⟨z,_⟩|⟨_,z⟩;rw[z];exact q;obtain⟨e,V⟩:=z.dag;rw[V];exact zA1 e q
 obtain⟨y,r2,r3,r4⟩:=FI.flow k (λg=>∀i,Gd b i->0<=cOf (g.node i).k.dag i ((L:Int)+1)) (λg m l t p q i d=>I i i d g m l t p (q i d)) _ rfl G (λi d=>by rw[(F i d).1];exact h.has i d);have T:∀i j,Gd b i->Gd b j->0<=cOf (E.flow.node j).k.dag i ((L:Int)+1):=λi j d o=>by
  by_cases e:j=i;rw[e];exact r4 i d;obtain⟨c,J,M,c3,c4,N⟩:=h.cp i d (h.has i d);have aa:=o.1;refine FI.ev k (λ_=>True) (λg=>0<=cOf (g.node j).k.dag i ((L:Int)+1)) (λg m l t p _=>⟨trivial,I i j o g m l t p⟩) ((zdh c).ft i j) (λg l t p _=>?_) _ rfl G trivial ?_;obtain⟨_,_,_,D⟩:=t.step k p;rcases D j o with⟨_,z⟩|⟨_,z⟩;exact absurd rfl z;have:=z.pp rfl;rw[<-J,<-M];exact this;refine(F i d).2.2 _ ?_;obtain⟨_,_,x,hx⟩:=A i d;rw[hx];have:=N j.toNat (by omega) (by omega);rw[show((j.toNat:Nat):Int)=j by omega]at this;exact mA_.2 (.inl this)
 have Y:∀i,Gd b i->NB b (L+1) i (E.flow.node i):=λi d=>by
  have n:=y.nb i d;refine⟨n.nu,n.up,n.sh,n.tx,λc U=>(n.leg c U).mono (by omega),λj o r hr=>?_,n.uq,λs Z=>?_⟩;by_cases e:r=L;subst e;exact T j i o d;exact n.all j o r (by omega);obtain⟨j,r,q1,q2,q3⟩:=n.tab s Z;exact⟨j,r,q1,by omega,q3⟩
 have u:=y.bd B r2 (λi d=>(y.nb i d).leg);refine⟨⟨u.re,u.aw,Y,u.wa,u.tl,u.tv⟩,λi d=>(y.nb i d).leg,λi d=>?_⟩;rw[(y.no i d).own];show(L:Int)+1<=((L+1:Nat):Int);omega
theorem zDl:decide (NC (-1))=true:=by kernel_rfl
theorem zDm:decide (NC 0)=true:=by kernel_rfl
theorem zDn:decide (NC 1)=true:=by kernel_rfl
theorem zDo:decide (NC 2)=true:=by kernel_rfl
theorem zDp:decide (NC 3)=true:=by kernel_rfl
theorem zCx {b:Int}(h:-1<=b/\b<=3):NC b:=by
 rcases zAH h with e|e|e|e|e<;>subst e;exact of_decide_eq_true zDl;exact of_decide_eq_true zDm;exact of_decide_eq_true zDn;exact of_decide_eq_true zDo;exact of_decide_eq_true zDp
theorem zB6 {b:Int}(h:-1<=b/\b<=3):((Fl.z b).run ((zhd 4).map AV.ac)).away=[]/\∀i:Int,0<=i/\i<4->((Fl.z b).run ((zhd 4).map AV.ac)).node i={ Nd.z i with up:=true }:=by
 have zsL:∀i:Int,0<=i/\i<4->i=0\/i=1\/i=2\/i=3:=λi c=>by omega
 rcases zAH h with e|e|e|e|e<;>subst e<;>refine⟨rfl,λi c=>?_⟩<;>rcases zsL i c with e|e|e|e<;>subst e<;>rfl
theorem zBC {b:Int}{f:Fl}{p:Nd->Nat}(h:∀i,Gd b i->p (f.node i)=0):tot b p f=0:=by
 have c:∀j:Int,0<=j/\j<4->(if j=b then 0 else p (f.node j))=0:=λj d=>by
  split
  rfl
  rename_i q;exact h j ⟨d,q⟩
 unfold tot;rw[c 0 (by decide),c 1 (by decide),c 2 (by decide),c 3 (by decide)]
theorem P0.z {b:Int}(h:-1<=b/\b<=3):P0 b 0 ((Fl.z b).run ((zdc 0).map AV.ac)):=by
 obtain⟨o,p⟩:=zB6 h;have m:Rch b ((Fl.z b).run ((zhd 4).map AV.ac)):=⟨_,ziz (zBB 0),rfl⟩;show P0 b 0 ((Fl.z b).run ((zhd 4).map AV.ac));generalize (Fl.z b).run ((zhd 4).map AV.ac)=f at o p m;have g:∀i,Gd b i->f.node i={ Nd.z i with up:=true }:=λi d=>p i d.1;refine⟨⟨m,o,λi d=>?_,λi d x q=>?_,?_,?_⟩,λi d c l=>?_,λi d=>?_⟩;rw[g i d];exact⟨rfl,rfl,rfl,rfl,(λc l=>by cases l),(λj u r m=>by omega),rfl,(λs t=>by cases t)⟩;rw[g i d]at q;cases q;rw[zBC (λi d=>by rw[g i d];rfl)];omega;rw[zBC (λi d=>by rw[g i d];rfl)];omega;rw[g i d]at l;cases l;rw[g i d];exact Int.le_refl _
theorem zkP (b:Int)(R:Nat):(Fl.z b).run ((zdc (R+1)).map AV.ac)=((Fl.z b).run ((zdc R).map AV.ac)).run (zA2.map AV.ac):=by
 have e:zdc (R+1)=zdc R++zA2:=by
  show zdc R++zfg 4++_=_;rw[List.append_assoc];rfl
 rw[e,List.map_append,Fl.run_append]
theorem zBa {b:Int}(h:-1<=b/\b<=3):∀L:Nat,L<=6->P0 b L ((Fl.z b).run ((zdc (3*L)).map AV.ac))
 | 0,_=>P0.z h
 | L+1,hL=>by
  have c:=zCx h
  have d:=zBa h L (by omega)
  rw[show 3*(L+1)=3*L+1+1+1 by omega,zkP,zkP,zkP]
  exact((d.round h c (by omega)).round h c (by omega)).round h c (by omega)
theorem zC0 {b:Int}(h:-1<=b/\b<=3){k:Nat}(y:6<=k)(z:k<=17){i:Int}(d:Gd b i):zdi (((Fl.z b).run ((zdc k).map AV.ac)).node i).k.dag=((k / 3:Nat):Int)+1/\3<=(dgF (((Fl.z b).run ((zdc k).map AV.ac)).node i).k.dag 1).length:=by
 have m:=zCx h;have o:∀f:Fl,NB b (k / 3) i (f.node i)->(∀c∈(f.node i).k.dag,Leg b (k / 3) c\/c.au=i)->zdi (f.node i).k.dag=((k / 3:Nat):Int)+1/\3<=(dgF (f.node i).k.dag 1).length:=λf p u=>by
  refine⟨zBh h p u,?_⟩;have:=zB3 (r:=0) p.leg (λj t=>p.all j t 0 (by omega));rw[show(((0:Nat):Int)+1)=1 by decide]at this;rw[this];exact(zBy h 1).2 (by omega)
 have g:=zBa h (k / 3) (by omega);rcases(by omega:k=3*(k / 3)\/k=3*(k / 3)+1\/k=3*(k / 3)+1+1)with e|e|e;have:=o _ (g.bd.nb i d) (λc l=>.inl (g.lo i d c l))
 rwa [<-e]at this
 have q:=g.round h m (by omega);rw[<-zkP,<-e]at q;exact o _ (q.bd.nb i d) (λc l=>.inl (q.lo i d c l));have s:=(g.round h m (by omega)).round h m (by omega);rw[<-zkP,<-zkP,<-e]at s;exact o _ (s.bd.nb i d) (s.lo i d)
theorem zB7 {b:Int}(h:-1<=b/\b<=3){k:Nat}(j:6<=k)(l:k<=17){o:Om}(q:o.v=((Fl.z b).run ((zdc k).map AV.ac)).told)(i:Nat)(p:i<4)(d:(i:Int)≠b):(o.y i).rd=((k / 3:Nat):Int)+1/\3<=(dgF (zI (o.y i).ls) 1).length:=by
 obtain⟨s,t⟩:=zC0 h j l (i:=(i:Int)) ⟨⟨by omega,by omega⟩,d⟩;have c:=zb0 q i p;have m:((Fl.z b).run ((zdc k).map AV.ac)).no.bad=b:=zxU _ _;have r:((Fl.z b).run ((zdc k).map AV.ac)).view ((i:Nat):Int)=_:=iN_ (by rw[m];exact d);rw[r]at c;have f:(o.y i).rd=zdi (((Fl.z b).run ((zdc k).map AV.ac)).node i).k.dag:=cA_ Vw.rd c;have g:zI (o.y i).ls=(((Fl.z b).run ((zdc k).map AV.ac)).node i).k.dag:=cA_ Vw.cs c;rw[f,g];exact⟨s,t⟩
variable {r:Int}
theorem zBD {l:List Ct}{c:Ct}(h:c∈l):c.v∈zI l:=List.mem_map_of_mem h
theorem zB8 {l:List AV}{o:Om}(h:o.v=((Fl.z r).run (l.map AV.ac)).told)(t:∀a∈l,a.e=0/\a.t.size<=4000):∀i k,i<4->k<4->∀c∈(o.y i).ls,∀d∈(o.y k).ls,c.v.au=d.v.au->c.v.rd=d.v.rd->c.v.d=d.v.d:=by
 intro i k q s c m d p g j;have b:c.v∈(((Fl.z r).run (l.map AV.ac)).view ((i:Nat):Int)).cs:=by rw[<-zb0 h i q];exact zBD m
 have f:d.v∈(((Fl.z r).run (l.map AV.ac)).view ((k:Nat):Int)).cs:=by rw[<-zb0 h k s];exact zBD p
 exact zCv r _ (ziz t) (by omega) (by omega) b f g j
variable {W:World}
theorem zAP (c:Ct)(w:World)(o:za7 w c)(q:c.v.f=0)(l:za2 w) :
  Calls prog 14 #[.agg (crow_ c)] w λe w'=>∃b,e=.returned (.slice (some (p_ b 0)) 32 32)/\B_ w w'/\zg w' (some (p_ b 0)) 32 c.v.d:=by
 have d:=zC w (.cells (crow_ c) 59);have f:=hN_ w (.cells (crow_ c) 59);have j:zO c.au c.rd c.bl c.pl=0:=by rw[Ct.hf_v];exact zfO (vl:=c.vl) q
 go_in;go_upto_region 1 with fail
 generalize w.alloc (.cells (crow_ c) 59)=s at d f|-;have g:=zea (o.hat.below d) j (l.below d);rw[Ct.d_v]at g;have t:=zb f 0 _ rfl;have u:=zb f 1 _ rfl;have y:=zb f 2 _ rfl;have z:=zb f 3 _ rfl;clear j;go_wp2_with fail
 refine g.mono ?_;rintro e A⟨b,p,_,m,r⟩;subst p;dsimp only;clear g;go_wp2_with fail
 go_ret;exact⟨b,rfl,d.trans (m.mono d.size),r⟩
structure zB9 (W:World)(vb i:Nat)(x:Vm):Prop where
 vw:W.cell? (p_ vb (i*6+2))=some (.slice x.ca x.ls.length x.cc)
 rows:∀a (h:a<x.ls.length),∃g,x.ca=some (p_ g 0)/\W.rangeAt g (a*5) (x.ls[a]).cs
 each:∀c∈x.ls,za7 W c
theorem zex.vc {o:Om}(h:zex W o){c:Nat}(p:o.na=some (p_ c 0)){i:Nat}(g:i<4):zB9 W c i (o.y i):=by
 obtain⟨b,f,l⟩:=h.row g;obtain rfl:c=b:=by rw[p]at f;simpa using f
 have j:=h.vm i g;refine⟨l 2 _ rfl,λa d=>zei j.rc d rfl (λt m=>zfx _ a t d m),j.ec⟩
theorem zC1 (o:Om)(w:World)(hO:zex w o)(aH:∀i,i<4->zlk (o.y i).v)(h1:∀i k,i<4->k<4->∀c∈(o.y i).ls,∀d∈(o.y k).ls,c.v.au=d.v.au->c.v.rd=d.v.rd->c.v.d=d.v.d)(hT:za2 w) :
  Calls prog 9 #[.agg #[.slice o.na 4 o.nc,.slice o.ga o.gs.length o.gc,I_ o.aw,.slice o.ca o.cs.length o.cc]] w λe w'=>e=.returned (.bool true)/\B_ w w':=by
 obtain⟨s,aq,_⟩:=hO.row (i:=0) (by decide);have HT:Hid (∀W:World,B_ w W->za2 W):=λW hW=>hT.below hW;have HV:Hid (∀W:World,B_ w W->∀i,i<4->zB9 W s i (o.y i)):=λW hW i hi=>(hO.below hW).vc aq hi;have HK:Hid (∀i,i<4->(o.y i).ls.length<=400/\∀c∈(o.y i).ls,c.v.f=0):=by
  intro i hi;have hd:=(aH i hi).dag;refine⟨zlE hd,λc hc=>?_⟩;obtain⟨k,hk,rfl⟩:=List.getElem_of_mem hc;have hz:=(zgw hd).2 k (by show k<(zI (o.y i).ls).length;rw[zbv];exact hk);rw[zgH,Bool.or_eq_false_iff]at hz;have hz:=of_decide_eq_false hz.1;have e:zaM (zI (o.y i).ls) k=((o.y i).ls[k]).v:=by rw[zk4 _ k hk]
  have hz:¬(zaM (zI (o.y i).ls) k).f≠0:=hz;rw[e]at hz;exact Decidable.not_not.1 hz
 have H1:Hid _:=h1;rw[aq];clear hT hO aH h1 aq;refine kV_ ?A0 ?_;exact Value.slice (some (p_ s 0)) 4 o.nc;refine kO_ ?B0 ?_;exact Obj.cells #[?A0,.slice o.ga o.gs.length o.gc,I_ o.aw,.slice o.ca o.cs.length o.cc] 28;have O:=zC w ?B0;have q0:=hN_ w ?B0;go_in;go_wp2_with fail
 generalize w.alloc ?B0=W0 at O q0|-;go_loopw [3] (λj wr=>∃i:Nat,i<=4/\j=I_ i/\B_ W0 wr) (λj _=>4-(intOf j).toNat)
 case atStart=>exact⟨0,nZ_ _,rfl,bR_ _ _⟩
 case round=>
  obtain⟨i,hi,rfl,r⟩:=hrel;have U:=zk r q0;have u:=zb U 0 ?A0 rfl;by_cases hlt:i<4
  .have aR:(i:Int)<4:=by omega
   obtain⟨aS,aI⟩:=HK.out i hlt;have HX:Hid (∀W:World,B_ W0 W->zB9 W s i (o.y i)):=λW hW=>HV.out W (O.trans (hW.mono O.size)) i hlt;have aB:Hid _:=aI;have ay:Hid (∀k,k<4->∀c∈(o.y i).ls,∀d∈(o.y k).ls,c.v.au=d.v.au->c.v.rd=d.v.rd->c.v.d=d.v.d):=λk hk=>H1.out i k hlt hk;clear aI;generalize o.y i=x at aS HX aB ay;clear U;go_wp2_with fail
   clear u;go_loopw [4] (λj wx=>∃k:Nat,k<=i+1/\j=I_ k/\B_ W0 wx) (λj _=>i+1-(intOf j).toNat)
   case atStart=>exact⟨0,nZ_ _,rfl,r⟩
   case round=>
    clear r;obtain⟨k,hk,rfl,r⟩:=hrel;by_cases hki:k<=i
    .have aQ:(k:Int)<=i:=by omega
     have ap:k<4:=by omega
     have a1:(k:Int)<4:=by omega
     obtain⟨aT,aJ⟩:=HK.out k ap;have HY:Hid (∀W:World,B_ W0 W->zB9 W s k (o.y k)):=λW hW=>HV.out W (O.trans (hW.mono O.size)) k ap;have aC:Hid _:=aJ;have az:Hid (∀c∈x.ls,∀d∈(o.y k).ls,c.v.au=d.v.au->c.v.rd=d.v.rd->c.v.d=d.v.d):=ay.out k ap;clear aJ;generalize o.y k=y at aT HY aC az;go_wp2_with fail
     go_loopw [5] (λj wx=>∃a:Nat,a<=x.ls.length/\j=I_ a/\B_ W0 wx) (λj _=>x.ls.length-(intOf j).toNat)
     case atStart=>exact⟨0,nZ_ _,rfl,r⟩
     case round=>
      clear r;obtain⟨a,ha,rfl,r⟩:=hrel;have U:=zk r q0;have u:=zb U 0 ?A0 rfl;have z:=(HX.out wr r).vw;clear U;by_cases hax:a<x.ls.length
      .have aN:(a:Int)<x.ls.length:=by omega
       go_wp2_with fail
       clear u z;go_loopw [6] (λj wx=>∃b:Nat,b<=y.ls.length/\j=I_ b/\B_ W0 wx) (λj _=>y.ls.length-(intOf j).toNat)
       case atStart=>exact⟨0,nZ_ _,rfl,r⟩
       case round=>
        clear r;obtain⟨b,aO,rfl,r⟩:=hrel;have U:=zk r q0;have u:=zb U 0 ?A0 rfl;have v1:=(HY.out wr r).vw;by_cases hby:b<y.ls.length
        .have aP:(b:Int)<y.ls.length:=by omega
         have hX:=HX.out wr r;have hY:=HY.out wr r;obtain⟨E,aF,rx⟩:=hX.rows a hax;obtain⟨F,aG,ry⟩:=hY.rows b hby;have z:=hX.vw;rw[aF]at z;have aw:=z;rw[aG]at v1;have an:=gM_ hax;have ao:=gM_ hby;have al:Hid (za7 wr (x.ls[a])/\(x.ls[a]).v.f=0):=⟨hX.each _ an,aB.out _ an⟩;have am:Hid (za7 wr (y.ls[b])/\(y.ls[b]).v.f=0):=⟨hY.each _ ao,aC.out _ ao⟩;have ad:Hid ((x.ls[a]).v.au=(y.ls[b]).v.au->(x.ls[a]).v.rd=(y.ls[b]).v.rd->(x.ls[a]).v.d=(y.ls[b]).v.d):=az.out _ an _ ao;clear an ao hX hY aF aG;generalize x.ls[a]=c at rx al ad;generalize y.ls[b]=d at ry am ad;have c0:C_ wr E (a*5+0) (I_ c.au):=rx 0 _ rfl;have c1:C_ wr E (a*5+1) (I_ c.rd):=rx 1 _ rfl;have c2:C_ wr E (a*5+2) (.slice c.ba c.bl.length c.bc):=rx 2 _ rfl;have c3:C_ wr E (a*5+3) (.slice c.pa c.pl.length c.pc):=rx 3 _ rfl;have ac:=zC wr (.cells (hrow_ c) 56);have qX:=hN_ wr (.cells (hrow_ c) 56);simp only[Nat.add_zero]at c0;go_upto_region 14 with fail
         clear c0 c1 c2 c3 u z;generalize wr.alloc (.cells (hrow_ c) 56)=W1 at ac qX|-;generalize wr.heap.size=X at qX|-;have aE:=zm r ac;have au:=zk ac U;have u:=zb au 0 ?A0 rfl;have ae:=zdd ry ac;have ax:=(ac.cell (bL_ v1)).trans v1;have c0:C_ W1 F (b*5+0) (I_ d.au):=ae 0 _ rfl;have c1:C_ W1 F (b*5+1) (I_ d.rd):=ae 1 _ rfl;have c2:C_ W1 F (b*5+2) (.slice d.ba d.bl.length d.bc):=ae 2 _ rfl;have c3:C_ W1 F (b*5+3) (.slice d.pa d.pl.length d.pc):=ae 3 _ rfl;have ab:=zC W1 (.cells (hrow_ d) 56);have qY:=hN_ W1 (.cells (hrow_ d) 56);simp only[Nat.add_zero]at c0;go_upto_region 15 with fail
         clear c0 c1 c2 c3 u;generalize W1.alloc (.cells (hrow_ d) 56)=t at ab qY|-;generalize W1.heap.size=Y at qY|-;have ak:=zm aE ab;have ai:=zm ac ab;have af:Hid (za7 t c/\c.v.f=0):=⟨al.out.1.below ai,al.out.2⟩;have ag:Hid (za7 t d/\d.v.f=0):=⟨am.out.1.below ai,am.out.2⟩;have ah:Hid (∀V:World,B_ t V->za2 V):=λV hV=>HT.out V ((O.trans (ak.mono O.size)).trans (hV.mono (O.trans (ak.mono O.size)).size));have u:C_ t w.heap.size 0 ?A0:=zb (zk ab au) 0 _ rfl;have z:=(ai.cell (bL_ aw)).trans aw;have I:=(ab.cell (bL_ ax)).trans ax;have G:=zdd rx ai;have H:=zdd ae ab;have ar:=zk ab qX;have J:=zb ar 0 _ rfl;have L:=zb ar 1 _ rfl;have M:=zb qY 0 _ rfl;have N:=zb qY 1 _ rfl;clear aw qX ar qY U au v1 ax rx ry ae ac ab ai al am r aE;by_cases e1:c.au=d.au;refine kV_ ?C0 ?_;exact Value.slice (some (p_ E 0)) x.ls.length x.cc;refine kV_ ?D0 ?_;exact Value.slice (some (p_ F 0)) y.ls.length y.cc
         .by_cases e2:c.rd=d.rd;have e3:(c.au == d.au)=true:=by simpa using e1
          have e4:(c.rd == d.rd)=true:=by simpa using e2
          obtain⟨D,hD⟩:∃D,D=c.v.d:=⟨_,rfl⟩;have aD:d.v.d=D:=by rw[hD];exact(ad.out e1 e2).symm
          have HL:Hid (D.length=32):=by show _=_;rw[hD,<-Ct.d_v];exact zbD _ _ _ _
          have aM:Hid (∀V:World,B_ t V->Calls prog 14 #[.agg (crow_ c)] V λe w'=>∃b,e=.returned (.slice (some (p_ b 0)) 32 32)/\B_ V w'/\zg w' (some (p_ b 0)) 32 D):=by
           show ∀V,_;intro V hV;rw[hD];exact zAP c V (af.out.1.below hV) af.out.2 (ah.out V hV)
          have aA:Hid (∀V:World,B_ t V->Calls prog 14 #[.agg (crow_ d)] V λe w'=>∃b,e=.returned (.slice (some (p_ b 0)) 32 32)/\B_ V w'/\zg w' (some (p_ b 0)) 32 D):=by
           show ∀V,_;intro V hV;rw[<-aD];exact zAP d V (ag.out.1.below hV) ag.out.2 (ah.out V hV)
          clear hD aD ad af ag ah;have p:=dB_ t;refine wR_ (S:=λw'=>C_ w' w.heap.size 0 ?A0/\C_ w' s (i*6+2) ?C0/\C_ w' s (k*6+2) ?D0/\C_ w' X 0 (I_ c.au)/\C_ w' X 1 (I_ c.rd)/\C_ w' Y 0 (I_ d.au)/\C_ w' Y 1 (I_ d.rd)/\w'.rangeAt E (a*5) c.cs/\w'.rangeAt F (b*5) d.cs) (by kernel_rfl) ⟨zr p u,zr p z,zr p I,zr p J,zr p L,zr p M,zr p N,(zdd G p),(zdd H p)⟩ (λl=>?_);generalize t.drew=V0 at p  l ⊢;refine tks_ 21 [(0,63,(P_ X 0)),(1,64,I_ c.au),(2,65,(P_ Y 0)),(3,66,I_ d.au),(4,67,.bool true),(5,68,.bool true),(6,69,(P_ X 1)),(7,70,I_ c.rd),(8,71,(P_ Y 1)),(9,72,I_ d.rd),(10,73,.bool true),(11,74,.bool true),(12,75,.bool true),(13,76,(P_ w.heap.size 0)),(14,77,.slice (some (p_ s 0)) 4 o.nc),(15,78,I_ (i:Int)),(16,79,(P_ s (i*6))),(17,80,(P_ s (i*6+2))),(18,81,.slice (some (p_ E 0)) x.ls.length x.cc),(19,82,I_ (a:Int)),(20,83,(P_ E (a*5)))] l ?_;simp only[tkf_,zf];refine tQ_ 21 84 (.agg (crow_ c)) rfl rfl (yieldsIf_load_mid (by rfl) 59 _ rfl E (a*5) rfl c.cs _ (λw0 h=>h.2.2.2.2.2.2.2.1) underlying59 rfl zyN) l ?_;simp only[zf];refine tks_ 8 [(24,87,(P_ w.heap.size 0)),(25,88,.slice (some (p_ s 0)) 4 o.nc),(26,89,I_ (k:Int)),(27,90,(P_ s (k*6))),(28,91,(P_ s (k*6+2))),(29,92,.slice (some (p_ F 0)) y.ls.length y.cc),(30,93,I_ (b:Int)),(31,94,(P_ F (b*5)))] l ?_;simp only[tkf_,zf];refine tQ_ 32 95 (.agg (crow_ d)) rfl rfl (yieldsIf_load_mid (by rfl) 59 _ rfl F (b*5) rfl d.cs _ (λw0 h=>h.2.2.2.2.2.2.2.2) underlying59 rfl zyN) l ?_;simp only[zf];clear l;refine zno (λZ aa T=>?_);refine znp (λA0 A=>?_);refine kV_ ?E0 ?_;exact Value.string (zai D);have aX:Hid (∀(V:World) (g:Nat) (q:Nat),B_ t V->(zg V (some (p_ g 0)) 32 D)->(zg V (some (p_ q 0)) 32 D)->Z 0 #[true,true,true,true,true,true,true,true,true,true,true,true,true,true,true,true,true,true,true,true,true,true,true,true,true,true,true,true,true,true,true,true,true,true,true,true,true] ((((((A0.put (some 85) (.slice (some (p_ g 0)) 32 32)).put (some 96) (.slice (some (p_ q 0)) 32 32)).put (some 86) ?E0).put (some 97) ?E0).put (some 98) (.bool false)).put (some 99) (.bool false)) V):=by
           show ∀V,_;intro V g q f C R;refine aa.out _ _ _ _ ?_;rw[<-A.out]
           try simp only[zf]
           refine wD_ (by kernel_rfl) ?_ _;have aj:=zm ak f;clear aa T Z
           (try go_wp2_with fail)
           go_roundw
           case rel=>exact⟨b+1,by omega,by go_num,aj⟩
           case measure=>simp[intOf];omega
          have aL:Hid (∀(V:World) (g:Nat) (q:Nat),B_ t V->(zg V (some (p_ g 0)) 32 D)->(zg V (some (p_ q 0)) 32 D)->Z 2 #[true,true,true,true,true,true,true,true,true,true,true,true,true,true,true,true,true,true,true,true,true,true,true,true,true,true,true,true,true,true,true,true,true,true,true,false,false] ((((A0.put (some 85) (.slice (some (p_ g 0)) 32 32)).put (some 96) (.slice (some (p_ q 0)) 32 32)).put (some 86) ?E0).put (some 97) ?E0) V):=by
           show ∀V,_;intro V g q f C R;refine aa.out _ _ _ _ ?_;rw[<-A.out]
           try simp only[zf]
           refine zE 35 rfl (λK B=>?_);refine zic (by rfl) 98 rfl (.bool false) V (by go_simp) ?_;refine B.out _ _ ⟨zr f u,zr f z,zr f I,zr f J,zr f L,zr f M,zr f N,(zdd G f),(zdd H f)⟩ (λl=>?_);simp only[zf];refine zU 36 99 (.bool false) rfl rfl l ?_;simp only[zf];clear l;have h:=aX.out V g q f C R;rw[<-A.out]at h
           (try simp only[zf]at h)
           (try simp only[zf])
           exact T.out _ _ _ _ h
          have aK:Hid (∀(V:World) (g:Nat) (q:Nat),B_ t V->(zg V (some (p_ g 0)) 32 D)->(zg V (some (p_ q 0)) 32 D)->Z 3 #[true,true,true,true,true,true,true,true,true,true,true,true,true,true,true,true,true,true,true,true,true,true,true,true,true,true,true,true,true,true,true,true,true,true,false,false,false] (((A0.put (some 85) (.slice (some (p_ g 0)) 32 32)).put (some 96) (.slice (some (p_ q 0)) 32 32)).put (some 86) ?E0) V):=by
           show ∀V,_;intro V g q f C R;refine aa.out _ _ _ _ ?_;rw[<-A.out]
           try simp only[zf]
           refine zE 34 rfl (λK B=>?_);have cv:=zd8 V (some (p_ q 0)) 32 32 D HL.out.symm R;refine zic (by rfl) 97 rfl ?E0 V (by go_simp) ?_;refine B.out _ _ ⟨zr f u,zr f z,zr f I,zr f J,zr f L,zr f M,zr f N,(zdd G f),(zdd H f)⟩ (λl=>?_);clear l;have h:=aL.out V g q f C R;rw[<-A.out]at h
           (try simp only[zf]at h)
           (try simp only[zf])
           exact T.out _ _ _ _ h
          have aY:Hid (∀(V:World) (g:Nat) (q:Nat),B_ t V->(zg V (some (p_ g 0)) 32 D)->(zg V (some (p_ q 0)) 32 D)->Z 3 #[true,true,true,true,true,true,true,true,true,true,true,true,true,true,true,true,true,true,true,true,true,true,true,false,true,true,true,true,true,true,true,true,true,true,true,false,false] (((A0.put (some 85) (.slice (some (p_ g 0)) 32 32)).put (some 96) (.slice (some (p_ q 0)) 32 32)).put (some 97) ?E0) V):=by
           show ∀V,_;intro V g q f C R;refine aa.out _ _ _ _ ?_;rw[<-A.out]
           try simp only[zf]
           refine zE 23 rfl (λK B=>?_);have cv:=zd8 V (some (p_ g 0)) 32 32 D HL.out.symm C;refine zic (by rfl) 86 rfl ?E0 V (by go_simp) ?_;refine B.out _ _ ⟨zr f u,zr f z,zr f I,zr f J,zr f L,zr f M,zr f N,(zdd G f),(zdd H f)⟩ (λl=>?_);clear l;have h:=aL.out V g q f C R;rw[<-A.out]at h
           (try simp only[zf]at h)
           (try simp only[zf])
           exact T.out _ _ _ _ h
          have aW:Hid (∀(V:World) (g:Nat) (q:Nat),B_ t V->(zg V (some (p_ g 0)) 32 D)->(zg V (some (p_ q 0)) 32 D)->Z 4 #[true,true,true,true,true,true,true,true,true,true,true,true,true,true,true,true,true,true,true,true,true,true,true,false,true,true,true,true,true,true,true,true,true,true,false,false,false] ((A0.put (some 85) (.slice (some (p_ g 0)) 32 32)).put (some 96) (.slice (some (p_ q 0)) 32 32)) V):=by
           show ∀V,_;intro V g q f C R;refine aa.out _ _ _ _ ?_;rw[<-A.out]
           try simp only[zf]
           refine rY_ (rs:=[23,34]) (by kernel_rfl) (by simp) (rA_ rfl (λK B=>?_) (rA_ rfl (λK B=>?_) rN_));have cv:=zd8 V (some (p_ g 0)) 32 32 D HL.out.symm C;refine zic (by rfl) 86 rfl ?E0 V (by go_simp) ?_
           rotate_left
           have cv:=zd8 V (some (p_ q 0)) 32 32 D HL.out.symm R;refine zic (by rfl) 97 rfl ?E0 V (by go_simp) ?_
           rotate_left
           all_goals
            refine B.out _ _ ⟨zr f u,zr f z,zr f I,zr f J,zr f L,zr f M,zr f N,(zdd G f),(zdd H f)⟩ (λl=>?_);clear l
           have h:=aK.out V g q f C R
           rotate_left
           have h:=aY.out V g q f C R
           rotate_left
           all_goals
            rw[<-A.out]at h
            (try simp only[zf]at h)
            (try simp only[zf])
            exact T.out _ _ _ _ h
          have aZ:Hid (∀(V:World) (g:Nat),B_ t V->(zg V (some (p_ g 0)) 32 D)->Z 4 #[true,true,true,true,true,true,true,true,true,true,true,true,true,true,true,true,true,true,true,true,true,true,true,true,true,true,true,true,true,true,true,true,true,false,false,false,false] ((A0.put (some 85) (.slice (some (p_ g 0)) 32 32)).put (some 86) ?E0) V):=by
           show ∀V,_;intro V g f C;refine aa.out _ _ _ _ ?_;rw[<-A.out]
           try simp only[zf]
           refine zE 33 rfl (λK B=>?_);refine zaJ (by rfl) 96 rfl 14 [.tmp 95] #[59] rfl [.agg (crow_ d)] rfl (eO_ func14) (λv w'=>(∃b,v=.slice (some (p_ b 0)) 32 32/\zg w' (some (p_ b 0)) 32 D)/\B_ V w') ((aA.out V f).mono (λe w2 h=>by obtain⟨b,he,h1,h2⟩:=h;exact⟨_,he,⟨b,rfl,h2⟩,h1⟩)) ?_;rintro v W'⟨⟨q,rfl,av⟩,r⟩;have m:=zm f r;refine B.out _ _ ⟨zr m u,zr m z,zr m I,zr m J,zr m L,zr m M,zr m N,(zdd G m),(zdd H m)⟩ (λl=>?_);clear l;have h:=aK.out W' g q m (C.below r) av;rw[<-A.out]at h
           (try simp only[zf]at h)
           (try simp only[zf])
           exact T.out _ _ _ _ h
          have aV:Hid (∀(V:World) (g:Nat),B_ t V->(zg V (some (p_ g 0)) 32 D)->Z 5 #[true,true,true,true,true,true,true,true,true,true,true,true,true,true,true,true,true,true,true,true,true,true,true,false,true,true,true,true,true,true,true,true,true,false,false,false,false] (A0.put (some 85) (.slice (some (p_ g 0)) 32 32)) V):=by
           show ∀V,_;intro V g f C;refine aa.out _ _ _ _ ?_;rw[<-A.out]
           try simp only[zf]
           refine rY_ (rs:=[23,33]) (by kernel_rfl) (by simp) (rA_ rfl (λK B=>?_) (rA_ rfl (λK B=>?_) rN_));have cv:=zd8 V (some (p_ g 0)) 32 32 D HL.out.symm C;refine zic (by rfl) 86 rfl ?E0 V (by go_simp) ?_;refine B.out _ _ ⟨zr f u,zr f z,zr f I,zr f J,zr f L,zr f M,zr f N,(zdd G f),(zdd H f)⟩ (λl=>?_);clear l;have h:=aZ.out V g f C
           rotate_left
           refine zaJ (by rfl) 96 rfl 14 [.tmp 95] #[59] rfl [.agg (crow_ d)] rfl (eO_ func14) (λv w'=>(∃b,v=.slice (some (p_ b 0)) 32 32/\zg w' (some (p_ b 0)) 32 D)/\B_ V w') ((aA.out V f).mono (λe w2 h=>by obtain⟨b,he,h1,h2⟩:=h;exact⟨_,he,⟨b,rfl,h2⟩,h1⟩)) ?_;rintro v W'⟨⟨q,rfl,av⟩,r⟩;have m:=zm f r;refine B.out _ _ ⟨zr m u,zr m z,zr m I,zr m J,zr m L,zr m M,zr m N,(zdd G m),(zdd H m)⟩ (λl=>?_);clear l;have h:=aW.out W' g q m (C.below r) av
           rotate_left
           all_goals
            rw[<-A.out]at h
            (try simp only[zf]at h)
            (try simp only[zf])
            exact T.out _ _ _ _ h
          have aU:Hid (∀(V:World),B_ t V->Z 6 #[true,true,true,true,true,true,true,true,true,true,true,true,true,true,true,true,true,true,true,true,true,true,false,false,true,true,true,true,true,true,true,true,true,false,false,false,false] A0 V):=by
           show ∀V,_;intro V  f;refine aa.out _ _ _ _ ?_;rw[<-A.out]
           try dsimp only
           refine zE 22 rfl (λK B=>?_);refine zaJ (by rfl) 85 rfl 14 [.tmp 84] #[59] rfl [.agg (crow_ c)] rfl (eO_ func14) (λv w'=>(∃b,v=.slice (some (p_ b 0)) 32 32/\zg w' (some (p_ b 0)) 32 D)/\B_ V w') ((aM.out V f).mono (λe w2 h=>by obtain⟨b,he,h1,h2⟩:=h;exact⟨_,he,⟨b,rfl,h2⟩,h1⟩)) ?_;rintro v W'⟨⟨g,rfl,a0⟩,r⟩;have m:=zm f r;refine B.out _ _ ⟨zr m u,zr m z,zr m I,zr m J,zr m L,zr m M,zr m N,(zdd G m),(zdd H m)⟩ (λl=>?_);clear l;have h:=aV.out W' g m a0;rw[<-A.out]at h
           (try simp only[zf]at h)
           (try simp only[zf])
           exact T.out _ _ _ _ h
          exact aU.out V0 p;have e3:(c.au == d.au)=true:=by simpa using e1
          have e4:(c.rd == d.rd)=false:=by simpa using e2
          clear ad af ag ah;have p:=dB_ t;refine wR_ (S:=λw'=>C_ w' w.heap.size 0 ?A0/\C_ w' s (i*6+2) ?C0/\C_ w' s (k*6+2) ?D0/\C_ w' X 0 (I_ c.au)/\C_ w' X 1 (I_ c.rd)/\C_ w' Y 0 (I_ d.au)/\C_ w' Y 1 (I_ d.rd)/\w'.rangeAt E (a*5) c.cs/\w'.rangeAt F (b*5) d.cs) (by kernel_rfl) ⟨zr p u,zr p z,zr p I,zr p J,zr p L,zr p M,zr p N,zde G,zde H⟩ (λl=>?_);generalize t.drew=V0 at p l|-;refine tks_ 24 [(0,63,(P_ X 0)),(1,64,I_ c.au),(2,65,(P_ Y 0)),(3,66,I_ d.au),(4,67,.bool true),(5,68,.bool true),(6,69,(P_ X 1)),(7,70,I_ c.rd),(8,71,(P_ Y 1)),(9,72,I_ d.rd),(10,73,.bool false),(11,74,.bool false),(12,75,.bool false),(13,76,undef),(14,77,undef),(15,78,undef),(16,79,undef),(17,80,undef),(18,81,undef),(19,82,undef),(20,83,undef),(21,84,undef),(22,85,undef),(23,86,undef)] l ?_;simp only[tkf_,zf];refine tks_ 13 [(24,87,undef),(25,88,undef),(26,89,undef),(27,90,undef),(28,91,undef),(29,92,undef),(30,93,undef),(31,94,undef),(32,95,undef),(33,96,undef),(34,97,undef),(35,98,undef),(36,99,.bool false)] l ?_;simp only[tkf_,zf];refine wD_ (by kernel_rfl) ?_ _;have aj:=zm ak p;clear l
          (try go_wp2_with fail)
          go_roundw
          case rel=>exact⟨b+1,by omega,by go_num,aj⟩
          case measure=>simp[intOf];omega
         have e3:(c.au == d.au)=false:=by simpa using e1
         clear ad af ag ah;have p:=dB_ t;refine wR_ (S:=λw'=>C_ w' w.heap.size 0 ?A0/\C_ w' s (i*6+2) ?C0/\C_ w' s (k*6+2) ?D0/\C_ w' X 0 (I_ c.au)/\C_ w' X 1 (I_ c.rd)/\C_ w' Y 0 (I_ d.au)/\C_ w' Y 1 (I_ d.rd)/\w'.rangeAt E (a*5) c.cs/\w'.rangeAt F (b*5) d.cs) (by kernel_rfl) ⟨zr p u,zr p z,zr p I,zr p J,zr p L,zr p M,zr p N,zde G,zde H⟩ (λl=>?_);generalize t.drew=V0 at p l|-;refine tks_ 24 [(0,63,(P_ X 0)),(1,64,I_ c.au),(2,65,(P_ Y 0)),(3,66,I_ d.au),(4,67,.bool false),(5,68,.bool false),(6,69,undef),(7,70,undef),(8,71,undef),(9,72,undef),(10,73,undef),(11,74,.bool false),(12,75,.bool false),(13,76,undef),(14,77,undef),(15,78,undef),(16,79,undef),(17,80,undef),(18,81,undef),(19,82,undef),(20,83,undef),(21,84,undef),(22,85,undef),(23,86,undef)] l ?_;simp only[tkf_,zf];refine tks_ 13 [(24,87,undef),(25,88,undef),(26,89,undef),(27,90,undef),(28,91,undef),(29,92,undef),(30,93,undef),(31,94,undef),(32,95,undef),(33,96,undef),(34,97,undef),(35,98,undef),(36,99,.bool false)] l ?_;simp only[tkf_,zf];refine wD_ (by kernel_rfl) ?_ _;have aj:=zm ak p;clear l
         (try go_wp2_with fail)
         go_roundw
         case rel=>exact⟨b+1,by omega,by go_num,aj⟩
         case measure=>simp[intOf];omega
        obtain rfl:b=y.ls.length:=by omega
        have aP:¬(y.ls.length:Int)<y.ls.length:=by omega
        clear hby aO U;go_wp2_with fail
        go_roundw
        case rel=>exact⟨a+1,by omega,by go_num,r⟩
        case measure=>simp[intOf];omega
      obtain rfl:a=x.ls.length:=by omega
      have aN:¬(x.ls.length:Int)<x.ls.length:=by omega
      clear hax ha;go_wp2_with fail
      go_roundw
      case rel=>exact⟨k+1,by omega,by go_num,r⟩
      case measure=>simp[intOf];omega
    obtain rfl:k=i+1:=by omega
    have aQ:¬((i+1:Nat):Int)<=i:=by omega
    clear hki hk;go_wp2_with fail
    go_roundw
    case rel=>exact⟨i+1,by omega,by go_num,r⟩
    case measure=>simp[intOf];omega
  obtain rfl:i=4:=by omega
  have aR:¬((4:Nat):Int)<4:=by omega
  clear hlt hi;go_wp2_with fail
  go_ret;exact⟨rfl,O.trans (r.mono O.size)⟩
end Go.Proofs.YtgjogjbkbomcmaaGreatDoor
