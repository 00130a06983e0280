import Derived.Test.YthnkppcncbjdiaaGreatDoorPk19
set_option maxRecDepth 100000
set_option maxHeartbeats 4000000
namespace Go.Proofs.YthnkppcncbjdiaaGreatDoor
open Go.RowKit _root_.Go.Proofs.Tryz
variable {w w':World}{sa:Q_}{cap:Nat}{ls:List Ct}
theorem zA6 (l:List CV)(h:400<l.length):zbV l=12:=by simp[zbV,h]
theorem zy5.below (h:zy5 w sa cap ls)(b:B_ w w'):zy5 w' sa cap ls:=⟨h.le,h.max,h.small,h.some,h.certs.below b,λc d=>(h.each c d).below b⟩
variable {B:Nat}
structure zfV (w:World)(B s:Nat)(ls:List Ct):Prop where
 out:∃vc vd ds,Stk w B s vc vd ls ds/\zT ds=(zI ls).map CV.d/\ls.length<=400
theorem zfV.below {s:Nat}(h:zfV w B s ls)(f:B_ w w'):zfV w' B s ls:=by
 obtain⟨g,j,ds,b,c,d⟩:=h.out;exact⟨g,j,ds,b.below f,c,d⟩
variable {g:GV}
theorem zAS {l:List GV}(h:zbF l=0)(o:gF g=0)(p:¬g∈l):zbF (l++[g])=0:=by
 obtain⟨f,j⟩:=zpT h;refine ztl ⟨?_,?_⟩;intro x c;rcases List.mem_append.1 c with c|c;exact f x c;rw[List.mem_singleton]at c;subst c;exact o;rw[List.nodup_append];refine⟨j,by simp,?_⟩;intro a m b d e;rw[List.mem_singleton]at d;subst d e;exact p m
variable {k:Nat}
theorem zBf {l:List CV}(c:k<l.length)(h:za8 (l.take k) (zaM l k)≠0):zbV l=12:=by
 by_cases hl:400<l.length;exact zA6 l hl;refine zzC l k c ?_;simp only[zgH,Bool.or_eq_true,decide_eq_true_eq];by_cases h1:(zaM l k).f=0
 right
 intro b
 apply h
 rw[za8,if_neg (λg=>g h1),if_neg (λg=>g b),if_neg (by simp;omega)];exact .inl h1
theorem Fl.run_cons (f:Fl)(a:Ac)(l:List Ac):f.run (a::l)=(f.does a).run l:=rfl
theorem zew (f:Fl)(i:Int)(m:MC):(f.come i m).no=f.no:=by unfold Fl.come;split<;>rfl
theorem zlo (l:List MC)(f:Fl):(zjn f l).no=f.no:=by
 induction l generalizing f with
 | nil=>rfl
 | cons m l ih=>exact(ih _).trans (zew _ _ _)
theorem zA0 {P:Fl->Prop}{f:Fl}(a:Ac)(d:P f)(c:∀p,0<=p->P (f.pick 4 p)/\P (f.pick 5 p)/\P (f.pick 6 p))(g:P f.flow)(o:∀t,P (f.submit a.i t))(j:∀t,P (f.forge a.i t))(m:P (f.start a.i))
  (l:f.runs a.i=true->P (f.set a.i (f.node a.i).work)/\P (f.sync a.i)/\(0<=a.p->P (f.set a.i ((f.node a.i).crash a.p)))) (b:0<=a.p):P (f.does a):=by
 unfold Fl.does Fl.act
 split
 rename_i e
 rcases e with e|e|e<;>rw[e];exact(c a.p b).1;exact(c a.p b).2.1;exact(c a.p b).2.2
 split
 exact g
 split
 exact o _
 split
 exact j _
 split
 exact m
 split
 split
 rename_i e
 obtain⟨q,r,s⟩:=l e
 split
 exact q
 split
 exact r;exact s b;exact d;exact d
theorem zdQ (f:Fl)(a:Ac):(f.does a).no.bad=f.no.bad:=by
 unfold Fl.does Fl.act
 split
 unfold Fl.pick
 split
 rfl
 split
 rfl
 split
 rw[zew]
 rfl
 split
 rw[zfw,zlo]
 split
 unfold Fl.submit
 split
 rfl
 split<;>rfl
 split
 exact zcq (P:=λg=>g.no.bad=f.no.bad) _ _ rfl (λm=>by rw[zew])
 split
 unfold Fl.start
 split<;>rfl
 split
 split
 split
 rfl
 split
 unfold Fl.sync;rw[zha];rfl
 rfl
 rfl
 rfl
theorem zxU (l:List Ac)(f:Fl):(f.run l).no.bad=f.no.bad:=by
 induction l generalizing f with
 | nil=>rfl
 | cons a l ih=>rw[Fl.run_cons,ih,zdQ]
variable {ops:Array Oper}{Q:Exit->Act->World->Prop}{a:Act}{K:Act->World->Prop}{E:Prop}
theorem zf4 {o:Oper}
  (g:Region.wanted o (yielded ops a.tmps)=true) (d:Nat) (c:o.dst=some d) (v:Value) (w':World) (f:(execOp a.eval o).run prog w=.ok (.value v) w') (b:K (a.put (some d) v) w') :
  if Region.wanted o (yielded ops a.tmps)=true then Oper.wp prog o a w K Q else E:=by
 rw[if_pos g];unfold Oper.wp;rw[f,Oper.upon_value,c];exact b
theorem zgl (f:Fl)(i:Int):(f.start i).no=f.no:=by unfold Fl.start;split<;>rfl
theorem zAT (d:List Ct)(s:Nat)(f:Q_)(g:Nat)(j:Q_)(l:Nat)(ds:List zi)(rd:Int)(w:World)(y:zee w s d f g j l ds)(u:∀p∈ds,p.bs.length<=140737488355328) :
  Calls prog 21 #[P_ s 0,I_ rd] w λe w'=>∃b c ms,e=.returned (.slice b (List.length ms) c)/\zT ms=dgF (zI d) rd/\zx w' b c ms/\za1 w.heap.size b ms/\B_ w w':=
 (zqn d s f g j l ds rd w y u).mono (λe w' k=>by
  obtain⟨b,c,ms,m,o,q,r,t,_⟩:=k
  exact⟨b,c,ms,m,o,q,r,t⟩)
theorem zxF (l:List AV):∀u∈avs l,u.oneCell'=true:=by
 induction l with
 | nil=>intro u b;cases b
 | cons a l ih=>
  intro u b;rcases List.mem_append.1 b with h|h;simp[AV.cs]at h;rcases h with rfl|rfl|rfl|rfl<;>rfl;exact ih u h
theorem zsK {d:Addr}{cs:List AV}(y:zbq w (some d) cs):∀j u,(avs cs)[j]? = some u->w.cell? (d.add j)=some u:=by
 intro j u b;rcases y.cells with c|⟨B,l,e,c⟩;subst c;simp[avs]at b;cases e;have A:j<cs.length*4:=by
  rcases Nat.lt_or_ge j (cs.length*4)with g|g;exact g;rw[List.getElem?_eq_none (by rw[zg1];omega)]at b;cases b
 have f:j / 4<cs.length:=by omega
 have t:j=j / 4*4+j % 4:=by omega
 have s:j % 4<4:=by omega
 rw[zaP];obtain⟨m,o,p,r⟩:=c (j / 4) f;rw[t,zkr cs (j / 4) (j % 4) f s]at b;have z:l+j=l+j / 4*4+j % 4:=by omega
 rw[z];generalize j / 4=q at*;rcases(by omega:j % 4=0\/j % 4=1\/j % 4=2\/j % 4=3)with h|h|h|h<;>rw[h]at b|-<;>simp[AV.cs]at b<;>subst b;exact m;exact o;exact p;exact r
theorem zfB {rest:List Oper}{o:Oper}(q:o.guard=none)(s x:Operand)
  (t:o.op=.call { callee:=.builtin .append,args:=#[s,x],argTypes:=#[24,24] })
  (base:Nat) (v:Value) (n:Nat) (l:List AV) (u:a.eval s=v) (p:w.ownsRow base 55 4 v n (avs l)) (d:Q_) (m f:Nat) (b:List AV) (y:a.eval x=.slice d m f) (C:m=b.length) (g:zbq w d b) (D:d=none->m=0/\f=0)
  (H:n+m<=3000000000000) (B:base<=w.heap.size)
  (h:∀c w',w'.ownsRow base 55 4 c (n+m) (avs (l++b))->zV w v w' c->wpList prog ops Q rest (a.put o.dst c) w'):wpList prog ops Q (o::rest) a w:=by
 obtain⟨i,r,E,F,G⟩:=info_parts zwM;cases d with
 | none=>
  obtain⟨A,j⟩:=D rfl;subst A j;obtain rfl:b=[]:=eN_ C.symm;exact wpList_append_own_none q s x 24 t base 55 i 4 underlying24 r v n (avs l) u p y (h v w (by simpa using p) (zV.of (World.grownBy.refl _ _) (.inl rfl)))
 | some ad=>
  exact wpList_append_own_at w q s x 24 t base 55 i _ 4 40 underlying24 r E F G rfl (by decide) v n (avs l) u p ad m f (avs b) y (by rw[zg1];omega) (zsK g) (zxF b) (by unfold maxLen;omega) (by omega) B (λc w' z g _ j=>h c w' (by rw[zl5];exact z) (zV.of g j))
theorem zcZ (l m:List AV)(c:Q_)(o g:Nat)(d:Q_)(p j:Nat)(w:World)(B:o=l.length)(E:p=m.length)(A:zbq w c l)(C:zbq w d m)(u:c=none->l.length=0/\g=0)(y:d=none->m.length=0/\j=0)(I:l.length+m.length<=100000) :
  Calls prog 6 #[.slice c o g,.slice d p j] w λe w'=>∃v,e=.returned v/\w'.ownsRow w.heap.size 55 4 v (l++m).length (avs (l++m))/\B_ w w':=by
 subst B E;have t:Hid ((l++m).length=l.length+m.length):=lP_;go_in;go_upto_region 1 with fail
 go_wp2_with (at_builtin;refine zfB rfl _ _ rfl w.heap.size _ 0 [] rfl (oN_ _ _ _ _) c l.length g l rfl rfl A u (by omega) (nR_ _) ?_)
 intro G J f r;have b:=Below.grown (bR_ w.heap.size w) r.grown (nR_ _) (λq e=>by cases e)
 (try rw[List.nil_append,Nat.zero_add]at f)
 have D:=C.below b;go_wp2_with (at_builtin;refine zfB rfl _ _ rfl w.heap.size G l.length l rfl f d m.length j m rfl rfl D y (by omega) b.size ?_)
 intro H w2 F s;have z:=Below.grown b s.grown b.size (λq e=>(f.lt q e).1);go_wp2_with fail
 go_ret;exact⟨H,rfl,by rw[t.out];exact F,z⟩
variable {o:Nat}
theorem zdd {b:Nat}{cs:List Value}(h:w.rangeAt b o cs)(d:B_ w w'):w'.rangeAt b o cs:=λj v c=>(d.cell (p:=p_ b (o+j)) (bL_ (h j v c))).trans (h j v c)
theorem zde {b:Nat}{cs:List Value}(h:w.rangeAt b o cs):w.drew.rangeAt b o cs:=λj v c=>h j v c
theorem zex.vm {o:Om}(h:zex w o):∀i,i<4->zfX w (o.y i):=zsL h.e0 h.e1 h.e2 h.e3
theorem zjd.vw {o:Om}(h:zjd o):∀i,i<4->zlk (o.y i).v:=zsL h.v0 h.v1 h.v2 h.v3
theorem zdw {b:Nat}{l:List AV}(h:R_ w b ((avs l).toArray) 55)(d:∀a∈l,a.e=0/\a.t.size<=4000):zbq w (some (p_ b 0)) l:=by
 refine⟨.inr ⟨b,0,rfl,λj m=>?_⟩,λa g=>nT_ (d a g).2 (by decide)⟩;have c:∀t,t<4->w.cell? (p_ b (0+j*4+t))=(l.getD j .z).cs[t]?:=λt d=>by
  rw[<-zkr l j t m d];have f:j*4+t<(avs l).length:=by rw[zg1];omega
  rw[List.getElem?_eq_getElem f,Nat.zero_add];exact zb h (j*4+t) _ (by simp[f])
 exact⟨c 0 (by decide),c 1 (by decide),c 2 (by decide),c 3 (by decide)⟩
theorem CV.d_u8 (c:CV):∀x∈c.d,0<=x/\x<=255:=zzg _ _ _ _
theorem zBl {b ys:L_}(c:∀x∈b,0<=x/\x<=255)(d:∀x∈ys,0<=x/\x<=255)(h:txL b=txL ys):b=ys:=by
 exact ziD c d (zhf h)
variable {i:Int}{l:List SV}{vl:L_}
theorem zBg {s:L_}(h:zep vl=0)(k:zep s=0)(t:Int):∃v,v∈vl/\v∈s/\v≠t/\0<=v/\v<4:=by
 obtain⟨a,b,c,d,f,j,q⟩:=zAq h;obtain⟨x,y,z,l,m,o,r⟩:=zAq k;have D:∀v:Int,v∈vl->v∈s->0<=v->v<4->v≠t->∃v,v∈vl/\v∈s/\v≠t/\0<=v/\v<4:=λv F G H I J=>⟨v,F,G,J,H,I⟩;have L:(∃u v:Int,u≠v/\(u∈vl/\u∈s/\0<=u/\u<4)/\(v∈vl/\v∈s/\0<=v/\v<4)):=by
  have A:a=0\/a=1:=by omega
  have X:x=0\/x=1:=by omega
  have B:b=1\/b=2:=by omega
  have Y:y=1\/y=2:=by omega
  have C:c=2\/c=3:=by omega
  have Z:z=2\/z=3:=by omega
  by_cases e1:a=x;subst e1;by_cases e2:b=y;subst e2;exact⟨a,b,by omega,⟨d,l,by omega,by omega⟩,⟨f,m,by omega,by omega⟩⟩;by_cases e3:c=z;subst e3;exact⟨a,c,by omega,⟨d,l,by omega,by omega⟩,⟨j,o,by omega,by omega⟩⟩;by_cases e4:b=z;subst e4;exact⟨a,b,by omega,⟨d,l,by omega,by omega⟩,⟨f,o,by omega,by omega⟩⟩;obtain rfl:c=y:=by omega
  exact⟨a,c,by omega,⟨d,l,by omega,by omega⟩,⟨j,m,by omega,by omega⟩⟩;by_cases e2:c=z;subst e2;by_cases e3:b=y;subst e3;exact⟨b,c,by omega,⟨f,m,by omega,by omega⟩,⟨j,o,by omega,by omega⟩⟩;by_cases e4:a=y;subst e4;exact⟨a,c,by omega,⟨d,m,by omega,by omega⟩,⟨j,o,by omega,by omega⟩⟩;obtain rfl:b=x:=by omega
  exact⟨b,c,by omega,⟨f,l,by omega,by omega⟩,⟨j,o,by omega,by omega⟩⟩;by_cases e3:b=x;subst e3;obtain rfl:c=y:=by omega
  exact⟨b,c,by omega,⟨f,l,by omega,by omega⟩,⟨j,m,by omega,by omega⟩⟩;obtain rfl:a=y:=by omega
  obtain rfl:b=z:=by omega
  exact⟨a,b,by omega,⟨d,m,by omega,by omega⟩,⟨f,o,by omega,by omega⟩⟩
 obtain⟨u,v,E,p,q⟩:=L;by_cases e:u=t;exact D v q.1 q.2.1 q.2.2.1 q.2.2.2 (λg=>E (e.trans g.symm));exact D u p.1 p.2.1 p.2.2.1 p.2.2.2 e
theorem zBm (h:zdt l=0){s t:SV}(D:s∈l)(E:t∈l)(p:s.1=t.1)(q:s.2.1=t.2.1):s=t:=by
 obtain⟨i,u,c⟩:=List.getElem_of_mem D;obtain⟨j,y,d⟩:=List.getElem_of_mem E;have o:∀k (z:k<l.length),zd1 l k=l[k]:=λk z=>by simp[zd1,List.getD,z]
 have no:∀a b (r:a<l.length) (m:b<l.length),a<b->(l[a]).1=(l[b]).1->(l[a]).2.1=(l[b]).2.1->False:=λa b r m C A B=>by
  have f:=(zmY h).2 b m;rw[zeD,Bool.or_eq_false_iff]at f;have f:=f.2;simp only[zff,List.any_eq_false]at f;refine f a (by simpa using C) ?_;rw[hit,o a r,o b m];exact dT_ ⟨A,B⟩
 rcases Nat.lt_trichotomy i j with g|g|g;exact(no i j u y g (by rw[c,d];exact p) (by rw[c,d];exact q)).elim;subst g;rw[<-c,<-d];exact(no j i y u g (by rw[c,d];exact p.symm) (by rw[c,d];exact q.symm)).elim
theorem zgO.proven {f:Fl}(h:zgO f){i:Int}(d:0<=i/\i<4){c:CV}(b:c∈(f.node i).k.dag):zzQ f.no c:=by
 rw[(h.good i d).tape]at b;rcases zAr _ _ b with g|⟨m,j,e,g⟩;cases g;rw[<-g];exact h.prov i d m j e
theorem zgO.one {f:Fl}(h:zgO f){i j:Int}(C:0<=i/\i<4)(D:0<=j/\j<4){c d:CV}(A:c∈(f.node i).k.dag)(B:d∈(f.node j).k.dag)(y:c.au=d.au)(z:c.rd=d.rd):c.d=d.d:=by
 have r:=h.proven C A;have s:=h.proven D B;obtain⟨v,I,J,q,N,O⟩:=zBg (CV.voters r.1) (CV.voters s.1) f.no.bad;have L:(v,c.au,c.rd,c.d)∈f.no.sg:=(r.2 v (.inr I)).resolve_left q;have M:(v,d.au,d.rd,d.d)∈f.no.sg:=(s.2 v (.inr J)).resolve_left q;obtain⟨_,_,t,E,g,l,b⟩:=h.sgn _ L;obtain⟨_,_,u,F,m,o,p⟩:=h.sgn _ M;obtain⟨x,G⟩:=zzM (f.node v).syn (f.node v).recs;have H:=((h.good v ⟨N,O⟩).each _ _ G).tab;have g:t.1=c.au:=g;have l:t.2.1=c.rd:=l;have m:u.1=d.au:=m;have o:u.2.1=d.rd:=o;have e:=zBm H E F (by rw[g,m,y]) (by rw[l,o,z]);rw[e]at b;have b:txL u.2.2=txL c.d:=b;have p:txL u.2.2=txL d.d:=p;exact zBl c.d_u8 d.d_u8 (b.symm.trans p)
theorem zAG {f:Fl}{c:CV}(h:c∈(f.view i).cs):c∈(f.node i).k.dag:=by
 unfold Fl.view at h
 split at h
 cases h;exact h
theorem zBn (r:Int)(l:List Ac)(q:∀a∈l,a.ok){i j:Int}(o:0<=i/\i<4)(p:0<=j/\j<4){c d:CV}(g:c∈(((Fl.z r).run l).view i).cs)(m:d∈(((Fl.z r).run l).view j).cs)(b:c.au=d.au)(f:c.rd=d.rd):c.d=d.d:=
 (zgO.run l (zgO.z r) q).one o p (zAG g) (zAG m) b f
def zqS:Nat->List AV
 | 0=>[]
 | k+1=>zqS k++[⟨8,k,0,⟨#[]⟩⟩]
def zic:Nat->List AV
 | 0=>[]
 | k+1=>zic k++[⟨2,k,0,⟨#[]⟩⟩,⟨3,k,0,⟨#[]⟩⟩]
def zbJ (R:Nat):List AV:=match R with
 | 0=>zqS 4
 | R+1=>zbJ R++zic 4++[⟨10,0,0,⟨#[]⟩⟩]
theorem zA7 (k:Nat)(c:k<=4):∀a∈zqS k,a.e=0/\a.t.size<=4000:=by
 induction k with
 | zero=>intro a b;cases b
 | succ k ih=>
  refine zc9 (ih (by omega)) (λa b=>?_);rw[List.mem_singleton.1 b];exact⟨zaL _ _ _ _ (by decide) (by omega) (by decide) (by decide) (λh=>by cases h) (λ_=>rfl) (λ_=>rfl),by show ByteArray.size ⟨#[]⟩<=4000;decide⟩
theorem zAB (k:Nat)(hk:k<=4):∀a∈zic k,a.e=0/\a.t.size<=4000:=by
 induction k with
 | zero=>intro a ha;cases ha
 | succ k ih=>
  refine zc9 (ih (by omega)) (λa ha=>?_);simp only[List.mem_cons,List.not_mem_nil,or_false]at ha;rcases ha with e|e<;>subst e<;>exact⟨zaL _ _ _ _ (by decide) (by omega) (by decide) (by decide) (λh=>by cases h) (λ_=>rfl) (λ_=>rfl),by show ByteArray.size ⟨#[]⟩<=4000;decide⟩
theorem zAg (R:Nat):∀a∈zbJ R,a.e=0/\a.t.size<=4000:=by
 induction R with
 | zero=>exact zA7 4 (nR_ _)
 | succ R ih=>
  refine zc9 (zc9 ih (zAB 4 (nR_ _))) (λa b=>?_);rw[List.mem_singleton.1 b];exact⟨zaL _ _ _ _ (by decide) (by decide) (by decide) (by decide) (λ_=>rfl) (λ_=>rfl) (λ_=>rfl),by show ByteArray.size ⟨#[]⟩<=4000;decide⟩
theorem zAC (R:Nat):(zbJ R).length=4+9*R:=by
 induction R with
 | zero=>rfl
 | succ R ih=>rw[zbJ,lP_,lP_,ih];show 4+9*R+8+1=_;omega
theorem zAO (R:Nat)(B:R<=100)(w:World) :
  Calls prog 8 #[I_ (R:Int)] w λe w'=>∃v,e=.returned v/\w'.ownsRow w.heap.size 55 4 v (zbJ R).length (avs (zbJ R))/\B_ w w':=by
 rw[zAC];go_in;go_wp2_with fail
 go_loopw [4,3] (λj v wr=>∃k:Nat,k<=4/\j=I_ k/\B_ w wr/\wr.ownsRow w.heap.size 55 4 v k (avs (zqS k))) (λj _ _=>4-(intOf j).toNat)
 case atStart=>exact⟨0,nZ_ _,rfl,bR_ _ _,oN_ _ _ _ _⟩
 case round=>
  obtain⟨k,o,rfl,b,c⟩:=hrel;by_cases hlt:k<4
  .have p:(k:Int)<4:=by omega
   have m:(wr.alloc (.cells #[I_ 8,I_ k,I_ 0,.string ⟨#[]⟩] 55)).heap[wr.heap.size]? = some (.cells (⟨8,k,0,⟨#[]⟩⟩:AV).cs.toArray 55 (0,0)):=hN_ _ _;have d:Hid (zqS (k+1)=zqS k++[⟨8,k,0,⟨#[]⟩⟩]):=rfl;generalize zqS k=l at c d;go_wp2_with (at_builtin;refine zkz rfl _ _ rfl w.heap.size _ k l rfl (c.alloc _) wr.heap.size ⟨8,k,0,⟨#[]⟩⟩ rfl m (by omega) (by have:=b.size;simp;omega) ?_)
   intro r w2 g f;go_wp2_with fail
   go_roundw
   case rel=>
    refine⟨k+1,by omega,by go_num,b.trans ?_,by rw[d.out];exact g⟩;exact((bR_ _ _).alloc b.size _).trans (f.below (by have:=b.size;simp;omega) (λq e=>(c.lt q e).1))
   case measure=>simp[intOf];omega
  obtain rfl:k=4:=by omega
  have p:¬((4:Nat):Int)<4:=by omega
  clear hlt o;go_wp2_with fail
  go_loopw [5,3] (λj v wr=>∃i:Nat,i<=R/\j=I_ i/\B_ w wr/\wr.ownsRow w.heap.size 55 4 v (4+9*i) (avs (zbJ i))) (λj _ _=>R-(intOf j).toNat)
  case atStart=>exact⟨0,nZ_ _,rfl,b,c⟩
  case round=>
   clear c b;obtain⟨i,y,rfl,b,c⟩:=hrel;by_cases hlt:i<R
   .have p:(i:Int)<R:=by omega
    go_wp2_with fail
    go_loopw [6,3] (λj v s=>∃k:Nat,k<=4/\j=I_ k/\B_ w s/\s.ownsRow w.heap.size 55 4 v (4+9*i+2*k) (avs (zbJ i++zic k))) (λj _ _=>4-(intOf j).toNat)
    case atStart=>exact⟨0,nZ_ _,rfl,b,by rw[zic,List.append_nil];exact c⟩
    case round=>
     clear c b;obtain⟨k,o,rfl,b,c⟩:=hrel;by_cases hlt4:k<4
     .have A:(k:Int)<4:=by omega
      have m:(wr.alloc (.cells #[I_ 2,I_ k,I_ 0,.string ⟨#[]⟩,I_ 3,I_ k,I_ 0,.string ⟨#[]⟩] 55)).heap[wr.heap.size]? = some (.cells (avs [(⟨2,k,0,⟨#[]⟩⟩:AV),⟨3,k,0,⟨#[]⟩⟩]).toArray 55 (0,0)):=hN_ _ _;have t:=zdw m (λa u=>zAB (k+1) hlt4 a (List.mem_append_right _ u));have d:Hid (zbJ i++zic (k+1)=zbJ i++zic k++[⟨2,k,0,⟨#[]⟩⟩,⟨3,k,0,⟨#[]⟩⟩]):=(List.append_assoc _ _ _).symm;have z:i<=100:=by omega
      generalize zbJ i++zic k=l at c d;go_wp2_with (at_builtin;refine zfB rfl _ _ rfl w.heap.size _ (4+9*i+2*k) l rfl (c.alloc _) (some (p_ wr.heap.size 0)) 2 2 [(⟨2,k,0,⟨#[]⟩⟩:AV),⟨3,k,0,⟨#[]⟩⟩] rfl rfl t (λe=>by cases e) (by omega) (by have:=b.size;simp;omega) ?_)
      intro r w2 g f;go_wp2_with fail
      go_roundw
      case rel=>
       refine⟨k+1,by omega,by go_num,b.trans ?_,by rw[d.out,show 4+9*i+2*(k+1)=4+9*i+2*k+2 by omega];exact g⟩;exact((bR_ _ _).alloc b.size _).trans (f.below (by have:=b.size;simp;omega) (λq e=>(c.lt q e).1))
      case measure=>simp[intOf];omega
     obtain rfl:k=4:=by omega
     have A:¬((4:Nat):Int)<4:=by omega
     have m:(wr.alloc (.cells #[I_ 10,I_ 0,I_ 0,.string ⟨#[]⟩] 55)).heap[wr.heap.size]? = some (.cells (⟨10,0,0,⟨#[]⟩⟩:AV).cs.toArray 55 (0,0)):=hN_ _ _;have d:Hid (zbJ (i+1)=zbJ i++zic 4++[⟨10,0,0,⟨#[]⟩⟩]):=rfl;have z:i<=100:=by omega
     generalize zbJ i++zic 4=l at c d;clear hlt4 o;go_wp2_with (at_builtin;refine zkz rfl _ _ rfl w.heap.size _ (4+9*i+2*4) l rfl (c.alloc _) wr.heap.size ⟨10,0,0,⟨#[]⟩⟩ rfl m (by omega) (by have:=b.size;simp;omega) ?_)
     intro r w2 g f;go_wp2_with fail
     go_roundw
     case rel=>
      refine⟨i+1,by omega,by go_num,b.trans ?_,by rw[d.out,show 4+9*(i+1)=4+9*i+2*4+1 by omega];exact g⟩;exact((bR_ _ _).alloc b.size _).trans (f.below (by have:=b.size;simp;omega) (λq e=>(c.lt q e).1))
     case measure=>simp[intOf];omega
   obtain rfl:i=R:=by omega
   have p:¬(i:Int)<i:=by omega
   clear hlt y;go_wp2_with fail
   go_ret;exact⟨_,rfl,c,b⟩
theorem zA8 (f:Fl)(i:Int)(t:ByteArray):(f.submit i t).no=f.no:=by
 unfold Fl.submit
 split
 rfl
 split<;>rfl
theorem zAH (f:Fl)(k p:Int):(f.pick k p).no=f.no:=by
 unfold Fl.pick
 split
 rfl
 split
 rfl
 split
 exact zew _ _ _
 rfl
theorem zBu (r:Int)(l:List Ac):((Fl.z r).run l).no.bad=r:=zxU l _
theorem zAX {l:List GV}(h:zbF l=0)(g:GV):zbF (zfS l g)=0:=by
 unfold zfS
 split
 exact h
 rename_i b
 split
 rename_i e
 by_cases hg:gF g=0;rw[zvt h hg b];exact zAS h hg b;rw[ztq h hg]at e;exact absurd e hg;exact h
theorem zBo {o:No}(h:zbF o.sg=0)(m:MC):zbF (o.sign m).sg=0:=by
 unfold No.sign
 split
 split
 exact zAX h _;exact h
 split
 exact zAX h _;exact h
theorem zBp (l:List MC)(f:Fl)(h:zbF f.no.sg=0):zbF (l.foldl Fl.out f).no.sg=0:=by
 induction l generalizing f with
 | nil=>exact h
 | cons m l ih=>exact ih (f.out m) (zBo h m)
theorem zBq (f:Fl){a:Ac}(b:0<=a.p)(h:zbF f.no.sg=0):zbF (f.does a).no.sg=0:=by
 refine zA0 (P:=λg=>zbF g.no.sg=0) a h (λp _=>⟨?_,?_,?_⟩) ?_ (λt=>?_) (λt=>?_) ?_ (λ_=>⟨?_,?_,λ_=>?_⟩) b;rw[zAH];exact h;rw[zAH];exact h;rw[zAH];exact h;rw[zfw,zlo];exact h;rw[zA8];exact h;exact zcq (P:=λg=>zbF g.no.sg=0) _ _ h (λm=>by rw[zew];exact h);rw[zgl];exact h;exact h;exact zBp _ (f.set a.i { f.node a.i with wai:=[],syn:=(zae (f.node a.i).recs).length }) h;exact h
theorem zBv (l:List Ac)(f:Fl)(c:∀a∈l,a.ok)(h:zbF f.no.sg=0):zbF (f.run l).no.sg=0:=by
 induction l generalizing f with
 | nil=>exact h
 | cons a l ih=>exact ih (f.does a) (λb d=>c b (List.mem_cons_of_mem _ d)) (zBq f (a:=a) (c a (by simp)).2.2.2.2.1 h)
theorem zA9 {o:No}{c:CV}(h:zzQ o c)(j:zbF o.sg=0)(f:-1<=o.bad/\o.bad<=3):zfl o.sg o.bad c.au c.rd c.f c.d c.vl=0:=by
 have d:∀v,v=c.au\/v∈c.vl->zdI o.sg o.bad c.au c.rd c.d v=false:=λv b=>by
  unfold zdI;rcases h.2 v b with e|e;simp[e];simp[e]
 unfold zfl;rw[zw4 j f,if_neg (λg=>g rfl),h.1,if_neg (λg=>g rfl),if_neg];simp only[Bool.or_eq_true,not_or,List.any_eq_true,not_exists,not_and];exact⟨by rw[d _ (.inl rfl)];decide,λv b=>by rw[d v (.inr b)];decide⟩
theorem zAF {b:Int}(u:-1<=b/\b<=3){l:List AV}{o:Om}(h:o.v=((Fl.z b).run (l.map AV.ac)).told)(j:∀a∈l,a.e=0/\a.t.size<=4000)(i:Nat)(z:i<4) :
  ((i:Int)≠b->(o.y i).rd=zdi (zI (o.y i).ls))/\∀c∈(o.y i).ls,zfl (zA o.gs) b c.v.au c.v.rd c.v.f c.v.d c.v.vl=0:=by
 have q:=zgO.run _ (zgO.z b) (ziz j);have m:=zBv (l.map AV.ac) (Fl.z b) (ziz j) (by rfl);have d:=zBu b (l.map AV.ac);generalize (Fl.z b).run (l.map AV.ac)=f at h q d m;have e:zA o.gs=f.no.sg:=congrArg (λx:Ou=>x.sg) h;have g:=zb0 h i z;refine⟨λA=>?_,λc y=>?_⟩;have s:(o.y i).rd=(f.view ((i:Nat):Int)).rd:=congrArg (λx:Vw=>x.rd) g;have t:zI (o.y i).ls=(f.view ((i:Nat):Int)).cs:=congrArg (λx:Vw=>x.cs) g;rw[s,t];unfold Fl.view;rw[if_neg (by rw[d];exact A)];have r:c.v∈(f.view ((i:Nat):Int)).cs:=by rw[<-g];exact List.mem_map_of_mem y
 have p:=q.proven (i:=i) (by omega) (zAG r);rw[e,<-d];exact zA9 p m (by rw[d];exact u)
structure zBL (w w':World)(e:Ending)(B s:Nat)(ls:List Ct)(c:CV):Prop where
 told:e=.returned (I_ (za8 (zI ls) c))
 below:Below B w w'
 own:(za8 (zI ls) c≠0/\zfV w' B s ls)\/(za8 (zI ls) c=0/\∃x:Ct,x.v=c/\zfV w' B s (ls++[x]))
theorem zA1 (d:List Ct)(B s:Nat)(c:Ct)(w:World)(hs:zfV w B s d)(U:B<=w.heap.size)(Z:za7 w c)(hT:za2 w) :
  Calls prog 38 #[P_ s 0,.agg (crow_ c)] w λe w'=>zBL w w' e B s d c.v:=by
 obtain⟨vc,vd,ds,l,ab,aO⟩:=hs.out;obtain⟨D,E,N,O,R,f,al⟩:=l.at ab aO;subst R f;obtain⟨i,hi,aS,aU,aW⟩:=info_parts zoI;obtain⟨i',aN,aT,aV,aX⟩:=info_parts zhc;have aE:Hid _:=ab;have ad:Hid (ds.length=d.length):=al.at'.len;have H:=(bR_ w.heap.size w).alloc (nR_ _) (.cells (crow_ c) 61);have r0:=hN_ w (.cells (crow_ c) 61);go_in;go_wp2_with fail
 generalize w.alloc (.cells (crow_ c) 61)=W0 at H r0|-;refine(znk d s D E N O ds c W0 (al.below H) (Z.below H)).mono ?_;rintro _ w1⟨rfl,am⟩;dsimp only;have j:=zm H am;have y:=zk am r0;have aC:Hid (zfV w1 B s d):=hs.below j;by_cases hx:za8 (zI d) c.v=0
 .have A:Hid _:=hx;obtain⟨T,f2,f3⟩:=zg5 hx;rw[zbv]at f3;have ai:=zfO (vl:=c.vl) (by rw[Ct.f_v];exact T);have ac:=zea (Z.below j).hat ai (hT.below j);obtain⟨m1,m2,m3,m4,m5⟩:=zow T;have az:Hid (∀W:World,B_ w W->_):=λW hW=>znM c W (Z.below hW) m1 m2 (by omega) m4 m5;rw[hx];clear hx T f2 ai m1 m2 m3 m4 m5 ab hs;have d0:=zb y 0 _ rfl;have d1:=zb y 1 _ rfl;have d2:=zb y 2 _ rfl;have d3:=zb y 3 _ rfl;go_wp2_with fail
  refine ac.mono ?_;rintro e w2⟨b,o,aM,an,au⟩;subst o;dsimp only;clear ac d0 d1 d2 d3;have I:=zm j an;have z:=zk an y;have L:=l.below I;have V:B<=w2.heap.size:=nT_ U I.size;have Y:b<w2.heap.size:=zgg au (by intro h;have m:=zbD c.au c.rd c.bl c.pl;rw[h]at m;simp at m) b 0 rfl;have a3:s<w.heap.size:=ze l.box;have a2:w.heap.size<=b:=nT_ j.size aM;have aA:Hid ((zaE c.au c.rd c.bl c.pl).length=32):=zbD _ _ _ _;have aB:Hid (zaE c.au c.rd c.bl c.pl=c.v.d):=c.d_v;have ao:=L.box;have k0:=zb ao 0 _ rfl;have aY:=dC_ k0;have e0:=zb z 0 _ rfl;have R:=zb z 1 _ rfl;have f:=zb z 2 _ rfl;have e3:=zb z 3 _ rfl;have e4:=zb z 4 _ rfl;have aI:(Value.slice D d.length E).ownBlock≠some s:=zc2 L.rc ao (by decide);have aF:Hid _:=eO_ func76;go_wp2_with fail
  go_region_law (first
   | (refine zdF rfl 76 _ _ rfl [.agg (crow_ c)] rfl aF.out (λu w9=>∃x:Ct,u=.agg (crow_ x)/\x.v=c.v/\za7 w9 x/\(∀b,zfq x b->w2.heap.size<=b)/\B_ w2 w9) ((az.out w2.drew I.drew).mono (λe w9 ⟨x,o,h1,h2,h3,h4⟩=>⟨_,o,x,rfl,h1,h2,h3,zbE h4⟩)) ?_;rintro u w4⟨x,rfl,ay,aw,ax,X⟩;have aa:=L.below X;have C:=aa.box;have m0:=zb C 0 _ rfl;have aZ:(w4.alloc (.cells (crow_ x) 61)).cell? (p_ s 0)=some (.slice D d.length E):=zb (zR C) 0 _ rfl;have aR:B<=w4.heap.size:=nT_ V X.size)
   | (refine zcc rfl _ _ 35 rfl B 61 i (.agg #[I_ 0,I_ 0,O_,O_,O_]) 5 88 underlying35 hi aS aU aW rfl (by decide) (.slice D d.length E) d.length (ctv d) rfl (oA_ aa.rc _) (p_ w4.heap.size 0) 1 1 [I_ x.au,I_ x.rd,.slice x.ba x.bl.length x.bc,.slice x.pa x.pl.length x.pc,.slice x.va x.vl.length x.vc] rfl rfl (zag _ _ _) (by intro u t;simp at t;rcases t with rfl|rfl|rfl|rfl|rfl<;>rfl) (by unfold maxLen;omega) (by omega) (zB aR _) ?_;intro v6 w6 aq G6;have x2:=G6.row (zR C) aI;have a0:=zb x2 0 _ rfl;have a1:=zd x2 0;obtain⟨F,G,aP⟩:=zH aq;subst aP))
  all_goals
   obtain⟨r,J,ak,ah⟩:=L.moreC V X aw ax G6 aq;have av:zg (w6.setCell (p_ s 0) (.slice F (d.length+1) G)) (some (p_ b 0)) 32 (zaE c.au c.rd c.bl c.pl):=zfU au (λq so _ e=>by
    cases e;exact ak b Y (by omega) (λf=>by have:=(l.rc.lt b f).2;omega))
   have aj:Hid (∀g so,some (p_ b 0:Addr)=some (p_ g so)->B<=g/\g<(w6.setCell (p_ s 0) (.slice F (d.length+1) G)).heap.size/\g≠s/\(Value.slice F (d.length+1) G).ownBlock≠some g/\(Value.slice N d.length O).ownBlock≠some g):=by
    show ∀g,_;intro g so e;cases e;exact⟨by omega,nL_ Y J.size,by omega,λf=>by have:=(l.rc.lt b (ah b Y f)).2;omega,λf=>by have:=(l.rd.lt b f).2;omega⟩
   have ae:Hid (x.v=c.v):=ay;clear a0 a1 x2 ak ah ay ax aw m0 aZ C aa k0 aY e0 R f e3 e4;go_upto_region 8 with fail
   generalize w6.setCell (p_ s 0) (.slice F (d.length+1) G)=X7 at r J av aj|-;have af:B<=X7.heap.size:=nT_ V J.size;have M:=r.box;have n1:=zb M 1 _ rfl;have aJ:(Value.slice N d.length O).ownBlock≠some s:=zc2 r.rd M (by decide);have aK:=ad.out;go_wp2_with (at_builtin;refine wpList_append_own_at _ rfl _ _ 41 rfl B 51 i' (O_) 1 24 underlying41 aN aT aV aX rfl (by decide) _ ds.length (pv ds) rfl (oA_ r.rd _) (p_ X7.heap.size 0) 1 1 [.slice (some (p_ b 0)) 32 32] rfl rfl (zag _ _ _) (by intro u t;simp at t;subst t;rfl) (by unfold maxLen;omega) (by omega) (zB af _) ?_;intro v8 w8 ar aL _ aG;have G8:=zV.of aL aG;have x8:=G8.row (zR M) aJ;have a5:=zb x8 1 _ rfl;have a6:=zd x8 1;obtain⟨ga,gc,aQ⟩:=zH ar;subst aQ)
   obtain⟨ap,aH⟩:=r.moreD (p:=⟨some (p_ b 0),32,zaE c.au c.rd c.bl c.pl⟩) af (bR_ _ _) av aj.out G8 (by simpa[zi.val,aA.out]using ar);have aD:Hid (zT (ds++[(⟨some (p_ b 0),32,zaE c.au c.rd c.bl c.pl⟩:zi)])=(zI (d++[x])).map CV.d):=by
    show _=_;have m:=aE.out;simp only[zT,zI,List.map_append,List.map_cons,List.map_nil]at m|-;rw[m,aB.out,ae.out]
   have ag:Below B w (w8.setCell (p_ s 1) (.slice ga (ds.length+1) gc)):=((I.mono U).trans J).trans aH;clear aK;rw[ad.out]at ap ag;go_wp2_with fail
   go_ret;exact⟨zt A.out.symm,ag,.inr ⟨A.out,x,ae.out,⟨_,_,_,ap,aD.out,by simp;omega⟩⟩⟩
 have A:Hid _:=hx;have a4:(za8 (zI d) c.v != 0)=true:=by simpa using hx
 have HS:Hid (za8 (zI d) c.v=za8 (zI d) c.v):=rfl;generalize hE:za8 (zI d) c.v=x at*;have HE:Hid _:=hE;clear hE hx;go_wp2_with fail
 go_ret;exact⟨zt HE.out.symm,j.mono U,.inl ⟨by rw[HE.out];exact A.out,aC.out⟩⟩
structure zBC (w w':World)(e:Ending)(ls:List Ct):Prop where
 below:B_ w w'
 out:(zbV (zI ls)=12/\e=.returned (.tuple #[.pointer none,I_ 12]))\/(zbV (zI ls)=0/\∃(s:Nat) (ks:List Ct),e=.returned (.tuple #[P_ s 0,I_ 0])/\zI ks=zI ls/\zfV w' w.heap.size s ks)
theorem zBh (w:World)(B s:Nat)(h:R_ w s #[O_,O_] 102)(d:B<=s):zfV w B s []:=
 ⟨O_,O_,[],⟨h,d,oN_ _ _ _ _,oN_ _ _ _ _,(λc b=>by cases b),(λc b=>by cases b),(λc b=>by cases b),(λc b=>by cases b)⟩,rfl,nZ_ _⟩
theorem zAP (b:List Ct)(f:Q_)(n l:Nat)(w:World)(hn:n=b.length)(p:zy5 w f l b)(U:za2 w) :
  Calls prog 20 #[.agg #[.slice f n l]] w λe w'=>zBC w w' e b:=by
 subst hn;have ag:=p.le;have ai:=p.max;refine kW_ ?A0 ?_;exact w.alloc (.cells #[.slice f b.length l] 46);refine kO_ ?B0 ?_;exact Obj.cells #[O_,O_] 102;have H:B_ w ((?A0).alloc ?B0):=((bR_ _ _).alloc (nR_ _) _).alloc (by rw[zG];omega) _;have C:((?A0).alloc ?B0).heap[w.heap.size+1]? = some (.cells #[O_,O_] 102 (0,0)):=by
  have:=hN_ ?A0 ?B0;rw[zG]at this;exact this
 have L:=hX_ w (.cells #[.slice f b.length l] 46) ?B0;have HC:Hid (∀W:World,B_ w W->zba W f b):=by
  show ∀W,_;exact λW o=>p.certs.below o
 have HE:Hid (∀W:World,B_ w W->∀c∈b,za7 W c):=by
  show ∀W,_;exact λW o c hc=>(p.each c hc).below o
 have HT:Hid (∀W:World,B_ w W->za2 W):=by
  show ∀W,_;exact λW o=>U.below o
 have aj:=p.small;clear p U;have O:=zb L 0 _ rfl;go_in;go_wp2_with fail
 generalize (?A0).alloc ?B0=W0 at H L C O|-;generalize hS:w.heap.size+1=S at C|-;have ad:w.heap.size<=S:=by omega
 clear hS O L;go_loopw [12] (λj wr=>∃(m:Nat) (d:List Ct),m<=b.length/\j=I_ m/\Hid (zI d=(zI b).take m/\∀k,k<m->za8 ((zI b).take k) (zaM (zI b) k)=0)/\zfV wr w.heap.size S d/\B_ w wr) (λj _=>b.length-(intOf j).toNat)
 case atStart=>exact⟨0,[],nZ_ _,rfl,⟨rfl,λk z=>by omega⟩,zBh _ _ _ C ad,H⟩
 case round=>
  clear H C;obtain⟨m,d,hm,rfl,q,J,I⟩:=hrel;by_cases hlt:m<b.length
  .obtain⟨sb,so,rfl,c0,c1,c2,c3,c4⟩:=(HC.out wr I).at m hlt;have ah:(m:Int)<b.length:=by omega
   have ab:Hid (∀W:World,B_ w W->za7 W (b[m])):=by
    show ∀W,_;exact λW o=>HE.out W o _ (gM_ hlt)
   have M:Hid (zaM (zI b) m=(b[m]).v):=zk4 b m hlt;have ac:Hid ((zI b).take (m+1)=(zI b).take m++[(b[m]).v]):=by
    show _=_;rw[tS_ (by simp[zI];exact hlt)];simp[zI]
   generalize b[m]=s at*;have t:=(bR_ wr.heap.size wr).alloc (nR_ _) (.cells (crow_ s) 61);have Z:=hN_ wr (.cells (crow_ s) 61);go_wp2_with fail
   generalize wr.alloc (.cells (crow_ s) 61)=G at t Z|-;have u:=zm I t;refine(zA1 d w.heap.size S s G (J.below t) u.size (ab.out G u) (HT.out G u)).mono ?_;intro e D r;have X:=r.told;have V:=r.below;have A:=r.own;rw[q.out.1,<-M.out]at X A;have R:B_ w D:=u.trans V;clear r Z c0 c1 c2 c3 c4 J t V;subst X;dsimp only;have E:Hid (za8 ((zI b).take m) (zaM (zI b) m)≠0->zbV (zI b)=12):=by
    show _->_;exact λh=>zBf (by rw[zbv];exact hlt) h
   have F:Hid (za8 ((zI b).take m) (zaM (zI b) m)=0->∀k,k<m+1->za8 ((zI b).take k) (zaM (zI b) k)=0):=by
    show _->_;intro h k z;rcases Nat.lt_or_ge k m with g|g;exact q.out.2 k g;obtain rfl:k=m:=by omega
    exact h
   generalize za8 ((zI b).take m) (zaM (zI b) m)=x at*;by_cases hx:x=0
   .have HN:Hid _:=F.out hx;have HO:Hid (∃y:Ct,y.v=zaM (zI b) m/\zfV D w.heap.size S (d++[y])):=by
     show ∃y,_;rcases A with⟨h,_⟩|⟨_,h⟩;exact absurd hx h;exact h
    subst hx;clear F E A;go_wp2_with fail
    go_roundw
    case rel=>
     obtain⟨y,ae,af⟩:=HO.out;have T:∃(B:Nat) (Y:List Ct),B<=b.length/\(Value.int .i64 ((m:Int)+1))=I_ B/\Hid (zI Y=(zI b).take B/\∀k,k<B->za8 ((zI b).take k) (zaM (zI b) k)=0)/\zfV D w.heap.size S Y/\B_ w D:=
      ⟨m+1,d++[y],by omega,by go_num,⟨by rw[ac.out,<-q.out.1,<-M.out,<-ae];simp[zI],HN.out⟩,af,R⟩
     first|exact T|((repeat apply Exists.intro);exact⟨T,rfl⟩)
    case measure=>simp[intOf];omega
   have aa:Hid (zbV (zI b)=12):=E.out hx;have ak:(x != 0)=true:=by simpa using hx
   clear F E A;go_wp2_with fail
   go_ret2;exact⟨R,.inl ⟨aa.out,rfl⟩⟩
  obtain rfl:m=b.length:=by omega
  have N:Hid (zbV (zI b)=0/\zI d=zI b):=by
   show _/\_;refine⟨zvz (λk z=>q.out.2 k (by rw[zbv]at z;exact z)),?_⟩;rw[q.out.1,tL_ (by rw[zbv];exact nR_ _)]
  go_wp2_with fail
  go_ret2;exact⟨I,.inr ⟨N.out.1,S,d,rfl,N.out.2,J⟩⟩
variable {ds:List zi}
theorem zBw {l:List CV}(h:zT ds=l.map CV.d):∀p∈ds,p.bs.length<=140737488355328:=by
 intro p f;have b:p.bs∈l.map CV.d:=by rw[<-h];exact List.mem_map.2 ⟨p,f,rfl⟩
 obtain⟨c,_,d⟩:=List.mem_map.1 b;rw[<-d,c.d_length]
 decide
structure zBM (w w':World)(e:Ending)(l:List CV)(rd:Int):Prop where
 below:B_ w w'
 out:(zbV l=12/\e=.returned (.tuple #[O_,I_ 12]))\/(zbV l=0/\∃ma mc ms,e=.returned (.tuple #[.slice ma (List.length ms) mc,I_ 0])/\zT ms=dgF l rd/\zx w' ma mc ms/\za1 w.heap.size ma ms)
theorem zAI (b:List Ct)(g:Q_)(n c:Nat)(rd:Int)(w:World)(hn:n=b.length)(Z:zy5 w g c b)(U:za2 w) :
  Calls prog 10 #[.agg #[.slice g n c],I_ rd] w λe w'=>zBM w w' e (zI b) rd:=by
 subst hn;have j:=(bR_ w.heap.size w).alloc (nR_ _) (.cells #[.slice g b.length c] 46);go_in;go_wp2_with fail
 generalize w.alloc (.cells #[.slice g b.length c] 46)=G at j|-;refine(zAP b g _ c G rfl (Z.below j) (U.below j)).mono ?_;intro e w1 o;have X:=o.below;have T:=o.out;clear o;have l:=zm j X;rcases T with⟨d,f⟩|⟨d,s,ks,f,y,B⟩
 .have m:Hid _:=d;clear d;subst f;dsimp only;go_wp2_with fail
  go_ret2;exact⟨l,.inl ⟨m.out,rfl⟩⟩
 have m:Hid _:=d;have D:Hid _:=y;clear d y;subst f;dsimp only;obtain⟨vc,vd,ds,A,q,aa⟩:=B.out;obtain⟨H,I,J,L,M,N,V⟩:=A.at q aa;subst M N;have C:∀p∈ds,p.bs.length<=140737488355328:=zBw q;have E:=zAT ks s H I J L ds rd w1 V C;clear C q B A;go_wp2_with fail
 refine E.mono ?_;rintro e w2⟨ma,mc,ms,f,u,R,z,Y⟩;have F:Hid _:=u;clear u;subst f;dsimp only;have O:=zm l Y;go_wp2_with fail
 go_ret2;exact⟨O,.inr ⟨m.out,ma,mc,ms,rfl,by rw[F.out,D.out],R,⟨λr t e=>nT_ l.size (z.row r t e),λp hp r t e=>nT_ l.size (z.each p hp r t e)⟩⟩⟩
def zBD (e:Ending)(l:List CV):Prop:=
 (zbV l=12/\e=.returned (.tuple #[I_ 0,I_ 12]))\/(zbV l=0/\∃r:Int,e=.returned (.tuple #[I_ r,I_ 0])/\zgS l r)
theorem zAQ (b:List Ct)(g:Q_)(n c:Nat)(w:World)(U:n=b.length)(T:zy5 w g c b)(M:za2 w) :
  Calls prog 27 #[.agg #[.slice g n c]] w λe w'=>zBD e (zI b)/\B_ w w':=by
 subst U;have l:=(bR_ w.heap.size w).alloc (nR_ _) (.cells #[.slice g b.length c] 46);go_in;go_wp2_with fail
 generalize w.alloc (.cells #[.slice g b.length c] 46)=C at l|-;refine(zAP b g _ c C rfl (T.below l) (M.below l)).mono ?_;intro e Y m;have O:=m.below;have L:=m.out;clear m;have p:=zm l O;rcases L with⟨d,f⟩|⟨d,s,X,f,t,y⟩
 .have j:Hid _:=d;clear d;subst f;dsimp only;go_wp2_with fail
  go_ret2;exact⟨.inl ⟨j.out,rfl⟩,p⟩
 have j:Hid _:=d;have o:Hid _:=t;clear d t;subst f;dsimp only;obtain⟨Z,vd,ds,u,z,V⟩:=y.out;obtain⟨D,E,F,G,H,I,N⟩:=u.at z V;subst H I;have A:=zj3 X s D E F G ds Y N (by rw[o.out];exact j.out);clear z y u;go_wp2_with fail
 refine A.mono ?_;rintro e w2⟨r,f,q,R⟩;have B:Hid _:=q;clear q;subst f;dsimp only;have J:=zm p R;go_wp2_with fail
 go_ret2;exact⟨.inr ⟨j.out,r,rfl,by rw[<-o.out];exact B.out⟩,J⟩
theorem zBa {x:Vm}(h:zfX w x)(I:x.ls.length<=400):zy5 w x.ca x.cc x.ls:=by
 rcases h.rc.2 with⟨e,f⟩|⟨g,q,D,e,E,F,r,s,G,H⟩;have y:x.ls=[]:=eN_ f;have m:x.cc=0:=by cases x;simp at e;exact e.2.2
 exact⟨by rw[f];exact nZ_ _,by rw[m];decide,by rw[f];decide,.inl m,⟨.inl y⟩,h.ec⟩;have c:x.ca=some (p_ g 0)/\x.cc=q:=by simp at e;exact⟨e.1,e.2⟩
 refine⟨by rw[c.2];exact r,by rw[c.2];unfold maxLen at s;omega,by omega,.inr ⟨g,0,c.1⟩,⟨.inr ⟨g,0,c.1,λj o=>?_⟩⟩,h.ec⟩;obtain⟨b,l,d⟩:=zei h.rc o (show(x.ls[j]).cs.length=5 from rfl) (λt u=>zfx _ j t o u);obtain rfl:g=b:=by rw[c.1]at l;simpa using l
 have p:=d 0 _ rfl;have z:=d 1 _ rfl;have A:=d 2 _ rfl;have B:=d 3 _ rfl;have C:=d 4 _ rfl;simp only[Nat.add_zero]at p;rw[Nat.zero_add];exact⟨p,z,A,B,C⟩
theorem zBE:(prog.info? 61).map (·.size)=some 5:=by kernel_rfl
theorem zAY {l:List CV}(h:zbV l=0):l.length<=400:=by
 unfold zbV at h
 split at h
 cases h
 rename_i g
 simp only[not_or]at g;omega
theorem zBb (b:Int)(o:Om)(w:World)(hO:zex w o)(ah:∀i,i<4->zlk (o.y i).v)(av:o.gs.length<=1200000)(hs:∀i:Nat,i<4->((i:Int)≠b->(o.y i).rd=zdi (zI (o.y i).ls))/\∀c∈(o.y i).ls,zfl (zA o.gs) b c.v.au c.v.rd c.v.f c.v.d c.v.vl=0)(hT:za2 w) :
  Calls prog 14 #[I_ b,.agg #[.slice o.na 4 o.nc,.slice o.ga o.gs.length o.gc,I_ o.aw,.slice o.ca o.cs.length o.cc]] w λe w'=>e=.returned (.bool true)/\B_ w w':=by
 have HT:Hid (∀W:World,B_ w W->za2 W):=λW hW=>hT.below hW;clear hT;have HS:Hid _:=hs;have HK:Hid _:=ah;clear hs ah;refine kO_ ?A0 ?_;exact Obj.cells #[.slice o.na 4 o.nc,.slice o.ga o.gs.length o.gc,I_ o.aw,.slice o.ca o.cs.length o.cc] 32;have f:=zC w ?A0;have q0:=hN_ w ?A0;go_in;go_upto_region 1 with fail
 generalize w.alloc ?A0=W0 at f q0|-;generalize al:w.heap.size=C at q0|-;have N:=hO.below f
 skip
 go_wp2_with fail
 go_loopw [5] (λu wr=>∃i:Nat,i<=4/\u=I_ i/\B_ W0 wr) (λu _=>4-(intOf u).toNat)
 case atStart=>exact⟨0,nZ_ _,rfl,bR_ _ _⟩
 refine kV_ ?B0 ?_;exact Value.slice o.ga o.gs.length o.gc
 case round=>
  obtain⟨i,hi,rfl,G⟩:=hrel;have qr:=zk G q0;have ac:=zm f G;obtain⟨vb,R,_⟩:=N.row (i:=0) (by decide);have c0:C_ wr C 0 (.slice (some (p_ vb 0)) 4 o.nc):=by rw[<-R];exact zb qr 0 _ rfl
  by_cases hlt:i<4
  .have ap:(i:Int)<4:=by omega
   have H:=N.below G;obtain⟨au,T,X⟩:=H.row hlt;obtain rfl:vb=au:=by rw[R]at T;simpa using T
   clear T R;have aa:=H.vm i hlt;obtain⟨A,aj⟩:=HS.out i hlt;have j:=HK.out i hlt;have aw:=H.sg.tab.slots;generalize o.y i=v at X aa A aj j;refine kO_ ?C0 ?_;exact Obj.cells #[.bool v.up,I_ v.rd,.slice v.ca v.ls.length v.cc,.slice v.ba v.bl.length v.bc,.slice v.ta v.tab.length v.tc,.slice v.pa v.txs.length v.pc] 40;have p:=zC wr ?C0;have l:=hN_ wr ?C0;go_upto_region 5 with(refine wpList_load_mid rfl 40 _ rfl vb (i*6) rfl [.bool v.up,I_ v.rd,.slice v.ca v.ls.length v.cc,.slice v.ba v.bl.length v.bc,.slice v.ta v.tab.length v.tc,.slice v.pa v.txs.length v.pc] _ X underlying40 rfl zck ?_)
   have qB:=zk p qr;generalize wr.alloc ?C0=V at p l qB|-;obtain⟨Bv,ad⟩:∃B,B=wr.heap.size:=⟨_,rfl⟩;rw[<-ad]at l|-;clear ad;have af:=zm G p;have am:=zm f af;have Y:=aa.below p;have an:v.ls.length<=400:=by have:=zAY j.dag;simpa[Vm.v,zI]using this
   have HR:=zAQ v.ls v.ca _ v.cc V rfl (zBa Y an) (HT.out V am);have M:=zb l 1 _ rfl;have x2:=zb l 2 _ rfl;go_wp2_with fail
   refine HR.mono ?_;rintro e w2⟨hR,F⟩;rcases hR with⟨hz,_⟩|⟨_,r,he,hN⟩;rw[show zbV (zI v.ls)=0 from j.dag]at hz;cases hz;subst he;dsimp only;have ai:r=zdi (zI v.ls):=hN.one (zhs j.dag);clear HR hN M x2;have ab:=zk F l;have ar:=zk F qB;have q:=zm af F;have aq:=Y.below F;clear l qB Y aa X p qr c0 H;have M:=zb ab 1 _ rfl;have x2:=zb ab 2 _ rfl;go_upto_region 6 with fail
   go_cut [41] (λu wx=>u=.bool false/\w2=wx)
   case first=>
    by_cases hib:(i:Int)=b
    .have e1:((i:Int) != b)=false:=by simp[hib]
     clear hib A;go_wp2_with fail
     all_goals
      go_meet
      case rel=>exact⟨rfl,rfl⟩
    have e1:((i:Int) != b)=true:=by simp[hib]
    have e2:v.rd=r:=by rw[A hib,ai]
    rw[e2]at M;clear hib A e2;go_wp2_with fail
    all_goals
     go_meet
     case rel=>exact⟨by simp,rfl⟩
   case rest=>
    obtain⟨rfl,hw⟩:=hcut;subst hw;apply_assumption;clear A ai M;go_wp2_with fail
    go_loopw [9] (λu wx=>∃k:Nat,k<=v.ls.length/\u=I_ k/\B_ w2 wx) (λu _=>v.ls.length-(intOf u).toNat)
    case atStart=>exact⟨0,nZ_ _,rfl,bR_ _ _⟩
    case round=>
     obtain⟨k,j,rfl,d⟩:=hrel;have qv:=zk d ab;have q9:=zk d ar;have v2:=zb qv 2 (.slice v.ca v.ls.length v.cc) rfl;by_cases hkl:k<v.ls.length
     .have ao:(k:Int)<v.ls.length:=by omega
      have Z:=aq.below d;obtain⟨m,ag,U⟩:=zei Z.rc hkl (show(v.ls[k]).cs.length=5 from rfl) (λt ht=>zfx v.ls k t hkl ht);rw[ag]at v2;have y:=Z.ec _ (gM_ hkl);have z:=aj _ (gM_ hkl);clear ag Z;generalize v.ls[k]=c at U y z;have ak:=((N.below q).sg.tab.slots.below d);refine kV_ ?D0 ?_;exact Value.agg #[I_ c.au,I_ c.rd,.slice c.ba c.bl.length c.bc,.slice c.pa c.pl.length c.pc,.slice c.va c.vl.length c.vc];have HP:Hid (∀V:World,B_ wr V->Calls prog 28 #[?B0,I_ b,?D0] V λe w'=>e=.returned (I_ 0)/\B_ V w'):=λV D=>by
       have h:=zrz o.gs o.ga _ o.gc b c.au c.rd c.ba c.bc c.bl c.pa c.pc c.pl c.va c.vc c.vl V rfl (by omega) (ak.below D) (y.hat.below D) (y.ints.below D) y.vle (HT.out V ((f.trans ((q.trans (d.mono q.size)).mono f.size)).trans (D.mono (nT_ f.size (nT_ q.size d.size)))));rw[Ct.f_v,Ct.d_v]at h;have z:zfl (zA o.gs) b c.au c.rd c.v.f c.v.d c.vl=0:=z;rw[z]at h;exact h
      have I:C_ wr.drew C 1 ?B0:=zb q9 1 _ rfl;have J:=dC_ v2;have L:=zde U;have E:=dB_ wr;clear y z ak;go_upto_region 11 with fail
      refine wR_ (S:=λw'=>C_ w' C 1 ?B0/\C_ w' Bv 2 (.slice (some (p_ m 0)) v.ls.length v.cc)/\w'.rangeAt m (k*5) c.cs) (by kernel_rfl) ⟨I,J,L⟩ (λg=>?_);generalize wr.drew=V0 at E I J L g|-;refine tks_ 7 [(0,49,(P_ C 1)),(1,50,.slice o.ga o.gs.length o.gc),(2,51,I_ b),(3,52,(P_ Bv 2)),(4,53,.slice (some (p_ m 0)) v.ls.length v.cc),(5,54,I_ (k:Int)),(6,55,(P_ m (k*5)))] g ?_;simp only[tkf_,zf];refine tQ_ 7 56 ?D0 rfl rfl (yieldsIf_load_mid (by rfl) 61 _ rfl m (k*5) rfl c.cs _ (λw0 h=>h.2.2) underlying61 rfl zBE) g ?_;simp only[zf];refine zE 8 rfl (λK9 hK=>?_);refine zj rfl 57 rfl 28 [.tmp 50,.tmp 51,.tmp 56] #[29,3,61] rfl [?B0,I_ b,?D0] rfl (eO_ func28) (λu w'=>u=I_ 0/\B_ V0 w') ((HP.out V0 E).mono (λe w2 h=>⟨_,h.1,rfl,h.2⟩)) ?_;rintro u V9⟨rfl,s⟩;have ae:=zm E s;refine hK.out _ _ ⟨zr s I,zr s J,zdd L s⟩ (λg=>?_);simp only[zf];refine zU 9 58 (.bool false) rfl rfl g ?_;simp only[zf];refine wD_ (by kernel_rfl) ?_ _;have O:=zm d ae;clear g HP U v2 qv q9 E ae s I J L d;go_wp2_with fail
      go_roundw
      case rel=>exact⟨k+1,by omega,by go_num,O⟩
      case measure=>simp[intOf];omega
     obtain rfl:k=v.ls.length:=by omega
     have ao:¬((v.ls.length:Nat):Int)<(v.ls.length:Nat):=by omega
     have O:=zm q d;clear hkl j qv q9 d;go_wp2_with fail
     go_roundw
     case rel=>exact⟨i+1,by omega,by go_num,O⟩
     case measure=>simp[intOf];omega
  obtain rfl:i=4:=by omega
  have ap:¬((4:Nat):Int)<4:=by omega
  clear hlt hi;go_wp2_with fail
  go_ret;exact⟨rfl,by first|exact ac|(rw[<-al];exact ac)⟩
variable {W:World}
theorem zz2 (c:Ct)(w:World)(o:za7 w c)(q:c.v.f=0)(l:za2 w) :
  Calls prog 26 #[.agg (crow_ c)] w λe w'=>∃b,e=.returned (.slice (some (p_ b 0)) 32 32)/\B_ w w'/\zg w' (some (p_ b 0)) 32 c.v.d:=by
 have d:=zC w (.cells (crow_ c) 61);have f:=hN_ w (.cells (crow_ c) 61);have j:zO c.au c.rd c.bl c.pl=0:=by rw[Ct.hf_v];exact zfO (vl:=c.vl) q
 go_in;go_upto_region 1 with fail
 generalize w.alloc (.cells (crow_ c) 61)=s at d f|-;have g:=zea (o.hat.below d) j (l.below d);rw[Ct.d_v]at g;have t:=zb f 0 _ rfl;have u:=zb f 1 _ rfl;have y:=zb f 2 _ rfl;have z:=zb f 3 _ rfl;clear j;go_wp2_with fail
 refine g.mono ?_;rintro e A⟨b,p,_,m,r⟩;subst p;dsimp only;clear g;go_wp2_with fail
 go_ret;exact⟨b,rfl,d.trans (m.mono d.size),r⟩
structure zA2 (W:World)(vb i:Nat)(x:Vm):Prop where
 vw:W.cell? (p_ vb (i*6+2))=some (.slice x.ca x.ls.length x.cc)
 rows:∀a (h:a<x.ls.length),∃g,x.ca=some (p_ g 0)/\W.rangeAt g (a*5) (x.ls[a]).cs
 each:∀c∈x.ls,za7 W c
theorem zex.vc {o:Om}(h:zex W o){c:Nat}(p:o.na=some (p_ c 0)){i:Nat}(g:i<4):zA2 W c i (o.y i):=by
 obtain⟨b,f,l⟩:=h.row g;obtain rfl:c=b:=by rw[p]at f;simpa using f
 have j:=h.vm i g;refine⟨l 2 _ rfl,λa d=>zei j.rc d rfl (λt m=>zfx _ a t d m),j.ec⟩
theorem zBr (o:Om)(w:World)(hO:zex w o)(aH:∀i,i<4->zlk (o.y i).v)(h1:∀i k,i<4->k<4->∀c∈(o.y i).ls,∀d∈(o.y k).ls,c.v.au=d.v.au->c.v.rd=d.v.rd->c.v.d=d.v.d)(hT:za2 w) :
  Calls prog 13 #[.agg #[.slice o.na 4 o.nc,.slice o.ga o.gs.length o.gc,I_ o.aw,.slice o.ca o.cs.length o.cc]] w λe w'=>e=.returned (.bool true)/\B_ w w':=by
 obtain⟨s,aq,_⟩:=hO.row (i:=0) (by decide);have HT:Hid (∀W:World,B_ w W->za2 W):=λW hW=>hT.below hW;have HV:Hid (∀W:World,B_ w W->∀i,i<4->zA2 W s i (o.y i)):=λW hW i hi=>(hO.below hW).vc aq hi;have HK:Hid (∀i,i<4->(o.y i).ls.length<=400/\∀c∈(o.y i).ls,c.v.f=0):=by
  intro i hi;have hd:=(aH i hi).dag;refine⟨zlE hd,λc hc=>?_⟩;obtain⟨k,hk,rfl⟩:=List.getElem_of_mem hc;have hz:=(zgw hd).2 k (by show k<(zI (o.y i).ls).length;rw[zbv];exact hk);rw[zgH,Bool.or_eq_false_iff]at hz;have hz:=of_decide_eq_false hz.1;have e:zaM (zI (o.y i).ls) k=((o.y i).ls[k]).v:=by rw[zk4 _ k hk]
  have hz:¬(zaM (zI (o.y i).ls) k).f≠0:=hz;rw[e]at hz;exact Decidable.not_not.1 hz
 have H1:Hid _:=h1;rw[aq];clear hT hO aH h1 aq;refine kV_ ?A0 ?_;exact Value.slice (some (p_ s 0)) 4 o.nc;refine kO_ ?B0 ?_;exact Obj.cells #[?A0,.slice o.ga o.gs.length o.gc,I_ o.aw,.slice o.ca o.cs.length o.cc] 32;have O:=zC w ?B0;have q0:=hN_ w ?B0;go_in;go_wp2_with fail
 generalize w.alloc ?B0=W0 at O q0|-;go_loopw [3] (λj wr=>∃i:Nat,i<=4/\j=I_ i/\B_ W0 wr) (λj _=>4-(intOf j).toNat)
 case atStart=>exact⟨0,nZ_ _,rfl,bR_ _ _⟩
 case round=>
  obtain⟨i,hi,rfl,r⟩:=hrel;have U:=zk r q0;have u:=zb U 0 ?A0 rfl;by_cases hlt:i<4
  .have aR:(i:Int)<4:=by omega
   obtain⟨aS,aI⟩:=HK.out i hlt;have HX:Hid (∀W:World,B_ W0 W->zA2 W s i (o.y i)):=λW hW=>HV.out W (O.trans (hW.mono O.size)) i hlt;have aB:Hid _:=aI;have ay:Hid (∀k,k<4->∀c∈(o.y i).ls,∀d∈(o.y k).ls,c.v.au=d.v.au->c.v.rd=d.v.rd->c.v.d=d.v.d):=λk hk=>H1.out i k hlt hk;clear aI;generalize o.y i=x at aS HX aB ay;clear U;go_wp2_with fail
   clear u;go_loopw [4] (λj wx=>∃k:Nat,k<=i+1/\j=I_ k/\B_ W0 wx) (λj _=>i+1-(intOf j).toNat)
   case atStart=>exact⟨0,nZ_ _,rfl,r⟩
   case round=>
    clear r;obtain⟨k,hk,rfl,r⟩:=hrel;by_cases hki:k<=i
    .have aQ:(k:Int)<=i:=by omega
     have ap:k<4:=by omega
     have a1:(k:Int)<4:=by omega
     obtain⟨aT,aJ⟩:=HK.out k ap;have HY:Hid (∀W:World,B_ W0 W->zA2 W s k (o.y k)):=λW hW=>HV.out W (O.trans (hW.mono O.size)) k ap;have aC:Hid _:=aJ;have az:Hid (∀c∈x.ls,∀d∈(o.y k).ls,c.v.au=d.v.au->c.v.rd=d.v.rd->c.v.d=d.v.d):=ay.out k ap;clear aJ;generalize o.y k=y at aT HY aC az;go_wp2_with fail
     go_loopw [5] (λj wx=>∃a:Nat,a<=x.ls.length/\j=I_ a/\B_ W0 wx) (λj _=>x.ls.length-(intOf j).toNat)
     case atStart=>exact⟨0,nZ_ _,rfl,r⟩
     case round=>
      clear r;obtain⟨a,ha,rfl,r⟩:=hrel;have U:=zk r q0;have u:=zb U 0 ?A0 rfl;have z:=(HX.out wr r).vw;clear U;by_cases hax:a<x.ls.length
      .have aN:(a:Int)<x.ls.length:=by omega
       go_wp2_with fail
       clear u z;go_loopw [6] (λj wx=>∃b:Nat,b<=y.ls.length/\j=I_ b/\B_ W0 wx) (λj _=>y.ls.length-(intOf j).toNat)
       case atStart=>exact⟨0,nZ_ _,rfl,r⟩
       case round=>
        clear r;obtain⟨b,aO,rfl,r⟩:=hrel;have U:=zk r q0;have u:=zb U 0 ?A0 rfl;have v1:=(HY.out wr r).vw;by_cases hby:b<y.ls.length
        .have aP:(b:Int)<y.ls.length:=by omega
         have hX:=HX.out wr r;have hY:=HY.out wr r;obtain⟨E,aF,rx⟩:=hX.rows a hax;obtain⟨F,aG,ry⟩:=hY.rows b hby;have z:=hX.vw;rw[aF]at z;have aw:=z;rw[aG]at v1;have an:=gM_ hax;have ao:=gM_ hby;have al:Hid (za7 wr (x.ls[a])/\(x.ls[a]).v.f=0):=⟨hX.each _ an,aB.out _ an⟩;have am:Hid (za7 wr (y.ls[b])/\(y.ls[b]).v.f=0):=⟨hY.each _ ao,aC.out _ ao⟩;have ad:Hid ((x.ls[a]).v.au=(y.ls[b]).v.au->(x.ls[a]).v.rd=(y.ls[b]).v.rd->(x.ls[a]).v.d=(y.ls[b]).v.d):=az.out _ an _ ao;clear an ao hX hY aF aG;generalize x.ls[a]=c at rx al ad;generalize y.ls[b]=d at ry am ad;have c0:C_ wr E (a*5+0) (I_ c.au):=rx 0 _ rfl;have c1:C_ wr E (a*5+1) (I_ c.rd):=rx 1 _ rfl;have c2:C_ wr E (a*5+2) (.slice c.ba c.bl.length c.bc):=rx 2 _ rfl;have c3:C_ wr E (a*5+3) (.slice c.pa c.pl.length c.pc):=rx 3 _ rfl;have ac:=zC wr (.cells (hrow_ c) 48);have qX:=hN_ wr (.cells (hrow_ c) 48);simp only[Nat.add_zero]at c0;go_upto_region 14 with fail
         clear c0 c1 c2 c3 u z;generalize wr.alloc (.cells (hrow_ c) 48)=W1 at ac qX|-;generalize wr.heap.size=X at qX|-;have aE:=zm r ac;have au:=zk ac U;have u:=zb au 0 ?A0 rfl;have ae:=zdd ry ac;have ax:=(ac.cell (bL_ v1)).trans v1;have c0:C_ W1 F (b*5+0) (I_ d.au):=ae 0 _ rfl;have c1:C_ W1 F (b*5+1) (I_ d.rd):=ae 1 _ rfl;have c2:C_ W1 F (b*5+2) (.slice d.ba d.bl.length d.bc):=ae 2 _ rfl;have c3:C_ W1 F (b*5+3) (.slice d.pa d.pl.length d.pc):=ae 3 _ rfl;have ab:=zC W1 (.cells (hrow_ d) 48);have qY:=hN_ W1 (.cells (hrow_ d) 48);simp only[Nat.add_zero]at c0;go_upto_region 15 with fail
         clear c0 c1 c2 c3 u;generalize W1.alloc (.cells (hrow_ d) 48)=t at ab qY|-;generalize W1.heap.size=Y at qY|-;have ak:=zm aE ab;have ai:=zm ac ab;have af:Hid (za7 t c/\c.v.f=0):=⟨al.out.1.below ai,al.out.2⟩;have ag:Hid (za7 t d/\d.v.f=0):=⟨am.out.1.below ai,am.out.2⟩;have ah:Hid (∀V:World,B_ t V->za2 V):=λV hV=>HT.out V ((O.trans (ak.mono O.size)).trans (hV.mono (O.trans (ak.mono O.size)).size));have u:C_ t w.heap.size 0 ?A0:=zb (zk ab au) 0 _ rfl;have z:=(ai.cell (bL_ aw)).trans aw;have I:=(ab.cell (bL_ ax)).trans ax;have G:=zdd rx ai;have H:=zdd ae ab;have ar:=zk ab qX;have J:=zb ar 0 _ rfl;have L:=zb ar 1 _ rfl;have M:=zb qY 0 _ rfl;have N:=zb qY 1 _ rfl;clear aw qX ar qY U au v1 ax rx ry ae ac ab ai al am r aE;by_cases e1:c.au=d.au;refine kV_ ?C0 ?_;exact Value.slice (some (p_ E 0)) x.ls.length x.cc;refine kV_ ?D0 ?_;exact Value.slice (some (p_ F 0)) y.ls.length y.cc
         .by_cases e2:c.rd=d.rd;have e3:(c.au == d.au)=true:=by simpa using e1
          have e4:(c.rd == d.rd)=true:=by simpa using e2
          obtain⟨D,hD⟩:∃D,D=c.v.d:=⟨_,rfl⟩;have aD:d.v.d=D:=by rw[hD];exact(ad.out e1 e2).symm
          have HL:Hid (D.length=32):=by show _=_;rw[hD,<-Ct.d_v];exact zbD _ _ _ _
          have aM:Hid (∀V:World,B_ t V->Calls prog 26 #[.agg (crow_ c)] V λe w'=>∃b,e=.returned (.slice (some (p_ b 0)) 32 32)/\B_ V w'/\zg w' (some (p_ b 0)) 32 D):=by
           show ∀V,_;intro V hV;rw[hD];exact zz2 c V (af.out.1.below hV) af.out.2 (ah.out V hV)
          have aA:Hid (∀V:World,B_ t V->Calls prog 26 #[.agg (crow_ d)] V λe w'=>∃b,e=.returned (.slice (some (p_ b 0)) 32 32)/\B_ V w'/\zg w' (some (p_ b 0)) 32 D):=by
           show ∀V,_;intro V hV;rw[<-aD];exact zz2 d V (ag.out.1.below hV) ag.out.2 (ah.out V hV)
          clear hD aD ad af ag ah;have p:=dB_ t;refine wR_ (S:=λw'=>C_ w' w.heap.size 0 ?A0/\C_ w' s (i*6+2) ?C0/\C_ w' s (k*6+2) ?D0/\C_ w' X 0 (I_ c.au)/\C_ w' X 1 (I_ c.rd)/\C_ w' Y 0 (I_ d.au)/\C_ w' Y 1 (I_ d.rd)/\w'.rangeAt E (a*5) c.cs/\w'.rangeAt F (b*5) d.cs) (by kernel_rfl) ⟨zr p u,zr p z,zr p I,zr p J,zr p L,zr p M,zr p N,(zdd G p),(zdd H p)⟩ (λl=>?_);generalize t.drew=V0 at p  l ⊢;refine tks_ 21 [(0,63,(P_ X 0)),(1,64,I_ c.au),(2,65,(P_ Y 0)),(3,66,I_ d.au),(4,67,.bool true),(5,68,.bool true),(6,69,(P_ X 1)),(7,70,I_ c.rd),(8,71,(P_ Y 1)),(9,72,I_ d.rd),(10,73,.bool true),(11,74,.bool true),(12,75,.bool true),(13,76,(P_ w.heap.size 0)),(14,77,.slice (some (p_ s 0)) 4 o.nc),(15,78,I_ (i:Int)),(16,79,(P_ s (i*6))),(17,80,(P_ s (i*6+2))),(18,81,.slice (some (p_ E 0)) x.ls.length x.cc),(19,82,I_ (a:Int)),(20,83,(P_ E (a*5)))] l ?_;simp only[tkf_,zf];refine tQ_ 21 84 (.agg (crow_ c)) rfl rfl (yieldsIf_load_mid (by rfl) 61 _ rfl E (a*5) rfl c.cs _ (λw0 h=>h.2.2.2.2.2.2.2.1) underlying61 rfl zyN) l ?_;simp only[zf];refine tks_ 8 [(24,87,(P_ w.heap.size 0)),(25,88,.slice (some (p_ s 0)) 4 o.nc),(26,89,I_ (k:Int)),(27,90,(P_ s (k*6))),(28,91,(P_ s (k*6+2))),(29,92,.slice (some (p_ F 0)) y.ls.length y.cc),(30,93,I_ (b:Int)),(31,94,(P_ F (b*5)))] l ?_;simp only[tkf_,zf];refine tQ_ 32 95 (.agg (crow_ d)) rfl rfl (yieldsIf_load_mid (by rfl) 61 _ rfl F (b*5) rfl d.cs _ (λw0 h=>h.2.2.2.2.2.2.2.2) underlying61 rfl zyN) l ?_;simp only[zf];clear l;refine zno (λZ aa T=>?_);refine znp (λA0 A=>?_);refine kV_ ?E0 ?_;exact Value.string (zai D);have aX:Hid (∀(V:World) (g:Nat) (q:Nat),B_ t V->(zg V (some (p_ g 0)) 32 D)->(zg V (some (p_ q 0)) 32 D)->Z 0 #[true,true,true,true,true,true,true,true,true,true,true,true,true,true,true,true,true,true,true,true,true,true,true,true,true,true,true,true,true,true,true,true,true,true,true,true,true] ((((((A0.put (some 85) (.slice (some (p_ g 0)) 32 32)).put (some 96) (.slice (some (p_ q 0)) 32 32)).put (some 86) ?E0).put (some 97) ?E0).put (some 98) (.bool false)).put (some 99) (.bool false)) V):=by
           show ∀V,_;intro V g q f C R;refine aa.out _ _ _ _ ?_;rw[<-A.out]
           try simp only[zf]
           refine wD_ (by kernel_rfl) ?_ _;have aj:=zm ak f;clear aa T Z
           (try go_wp2_with fail)
           go_roundw
           case rel=>exact⟨b+1,by omega,by go_num,aj⟩
           case measure=>simp[intOf];omega
          have aL:Hid (∀(V:World) (g:Nat) (q:Nat),B_ t V->(zg V (some (p_ g 0)) 32 D)->(zg V (some (p_ q 0)) 32 D)->Z 2 #[true,true,true,true,true,true,true,true,true,true,true,true,true,true,true,true,true,true,true,true,true,true,true,true,true,true,true,true,true,true,true,true,true,true,true,false,false] ((((A0.put (some 85) (.slice (some (p_ g 0)) 32 32)).put (some 96) (.slice (some (p_ q 0)) 32 32)).put (some 86) ?E0).put (some 97) ?E0) V):=by
           show ∀V,_;intro V g q f C R;refine aa.out _ _ _ _ ?_;rw[<-A.out]
           try simp only[zf]
           refine zE 35 rfl (λK B=>?_);refine zf4 (by rfl) 98 rfl (.bool false) V (by go_simp) ?_;refine B.out _ _ ⟨zr f u,zr f z,zr f I,zr f J,zr f L,zr f M,zr f N,(zdd G f),(zdd H f)⟩ (λl=>?_);simp only[zf];refine zU 36 99 (.bool false) rfl rfl l ?_;simp only[zf];clear l;have h:=aX.out V g q f C R;rw[<-A.out]at h
           (try simp only[zf]at h)
           (try simp only[zf])
           exact T.out _ _ _ _ h
          have aK:Hid (∀(V:World) (g:Nat) (q:Nat),B_ t V->(zg V (some (p_ g 0)) 32 D)->(zg V (some (p_ q 0)) 32 D)->Z 3 #[true,true,true,true,true,true,true,true,true,true,true,true,true,true,true,true,true,true,true,true,true,true,true,true,true,true,true,true,true,true,true,true,true,true,false,false,false] (((A0.put (some 85) (.slice (some (p_ g 0)) 32 32)).put (some 96) (.slice (some (p_ q 0)) 32 32)).put (some 86) ?E0) V):=by
           show ∀V,_;intro V g q f C R;refine aa.out _ _ _ _ ?_;rw[<-A.out]
           try simp only[zf]
           refine zE 34 rfl (λK B=>?_);have cv:=zd8 V (some (p_ q 0)) 32 32 D HL.out.symm R;refine zf4 (by rfl) 97 rfl ?E0 V (by go_simp) ?_;refine B.out _ _ ⟨zr f u,zr f z,zr f I,zr f J,zr f L,zr f M,zr f N,(zdd G f),(zdd H f)⟩ (λl=>?_);clear l;have h:=aL.out V g q f C R;rw[<-A.out]at h
           (try simp only[zf]at h)
           (try simp only[zf])
           exact T.out _ _ _ _ h
          have aY:Hid (∀(V:World) (g:Nat) (q:Nat),B_ t V->(zg V (some (p_ g 0)) 32 D)->(zg V (some (p_ q 0)) 32 D)->Z 3 #[true,true,true,true,true,true,true,true,true,true,true,true,true,true,true,true,true,true,true,true,true,true,true,false,true,true,true,true,true,true,true,true,true,true,true,false,false] (((A0.put (some 85) (.slice (some (p_ g 0)) 32 32)).put (some 96) (.slice (some (p_ q 0)) 32 32)).put (some 97) ?E0) V):=by
           show ∀V,_;intro V g q f C R;refine aa.out _ _ _ _ ?_;rw[<-A.out]
           try simp only[zf]
           refine zE 23 rfl (λK B=>?_);have cv:=zd8 V (some (p_ g 0)) 32 32 D HL.out.symm C;refine zf4 (by rfl) 86 rfl ?E0 V (by go_simp) ?_;refine B.out _ _ ⟨zr f u,zr f z,zr f I,zr f J,zr f L,zr f M,zr f N,(zdd G f),(zdd H f)⟩ (λl=>?_);clear l;have h:=aL.out V g q f C R;rw[<-A.out]at h
           (try simp only[zf]at h)
           (try simp only[zf])
           exact T.out _ _ _ _ h
          have aW:Hid (∀(V:World) (g:Nat) (q:Nat),B_ t V->(zg V (some (p_ g 0)) 32 D)->(zg V (some (p_ q 0)) 32 D)->Z 4 #[true,true,true,true,true,true,true,true,true,true,true,true,true,true,true,true,true,true,true,true,true,true,true,false,true,true,true,true,true,true,true,true,true,true,false,false,false] ((A0.put (some 85) (.slice (some (p_ g 0)) 32 32)).put (some 96) (.slice (some (p_ q 0)) 32 32)) V):=by
           show ∀V,_;intro V g q f C R;refine aa.out _ _ _ _ ?_;rw[<-A.out]
           try simp only[zf]
           refine wpAnyH_ready (rs:=[23,34]) (by kernel_rfl) (by simp) (AllReadyH.cons rfl (λK B=>?_) (AllReadyH.cons rfl (λK B=>?_) AllReadyH.nil));have cv:=zd8 V (some (p_ g 0)) 32 32 D HL.out.symm C;refine zf4 (by rfl) 86 rfl ?E0 V (by go_simp) ?_
           rotate_left
           have cv:=zd8 V (some (p_ q 0)) 32 32 D HL.out.symm R;refine zf4 (by rfl) 97 rfl ?E0 V (by go_simp) ?_
           rotate_left
           all_goals
            refine B.out _ _ ⟨zr f u,zr f z,zr f I,zr f J,zr f L,zr f M,zr f N,(zdd G f),(zdd H f)⟩ (λl=>?_);clear l
           have h:=aK.out V g q f C R
           rotate_left
           have h:=aY.out V g q f C R
           rotate_left
           all_goals
            rw[<-A.out]at h
            (try simp only[zf]at h)
            (try simp only[zf])
            exact T.out _ _ _ _ h
          have aZ:Hid (∀(V:World) (g:Nat),B_ t V->(zg V (some (p_ g 0)) 32 D)->Z 4 #[true,true,true,true,true,true,true,true,true,true,true,true,true,true,true,true,true,true,true,true,true,true,true,true,true,true,true,true,true,true,true,true,true,false,false,false,false] ((A0.put (some 85) (.slice (some (p_ g 0)) 32 32)).put (some 86) ?E0) V):=by
           show ∀V,_;intro V g f C;refine aa.out _ _ _ _ ?_;rw[<-A.out]
           try simp only[zf]
           refine zE 33 rfl (λK B=>?_);refine zaJ (by rfl) 96 rfl 26 [.tmp 95] #[61] rfl [.agg (crow_ d)] rfl (eO_ func26) (λv w'=>(∃b,v=.slice (some (p_ b 0)) 32 32/\zg w' (some (p_ b 0)) 32 D)/\B_ V w') ((aA.out V f).mono (λe w2 h=>by obtain⟨b,he,h1,h2⟩:=h;exact⟨_,he,⟨b,rfl,h2⟩,h1⟩)) ?_;rintro v W'⟨⟨q,rfl,av⟩,r⟩;have m:=zm f r;refine B.out _ _ ⟨zr m u,zr m z,zr m I,zr m J,zr m L,zr m M,zr m N,(zdd G m),(zdd H m)⟩ (λl=>?_);clear l;have h:=aK.out W' g q m (C.below r) av;rw[<-A.out]at h
           (try simp only[zf]at h)
           (try simp only[zf])
           exact T.out _ _ _ _ h
          have aV:Hid (∀(V:World) (g:Nat),B_ t V->(zg V (some (p_ g 0)) 32 D)->Z 5 #[true,true,true,true,true,true,true,true,true,true,true,true,true,true,true,true,true,true,true,true,true,true,true,false,true,true,true,true,true,true,true,true,true,false,false,false,false] (A0.put (some 85) (.slice (some (p_ g 0)) 32 32)) V):=by
           show ∀V,_;intro V g f C;refine aa.out _ _ _ _ ?_;rw[<-A.out]
           try simp only[zf]
           refine wpAnyH_ready (rs:=[23,33]) (by kernel_rfl) (by simp) (AllReadyH.cons rfl (λK B=>?_) (AllReadyH.cons rfl (λK B=>?_) AllReadyH.nil));have cv:=zd8 V (some (p_ g 0)) 32 32 D HL.out.symm C;refine zf4 (by rfl) 86 rfl ?E0 V (by go_simp) ?_;refine B.out _ _ ⟨zr f u,zr f z,zr f I,zr f J,zr f L,zr f M,zr f N,(zdd G f),(zdd H f)⟩ (λl=>?_);clear l;have h:=aZ.out V g f C
           rotate_left
           refine zaJ (by rfl) 96 rfl 26 [.tmp 95] #[61] rfl [.agg (crow_ d)] rfl (eO_ func26) (λv w'=>(∃b,v=.slice (some (p_ b 0)) 32 32/\zg w' (some (p_ b 0)) 32 D)/\B_ V w') ((aA.out V f).mono (λe w2 h=>by obtain⟨b,he,h1,h2⟩:=h;exact⟨_,he,⟨b,rfl,h2⟩,h1⟩)) ?_;rintro v W'⟨⟨q,rfl,av⟩,r⟩;have m:=zm f r;refine B.out _ _ ⟨zr m u,zr m z,zr m I,zr m J,zr m L,zr m M,zr m N,(zdd G m),(zdd H m)⟩ (λl=>?_);clear l;have h:=aW.out W' g q m (C.below r) av
           rotate_left
           all_goals
            rw[<-A.out]at h
            (try simp only[zf]at h)
            (try simp only[zf])
            exact T.out _ _ _ _ h
          have aU:Hid (∀(V:World),B_ t V->Z 6 #[true,true,true,true,true,true,true,true,true,true,true,true,true,true,true,true,true,true,true,true,true,true,false,false,true,true,true,true,true,true,true,true,true,false,false,false,false] A0 V):=by
           show ∀V,_;intro V  f;refine aa.out _ _ _ _ ?_;rw[<-A.out]
           try dsimp only
           refine zE 22 rfl (λK B=>?_);refine zaJ (by rfl) 85 rfl 26 [.tmp 84] #[61] rfl [.agg (crow_ c)] rfl (eO_ func26) (λv w'=>(∃b,v=.slice (some (p_ b 0)) 32 32/\zg w' (some (p_ b 0)) 32 D)/\B_ V w') ((aM.out V f).mono (λe w2 h=>by obtain⟨b,he,h1,h2⟩:=h;exact⟨_,he,⟨b,rfl,h2⟩,h1⟩)) ?_;rintro v W'⟨⟨g,rfl,a0⟩,r⟩;have m:=zm f r;refine B.out _ _ ⟨zr m u,zr m z,zr m I,zr m J,zr m L,zr m M,zr m N,(zdd G m),(zdd H m)⟩ (λl=>?_);clear l;have h:=aV.out W' g m a0;rw[<-A.out]at h
           (try simp only[zf]at h)
           (try simp only[zf])
           exact T.out _ _ _ _ h
          exact aU.out V0 p;have e3:(c.au == d.au)=true:=by simpa using e1
          have e4:(c.rd == d.rd)=false:=by simpa using e2
          clear ad af ag ah;have p:=dB_ t;refine wR_ (S:=λw'=>C_ w' w.heap.size 0 ?A0/\C_ w' s (i*6+2) ?C0/\C_ w' s (k*6+2) ?D0/\C_ w' X 0 (I_ c.au)/\C_ w' X 1 (I_ c.rd)/\C_ w' Y 0 (I_ d.au)/\C_ w' Y 1 (I_ d.rd)/\w'.rangeAt E (a*5) c.cs/\w'.rangeAt F (b*5) d.cs) (by kernel_rfl) ⟨zr p u,zr p z,zr p I,zr p J,zr p L,zr p M,zr p N,zde G,zde H⟩ (λl=>?_);generalize t.drew=V0 at p l|-;refine tks_ 24 [(0,63,(P_ X 0)),(1,64,I_ c.au),(2,65,(P_ Y 0)),(3,66,I_ d.au),(4,67,.bool true),(5,68,.bool true),(6,69,(P_ X 1)),(7,70,I_ c.rd),(8,71,(P_ Y 1)),(9,72,I_ d.rd),(10,73,.bool false),(11,74,.bool false),(12,75,.bool false),(13,76,undef),(14,77,undef),(15,78,undef),(16,79,undef),(17,80,undef),(18,81,undef),(19,82,undef),(20,83,undef),(21,84,undef),(22,85,undef),(23,86,undef)] l ?_;simp only[tkf_,zf];refine tks_ 13 [(24,87,undef),(25,88,undef),(26,89,undef),(27,90,undef),(28,91,undef),(29,92,undef),(30,93,undef),(31,94,undef),(32,95,undef),(33,96,undef),(34,97,undef),(35,98,undef),(36,99,.bool false)] l ?_;simp only[tkf_,zf];refine wD_ (by kernel_rfl) ?_ _;have aj:=zm ak p;clear l
          (try go_wp2_with fail)
          go_roundw
          case rel=>exact⟨b+1,by omega,by go_num,aj⟩
          case measure=>simp[intOf];omega
         have e3:(c.au == d.au)=false:=by simpa using e1
         clear ad af ag ah;have p:=dB_ t;refine wR_ (S:=λw'=>C_ w' w.heap.size 0 ?A0/\C_ w' s (i*6+2) ?C0/\C_ w' s (k*6+2) ?D0/\C_ w' X 0 (I_ c.au)/\C_ w' X 1 (I_ c.rd)/\C_ w' Y 0 (I_ d.au)/\C_ w' Y 1 (I_ d.rd)/\w'.rangeAt E (a*5) c.cs/\w'.rangeAt F (b*5) d.cs) (by kernel_rfl) ⟨zr p u,zr p z,zr p I,zr p J,zr p L,zr p M,zr p N,zde G,zde H⟩ (λl=>?_);generalize t.drew=V0 at p l|-;refine tks_ 24 [(0,63,(P_ X 0)),(1,64,I_ c.au),(2,65,(P_ Y 0)),(3,66,I_ d.au),(4,67,.bool false),(5,68,.bool false),(6,69,undef),(7,70,undef),(8,71,undef),(9,72,undef),(10,73,undef),(11,74,.bool false),(12,75,.bool false),(13,76,undef),(14,77,undef),(15,78,undef),(16,79,undef),(17,80,undef),(18,81,undef),(19,82,undef),(20,83,undef),(21,84,undef),(22,85,undef),(23,86,undef)] l ?_;simp only[tkf_,zf];refine tks_ 13 [(24,87,undef),(25,88,undef),(26,89,undef),(27,90,undef),(28,91,undef),(29,92,undef),(30,93,undef),(31,94,undef),(32,95,undef),(33,96,undef),(34,97,undef),(35,98,undef),(36,99,.bool false)] l ?_;simp only[tkf_,zf];refine wD_ (by kernel_rfl) ?_ _;have aj:=zm ak p;clear l
         (try go_wp2_with fail)
         go_roundw
         case rel=>exact⟨b+1,by omega,by go_num,aj⟩
         case measure=>simp[intOf];omega
        obtain rfl:b=y.ls.length:=by omega
        have aP:¬(y.ls.length:Int)<y.ls.length:=by omega
        clear hby aO U;go_wp2_with fail
        go_roundw
        case rel=>exact⟨a+1,by omega,by go_num,r⟩
        case measure=>simp[intOf];omega
      obtain rfl:a=x.ls.length:=by omega
      have aN:¬(x.ls.length:Int)<x.ls.length:=by omega
      clear hax ha;go_wp2_with fail
      go_roundw
      case rel=>exact⟨k+1,by omega,by go_num,r⟩
      case measure=>simp[intOf];omega
    obtain rfl:k=i+1:=by omega
    have aQ:¬((i+1:Nat):Int)<=i:=by omega
    clear hki hk;go_wp2_with fail
    go_roundw
    case rel=>exact⟨i+1,by omega,by go_num,r⟩
    case measure=>simp[intOf];omega
  obtain rfl:i=4:=by omega
  have aR:¬((4:Nat):Int)<4:=by omega
  clear hlt hi;go_wp2_with fail
  go_ret;exact⟨rfl,O.trans (r.mono O.size)⟩
end Go.Proofs.YthnkppcncbjdiaaGreatDoor
