import Derived.Test.YtnlfpfajecldkaaGreatDoorPk19
set_option maxRecDepth 100000
set_option maxHeartbeats 4000000
namespace Go.Proofs.YtnlfpfajecldkaaGreatDoor
open Go.RowKit _root_.Go.Proofs.Tryz
variable {w w':World}{sa:Q_}{cap:Nat}{ls:List Ct}
theorem zBB (l:List CV)(h:400<l.length):zbV l=12:=by simp[zbV,h]
theorem zy5.below (h:zy5 w sa cap ls)(b:B_ w w'):zy5 w' sa cap ls:=⟨h.le,h.max,h.small,h.some,h.certs.below b,λc d=>(h.each c d).below b⟩
variable {B:Nat}
structure zjS (w:World)(B s:Nat)(ls:List Ct):Prop where
 out:∃vc vd ds,Stk w B s vc vd ls ds/\zT ds=(zI ls).map CV.d/\ls.length<=400
theorem zjS.below {s:Nat}(h:zjS w B s ls)(f:B_ w w'):zjS w' B s ls:=by
 obtain⟨g,j,ds,b,c,d⟩:=h.out;exact⟨g,j,ds,b.below f,c,d⟩
variable {g:GV}
theorem zBp {l:List GV}(h:zbF l=0)(o:gF g=0)(p:¬g∈l):zbF (l++[g])=0:=by
 obtain⟨f,j⟩:=zpT h;refine ztl ⟨?_,?_⟩
 .intro x c;rcases List.mem_append.1 c with c|c
  .exact f x c
  .rw[List.mem_singleton]at c;subst c;exact o
 .rw[List.nodup_append];refine⟨j,by simp,?_⟩;intro a m b d e;rw[List.mem_singleton]at d;subst d e;exact p m
variable {k:Nat}
theorem zBF {l:List CV}(c:k<l.length)(h:za8 (l.take k) (zaM l k)≠0):zbV l=12:=by
 by_cases hl:400<l.length
 .exact zBB l hl
 .refine zzC l k c ?_;simp only[zgH,Bool.or_eq_true,decide_eq_true_eq];by_cases h1:(zaM l k).f=0
  .right
   intro b
   apply h
   rw[za8,if_neg (λg=>g h1),if_neg (λg=>g b),if_neg (by simp;omega)]
  .exact .inl h1
theorem Fl.run_cons (f:Fl)(a:Ac)(l:List Ac):f.run (a::l)=(f.does a).run l:=rfl
theorem zAY {f:Fl}{a:Ac}(h:a.k=2):f.does a=if f.runs a.i then f.set a.i (f.node a.i).work else f:=by
 rw[Fl.does,Fl.act,if_neg (by omega),if_neg (by omega),if_neg (by omega),if_neg (by omega),if_neg (by omega),if_pos (by omega),if_pos h]
theorem zew (f:Fl)(i:Int)(m:MC):(f.come i m).no=f.no:=by unfold Fl.come;split<;>rfl
theorem zca (f:Fl)(i:Int)(m:MC):(f.come i m).nd.length=f.nd.length:=by unfold Fl.come;split;exact zau _ _ _;rfl
theorem zlo (l:List MC)(f:Fl):(comes f l).no=f.no:=by
 induction l generalizing f with
 | nil=>rfl
 | cons m l ih=>exact(ih _).trans (zew _ _ _)
theorem zl4 {P:Fl->Prop}{f:Fl}(a:Ac)(d:P f)(c:∀p,0<=p->P (f.pick 4 p)/\P (f.pick 5 p)/\P (f.pick 6 p))(g:P f.flow)(o:∀t,P (f.submit a.i t))(j:∀t,P (f.forge a.i t))(m:P (f.start a.i))
  (l:f.runs a.i=true->P (f.set a.i (f.node a.i).work)/\P (f.sync a.i)/\(0<=a.p->P (f.set a.i ((f.node a.i).crash a.p)))) (b:0<=a.p):P (f.does a):=by
 unfold Fl.does Fl.act
 split
 .rename_i e
  rcases e with e|e|e<;>rw[e]
  .exact(c a.p b).1
  .exact(c a.p b).2.1
  .exact(c a.p b).2.2
 .split
  .exact g
  .split
   .exact o _
   .split
    .exact j _
    .split
     .exact m
     .split
      .split
       .rename_i e
        obtain⟨q,r,s⟩:=l e
        split
        .exact q
        .split
         .exact r
         .exact s b
       .exact d
      .exact d
theorem zdQ (f:Fl)(a:Ac):(f.does a).no.bad=f.no.bad:=by
 unfold Fl.does Fl.act
 split
 .unfold Fl.pick
  split
  .rfl
  .split
   .rfl
   .split
    .rw[zew]
    .rfl
 .split
  .rw[zfw,zlo]
  .split
   .unfold Fl.submit
    split
    .rfl
    .split<;>rfl
   .split
    .exact zcq (P:=λg=>g.no.bad=f.no.bad) _ _ rfl (λm=>by rw[zew])
    .split
     .unfold Fl.start
      split<;>rfl
     .split
      .split
       .split
        .rfl
        .split
         .unfold Fl.sync;rw[zha];rfl
         .rfl
       .rfl
      .rfl
theorem zxU (l:List Ac)(f:Fl):(f.run l).no.bad=f.no.bad:=by
 induction l generalizing f with
 | nil=>rfl
 | cons a l ih=>rw[Fl.run_cons,ih,zdQ]
variable {i j:Int}
theorem zgl (f:Fl)(i:Int):(f.start i).no=f.no:=by unfold Fl.start;split<;>rfl
theorem ze6 {f:Fl}(b:f.nd.length=4)(d:0<=i/\i<4)(c:i≠f.no.bad):(f.start i).node i={ f.node i with up:=true }:=by
 unfold Fl.start;rw[if_neg c,set_here _ b d]
theorem zqF {f:Fl}(b:0<=i)(c:0<=j)(h:j≠i):(f.start i).node j=f.node j:=by
 unfold Fl.start
 split
 .rfl
 .exact set_there _ b c h
theorem zkd (f:Fl)(i:Int):(f.start i).nd.length=f.nd.length:=by unfold Fl.start;split;rfl;exact zau _ _ _
theorem zxF (l:List AV):∀u∈avs l,u.oneCell'=true:=by
 induction l with
 | nil=>intro u b;cases b
 | cons a l ih=>
  intro u b;rcases List.mem_append.1 b with h|h
  .simp[AV.cs]at h;rcases h with rfl|rfl|rfl|rfl<;>rfl
  .exact ih u h
variable {ops:Array Oper}{Q:Exit->Act->World->Prop}{a:Act}
theorem zsK {d:Addr}{cs:List AV}(y:zbq w (some d) cs):∀j u,(avs cs)[j]? = some u->w.cell? (d.add j)=some u:=by
 intro j u b;rcases y.cells with c|⟨B,l,e,c⟩
 .subst c;simp[avs]at b
 .cases e;have A:j<cs.length*4:=by
   rcases Nat.lt_or_ge j (cs.length*4)with g|g
   .exact g
   .rw[List.getElem?_eq_none (by rw[zg1];omega)]at b;cases b
  have f:j / 4<cs.length:=by omega
  have t:j=j / 4*4+j % 4:=by omega
  have s:j % 4<4:=by omega
  rw[zaP];obtain⟨m,o,p,r⟩:=c (j / 4) f;rw[t,zkr cs (j / 4) (j % 4) f s]at b;have z:l+j=l+j / 4*4+j % 4:=by omega
  rw[z];generalize j / 4=q at*;rcases(by omega:j % 4=0\/j % 4=1\/j % 4=2\/j % 4=3)with h|h|h|h<;>rw[h]at b|-<;>simp[AV.cs]at b<;>subst b
  .exact m
  .exact o
  .exact p
  .exact r
theorem zfB {rest:List Oper}{o:Oper}(q:o.guard=none)(s x:Operand)
  (t:o.op=.call { callee:=.builtin .append,args:=#[s,x],argTypes:=#[24,24] })
  (base:Nat) (v:Value) (n:Nat) (l:List AV) (u:a.eval s=v) (p:w.ownsRow base 55 4 v n (avs l)) (d:Q_) (m f:Nat) (b:List AV) (y:a.eval x=.slice d m f) (C:m=b.length) (g:zbq w d b) (D:d=none->m=0/\f=0)
  (H:n+m<=3000000000000) (B:base<=w.heap.size)
  (h:∀c w',w'.ownsRow base 55 4 c (n+m) (avs (l++b))->zV w v w' c->wpList prog ops Q rest (a.put o.dst c) w'):wpList prog ops Q (o::rest) a w:=by
 obtain⟨i,r,E,F,G⟩:=info_parts zwM;cases d with
 | none=>
  obtain⟨A,j⟩:=D rfl;subst A j;obtain rfl:b=[]:=eN_ C.symm;exact wpList_append_own_none q s x 24 t base 55 i 4 underlying24 r v n (avs l) u p y (h v w (by simpa using p) (zV.of (World.grownBy.refl _ _) (.inl rfl)))
 | some ad=>
  exact wpList_append_own_at w q s x 24 t base 55 i _ 4 40 underlying24 r E F G rfl (by decide) v n (avs l) u p ad m f (avs b) y (by rw[zg1];omega) (zsK g) (zxF b) (by unfold maxLen;omega) (by omega) B (λc w' z g _ j=>h c w' (by rw[zl5];exact z) (zV.of g j))
theorem zg9 (n:Int)(w:World)(c:-9223372036854775808<=n)(d:n<=9223372036854775807) :
  Calls prog 17 #[I_ n] w λe w'=>e=.returned (I_ (pk n 5-1))/\w=w':=by
 obtain⟨j,l⟩:=zW n 5 (by decide);have b:=zbI n 5 w c d (by decide) (by decide);generalize pk n 5=N at*;have g:IntKind.i64.wrap (N-1)=N-1:=by rw[IntKind.wrap_i64];omega
 go_in;go_wp2_with fail
 refine b.mono ?_;rintro _ m⟨rfl,rfl⟩;dsimp only;go_wp2_with fail
 go_ret;exact⟨rfl,rfl⟩
theorem zcZ (l m:List AV)(c:Q_)(o g:Nat)(d:Q_)(p j:Nat)(w:World)(B:o=l.length)(E:p=m.length)(A:zbq w c l)(C:zbq w d m)(u:c=none->l.length=0/\g=0)(y:d=none->m.length=0/\j=0)(I:l.length+m.length<=100000) :
  Calls prog 8 #[.slice c o g,.slice d p j] w λe w'=>∃v,e=.returned v/\w'.ownsRow w.heap.size 55 4 v (l++m).length (avs (l++m))/\B_ w w':=by
 subst B E;have t:Hid ((l++m).length=l.length+m.length):=lP_;go_in;go_upto_region 1 with fail
 go_wp2_with (at_builtin;refine zfB rfl _ _ rfl w.heap.size _ 0 [] rfl (oN_ _ _ _ _) c l.length g l rfl rfl A u (by omega) (nR_ _) ?_)
 intro G J f r;have b:=Below.grown (bR_ w.heap.size w) r.grown (nR_ _) (λq e=>by cases e)
 (try rw[List.nil_append,Nat.zero_add]at f)
 have D:=C.below b;go_wp2_with (at_builtin;refine zfB rfl _ _ rfl w.heap.size G l.length l rfl f d m.length j m rfl rfl D y (by omega) b.size ?_)
 intro H w2 F s;have z:=Below.grown b s.grown b.size (λq e=>(f.lt q e).1);go_wp2_with fail
 go_ret;exact⟨H,rfl,by rw[t.out];exact F,z⟩
variable {o:Nat}
theorem zdd {b:Nat}{cs:List Value}(h:w.rangeAt b o cs)(d:B_ w w'):w'.rangeAt b o cs:=λj v c=>(d.cell (p:=⟨b,o+j,none⟩) (bL_ (h j v c))).trans (h j v c)
theorem zde {b:Nat}{cs:List Value}(h:w.rangeAt b o cs):w.drew.rangeAt b o cs:=λj v c=>h j v c
theorem zex.vm {o:Om}(h:zex w o):∀i,i<4->zfX w (o.y i):=zsL h.e0 h.e1 h.e2 h.e3
theorem zjd.vw {o:Om}(h:zjd o):∀i,i<4->zlk (o.y i).v:=zsL h.v0 h.v1 h.v2 h.v3
theorem ziw {o:Om}{f:Fl}(h:o.v=f.told):o.gs.length=f.no.sg.length:=by
 have e:(zA o.gs).length=f.no.sg.length:=congrArg (λx:Ou=>x.sg.length) h;rw[zgj]at e;exact e
theorem zdw {b:Nat}{l:List AV}(h:R_ w b ((avs l).toArray) 55)(d:∀a∈l,a.e=0/\a.t.size<=4000):zbq w (some ⟨b,0,none⟩) l:=by
 refine⟨.inr ⟨b,0,rfl,λj m=>?_⟩,λa g=>nT_ (d a g).2 (by decide)⟩;have c:∀t,t<4->w.cell? ⟨b,0+j*4+t,none⟩=(l.getD j .z).cs[t]?:=λt d=>by
  rw[<-zkr l j t m d];have f:j*4+t<(avs l).length:=by rw[zg1];omega
  rw[List.getElem?_eq_getElem f,Nat.zero_add];exact zb h (j*4+t) _ (by simp[f])
 exact⟨c 0 (by decide),c 1 (by decide),c 2 (by decide),c 3 (by decide)⟩
theorem zcP (r:Int)(l m:List AV):(Fl.z r).run ((l++m).map AV.ac)=((Fl.z r).run (l.map AV.ac)).run (m.map AV.ac):=by rw[List.map_append,Fl.run_append]
theorem zgO.proven {f:Fl}(h:zgO f){i:Int}(d:0<=i/\i<4){c:CV}(b:c∈(f.node i).k.dag):zzQ f.no c:=by
 rw[(h.good i d).tape]at b;rcases zAr _ _ b with g|⟨m,j,e,g⟩
 .cases g
 .rw[<-g];exact h.prov i d m j e
theorem zBJ {f:Fl}{c:CV}(h:c∈(f.view i).cs):c∈(f.node i).k.dag:=by
 unfold Fl.view at h
 split at h
 .cases h
 .exact h
def zby:Nat->List AV
 | 0=>[]
 | k+1=>zby k++[⟨8,k,0,⟨#[]⟩⟩]
def zdc:Nat->List AV
 | 0=>[]
 | k+1=>zdc k++[⟨2,k,0,⟨#[]⟩⟩,⟨3,k,0,⟨#[]⟩⟩]
def zaA (R:Nat):List AV:=match R with
 | 0=>zby 4
 | R+1=>zaA R++zdc 4++[⟨10,0,0,⟨#[]⟩⟩]
theorem zAZ (k:Nat)(c:k<=4):∀a∈zby k,a.e=0/\a.t.size<=4000:=by
 induction k with
 | zero=>intro a b;cases b
 | succ k ih=>
  refine zc9 (ih (by omega)) (λa b=>?_);rw[List.mem_singleton.1 b];exact⟨zaL _ _ _ _ (by decide) (by omega) (by decide) (by decide) (λh=>by cases h) (λ_=>rfl) (λ_=>rfl),by show ByteArray.size ⟨#[]⟩<=4000;decide⟩
theorem zAD (k:Nat)(hk:k<=4):∀a∈zdc k,a.e=0/\a.t.size<=4000:=by
 induction k with
 | zero=>intro a ha;cases ha
 | succ k ih=>
  refine zc9 (ih (by omega)) (λa ha=>?_);simp only[List.mem_cons,List.not_mem_nil,or_false]at ha;rcases ha with e|e<;>subst e<;>exact⟨zaL _ _ _ _ (by decide) (by omega) (by decide) (by decide) (λh=>by cases h) (λ_=>rfl) (λ_=>rfl),by show ByteArray.size ⟨#[]⟩<=4000;decide⟩
theorem zz2 (R:Nat):∀a∈zaA R,a.e=0/\a.t.size<=4000:=by
 induction R with
 | zero=>exact zAZ 4 (nR_ _)
 | succ R ih=>
  refine zc9 (zc9 ih (zAD 4 (nR_ _))) (λa b=>?_);rw[List.mem_singleton.1 b];exact⟨zaL _ _ _ _ (by decide) (by decide) (by decide) (by decide) (λ_=>rfl) (λ_=>rfl) (λ_=>rfl),by show ByteArray.size ⟨#[]⟩<=4000;decide⟩
theorem zAE (R:Nat):(zaA R).length=4+9*R:=by
 induction R with
 | zero=>rfl
 | succ R ih=>rw[zaA,lP_,lP_,ih];show 4+9*R+8+1=_;omega
theorem zA6 (R:Nat)(B:R<=100)(w:World) :
  Calls prog 10 #[I_ (R:Int)] w λe w'=>∃v,e=.returned v/\w'.ownsRow w.heap.size 55 4 v (zaA R).length (avs (zaA R))/\B_ w w':=by
 rw[zAE];go_in;go_wp2_with fail
 go_loopw [4,3] (λj v wr=>∃k:Nat,k<=4/\j=I_ k/\B_ w wr/\wr.ownsRow w.heap.size 55 4 v k (avs (zby k))) (λj _ _=>4-(intOf j).toNat)
 case atStart=>exact⟨0,nZ_ _,rfl,bR_ _ _,oN_ _ _ _ _⟩
 case round=>
  obtain⟨k,o,rfl,b,c⟩:=hrel;by_cases hlt:k<4
  .have p:(k:Int)<4:=by omega
   have m:(wr.alloc (.cells #[I_ 8,I_ k,I_ 0,.string ⟨#[]⟩] 55)).heap[wr.heap.size]? = some (.cells (⟨8,k,0,⟨#[]⟩⟩:AV).cs.toArray 55 (0,0)):=hN_ _ _;have d:Hid (zby (k+1)=zby k++[⟨8,k,0,⟨#[]⟩⟩]):=rfl;generalize zby k=l at c d;go_wp2_with (at_builtin;refine zkz rfl _ _ rfl w.heap.size _ k l rfl (c.alloc _) wr.heap.size ⟨8,k,0,⟨#[]⟩⟩ rfl m (by omega) (by have:=b.size;simp;omega) ?_)
   intro r w2 g f;go_wp2_with fail
   go_roundw
   case rel=>
    refine⟨k+1,by omega,by go_num,b.trans ?_,by rw[d.out];exact g⟩;exact((bR_ _ _).alloc b.size _).trans (f.below (by have:=b.size;simp;omega) (λq e=>(c.lt q e).1))
   case measure=>simp[intOf];omega
  .obtain rfl:k=4:=by omega
   have p:¬((4:Nat):Int)<4:=by omega
   clear hlt o;go_wp2_with fail
   go_loopw [5,3] (λj v wr=>∃i:Nat,i<=R/\j=I_ i/\B_ w wr/\wr.ownsRow w.heap.size 55 4 v (4+9*i) (avs (zaA i))) (λj _ _=>R-(intOf j).toNat)
   case atStart=>exact⟨0,nZ_ _,rfl,b,c⟩
   case round=>
    clear c b;obtain⟨i,y,rfl,b,c⟩:=hrel;by_cases hlt:i<R
    .have p:(i:Int)<R:=by omega
     go_wp2_with fail
     go_loopw [6,3] (λj v s=>∃k:Nat,k<=4/\j=I_ k/\B_ w s/\s.ownsRow w.heap.size 55 4 v (4+9*i+2*k) (avs (zaA i++zdc k))) (λj _ _=>4-(intOf j).toNat)
     case atStart=>exact⟨0,nZ_ _,rfl,b,by rw[zdc,List.append_nil];exact c⟩
     case round=>
      clear c b;obtain⟨k,o,rfl,b,c⟩:=hrel;by_cases hlt4:k<4
      .have A:(k:Int)<4:=by omega
       have m:(wr.alloc (.cells #[I_ 2,I_ k,I_ 0,.string ⟨#[]⟩,I_ 3,I_ k,I_ 0,.string ⟨#[]⟩] 55)).heap[wr.heap.size]? = some (.cells (avs [(⟨2,k,0,⟨#[]⟩⟩:AV),⟨3,k,0,⟨#[]⟩⟩]).toArray 55 (0,0)):=hN_ _ _;have t:=zdw m (λa u=>zAD (k+1) hlt4 a (List.mem_append_right _ u));have d:Hid (zaA i++zdc (k+1)=zaA i++zdc k++[⟨2,k,0,⟨#[]⟩⟩,⟨3,k,0,⟨#[]⟩⟩]):=(List.append_assoc _ _ _).symm;have z:i<=100:=by omega
       generalize zaA i++zdc k=l at c d;go_wp2_with (at_builtin;refine zfB rfl _ _ rfl w.heap.size _ (4+9*i+2*k) l rfl (c.alloc _) (some ⟨wr.heap.size,0,none⟩) 2 2 [(⟨2,k,0,⟨#[]⟩⟩:AV),⟨3,k,0,⟨#[]⟩⟩] rfl rfl t (λe=>by cases e) (by omega) (by have:=b.size;simp;omega) ?_)
       intro r w2 g f;go_wp2_with fail
       go_roundw
       case rel=>
        refine⟨k+1,by omega,by go_num,b.trans ?_,by rw[d.out,show 4+9*i+2*(k+1)=4+9*i+2*k+2 by omega];exact g⟩;exact((bR_ _ _).alloc b.size _).trans (f.below (by have:=b.size;simp;omega) (λq e=>(c.lt q e).1))
       case measure=>simp[intOf];omega
      .obtain rfl:k=4:=by omega
       have A:¬((4:Nat):Int)<4:=by omega
       have m:(wr.alloc (.cells #[I_ 10,I_ 0,I_ 0,.string ⟨#[]⟩] 55)).heap[wr.heap.size]? = some (.cells (⟨10,0,0,⟨#[]⟩⟩:AV).cs.toArray 55 (0,0)):=hN_ _ _;have d:Hid (zaA (i+1)=zaA i++zdc 4++[⟨10,0,0,⟨#[]⟩⟩]):=rfl;have z:i<=100:=by omega
       generalize zaA i++zdc 4=l at c d;clear hlt4 o;go_wp2_with (at_builtin;refine zkz rfl _ _ rfl w.heap.size _ (4+9*i+2*4) l rfl (c.alloc _) wr.heap.size ⟨10,0,0,⟨#[]⟩⟩ rfl m (by omega) (by have:=b.size;simp;omega) ?_)
       intro r w2 g f;go_wp2_with fail
       go_roundw
       case rel=>
        refine⟨i+1,by omega,by go_num,b.trans ?_,by rw[d.out,show 4+9*(i+1)=4+9*i+2*4+1 by omega];exact g⟩;exact((bR_ _ _).alloc b.size _).trans (f.below (by have:=b.size;simp;omega) (λq e=>(c.lt q e).1))
       case measure=>simp[intOf];omega
    .obtain rfl:i=R:=by omega
     have p:¬(i:Int)<i:=by omega
     clear hlt y;go_wp2_with fail
     go_ret;exact⟨_,rfl,c,b⟩
theorem zAK (f:Fl)(i:Int)(t:ByteArray):(f.submit i t).no=f.no:=by
 unfold Fl.submit
 split
 .rfl
 .split<;>rfl
structure zdV (o:No):Prop where
 bad:o.bad=-1
 sg:o.sg=[]
theorem zdV.proven {o:No}(h:zdV o)(c:CV):o.proven c=false:=by
 cases e:o.proven c with
 | false=>rfl
 | true=>
  have p:=zzS e;obtain⟨a,b,c',d,_,_,q⟩:=zAq (CV.voters p.1);rcases p.2 a (.inr d)with g|g
  .rw[h.bad]at g;omega
  .rw[h.sg]at g;cases g
theorem zBd (h:gF g=0):0<=g.1/\g.1<4:=by
 unfold gF zhD at h
 split at h
 .cases h
 .rename_i k
  by_cases e:0<=g.1/\g.1<4
  .exact e
  .exact absurd e k
theorem zdV.signed {o:No}(h:zdV o)(b:Int)(s:SV):o.signed b s=false:=by
 unfold No.signed zce
 split
 .simp
 .split
  .simp
  .rename_i k
   have k:gF (b,s.1,s.2.1,s.2.2)=0:=by simpa using k
   have:=zBd k;have this:0<=b/\b<4:=this;have e:¬b=o.bad:=by rw[h.bad];omega
   rw[h.sg];simp[e]
theorem zBe {b:BW}(h:b.f=0):(zed b).onTape.length<=325:=by
 have k:=zk7 (m:=(zed b).mv.m) (ss:=b.ss) (bl:=[]) (pl:=[]) (cbl:=[]) (cpl:=[]) (ds:=[]) (vl:=[]) rfl (by rw[ziO rfl];exact h);show(MV.onTape (zed b).mv).length<=325;rw[zlH];show 2+([_,_,_]++zcG _ _ _ _ _ _ _ _).length<=325;rw[lP_];have k:(zcG (zed b).mv.m (zed b).mv.ss (zed b).mv.bl (zed b).mv.pl (zed b).mv.cbl (zed b).mv.cpl (zed b).mv.ds (zed b).mv.vl).length<=320:=k;simp only[List.length_cons,List.length_nil];omega
theorem zAM {c:CV}(h:c.hf=0):(zcl c).onTape.length<=325:=by
 have k:=zk7 (m:=(zcl c).mv.m) (ss:=[]) (bl:=pz c.bl) (pl:=pz c.pl) (cbl:=[]) (cpl:=[]) (ds:=[]) (vl:=[]) rfl (by rw[ziP rfl];exact h);show(MV.onTape (zcl c).mv).length<=325;rw[zlH];show 2+([_,_,_]++zcG _ _ _ _ _ _ _ _).length<=325;rw[lP_];have k:(zcG (zcl c).mv.m (zcl c).mv.ss (zcl c).mv.bl (zcl c).mv.pl (zcl c).mv.cbl (zcl c).mv.cpl (zcl c).mv.ds (zcl c).mv.vl).length<=320:=k;simp only[List.length_cons,List.length_nil];omega
theorem zBf {l:List MC}(h:∀m∈l,m.onTape.length<=325):(zae l).length<=325*l.length:=by
 induction l with
 | nil=>exact nR_ _
 | cons m l ih=>
  have e:(zae (m::l)).length=m.onTape.length+(zae l).length:=by simp[zae]
  have:=ih (λx b=>h x (List.mem_cons_of_mem _ b));have:=h m (by simp);rw[e,List.length_cons];omega
def Apt (l:List (L_)):Prop:=l.Pairwise λa b=>txL a≠txL b
theorem zA7 {l:List (L_)}(f:∀d∈l,d.length=32)(o:Apt l):zb8 (pz l)=0:=by
 have m:(pz l).length=l.length:=by simp[pz]
 have b:∀k (c:k<l.length),(zcT (pz l) k).bs=l[k]:=λk c=>by
  rw[zgQ _ _ (by omega)];simp[pz]
 have p:∀k,k<=l.length->zbn (pz l) k=0:=by
  intro k
  induction k with
  | zero=>intro _;rfl
  | succ k ih=>
   intro c;rw[zbn,ih (by omega),if_neg (λe=>e rfl),zcF,if_neg,if_neg]
   .unfold zgm;simp only[List.any_eq_true,List.mem_range,decide_eq_true_eq,not_exists,not_and];intro j g;rw[b j (by omega),b k (by omega)];exact List.pairwise_iff_getElem.1 o j k (by omega) (by omega) g
   .rw[b k (by omega)]
    simpa using f _ (gM_ _)
 rw[zb8,m];exact p _ (nR_ _)
theorem zA8 (k:Kn)(d:Int)(l:List BW)(c:List (L_))(o:c.length<=3):∃r,zb2 k d c l=c++r/\r.Sublist (l.map BW.d)/\(zb2 k d c l).length<=3:=by
 induction l generalizing c with
 | nil=>exact⟨[],by simp[zb2],List.nil_sublist _,o⟩
 | cons b l ih=>
  have e:zb2 k d c (b::l)=zb2 k d (zgT k d c b) l:=rfl;by_cases h3:c.length=3
  .have f:zgT k d c b=c:=if_pos h3;obtain⟨r,g,j,m⟩:=ih c o;rw[e,f];exact⟨r,g,j.cons _,m⟩
  .by_cases hc:b.au=d/\zin k d b.d=false
   .have f:zgT k d c b=c++[b.d]:=by unfold zgT;rw[if_neg h3,if_pos hc]
    obtain⟨r,g,j,m⟩:=ih (c++[b.d]) (by simp;omega);rw[e,f];exact⟨b.d::r,by rw[g];simp,j.cons_cons _,m⟩
   .have f:zgT k d c b=c:=by unfold zgT;rw[if_neg h3,if_neg hc]
    obtain⟨r,g,j,m⟩:=ih c o;rw[e,f];exact⟨r,g,j.cons _,m⟩
structure zhd (l:List MC):Prop where
 dag:(zbX l).dag=[]
 own:((zbX l).own.rd<=0/\(zbX l).tab=[])\/(1<=(zbX l).own.rd/\(zbX l).own.hf=0)
 cnt:l.length<=(zbX l).sh.length+(if(zbX l).own.rd<=0 then 0 else 1)
 each:∀m∈l,m.onTape.length<=325
 sh:(zbX l).sh.length<=800
 apt:Apt ((zbX l).sh.map BW.d)
theorem zhd.nil:zhd []:=⟨rfl,.inl ⟨by decide,rfl⟩,nZ_ _,(λm b=>by cases b),nZ_ _,List.Pairwise.nil⟩
structure za9 (n:Nd):Prop where
 tape:n.k=zbX n.recs
 each:∀l e,n.recs=l++e->zhd l
 vot:∀v∈n.vot,v=n.nu
theorem za9.now {n:Nd}(h:za9 n):zhd n.recs:=h.each n.recs [] (by simp)
theorem za9.room {n:Nd}(h:za9 n){m:MC}(b:m.onTape.length<=325):n.room m=true:=by
 have q:=h.now;have:=zBf q.each;have:=q.cnt;have:=q.sh;unfold Nd.room;refine dT_ ?_
 split at*<;> omega
theorem za9.log {n:Nd}(h:za9 n){m:MC}{k:Kn}(e:n.k.rcl m=k)(g:zhd (n.recs++[m])):za9 (n.log m k):=by
 have j:zbX (n.recs++[m])=k:=by
  show(n.recs++[m]).foldl Kn.rcl Kn.z=k;rw[List.foldl_append,show n.recs.foldl Kn.rcl Kn.z=n.k from h.tape.symm];exact e
 refine⟨j.symm,λl x b=>?_,h.vot⟩;have b:n.recs++[m]=l++x:=b;rcases List.append_eq_append_iff.1 b with⟨a,c,d⟩|⟨a,c,d⟩
 .cases a with
  | nil=>exact h.each l [] (by rw[c];simp)
  | cons y a=>
   have:a=[]/\x=[]:=by
    have f:=congrArg List.length d;simp only[List.length_cons,lP_,List.length_nil]at f;exact⟨eN_ (by omega),eN_ (by omega)⟩
   obtain⟨rfl,rfl⟩:=this;have:l=n.recs++[m]:=by rw[b,List.append_nil]
   rw[this];exact g
 .exact h.each l a c
theorem zqT (l:List MC)(m:MC):zbX (l++[m])=(zbX l).rcl m:=by
 show(l++[m]).foldl Kn.rcl Kn.z=_;rw[List.foldl_append];rfl
theorem zAN {l:List BW}{b:BW}(h:zbG l b=true):b.f=0/\zb1 l b.d=false/\l.length<800:=by
 unfold zbG at h;simp only[Bool.and_eq_true,decide_eq_true_eq,Bool.not_eq_true']at h;exact⟨h.1.1,h.1.2,h.2⟩
theorem zA9 {l:List BW}{b:BW}(h:Apt (l.map BW.d))(g:zb1 l b.d=false):Apt ((l++[b]).map BW.d):=by
 unfold Apt at*;rw[List.map_append,List.pairwise_append];refine⟨h,List.pairwise_singleton _ _,λx m y d=>?_⟩;have d:y=b.d:=List.mem_singleton.1 d;subst d;obtain⟨c,j,rfl⟩:=List.mem_map.1 m;intro e;have f:zai c.d=zai b.d:=zhf e;have:zb1 l b.d=true:=by rw[zb1,List.any_eq_true];exact⟨c,j,dT_ f⟩
 rw[g]at this;cases this
theorem za9.step {o:No}(A:zdV o){a b:Nd}(s:zbP o a b)(h:za9 a):za9 b:=by
 have q:=h.now;have l:=h.tape;rcases s with⟨d,m,u,t,rfl⟩|⟨b,f,_,rfl⟩|⟨x,f,rfl⟩|⟨c,f,rfl⟩|⟨r,f,_,J,z,rfl⟩|⟨H,_,_,f,rfl⟩|⟨_,_,rfl⟩|⟨_,rfl⟩
 .unfold Nd.send
  split
  .exact h
  .exact⟨h.tape,h.each,h.vot⟩
 .refine h.log (zmN f) ?_;rw[l]at f;obtain⟨C,z,I⟩:=zAN f;have j:zbX (a.recs++[zed b])={ zbX a.recs with sh:=(zbX a.recs).sh++[b] }:=by rw[zqT];exact zmN f
  refine⟨by rw[j];exact q.dag,by rw[j];exact q.own,?_,λm t=>?_,?_,?_⟩
  .rw[j,lP_];show _<=((zbX a.recs).sh++[b]).length+(if(zbX a.recs).own.rd<=0 then 0 else 1);rw[lP_];have:=q.cnt;simp only[List.length_cons,List.length_nil];omega
  .rcases List.mem_append.1 t with g|g
   .exact q.each m g
   .rw[List.mem_singleton.1 g];exact zBe C
  .rw[j];show((zbX a.recs).sh++[b]).length<=800;rw[lP_];simp only[List.length_cons,List.length_nil];omega
  .rw[j];exact zA9 q.apt z
 .have:=f.signed;rw[A.signed]at this;cases this
 .unfold Nd.proofs at f;rw[A.proven]at f
  simp at f
 .have B:=f;obtain⟨_,y,_,_⟩:=zgU f;have u:a.k.dag=[]:=by rw[l];exact q.dag
  have E:r=1:=by rw[z,u];rfl
  subst E;have F:a.k.own.rd<=0:=by omega
  have j:a.k.rcl (zcl (a.header 1))={ a.k with tab:=(zaf a.k.tab (a.header 1)).1,own:=a.header 1,slot:=(a.header 1).slot }:=zmO rfl y B;have p:zbX (a.recs++[zcl (a.header 1)])={ a.k with tab:=(zaf a.k.tab (a.header 1)).1,own:=a.header 1,slot:=(a.header 1).slot }:=by rw[zqT,<-l];exact j
  have D:zhd (a.recs++[zcl (a.header 1)]):=by
   refine⟨by rw[p];exact u,?_,?_,λm t=>?_,?_,?_⟩
   .rw[p];exact .inr ⟨Int.le_refl _,y⟩
   .rw[p,lP_];show _<=a.k.sh.length+(if(1:Int)<=0 then 0 else 1);have:=q.cnt;rw[<-l,if_pos F]at this;rw[if_neg (by decide)];simp only[List.length_cons,List.length_nil];omega
   .rcases List.mem_append.1 t with g|g
    .exact q.each m g
    .rw[List.mem_singleton.1 g];exact zAM y
   .rw[p];show a.k.sh.length<=800;rw[l];exact q.sh
   .rw[p];show Apt (a.k.sh.map BW.d);rw[l];exact q.apt
  have:=h.log j D;exact⟨this.tape,this.each,λv G=>List.mem_singleton.1 G⟩
 .rw[A.signed]at f;cases f
 .exact⟨h.tape,h.each,h.vot⟩
 .exact⟨h.tape,h.each,h.vot⟩
theorem za9.steps {o:No}(c:zdV o){a b:Nd}(s:zad o a b)(h:za9 a):za9 b:=zad.keeps (λ_ _ d h=>za9.step c d h) s h
theorem zAO (l:List MC)(n:Nd)(h:∀v∈n.vot,v=n.nu):∀v∈(l.foldl Nd.recall n).vot,v=(l.foldl Nd.recall n).nu:=by
 induction l generalizing n with
 | nil=>exact h
 | cons m l ih=>
  refine ih (n.recall m) (λv b=>?_);have b:v∈(if m.ki=2/\m.h.hf=0 then [n.nu]else n.vot):=b;show v=n.nu
  split at b
  .exact List.mem_singleton.1 b
  .exact h v b
theorem za9.crash {n:Nd}(h:za9 n)(p:Int):za9 (n.crash p):=by
 obtain⟨a,_,c,d,e,_,g,_⟩:=zc8 n p;obtain⟨x,j⟩:=zzy n p;refine⟨by rw[g,d];rfl,λl y b=>?_,?_⟩
 .rw[d]at b;exact h.each l (y++x) (by rw[j,b,List.append_assoc])
 .exact zAO (n.kept p) { Nd.z n.nu with recs:=n.kept p,syn:=(zae (n.kept p)).length } (λv f=>by cases f)
theorem za9.z (i:Int):za9 { Nd.z i with up:=true }:=by
 refine⟨rfl,λl e h=>?_,λv b=>by cases b⟩;have h:[]=l++e:=h;have:l=[]:=by cases l with|nil=>rfl|cons a l=>cases h
 rw[this];exact zhd.nil
def zfF (n:Nd):Prop:=∃m∈n.wai,m.ki=2/\m.h.hf=0
def zzO (n:Nd):Prop:=n.wai=[]\/zfF n
theorem zd6 (n:Nd)(d:Int)(m:MC):∃e,(n.send d m).wai=n.wai++e/\e.length<=1:=by
 unfold Nd.send
 split
 .exact⟨[],by simp,by decide⟩
 .exact⟨_,rfl,nR_ _⟩
theorem zbP.wai {o:No}{a b:Nd}(s:zbP o a b):∃e,b.wai=a.wai++e:=by
 rcases s with⟨d,m,j,l,rfl⟩|⟨b,f,_,rfl⟩|⟨x,f,rfl⟩|⟨c,f,rfl⟩|⟨r,f,_,q,p,rfl⟩|⟨g,_,_,f,rfl⟩|⟨_,_,rfl⟩|⟨_,rfl⟩
 .obtain⟨e,h,_⟩:=zd6 a d m;exact⟨e,h⟩
 all_goals exact zf5 _
theorem zad.wai {o:No}{a b:Nd}(s:zad o a b):∃e,b.wai=a.wai++e:=
 zad.keeps (P:=λn=>∃e,n.wai=a.wai++e) (λ_ _ j h=>by
  obtain⟨c,f⟩:=h
  obtain⟨d,g⟩:=zbP.wai j
  exact⟨c++d,by rw[g,f,List.append_assoc]⟩) s (zf5 _)
theorem zbP.nuJ {o:No}{a b:Nd}(s:zbP o a b):b.nu=a.nu:=by
 rcases s with⟨d,m,j,l,rfl⟩|⟨b,f,_,rfl⟩|⟨x,f,rfl⟩|⟨c,f,rfl⟩|⟨r,f,_,q,p,rfl⟩|⟨g,_,_,f,rfl⟩|⟨_,_,rfl⟩|⟨_,rfl⟩
 .exact zmu _ _ _
 all_goals rfl
theorem zad.nu {o:No}{a b:Nd}(s:zad o a b):b.nu=a.nu:=zad.keeps (P:=λn=>n.nu=a.nu) (λ_ _ c h=>(zbP.nuJ c).trans h) s rfl
theorem zfF.more {a b:Nd}(h:zfF a)(e:∃x,b.wai=a.wai++x):zfF b:=by
 obtain⟨m,c,k⟩:=h;obtain⟨x,d⟩:=e;exact⟨m,by rw[d];exact List.mem_append_left _ c,k⟩
theorem zAP {o:No}(b:zdV o){n:Nd}(c:n.k.dag=[])(m:MC):(n.hear o m).wai=n.wai:=by
 unfold Nd.hear
 split
 .unfold Nd.hearB;split<;>rfl
 .split
  .unfold Nd.hearO;rw[if_pos (.inr (.inr (.inr (b.signed _ _))))]
  .split
   .unfold Nd.hearV;rw[if_pos (.inr (.inr (.inr (b.signed _ _))))]
   .split
    .unfold Nd.hearP Nd.proofs;rw[b.proven]
     simp
    .split
     .unfold Nd.hearW;rw[c]
      rfl
     .rfl
theorem zAF {n:Nd}{m:MC}(h:n.wai.length<400)(b:j≠n.nu):(n.send j m).wai=n.wai++[m.ft n.nu j]:=by
 unfold Nd.send;rw[if_neg (by omega)]
theorem zz3 (n:Nd)(j:Int)(m:MC):(n.send j m).wai.length<=n.wai.length+1:=by
 obtain⟨e,h,k⟩:=zd6 n j m;rw[h,lP_];omega
theorem zAj (n:Nd)(m:MC)(k:Nat):(n.sendTo m k).wai.length<=n.wai.length+k/\(n.sendTo m k).nu=n.nu:=by
 induction k with
 | zero=>exact⟨nR_ _,rfl⟩
 | succ k ih=>
  have:=zz3 (n.sendTo m k) k m;exact⟨by show((n.sendTo m k).send k m).wai.length<=_;omega,(zmu _ _ _).trans ih.2⟩
theorem zAG (t:Int)(l:List (L_))(n:Nd):(n.sendB t l).wai.length<=n.wai.length+l.length/\(n.sendB t l).nu=n.nu:=by
 induction l generalizing n with
 | nil=>exact⟨nR_ _,rfl⟩
 | cons d l ih=>
  have h:=ih (n.sendD t d);have k:(n.sendD t d).wai.length<=n.wai.length+1/\(n.sendD t d).nu=n.nu:=by
   unfold Nd.sendD
   split
   .exact⟨zz3 _ _ _,zmu _ _ _⟩
   .exact⟨by omega,rfl⟩
  refine⟨?_,h.2.trans k.2⟩;have b:((n.sendD t d).sendB t l).wai.length<=(n.sendD t d).wai.length+l.length:=h.1;show((n.sendD t d).sendB t l).wai.length<=_;rw[List.length_cons];omega
theorem zAH {n:Nd}{m:MC}(o:n.wai.length<=390)(c:m.ki=2)(d:m.h.hf=0):zfF (n.sendAll m):=by
 have b:∀k:Nat,k<4->(k:Int)≠n.nu->zfF (n.sendTo m (k+1)):=λk l f=>by
  obtain⟨p,g⟩:=zAj n m k;have e:=zAF (n:=n.sendTo m k) (j:=k) (m:=m) (by omega) (by rw[g];exact f);exact⟨m.ft (n.sendTo m k).nu k,by show _∈((n.sendTo m k).send k m).wai;rw[e];simp,c,d⟩
 by_cases h3:n.nu=3
 .have:=b 2 (by decide) (by omega);refine this.more ?_;obtain⟨e,k,_⟩:=zd6 (n.sendTo m 3) ((3:Nat):Int) m;exact⟨e,k⟩
 .exact b 3 (by decide) (by omega)
theorem zAQ (n:Nd)(j:Nat):(n.againTo j).wai.length<=n.wai.length+j*(n.k.own.bl.length+1)/\(n.againTo j).nu=n.nu:=by
 induction j with
 | zero=>exact⟨by simp[Nd.againTo],rfl⟩
 | succ j ih=>
  have e:(j+1)*(n.k.own.bl.length+1)=j*(n.k.own.bl.length+1)+(n.k.own.bl.length+1):=Nat.succ_mul _ _;rw[Nd.againTo,e]
  split
  .exact⟨by omega,ih.2⟩
  .obtain⟨c,b⟩:=zAG j n.k.own.bl (n.againTo j);have:=zz3 ((n.againTo j).sendB j n.k.own.bl) j (zcl n.k.own);exact⟨by omega,(zmu _ _ _).trans (b.trans ih.2)⟩
theorem zAI (n:Nd)(j:Nat):∃e,(n.againTo (j+1)).wai=(n.againTo j).wai++e:=by
 have m:∀(l:List (L_)) (q:Nd),∃e,(q.sendB (j:Int) l).wai=q.wai++e:=λl=>by
  induction l with
  | nil=>intro q;exact zf5 _
  | cons d l ih=>
   intro q;obtain⟨e,h⟩:=ih (q.sendD j d);have:∃e,(q.sendD (j:Int) d).wai=q.wai++e:=by
    unfold Nd.sendD
    split
    .obtain⟨e,h,_⟩:=zd6 q j (zed _);exact⟨e,h⟩
    .exact zf5 _
   obtain⟨b,c⟩:=this;exact⟨b++e,by show((q.sendD j d).sendB j l).wai=_;rw[h,c,List.append_assoc]⟩
 rw[Nd.againTo]
 split
 .exact zf5 _
 .obtain⟨f,g⟩:=m n.k.own.bl (n.againTo j);obtain⟨b,c,_⟩:=zd6 ((n.againTo j).sendB j n.k.own.bl) j (zcl n.k.own);exact⟨f++b,by rw[c,g,List.append_assoc]⟩
theorem zAR {n:Nd}(f:∀v∈n.vot,v=n.nu)(r:n.wai.length<=10)(d:n.k.own.hf=0)(o:n.k.own.bl.length<=3):zfF (n.againTo 4):=by
 have b:∀j:Nat,j<4->(j:Int)≠n.nu->zfF (n.againTo (j+1)):=λj p c=>by
  obtain⟨t,l⟩:=zAQ n j;obtain⟨s,g⟩:=zAG j n.k.own.bl (n.againTo j);have q:j*(n.k.own.bl.length+1)<=3*4:=Nat.mul_le_mul (by omega) (by omega);have e:=zAF (n:=(n.againTo j).sendB j n.k.own.bl) (j:=j) (m:=zcl n.k.own) (by omega) (by rw[g,l];exact c);rw[Nd.againTo,if_neg (λh=>c (f _ h))];exact⟨(zcl n.k.own).ft ((n.againTo j).sendB j n.k.own.bl).nu j,by rw[e];exact List.mem_append_right _ (List.mem_singleton.2 rfl),rfl,d⟩
 by_cases h3:n.nu=3
 .exact(b 2 (by decide) (by omega)).more (zAI n 3)
 .exact b 3 (by decide) (by omega)
theorem zA0 (n:Nd)(b:BW):(n.hearB b).wai=n.wai:=by unfold Nd.hearB;split<;>rfl
theorem zAS {n:Nd}(b:n.wai=[]):n.gather.wai.length<=4:=by
 have c:=zA0 n ⟨n.nu,n.nx,n.txs.take 4⟩;unfold Nd.gather
 split
 .rw[b];decide
 .split
  .have:=(zAj { n.hearB ⟨n.nu,n.nx,n.txs.take 4⟩with nx:=n.nx+1,txs:=n.txs.drop 4 } (zed ⟨n.nu,n.nx,n.txs.take 4⟩) 4).1;have d:(n.hearB ⟨n.nu,n.nx,n.txs.take 4⟩).wai.length=0:=by rw[c,b];rfl
   show(Nd.sendTo _ _ 4).wai.length<=4;have this:(Nd.sendTo { n.hearB ⟨n.nu,n.nx,n.txs.take 4⟩with nx:=n.nx+1,txs:=n.txs.drop 4 } (zed ⟨n.nu,n.nx,n.txs.take 4⟩) 4).wai.length<=(n.hearB ⟨n.nu,n.nx,n.txs.take 4⟩).wai.length+4:=this;omega
  .rw[c,b];decide
theorem zA1 {n:Nd}(y:0<=n.nu/\n.nu<4)(o:n.k.dag=[])(m:Apt (n.k.sh.map BW.d)):(n.header 1).hf=0:=by
 obtain⟨r,c,f,j⟩:=zA8 n.k n.nu n.k.sh [] (by decide);rw[List.nil_append]at c;rw[c]at j;have q:dgF n.k.dag (1-1)=[]:=by rw[o];rfl
 have e:(n.header 1).hf=zO n.nu 1 (pz r) (pz []):=by
  unfold Nd.header CV.hf;rw[c,q]
 have t:Apt r:=List.Pairwise.sublist f m;have l:∀d∈r,d.length=32:=λd p=>by
  obtain⟨b,_,rfl⟩:=List.mem_map.1 (f.subset p);exact zhW _ _
 have s:(pz r).length=r.length:=by simp[pz]
 have u:zb8 (pz [])=0:=rfl;rw[e,zO,if_neg (by omega),if_neg (by rw[s];show ¬(3<r.length\/4<0);omega),zA7 l t,if_neg (λg=>g rfl),u,if_neg (λg=>g rfl)]
 rfl
theorem zBa {h:CV}(b:h.hf=0):(zaf [] h).2.2=0:=by
 unfold zaf zcL;rw[if_neg (by rw[zAn];exact λg=>g rfl),if_neg (show ¬zO h.au h.rd (pz h.bl) (pz h.pl)≠0 from λg=>g b)]
 rfl
theorem zBu {h:CV}(e:h.hf=0):h.bl.length<=3:=by
 unfold CV.hf zO at e
 split at e
 .cases e
 .split at e
  .cases e
  .rename_i g
   simp only[pz,List.length_map]at g;omega
theorem zAA {o:No}(y:zdV o){n:Nd}(u:0<=n.nu/\n.nu<4)(h:za9 n)(d:zzO n):zfF n.work:=by
 rcases d with d|d
 .have b:=h.steps y (zoH o n);have l:n.gather.nu=n.nu:=(zoH o n).nu;have p:=zAS d;obtain⟨g,m⟩:∃g,g=n.gather:=⟨_,rfl⟩;rw[<-m]at b l p;have q:=b.now;have f:g.k.dag=[]:=by rw[b.tape];exact q.dag
  have r:zdi g.k.dag=1:=by rw[f];rfl
  have t:zfF (g.due 1):=by
   unfold Nd.due
   split
   .rename_i j
    have z:g.k.tab=[]:=by
     rw[b.tape]at j|-;rcases q.own with k|k
     .exact k.2
     .omega
    have c:=zA1 (n:=g) (by rw[l];exact u) f (by rw[b.tape];exact q.apt);unfold Nd.offerNew;rw[if_pos ⟨by rw[z];exact zBa c,b.room (zAM c)⟩];refine zAH ?_ rfl c;show g.wai.length<=390;omega
   .rename_i j
    have s:¬(0:Int)<=cOf g.k.dag g.k.own.au g.k.own.rd:=by rw[f];exact(show ¬(0:Int)<=-1 by decide)
    rw[if_neg s];have c:g.k.own.hf=0:=by
     rw[b.tape]at j|-;rcases q.own with k|k
     .omega
     .exact k.2
    exact zAR b.vot (by omega) c (zBu c)
  have e:n.work=(g.due 1).ask 1:=by unfold Nd.work;rw[<-m,r]
  rw[e];exact t.more (zad.wai (ztF o (g.due 1) 1))
 .exact d.more (zad.wai (zgV o n))
theorem zpn (l:List MC)(f:Fl):∃e,(l.foldl Fl.out f).no.sg=f.no.sg++e:=by
 induction l generalizing f with
 | nil=>exact zf5 _
 | cons m l ih=>
  obtain⟨b,d,_⟩:=zAw f.no m;obtain⟨c,g⟩:=ih (f.out m);exact⟨b++c,by rw[List.foldl_cons,g,<-List.append_assoc,<-d];rfl⟩
theorem zj5 (f:Fl)(k p:Int):(f.pick k p).no=f.no:=by
 unfold Fl.pick
 split
 .rfl
 .split
  .rfl
  .split
   .exact zew _ _ _
   .rfl
theorem zBg (f:Fl){a:Ac}(b:0<=a.p):∃e,(f.does a).no.sg=f.no.sg++e:=by
 refine zl4 (P:=λg=>∃e,g.no.sg=f.no.sg++e) a (zf5 _) (λp _=>⟨?_,?_,?_⟩) ?_ (λt=>?_) (λt=>?_) ?_ (λ_=>⟨?_,?_,λ_=>?_⟩) b
 .rw[zj5];exact zf5 _
 .rw[zj5];exact zf5 _
 .rw[zj5];exact zf5 _
 .rw[zfw,zlo];exact zf5 _
 .rw[zAK];exact zf5 _
 .exact zcq (P:=λg=>∃e,g.no.sg=f.no.sg++e) _ _ (zf5 _) (λm=>by rw[zew];exact zf5 _)
 .rw[zgl];exact zf5 _
 .exact zf5 _
 .exact zpn _ (f.set a.i { f.node a.i with wai:=[],syn:=(zae (f.node a.i).recs).length })
 .exact zf5 _
theorem zBl (l:List Ac)(f:Fl)(c:∀a∈l,a.ok)(h:f.no.sg≠[]):(f.run l).no.sg≠[]:=by
 induction l generalizing f with
 | nil=>exact h
 | cons a l ih=>
  refine ih (f.does a) (λb d=>c b (List.mem_cons_of_mem _ d)) ?_;obtain⟨e,g⟩:=zBg f (a:=a) (c a (by simp)).2.2.2.2.1;rw[g];intro k;exact h (List.append_eq_nil_iff.1 k).1
theorem zBh {m:MC}(b:m.h.hf=0)(c:0<=m.fr/\m.fr<4):gF (m.fr,m.h.slot)=0:=by
 have:=zAp b;unfold gF zhD;rw[if_neg (by intro k;exact k c)];exact this
theorem zA2 (l:List MC)(f:Fl)(h:∃m∈l,(m.ki=2/\m.h.hf=0)/\0<=m.fr/\m.fr<4):(l.foldl Fl.out f).no.sg≠[]:=by
 induction l generalizing f with
 | nil=>obtain⟨m,c,_⟩:=h;cases c
 | cons x l ih=>
  obtain⟨m,c,b,d⟩:=h;rcases List.mem_cons.1 c with g|g
  .subst g;obtain⟨e,p⟩:=zpn l (f.out m);rw[List.foldl_cons,p];intro k;have k:=(List.append_eq_nil_iff.1 k).1;have k:(f.no.sign m).sg=[]:=k;have q:f.no.sg=[]:=by
    obtain⟨r,j,_⟩:=zAw f.no m;rw[j]at k;exact(List.append_eq_nil_iff.1 k).1
   unfold No.sign at k;rw[if_pos b.1,if_pos b.2]at k;have k:zfS f.no.sg (m.fr,m.h.slot)=[]:=k;rw[q]at k;unfold zfS at k;rw[if_neg (by simp)]at k;have o:=zvt (l:=[]) (g:=(m.fr,m.h.slot)) (by rfl) (zBh b.2 d) (by simp);rw[o]at k
   simp at k
  .exact ih (f.out x) ⟨m,g,b,d⟩
structure zaY (f:Fl):Prop where
 ok:zcn f
 bad:f.no.bad=-1
 nd:f.no.sg=[]->∀i,0<=i/\i<4->za9 (f.node i)/\zzO (f.node i)
def SQ (f:Fl):Prop:=f.no.sg=[]->∀i,0<=i/\i<4->za9 (f.node i)/\zzO (f.node i)
theorem SQ.set {f:Fl}(g:f.nd.length=4)(h:SQ f){i:Int}(b:0<=i/\i<4){n:Nd}(l:f.no.sg=[]->za9 n/\zzO n):SQ (f.set i n):=λd j c=>by
 by_cases e:j=i
 .subst e;rw[set_here _ g b];exact l d
 .rw[set_there _ b.1 c.1 e];exact h d j c
theorem SQ.come {f:Fl}(j:f.nd.length=4)(l:f.no.bad=-1)(h:SQ f){i:Int}(d:0<=i/\i<4){m:MC}(o:0<=m.fr/\m.fr<4):SQ (f.come i m):=by
 unfold Fl.come
 split
 .refine h.set j d (λg=>?_);obtain⟨a,b⟩:=h g i d;have c:zdV f.no:=⟨l,g⟩;have p:=zAP c (n:=f.node i) (by rw[a.tape];exact a.now.dag) m;refine⟨a.steps c (zfT f.no _ m o),?_⟩;unfold zzO zfF at*;rw[p];exact b
 .exact h
theorem SQ.comes (l:List MC){f:Fl}(c:f.nd.length=4)(d:f.no.bad=-1)(h:SQ f)(b:∀m∈l,m.post):SQ (comes f l):=by
 induction l generalizing f with
 | nil=>exact h
 | cons m l ih=>exact ih (f:=f.come m.tt m) ((zca _ _ _).trans c) (by rw[zew];exact d) (h.come c d (b m (by simp)).2 (b m (by simp)).1) (λx g=>b x (List.mem_cons_of_mem _ g))
theorem zaY.does {f:Fl}(h:zaY f){a:Ac}(r:a.ok):zaY (f.does a):=by
 have m:=h.ok.posts.1;have q:=h.bad;have b:SQ f:=h.nd;have l:0<=a.i/\a.i<4:=⟨r.2.2.1,r.2.2.2.1⟩;refine⟨h.ok.does r,by rw[zdQ];exact q,?_⟩;refine zl4 (P:=SQ) a b (λp _=>⟨?_,?_,?_⟩) ?_ (λt=>?_) (λt=>?_) ?_ (λD=>⟨?_,?_,λ_=>?_⟩) r.2.2.2.2.1
 .unfold Fl.pick
  split
  .exact b
  .rename_i C
   have z:=h.ok.aw _ (zeU (Nat.mod_lt p.toNat (show 0<f.away.length by omega)));rw[if_neg (by decide),if_pos rfl];exact SQ.come (f:={ f with away:=f.away.eraseIdx (p.toNat % f.away.length) }) m q b z.2 z.1
 .unfold Fl.pick
  split
  .exact b
  .rw[if_neg (by decide),if_neg (by decide)];exact b
 .unfold Fl.pick
  split
  .exact b
  .rw[if_pos rfl];exact b
 .exact SQ.comes f.away (f:={ f with away:=[] }) m q b h.ok.aw
 .unfold Fl.submit
  split
  .exact b
  .split
   .exact b.set m l (λg=>by obtain⟨d,o⟩:=b g a.i l;exact⟨⟨d.tape,d.each,d.vot⟩,o⟩)
   .exact b
 .unfold Fl.forge
  split
  .rw[if_pos q];exact b
  .exact b
 .unfold Fl.start
  split
  .exact b
  .exact b.set m l (λg=>by obtain⟨d,o⟩:=b g a.i l;exact⟨⟨d.tape,d.each,d.vot⟩,o⟩)
 .refine b.set m l (λg=>?_);obtain⟨d,o⟩:=b g a.i l;have u:zdV f.no:=⟨q,g⟩;exact⟨d.steps u (zgV f.no _),.inr (zAA u (by rw[(h.ok.posts.2 a.i l).nu];exact l) d o)⟩
 .intro g j y;have g:((f.node a.i).wai.foldl Fl.out (f.set a.i { f.node a.i with wai:=[],syn:=(zae (f.node a.i).recs).length })).no.sg=[]:=g;obtain⟨e,A⟩:=zpn (f.node a.i).wai (f.set a.i { f.node a.i with wai:=[],syn:=(zae (f.node a.i).recs).length });have s:f.no.sg=[]:=by rw[A]at g;exact(List.append_eq_nil_iff.1 g).1
  rw[zhS m l y]
  split
  .rename_i B
   obtain⟨d,_⟩:=b s a.i l;exact⟨⟨d.tape,d.each,d.vot⟩,.inl rfl⟩
  .exact b s j y
 .refine b.set m l (λg=>?_);obtain⟨d,_⟩:=b g a.i l;obtain⟨_,_,c,_⟩:=zc8 (f.node a.i) a.p;exact⟨d.crash _,.inl c⟩
theorem zaY.z:zaY (Fl.z (-1)):=⟨zcn.z _,rfl,λ_ i b=>by rw[zf1 _ i b];exact⟨za9.z i,.inl rfl⟩⟩
theorem zaY.run (l:List Ac){f:Fl}(h:zaY f)(c:∀a∈l,a.ok):zaY (f.run l):=by
 induction l generalizing f with
 | nil=>exact h
 | cons a l ih=>exact ih (h.does (c a (by simp))) (λb d=>c b (List.mem_cons_of_mem _ d))
theorem zAT {f:Fl}(h:zaY f){i:Int}(b:0<=i/\i<4)(c:(f.node i).up=true)(t:ByteArray):((f.does ⟨2,i,0,t⟩).does ⟨3,i,0,t⟩).no.sg≠[]:=by
 have d:=h.ok.posts.1;have l:i≠f.no.bad:=by rw[h.bad];omega
 have y:f.runs i=true:=by rw[ziy l];exact c
 have q:f.does ⟨2,i,0,t⟩=f.set i (f.node i).work:=by rw[zAY rfl];exact if_pos y
 have B:(f.node i).work.up=true:=(zad.keeps (P:=λn=>n.up=true) (λ_ _ A k=>(zbP.up A).trans k) (zgV f.no (f.node i)) c);have C:(f.set i (f.node i).work).nd.length=4:=(zau _ _ _).trans d;have j:(f.set i (f.node i).work).node i=(f.node i).work:=set_here _ d b;have z:(f.set i (f.node i).work).runs i=true:=by
  rw[ziy (show i≠(f.set i (f.node i).work).no.bad from l),j];exact B
 have r:(f.set i (f.node i).work).does ⟨3,i,0,t⟩=(f.set i (f.node i).work).sync i:=by rw[zgB rfl];exact if_pos z
 rw[q,r];by_cases hs:f.no.sg=[]
 .obtain⟨o,p⟩:=h.nd hs i b;have u:=zyq b (zgV f.no (f.node i)) c (h.ok.posts.2 i b);obtain⟨m,g,k⟩:=zAA ⟨h.bad,hs⟩ (by rw[(h.ok.posts.2 i b).nu];exact b) o p;unfold Fl.sync;rw[j];exact zA2 _ _ ⟨m,g,k,by rw[(u.fr m g).1];exact b⟩
 .obtain⟨e,s⟩:=zpn ((f.set i (f.node i).work).node i).wai ((f.set i (f.node i).work).set i { (f.set i (f.node i).work).node i with wai:=[],syn:=(zae ((f.set i (f.node i).work).node i).recs).length });intro k;have k:(((f.set i (f.node i).work).node i).wai.foldl Fl.out ((f.set i (f.node i).work).set i { (f.set i (f.node i).work).node i with wai:=[],syn:=(zae ((f.set i (f.node i).work).node i).recs).length })).no.sg=[]:=k;rw[s]at k;exact hs (List.append_eq_nil_iff.1 k).1
theorem zBm (r:Int)(l:List Ac):((Fl.z r).run l).no.bad=r:=zxU l _
theorem run_more' (f:Fl)(l m:List AV):f.run ((l++m).map AV.ac)=(f.run (l.map AV.ac)).run (m.map AV.ac):=by rw[List.map_append,Fl.run_append]
theorem zA3 (R:Nat):∃r,zaA (R+1)=zby 4++([(⟨2,0,0,⟨#[]⟩⟩:AV),⟨3,0,0,⟨#[]⟩⟩]++r):=by
 induction R with
 | zero=>exact⟨(zdc 4).drop 2++[⟨10,0,0,⟨#[]⟩⟩],rfl⟩
 | succ R ih=>
  obtain⟨r,h⟩:=ih;refine⟨r++zdc 4++[⟨10,0,0,⟨#[]⟩⟩],?_⟩;rw[zaA,h];simp only[List.append_assoc]
theorem zic {f:Fl}(c:f.nd.length=4)(b:0<=i/\i<4)(d:0<=j/\j<4)(l:f.no.bad=-1)(h:j=i\/(f.node j).up=true):((f.start i).node j).up=true:=by
 have g:i≠f.no.bad:=by omega
 by_cases e:j=i
 .subst e;rw[ze6 c b g]
 .rw[zqF b.1 d.1 e];exact h.resolve_left e
theorem zAU {l:List AV}(t:∀a∈l,a.e=0/\a.t.size<=4000)(R:Nat):((Fl.z (-1)).run ((l++zaA (R+1)).map AV.ac)).no.sg≠[]:=by
 obtain⟨r,o⟩:=zA3 R;have m:=zz2 (R+1);rw[o]at m;have y:∀a∈zby 4,a.e=0/\a.t.size<=4000:=λa d=>m a (List.mem_append_left _ d);have u:∀a∈r,a.e=0/\a.t.size<=4000:=λa d=>m a (List.mem_append_right _ (List.mem_append_right _ d));rw[o,zcP,run_more',run_more'];generalize s:(Fl.z (-1)).run (l.map AV.ac)=f;have b:zaY f:=by rw[<-s];exact zaY.run _ zaY.z (ziz t)
 have q:zaY (f.run ((zby 4).map AV.ac)):=zaY.run _ b (ziz y);have p:((f.run ((zby 4).map AV.ac)).node 0).up=true:=by
  have e:f.run ((zby 4).map AV.ac)=(((f.start 0).start 1).start 2).start 3:=rfl;rw[e];have c:=b.ok.posts.1;have z:(0:Int)<=0/\(0:Int)<4:=⟨by decide,by decide⟩;have u0:=zic (i:=0) (j:=0) c z z b.bad (.inl rfl);have u1:=zic (f:=f.start 0) (i:=1) (j:=0) ((zkd _ _).trans c) ⟨by decide,by decide⟩ z (by rw[zgl];exact b.bad) (.inr u0);have u2:=zic (f:=(f.start 0).start 1) (i:=2) (j:=0) ((zkd _ _).trans ((zkd _ _).trans c)) ⟨by decide,by decide⟩ z (by rw[zgl,zgl];exact b.bad) (.inr u1);exact zic (f:=((f.start 0).start 1).start 2) (i:=3) (j:=0) ((zkd _ _).trans ((zkd _ _).trans ((zkd _ _).trans c))) ⟨by decide,by decide⟩ z (by rw[zgl,zgl,zgl];exact b.bad) (.inr u2)
 generalize f.run ((zby 4).map AV.ac)=g at q p|-;refine zBl _ _ (ziz u) ?_;exact zAT q ⟨by decide,by decide⟩ p _
theorem zBt {l:List GV}(h:zbF l=0)(g:GV):zbF (zfS l g)=0:=by
 unfold zfS
 split
 .exact h
 .rename_i b
  split
  .rename_i e
   by_cases hg:gF g=0
   .rw[zvt h hg b];exact zBp h hg b
   .rw[ztq h hg]at e;exact absurd e hg
  .exact h
theorem zBK {o:No}(h:zbF o.sg=0)(m:MC):zbF (o.sign m).sg=0:=by
 unfold No.sign
 split
 .split
  .exact zBt h _
  .exact h
 .split
  .exact zBt h _
  .exact h
theorem zBL (l:List MC)(f:Fl)(h:zbF f.no.sg=0):zbF (l.foldl Fl.out f).no.sg=0:=by
 induction l generalizing f with
 | nil=>exact h
 | cons m l ih=>exact ih (f.out m) (zBK h m)
theorem zBM (f:Fl){a:Ac}(b:0<=a.p)(h:zbF f.no.sg=0):zbF (f.does a).no.sg=0:=by
 refine zl4 (P:=λg=>zbF g.no.sg=0) a h (λp _=>⟨?_,?_,?_⟩) ?_ (λt=>?_) (λt=>?_) ?_ (λ_=>⟨?_,?_,λ_=>?_⟩) b
 .rw[zj5];exact h
 .rw[zj5];exact h
 .rw[zj5];exact h
 .rw[zfw,zlo];exact h
 .rw[zAK];exact h
 .exact zcq (P:=λg=>zbF g.no.sg=0) _ _ h (λm=>by rw[zew];exact h)
 .rw[zgl];exact h
 .exact h
 .exact zBL _ (f.set a.i { f.node a.i with wai:=[],syn:=(zae (f.node a.i).recs).length }) h
 .exact h
theorem zBR (l:List Ac)(f:Fl)(c:∀a∈l,a.ok)(h:zbF f.no.sg=0):zbF (f.run l).no.sg=0:=by
 induction l generalizing f with
 | nil=>exact h
 | cons a l ih=>exact ih (f.does a) (λb d=>c b (List.mem_cons_of_mem _ d)) (zBM f (a:=a) (c a (by simp)).2.2.2.2.1 h)
theorem zBC {o:No}{c:CV}(h:zzQ o c)(j:zbF o.sg=0)(f:-1<=o.bad/\o.bad<=3):zfl o.sg o.bad c.au c.rd c.f c.d c.vl=0:=by
 have d:∀v,v=c.au\/v∈c.vl->zdI o.sg o.bad c.au c.rd c.d v=false:=λv b=>by
  unfold zdI;rcases h.2 v b with e|e
  .simp[e]
  .simp[e]
 unfold zfl;rw[zw4 j f,if_neg (λg=>g rfl),h.1,if_neg (λg=>g rfl),if_neg];simp only[Bool.or_eq_true,not_or,List.any_eq_true,not_exists,not_and];exact⟨by rw[d _ (.inl rfl)];decide,λv b=>by rw[d v (.inr b)];decide⟩
theorem zBw {b:Int}(u:-1<=b/\b<=3){l:List AV}{o:Om}(h:o.v=((Fl.z b).run (l.map AV.ac)).told)(j:∀a∈l,a.e=0/\a.t.size<=4000)(i:Nat)(z:i<4) :
  ((i:Int)≠b->(o.y i).rd=zdi (zI (o.y i).ls))/\∀c∈(o.y i).ls,zfl (zA o.gs) b c.v.au c.v.rd c.v.f c.v.d c.v.vl=0:=by
 have q:=zgO.run _ (zgO.z b) (ziz j);have m:=zBR (l.map AV.ac) (Fl.z b) (ziz j) (by rfl);have d:=zBm b (l.map AV.ac);generalize (Fl.z b).run (l.map AV.ac)=f at h q d m;have e:zA o.gs=f.no.sg:=congrArg (λx:Ou=>x.sg) h;have g:=zb0 h i z;refine⟨λA=>?_,λc y=>?_⟩
 .have s:(o.y i).rd=(f.view ((i:Nat):Int)).rd:=congrArg (λx:Vw=>x.rd) g;have t:zI (o.y i).ls=(f.view ((i:Nat):Int)).cs:=congrArg (λx:Vw=>x.cs) g;rw[s,t];unfold Fl.view;rw[if_neg (by rw[d];exact A)]
 .have r:c.v∈(f.view ((i:Nat):Int)).cs:=by rw[<-g];exact List.mem_map_of_mem y
  have p:=q.proven (i:=i) (by omega) (zBJ r);rw[e,<-d];exact zBC p m (by rw[d];exact u)
structure zB0 (w w':World)(e:Ending)(B s:Nat)(ls:List Ct)(c:CV):Prop where
 told:e=.returned (I_ (za8 (zI ls) c))
 below:Below B w w'
 own:(za8 (zI ls) c≠0/\zjS w' B s ls)\/(za8 (zI ls) c=0/\∃x:Ct,x.v=c/\zjS w' B s (ls++[x]))
theorem zBx (d:List Ct)(B s:Nat)(c:Ct)(w:World)(hs:zjS w B s d)(U:B<=w.heap.size)(Z:za7 w c)(hT:za2 w) :
  Calls prog 38 #[P_ s 0,.agg (crow_ c)] w λe w'=>zB0 w w' e B s d c.v:=by
 obtain⟨vc,vd,ds,l,ab,aO⟩:=hs.out;obtain⟨D,E,N,O,R,f,al⟩:=l.at ab aO;subst R f;obtain⟨i,hi,aS,aU,aW⟩:=info_parts zoI;obtain⟨i',aN,aT,aV,aX⟩:=info_parts zhc;have aE:Hid _:=ab;have ad:Hid (ds.length=d.length):=al.at'.len;have H:=(bR_ w.heap.size w).alloc (nR_ _) (.cells (crow_ c) 61);have r0:=hN_ w (.cells (crow_ c) 61);go_in;go_wp2_with fail
 generalize w.alloc (.cells (crow_ c) 61)=W0 at H r0|-;refine(znk d s D E N O ds c W0 (al.below H) (Z.below H)).mono ?_;rintro _ w1⟨rfl,am⟩;dsimp only;have j:=zm H am;have y:=zk am r0;have aC:Hid (zjS w1 B s d):=hs.below j;by_cases hx:za8 (zI d) c.v=0
 .have A:Hid _:=hx;obtain⟨T,f2,f3⟩:=zg5 hx;rw[zbv]at f3;have ai:=zfO (vl:=c.vl) (by rw[Ct.f_v];exact T);have ac:=zea (Z.below j).hat ai (hT.below j);obtain⟨m1,m2,m3,m4,m5⟩:=zow T;have az:Hid (∀W:World,B_ w W->_):=λW hW=>znM c W (Z.below hW) m1 m2 (by omega) m4 m5;rw[hx];clear hx T f2 ai m1 m2 m3 m4 m5 ab hs;have d0:=zb y 0 _ rfl;have d1:=zb y 1 _ rfl;have d2:=zb y 2 _ rfl;have d3:=zb y 3 _ rfl;go_wp2_with fail
  refine ac.mono ?_;rintro e w2⟨b,o,aM,an,au⟩;subst o;dsimp only;clear ac d0 d1 d2 d3;have I:=zm j an;have z:=zk an y;have L:=l.below I;have V:B<=w2.heap.size:=nT_ U I.size;have Y:b<w2.heap.size:=zgg au (by intro h;have m:=zbD c.au c.rd c.bl c.pl;rw[h]at m;simp at m) b 0 rfl;have a3:s<w.heap.size:=ze l.box;have a2:w.heap.size<=b:=nT_ j.size aM;have aA:Hid ((zaE c.au c.rd c.bl c.pl).length=32):=zbD _ _ _ _;have aB:Hid (zaE c.au c.rd c.bl c.pl=c.v.d):=c.d_v;have ao:=L.box;have k0:=zb ao 0 _ rfl;have aY:=dC_ k0;have e0:=zb z 0 _ rfl;have R:=zb z 1 _ rfl;have f:=zb z 2 _ rfl;have e3:=zb z 3 _ rfl;have e4:=zb z 4 _ rfl;have aI:(Value.slice D d.length E).ownBlock≠some s:=zc2 L.rc ao (by decide);have aF:Hid _:=eO_ func74;go_wp2_with fail
  go_region_law (first
   | (refine zdF rfl 74 _ _ rfl [.agg (crow_ c)] rfl aF.out (λu w9=>∃x:Ct,u=.agg (crow_ x)/\x.v=c.v/\za7 w9 x/\(∀b,zfq x b->w2.heap.size<=b)/\B_ w2 w9) ((az.out w2.drew I.drew).mono (λe w9 ⟨x,o,h1,h2,h3,h4⟩=>⟨_,o,x,rfl,h1,h2,h3,zbE h4⟩)) ?_;rintro u w4⟨x,rfl,ay,aw,ax,X⟩;have aa:=L.below X;have C:=aa.box;have m0:=zb C 0 _ rfl;have aZ:(w4.alloc (.cells (crow_ x) 61)).cell? ⟨s,0,none⟩=some (.slice D d.length E):=zb (zR C) 0 _ rfl;have aR:B<=w4.heap.size:=nT_ V X.size)
   | (refine zcc rfl _ _ 35 rfl B 61 i (.agg #[I_ 0,I_ 0,O_,O_,O_]) 5 88 underlying35 hi aS aU aW rfl (by decide) (.slice D d.length E) d.length (ctv d) rfl (oA_ aa.rc _) ⟨w4.heap.size,0,none⟩ 1 1 [I_ x.au,I_ x.rd,.slice x.ba x.bl.length x.bc,.slice x.pa x.pl.length x.pc,.slice x.va x.vl.length x.vc] rfl rfl (zag _ _ _) (by intro u t;simp at t;rcases t with rfl|rfl|rfl|rfl|rfl<;>rfl) (by unfold maxLen;omega) (by omega) (zB aR _) ?_;intro v6 w6 aq G6;have x2:=G6.row (zR C) aI;have a0:=zb x2 0 _ rfl;have a1:=zd x2 0;obtain⟨F,G,aP⟩:=zH aq;subst aP))
  all_goals
   obtain⟨r,J,ak,ah⟩:=L.moreC V X aw ax G6 aq;have av:zg (w6.setCell ⟨s,0,none⟩ (.slice F (d.length+1) G)) (some ⟨b,0,none⟩) 32 (zaE c.au c.rd c.bl c.pl):=zfU au (λq so _ e=>by
    cases e;exact ak b Y (by omega) (λf=>by have:=(l.rc.lt b f).2;omega))
   have aj:Hid (∀g so,some (⟨b,0,none⟩:Addr)=some ⟨g,so,none⟩->B<=g/\g<(w6.setCell ⟨s,0,none⟩ (.slice F (d.length+1) G)).heap.size/\g≠s/\(Value.slice F (d.length+1) G).ownBlock≠some g/\(Value.slice N d.length O).ownBlock≠some g):=by
    show ∀g,_;intro g so e;cases e;exact⟨by omega,nL_ Y J.size,by omega,λf=>by have:=(l.rc.lt b (ah b Y f)).2;omega,λf=>by have:=(l.rd.lt b f).2;omega⟩
   have ae:Hid (x.v=c.v):=ay;clear a0 a1 x2 ak ah ay ax aw m0 aZ C aa k0 aY e0 R f e3 e4;go_upto_region 8 with fail
   generalize w6.setCell ⟨s,0,none⟩ (.slice F (d.length+1) G)=X7 at r J av aj|-;have af:B<=X7.heap.size:=nT_ V J.size;have M:=r.box;have n1:=zb M 1 _ rfl;have aJ:(Value.slice N d.length O).ownBlock≠some s:=zc2 r.rd M (by decide);have aK:=ad.out;go_wp2_with (at_builtin;refine wpList_append_own_at _ rfl _ _ 41 rfl B 51 i' (O_) 1 24 underlying41 aN aT aV aX rfl (by decide) _ ds.length (pv ds) rfl (oA_ r.rd _) ⟨X7.heap.size,0,none⟩ 1 1 [.slice (some ⟨b,0,none⟩) 32 32] rfl rfl (zag _ _ _) (by intro u t;simp at t;subst t;rfl) (by unfold maxLen;omega) (by omega) (zB af _) ?_;intro v8 w8 ar aL _ aG;have G8:=zV.of aL aG;have x8:=G8.row (zR M) aJ;have a5:=zb x8 1 _ rfl;have a6:=zd x8 1;obtain⟨ga,gc,aQ⟩:=zH ar;subst aQ)
   obtain⟨ap,aH⟩:=r.moreD (p:=⟨some ⟨b,0,none⟩,32,zaE c.au c.rd c.bl c.pl⟩) af (bR_ _ _) av aj.out G8 (by simpa[zi.val,aA.out]using ar);have aD:Hid (zT (ds++[(⟨some ⟨b,0,none⟩,32,zaE c.au c.rd c.bl c.pl⟩:zi)])=(zI (d++[x])).map CV.d):=by
    show _=_;have m:=aE.out;simp only[zT,zI,List.map_append,List.map_cons,List.map_nil]at m|-;rw[m,aB.out,ae.out]
   have ag:Below B w (w8.setCell ⟨s,1,none⟩ (.slice ga (ds.length+1) gc)):=((I.mono U).trans J).trans aH;clear aK;rw[ad.out]at ap ag;go_wp2_with fail
   go_ret;exact⟨zt A.out.symm,ag,.inr ⟨A.out,x,ae.out,⟨_,_,_,ap,aD.out,by simp;omega⟩⟩⟩
 .have A:Hid _:=hx;have a4:(za8 (zI d) c.v != 0)=true:=by simpa using hx
  have HS:Hid (za8 (zI d) c.v=za8 (zI d) c.v):=rfl;generalize hE:za8 (zI d) c.v=x at*;have HE:Hid _:=hE;clear hE hx;go_wp2_with fail
  go_ret;exact⟨zt HE.out.symm,j.mono U,.inl ⟨by rw[HE.out];exact A.out,aC.out⟩⟩
structure zBT (w w':World)(e:Ending)(ls:List Ct):Prop where
 below:B_ w w'
 out:(zbV (zI ls)=12/\e=.returned (.tuple #[.pointer none,I_ 12]))\/(zbV (zI ls)=0/\∃(s:Nat) (ks:List Ct),e=.returned (.tuple #[P_ s 0,I_ 0])/\zI ks=zI ls/\zjS w' w.heap.size s ks)
theorem zBG (w:World)(B s:Nat)(h:R_ w s #[O_,O_] 99)(d:B<=s):zjS w B s []:=
 ⟨O_,O_,[],⟨h,d,oN_ _ _ _ _,oN_ _ _ _ _,(λc b=>by cases b),(λc b=>by cases b),(λc b=>by cases b),(λc b=>by cases b)⟩,rfl,nZ_ _⟩
theorem zBH (b:List Ct)(f:Q_)(n l:Nat)(w:World)(hn:n=b.length)(p:zy5 w f l b)(U:za2 w) :
  Calls prog 22 #[.agg #[.slice f n l]] w λe w'=>zBT w w' e b:=by
 subst hn;have ag:=p.le;have ai:=p.max;refine kW_ ?A0 ?_;exact w.alloc (.cells #[.slice f b.length l] 46);refine kO_ ?B0 ?_;exact Obj.cells #[O_,O_] 99;have H:B_ w ((?A0).alloc ?B0):=((bR_ _ _).alloc (nR_ _) _).alloc (by rw[zG];omega) _;have C:((?A0).alloc ?B0).heap[w.heap.size+1]? = some (.cells #[O_,O_] 99 (0,0)):=by
  have:=hN_ ?A0 ?B0;rw[zG]at this;exact this
 have L:=hX_ w (.cells #[.slice f b.length l] 46) ?B0;have HC:Hid (∀W:World,B_ w W->zba W f b):=by
  show ∀W,_;exact λW o=>p.certs.below o
 have HE:Hid (∀W:World,B_ w W->∀c∈b,za7 W c):=by
  show ∀W,_;exact λW o c hc=>(p.each c hc).below o
 have HT:Hid (∀W:World,B_ w W->za2 W):=by
  show ∀W,_;exact λW o=>U.below o
 have aj:=p.small;clear p U;have O:=zb L 0 _ rfl;go_in;go_wp2_with fail
 generalize (?A0).alloc ?B0=W0 at H L C O|-;generalize hS:w.heap.size+1=S at C|-;have ad:w.heap.size<=S:=by omega
 clear hS O L;go_loopw [12] (λj wr=>∃(m:Nat) (d:List Ct),m<=b.length/\j=I_ m/\Hid (zI d=(zI b).take m/\∀k,k<m->za8 ((zI b).take k) (zaM (zI b) k)=0)/\zjS wr w.heap.size S d/\B_ w wr) (λj _=>b.length-(intOf j).toNat)
 case atStart=>exact⟨0,[],nZ_ _,rfl,⟨rfl,λk z=>by omega⟩,zBG _ _ _ C ad,H⟩
 case round=>
  clear H C;obtain⟨m,d,hm,rfl,q,J,I⟩:=hrel;by_cases hlt:m<b.length
  .obtain⟨sb,so,rfl,c0,c1,c2,c3,c4⟩:=(HC.out wr I).at m hlt;have ah:(m:Int)<b.length:=by omega
   have ab:Hid (∀W:World,B_ w W->za7 W (b[m])):=by
    show ∀W,_;exact λW o=>HE.out W o _ (gM_ hlt)
   have M:Hid (zaM (zI b) m=(b[m]).v):=zk4 b m hlt;have ac:Hid ((zI b).take (m+1)=(zI b).take m++[(b[m]).v]):=by
    show _=_;rw[tS_ (by simp[zI];exact hlt)];simp[zI]
   generalize b[m]=s at*;have t:=(bR_ wr.heap.size wr).alloc (nR_ _) (.cells (crow_ s) 61);have Z:=hN_ wr (.cells (crow_ s) 61);go_wp2_with fail
   generalize wr.alloc (.cells (crow_ s) 61)=G at t Z|-;have u:=zm I t;refine(zBx d w.heap.size S s G (J.below t) u.size (ab.out G u) (HT.out G u)).mono ?_;intro e D r;have X:=r.told;have V:=r.below;have A:=r.own;rw[q.out.1,<-M.out]at X A;have R:B_ w D:=u.trans V;clear r Z c0 c1 c2 c3 c4 J t V;subst X;dsimp only;have E:Hid (za8 ((zI b).take m) (zaM (zI b) m)≠0->zbV (zI b)=12):=by
    show _->_;exact λh=>zBF (by rw[zbv];exact hlt) h
   have F:Hid (za8 ((zI b).take m) (zaM (zI b) m)=0->∀k,k<m+1->za8 ((zI b).take k) (zaM (zI b) k)=0):=by
    show _->_;intro h k z;rcases Nat.lt_or_ge k m with g|g
    .exact q.out.2 k g
    .obtain rfl:k=m:=by omega
     exact h
   generalize za8 ((zI b).take m) (zaM (zI b) m)=x at*;by_cases hx:x=0
   .have HN:Hid _:=F.out hx;have HO:Hid (∃y:Ct,y.v=zaM (zI b) m/\zjS D w.heap.size S (d++[y])):=by
     show ∃y,_;rcases A with⟨h,_⟩|⟨_,h⟩
     .exact absurd hx h
     .exact h
    subst hx;clear F E A;go_wp2_with fail
    go_roundw
    case rel=>
     obtain⟨y,ae,af⟩:=HO.out;have T:∃(B:Nat) (Y:List Ct),B<=b.length/\(Value.int .i64 ((m:Int)+1))=I_ B/\Hid (zI Y=(zI b).take B/\∀k,k<B->za8 ((zI b).take k) (zaM (zI b) k)=0)/\zjS D w.heap.size S Y/\B_ w D:=
      ⟨m+1,d++[y],by omega,by go_num,⟨by rw[ac.out,<-q.out.1,<-M.out,<-ae];simp[zI],HN.out⟩,af,R⟩
     first|exact T|((repeat apply Exists.intro);exact⟨T,rfl⟩)
    case measure=>simp[intOf];omega
   .have aa:Hid (zbV (zI b)=12):=E.out hx;have ak:(x != 0)=true:=by simpa using hx
    clear F E A;go_wp2_with fail
    go_ret2;exact⟨R,.inl ⟨aa.out,rfl⟩⟩
  .obtain rfl:m=b.length:=by omega
   have N:Hid (zbV (zI b)=0/\zI d=zI b):=by
    show _/\_;refine⟨zvz (λk z=>q.out.2 k (by rw[zbv]at z;exact z)),?_⟩;rw[q.out.1,tL_ (by rw[zbv];exact nR_ _)]
   go_wp2_with fail
   go_ret2;exact⟨I,.inr ⟨N.out.1,S,d,rfl,N.out.2,J⟩⟩
end Go.Proofs.YtnlfpfajecldkaaGreatDoor
