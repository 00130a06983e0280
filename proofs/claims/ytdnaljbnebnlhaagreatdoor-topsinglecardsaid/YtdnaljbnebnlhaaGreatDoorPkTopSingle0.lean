import Derived.Test.YtdnaljbnebnlhaaGreatDoorPk36
set_option maxRecDepth 100000
set_option maxHeartbeats 4000000
namespace Go.Proofs.YtdnaljbnebnlhaaGreatDoor
open Go.RowKit Tryz
variable {l:List SV}
theorem zzN (l m:List SV)(k:Nat)(h:k<l.length):zd1 (l++m) k=zd1 l k:=by simp[zd1,List.getD,List.getElem?_append_left h]
theorem zAe (l m:List SV)(au rd:Int)(k:Nat)(h:k<l.length):hit (l++m) au rd k=hit l au rd k:=by rw[hit,hit,zzN l m k h]
theorem zzx (l m:List SV)(au rd:Int)(k:Nat)(h:k<=l.length):zff (l++m) au rd k=zff l au rd k:=by
 unfold zff;have:∀(b:List Nat),(∀x∈b,x<k)->b.any (hit (l++m) au rd)=b.any (hit l au rd):=by
  intro b
  induction b with
  | nil=>intro _;rfl
  | cons x b ih=>
   intro c;have f:=c x (List.mem_cons_self ..);rw[List.any_cons,List.any_cons,zAe l m au rd x (by omega),ih (λy d=>c y (List.mem_cons_of_mem _ d))]
 exact this _ (λx c=>List.mem_range.1 c)
theorem zzY (l m:List SV)(k:Nat)(h:k<l.length):zeD (l++m) k=zeD l k:=by
 rw[zeD,zeD,zzN l m k h,zzx l m _ _ k (by omega)]
theorem zAl {s:SV}(h:zdt l=0)(m:l.length<400)(f:zbf s.1 s.2.1 s.2.2.length=0)(d:zbp l s.1 s.2.1 l.length=none):zdt (l++[s])=0:=by
 refine zwX _ (by simp;omega) λk c=>?_;rcases Nat.lt_or_ge k l.length with g|g
 .rw[zzY l [s] k g];exact(zmY h).2 k g
 .obtain rfl:k=l.length:=by simp at c;omega
  have e:zd1 (l++[s]) l.length=s:=by simp[zd1,List.getD]
  rw[zeD,e,f,zzx l [s] _ _ _ (nR_ _)];have:zff l s.1 s.2.1 l.length=false:=by
   simp only[zff,List.any_eq_false];intro j b;rw[zm8 d j (by simpa using b)];simp
  rw[this];rfl
theorem zAt:zdt []=0:=by decide
variable {i:Int}
def Ac.ok (a:Ac):Prop:=1<=a.k/\a.k<=10/\0<=a.i/\a.i<4/\0<=a.p/\a.p<=400000
theorem zau (f:Fl)(i:Int)(n:Nd):(f.set i n).nd.length=f.nd.length:=by simp[Fl.set]
theorem set_here {f:Fl}(n:Nd)(b:f.nd.length=4)(c:0<=i/\i<4):(f.set i n).node i=n:=by
 have:i.toNat<f.nd.length:=by omega
 simp[Fl.set,Fl.node,List.getD,this]
theorem set_there {f:Fl}{j:Int}(n:Nd)(b:0<=i)(c:0<=j)(d:j≠i):(f.set i n).node j=f.node j:=by
 have:i.toNat≠j.toNat:=by omega
 simp[Fl.set,Fl.node,List.getD,this]
theorem zdO (l:List MC)(f:Fl):(l.foldl Fl.out f).nd=f.nd:=by
 induction l generalizing f with
 | nil=>rfl
 | cons m l ih=>rw[List.foldl_cons,ih];rfl
theorem zhv (o:No)(m:MC):(o.sign m).bad=o.bad:=by
 unfold No.sign
 split
 .split<;>rfl
 .split<;>rfl
theorem zha (l:List MC)(f:Fl):(l.foldl Fl.out f).no.bad=f.no.bad:=by
 induction l generalizing f with
 | nil=>rfl
 | cons m l ih=>rw[List.foldl_cons,ih];exact zhv _ _
theorem zev {f g:Fl}(h:f.nd=g.nd)(i:Int):f.node i=g.node i:=by rw[Fl.node,Fl.node,h]
theorem zhS {f:Fl}{j:Int}(c:f.nd.length=4)(b:0<=i/\i<4)(d:0<=j/\j<4):(f.sync i).node j=if j=i then { f.node i with wai:=[],syn:=(zae (f.node i).recs).length } else f.node j:=by
 rw[Fl.sync,zev (zdO _ _)]
 split
 .rename_i e;subst e;exact set_here _ c b
 .rename_i e;exact set_there _ b.1 d.1 e
theorem zlm (f:Fl)(i:Int):(f.sync i).no.bad=f.no.bad:=by rw[Fl.sync,zha];rfl
variable {k:Nat}{t:ByteArray}
theorem zbP.up {o:No}{a b:Nd}(s:zbP o a b):b.up=a.up:=by
 rcases s with⟨d,m,c,_,rfl⟩|⟨b,_,_,rfl⟩|⟨_,_,rfl⟩|⟨_,_,rfl⟩|⟨_,_,_,_,_,rfl⟩|⟨_,_,_,_,rfl⟩|⟨_,_,rfl⟩|⟨_,rfl⟩
 .unfold Nd.send;split<;>rfl
 all_goals rfl
theorem zdq {Q:Nd->Prop}{o:No}{a b:Nd}(h:∀x y,x.up=true->zbP o x y->Q x->Q y)(s:zad o a b)(g:a.up=true)(f:Q a):Q b:=
 (zad.keeps (P:=λn=>n.up=true/\Q n) (λx y d c=>⟨(zbP.up d).trans c.1,h x y c.1 d c.2⟩) s ⟨g,f⟩).2
theorem zfC {f:Fl}(h:f.runs i=true):(f.node i).up=true:=by
 unfold Fl.runs at h;rw[Bool.and_eq_true]at h;exact h.2
theorem zAB {f:Fl}(h:f.runs i=true):i≠f.no.bad:=by
 unfold Fl.runs at h;rw[Bool.and_eq_true]at h;exact of_decide_eq_true h.1
structure zc5 (S:ByteArray->Prop)(Q:Int->Nd->Prop):Prop where
 step:∀i o a b,0<=i/\i<4->a.up=true->zbP o a b->Q i a->Q i b
 crash:∀i n p,0<=i/\i<4->0<=p->Q i n->Q i (n.crash p)
 up:∀i n,0<=i/\i<4->Q i n->Q i { n with up:=true }
 synced:∀i n,0<=i/\i<4->Q i n->Q i { n with wai:=[],syn:=(zae n.recs).length }
 sub:∀i n t,0<=i/\i<4->S t->zcD n.nx n.txs t=0->Q i n->Q i { n with txs:=n.txs++[t] }
def zah (Q:Int->Nd->Prop)(f:Fl):Prop:=f.nd.length=4/\∀i,0<=i/\i<4->Q i (f.node i)
theorem zah.set {Q:Int->Nd->Prop}{f:Fl}(h:zah Q f){i:Int}(c:0<=i/\i<4){n:Nd}(d:Q i n):zah Q (f.set i n):=by
 refine⟨(zau _ _ _).trans h.1,λj b=>?_⟩;by_cases e:j=i
 .subst e;rw[set_here n h.1 b];exact d
 .rw[set_there n c.1 b.1 e];exact h.2 j b
theorem zah.nd {Q:Int->Nd->Prop}{f g:Fl}(h:zah Q f)(e:g.nd=f.nd):zah Q g:=⟨by rw[e];exact h.1,λj b=>by rw[zev e];exact h.2 j b⟩
def MC.post (m:MC):Prop:=(0<=m.fr/\m.fr<4)/\0<=m.tt/\m.tt<4
theorem zeU {l:List MC}(h:k<l.length):l.getD k MC.z∈l:=by simp[List.getD,h]
theorem zhw {m:MC}(h:zh2 t=some m):0<=m.fr/\m.fr<4:=by
 unfold zh2 at h
 split at h
 .rename_i e
  cases h;exact(zhI e.2).1
 .cases h
structure zeF (i:Int)(n:Nd):Prop where
 nu:n.nu=i
 fr:∀m∈n.wai,m.fr=i/\0<=m.tt/\m.tt<4
theorem zix {n:Nd}{d:Int}{m:MC}(h:zeF i n)(b:0<=d/\d<4):zeF i (n.send d m):=by
 unfold Nd.send
 split
 .exact h
 .refine⟨h.nu,λx c=>?_⟩;rcases List.mem_append.1 c with g|g
  .exact h.fr x g
  .rw[List.mem_singleton.1 g];exact⟨h.nu,b⟩
theorem zf0:zc5 (λ_=>True) zeF where
 step:=λi o a b j _ s h=>by
  rcases s with⟨d,m,g,_,rfl⟩|⟨b,_,_,rfl⟩|⟨_,_,rfl⟩|⟨_,_,rfl⟩|⟨_,_,_,_,_,rfl⟩|⟨_,_,_,_,rfl⟩|⟨_,_,rfl⟩|⟨_,rfl⟩
  .exact zix h g
  all_goals exact⟨h.nu,h.fr⟩
 crash:=λi n p _ _ h=>by
  obtain⟨a,_,c,_⟩:=zc8 n p
  exact⟨a.trans h.nu,λm f=>by rw[c]at f;cases f⟩
 up:=λi n _ h=>⟨h.nu,h.fr⟩
 synced:=λi n _ h=>⟨h.nu,λm f=>by cases f⟩
 sub:=λi n t _ _ _ h=>⟨h.nu,h.fr⟩
theorem zhx (l:List MC){f:Fl}(h:∀m∈f.away,m.post)(c:∀m∈l,m.post):∀m∈(l.foldl Fl.out f).away,m.post:=by
 induction l generalizing f with
 | nil=>exact h
 | cons x l ih=>
  refine ih (f:=f.out x) (λm b=>?_) (λm b=>c m (List.mem_cons_of_mem _ b));have b:m∈zct f.away x:=b;unfold zct at b
  split at b
  .rcases List.mem_append.1 b with g|g
   .exact h m g
   .rw[List.mem_singleton.1 g];exact c x (by simp)
  .exact h m b
structure zcn (f:Fl):Prop where
 posts:zah zeF f
 aw:∀m∈f.away,m.post
theorem zf1 (r:Int)(i:Int)(b:0<=i/\i<4):(Fl.z r).node i={ Nd.z i with up:=true }:=by
 have:i=0\/i=1\/i=2\/i=3:=by omega
 rcases this with e|e|e|e<;>subst e<;>rfl
theorem zcn.z (r:Int):zcn (Fl.z r):=⟨⟨rfl,λi c=>by rw[zf1 r i c];exact⟨rfl,λm b=>by cases b⟩⟩,λm b=>by cases b⟩
theorem zmN {k:Kn}{b:BW}(h:zbG k.sh b=true):k.rcl (zed b)={ k with sh:=k.sh++[b] }:=by
 show(if zbG k.sh b=true then _ else _)=_;rw[if_pos h];rfl
theorem zmO {k:Kn}{h:CV}(d:h.vl=[])(c:h.hf=0)(b:(zaf k.tab h).2.2=0):k.rcl (zcl h)={ k with tab:=(zaf k.tab h).1,own:=h,slot:=h.slot }:=by
 have e:(zcl h).h=h:=by cases h;cases d;rfl
 show(if(zcl h).h.hf=0 then { k with own:=(zcl h).h,slot:=(zcl h).h.slot,tab:=if(zaf k.tab (zcl h).h).2.2=0 then(zaf k.tab (zcl h).h).1 else k.tab } else k)=_;rw[e,if_pos c,if_pos b]
theorem zmP (k:Kn)(s:SV):k.rcl (zcE s)={ k with tab:=k.tab++[s] }:=rfl
theorem zmQ {k:Kn}{c:CV}(h:za8 k.dag c=0):k.rcl (zdh c)={ k with dag:=k.dag++[c] }:=by
 show(if za8 k.dag c=0 then _ else _)=_;rw[if_pos h];rfl
theorem zjh (l:List MC):zeo (zae l).length l=l:=by
 induction l with
 | nil=>rfl
 | cons m l ih=>
  have e:(zae (m::l)).length=m.onTape.length+(zae l).length:=by simp[zae]
  rw[zeo,if_pos (by omega),e,Nat.add_sub_cancel_left,ih]
theorem zzS {h:CV}(e:(zaf l h).2.2=0):∃t,(zaf l h).1=l++t:=by
 rcases zgf e with⟨g,_⟩|⟨g,_,_⟩
 .exact⟨[],by rw[g,List.append_nil]⟩
 .exact⟨_,g⟩
theorem zjn {α:Type}(l:List α):∃e,l=l++e:=⟨[],(List.append_nil l).symm⟩
theorem zz9 (l:List GV)(g:GV):zfS l g=l\/zfS l g=l++[g]:=by
 unfold zfS
 split
 .exact .inl rfl
 .rename_i h
  split
  .rename_i b
   unfold zec at b|-
   split at b
   .cases b
   .rename_i d
    split at b
    .rename_i c;exact absurd b c
    .rename_i c
     rw[if_neg d,if_neg c,if_neg h];exact .inr rfl
  .exact .inl rfl
theorem zAC (o:No)(m:MC):∃e,(o.sign m).sg=o.sg++e/\∀g∈e,g.1=m.fr:=by
 have none:∃e,o.sg=o.sg++e/\∀g∈e,g.1=m.fr:=⟨[],by simp,λg b=>by cases b⟩;have c:∀g:GV,g.1=m.fr->∃e,zfS o.sg g=o.sg++e/\∀x∈e,x.1=m.fr:=λg b=>by
  rcases zz9 o.sg g with e|e
  .rw[e];exact none
  .exact⟨[g],e,λx d=>by rw[List.mem_singleton.1 d];exact b⟩
 unfold No.sign
 split
 .split
  .exact c _ rfl
  .exact none
 .split
  .exact c _ rfl
  .exact none
theorem zAm (l:List MC)(f:Fl)(i:Int)(c:∀m∈l,m.fr=i):∃e,(l.foldl Fl.out f).no.sg=f.no.sg++e/\∀g∈e,g.1=i:=by
 induction l generalizing f with
 | nil=>exact⟨[],by simp,λg b=>by cases b⟩
 | cons m l ih=>
  obtain⟨d,o,r⟩:=zAC f.no m;obtain⟨j,p,s⟩:=ih (f.out m) (λx q=>c x (List.mem_cons_of_mem _ q));refine⟨d++j,?_,λg b=>?_⟩
  .rw[List.foldl_cons,p,<-List.append_assoc,<-o];rfl
  .rcases List.mem_append.1 b with g1|g1
   .rw[r g g1];exact c m (by simp)
   .exact s g g1
variable {w:World}{ops:Array Oper}{Q:Exit->Act->World->Prop}{a:Act}{K:Act->World->Prop}{E:Prop}
theorem zgq {o:Oper}
  (g:Region.wanted o (yielded ops a.tmps)=true) (d:Nat) (c:o.dst=some d) (v:Value) (w':World) (f:(execOp a.eval o).run prog w=.ok (.value v) w') (b:K (a.put (some d) v) w') :
  if Region.wanted o (yielded ops a.tmps)=true then Oper.wp prog o a w K Q else E:=by
 rw[if_pos g];unfold Oper.wp;rw[f,Oper.upon_value,c];exact b
variable {n:Nat}{g:GV}{p:Int}
theorem zAD {P:Fl->Prop}{a:Ac}(A:∀f,P f->zcn f)
  (B:∀f i n,P f->0<=i/\i<4->f.runs i=true->zad f.no (f.node i) n->P (f.set i n))
  (C:∀f i p,P f->0<=i/\i<4->f.runs i=true->0<=p->P (f.set i ((f.node i).crash p)))
  (sy:∀f i,P f->0<=i/\i<4->f.runs i=true->P (f.sync i))
  (q:∀f l,P f->(∀m∈l,m∈f.away)->P { f with away:=l })
  (up:∀f i,a.k=8->P f->0<=i/\i<4->i≠f.no.bad->P (f.set i { f.node i with up:=true }))
  (M:∀f i t,P f->0<=i/\i<4->f.runs i=true->P (f.set i { f.node i with txs:=(f.node i).txs++[t] }))
  (s:∀f c,P f->P { f with codes:=c })
  {f:Fl} (h:P f) (D:a.ok):P (f.does a):=by
 obtain⟨N,O,G,H,I,_⟩:=D;have j:0<=a.i/\a.i<4:=⟨G,H⟩;have u:∀(g:Fl) (i:Int) (m:MC),P g->0<=i/\i<4->0<=m.fr/\m.fr<4->P (g.come i m):=λg i m o j b=>by
  unfold Fl.come
  split
  .rename_i d;exact B g i _ o j d (zfT g.no (g.node i) m b)
  .exact o
 have F:∀(l:List MC) (g:Fl),P g->(∀m∈l,m.post)->P (zkP g l):=λl=>by
  induction l with
  | nil=>intro g o _;exact o
  | cons m l ih=>intro g o r;exact ih _ (u g m.tt m o (r m (by simp)).2 (r m (by simp)).1) (λx J=>r x (List.mem_cons_of_mem _ J))
 unfold Fl.does Fl.act
 split
 .unfold Fl.pick
  split
  .exact h
  .rename_i r
   have y:=zeU (Nat.mod_lt a.p.toNat (show 0<f.away.length by omega));have z:=(A f h).aw _ y
   split
   .refine q f _ h (λm b=>?_);unfold zct at b
    split at b
    .rcases List.mem_append.1 b with g|g
     .exact g
     .rw[List.mem_singleton.1 g];exact y
    .exact b
   .split
    .exact u { f with away:=f.away.eraseIdx (a.p.toNat % f.away.length) } _ _ (q f _ h (λm b=>List.mem_of_mem_eraseIdx b)) z.2 z.1
    .exact q f _ h (λm b=>List.mem_of_mem_eraseIdx b)
 .split
  .exact F f.away { f with away:=[] } (q f [] h (λm b=>by cases b)) (A f h).aw
  .split
   .unfold Fl.submit
    split
    .exact s f _ h
    .rename_i d
     have d:f.runs a.i=true:=by simpa using d
     split
     .exact s _ _ (M f a.i a.t h j d)
     .exact s f _ h
   .split
    .unfold Fl.forge
     split
     .rename_i m b
      split
      .exact h
      .exact u f a.i m h j (zhw b)
     .exact h
    .split
     .rename_i L
      unfold Fl.start
      split
      .exact h
      .rename_i E;exact up f a.i L h j E
     .split
      .split
       .rename_i d
        split
        .exact B f a.i _ h j d (zgV f.no (f.node a.i))
        .split
         .exact sy f a.i h j d
         .exact C f a.i a.p h j d I
       .exact h
      .exact h
def ze8 (l:List MC):Kn:=l.foldl Kn.rcl Kn.z
theorem zAa (k:Kn)(m:MC):∃e,(k.rcl m).tab=k.tab++e:=by
 unfold Kn.rcl
 split
 .split<;>exact zjn _
 .split
  .split
   .show ∃e,(if(zaf k.tab m.h).2.2=0 then(zaf k.tab m.h).1 else k.tab)=_
    split
    .rename_i h;exact zzS h
    .exact zjn _
   .exact zjn _
  .split
   .exact⟨_,rfl⟩
   .split
    .split<;>exact zjn _
    .exact zjn _
theorem zAu (l:List MC)(k:Kn):∃e,(l.foldl Kn.rcl k).tab=k.tab++e:=by
 induction l generalizing k with
 | nil=>exact zjn _
 | cons m l ih=>
  obtain⟨b,d⟩:=zAa k m;obtain⟨c,f⟩:=ih (k.rcl m);exact⟨b++c,by rw[List.foldl_cons,f,d,List.append_assoc]⟩
theorem zgd.more {e:List SV}{s:SV}(h:zgd l s):zgd (l++e) s:=by
 obtain⟨t,c,b⟩:=h;exact⟨t,List.mem_append_left _ c,b⟩
theorem zz4 {l e:List MC}{s:SV}(h:zgd (ze8 l).tab s):zgd (ze8 (l++e)).tab s:=by
 obtain⟨x,b⟩:=zAu e (ze8 l);have:ze8 (l++e)=e.foldl Kn.rcl (ze8 l):=List.foldl_append;rw[this,b];exact h.more
theorem zxX (k:Nat)(l:List MC):∃e,l=zeo k l++e:=by
 induction l generalizing k with
 | nil=>exact⟨[],rfl⟩
 | cons m l ih=>
  rw[zeo]
  split
  .obtain⟨e,b⟩:=ih (k-m.onTape.length);exact⟨e,by rw[List.cons_append,<-b]⟩
  .exact⟨m::l,rfl⟩
theorem zzO (k j:Nat)(h:k<=j)(l x:List MC):∃e,zeo j (l++x)=zeo k l++e:=by
 induction l generalizing k j with
 | nil=>exact⟨_,rfl⟩
 | cons m l ih=>
  rw[List.cons_append,zeo,zeo];by_cases g:m.onTape.length<=k
  .rw[if_pos g,if_pos (nT_ g h)];obtain⟨e,b⟩:=ih (k-m.onTape.length) (j-m.onTape.length) (by omega);exact⟨e,by rw[b,List.cons_append]⟩
  .rw[if_neg g];exact⟨_,rfl⟩
def Nd.safe (n:Nd):List MC:=zeo n.syn n.recs
theorem zAv {sy:Nat}(c:sy<=n)(b:0<=p):sy<=zdT n sy p:=by
 unfold zdT;split<;>omega
structure zoY (k:Kn):Prop where
 tab:zdt k.tab=0
 own:k.own.hf=0->zgd k.tab k.own.slot
theorem zoY.z:zoY Kn.z:=⟨zAt,λh=>by exact absurd h (by decide)⟩
theorem zAw {h:CV}(e:h.hf=0):zbf h.slot.1 h.slot.2.1 h.slot.2.2.length=0:=by
 have b:h.slot.2.2.length=32:=zbD _ _ _ _;unfold CV.hf zO at e
 split at e
 .cases e
 .rename_i g
  show zbf h.au h.rd h.slot.2.2.length=0;rw[b,zbf,if_neg g,if_neg (by decide)]
theorem zzT {h:CV}(e:(zaf l h).2.2=0):zdt (zaf l h).1=0:=by
 obtain⟨b,f,_,_⟩:=zgU e;rcases zgf e with⟨g,_⟩|⟨g,c,d⟩
 .rw[g];exact b
 .rw[g];exact zAl b d (zAw f) c
theorem zoY.cast {k:Kn}(h:zoY k){x:CV}(e:(zaf k.tab x).2.2=0):zoY { k with tab:=(zaf k.tab x).1 }:=by
 refine⟨zzT e,λg=>?_⟩;obtain⟨t,b⟩:=zzS e;show zgd (zaf k.tab x).1 k.own.slot;rw[b];exact(h.own g).more
structure zdV (n:Nd):Prop where
 tape:n.k=ze8 n.recs
 each:∀l e,n.recs=l++e->zoY (ze8 l)
 says:∀m∈n.wai,(m.ki=2->m.h.hf=0->zgd n.k.tab m.h.slot)/\(m.ki=3->zgd n.k.tab m.s)
 syn:n.syn<=(zae n.recs).length
theorem zdV.now {n:Nd}(h:zdV n):zoY n.k:=by rw[h.tape];exact h.each n.recs [] (by simp)
theorem zAf (l e:List MC):(zae l).length<=(zae (l++e)).length:=by simp[zae]
theorem zdV.log {n:Nd}(h:zdV n){m:MC}{k:Kn}(e:n.k.rcl m=k)(p:zoY k):zdV (n.log m k):=by
 have g:ze8 (n.recs++[m])=k:=by
  show(n.recs++[m]).foldl Kn.rcl Kn.z=k;rw[List.foldl_append,show n.recs.foldl Kn.rcl Kn.z=n.k from h.tape.symm];exact e
 refine⟨g.symm,λl x c=>?_,λy q=>?_,nT_ h.syn (zAf _ _)⟩
 .have c:n.recs++[m]=l++x:=c;rcases List.append_eq_append_iff.1 c with⟨a,d,f⟩|⟨a,d,f⟩
  .cases a with
   | nil=>exact h.each l [] (by rw[d];simp)
   | cons y a=>
    have:a=[]/\x=[]:=by
     have o:=congrArg List.length f;simp only[List.length_cons,lP_,List.length_nil]at o;exact⟨eN_ (by omega),eN_ (by omega)⟩
    obtain⟨rfl,rfl⟩:=this;have:l=n.recs++[m]:=by rw[c,List.append_nil]
    rw[this,g];exact p
  .exact h.each l a d
 .obtain⟨t,j⟩:=zAa n.k m;rw[e]at j;have:=h.says y q;show(y.ki=2->y.h.hf=0->zgd k.tab y.h.slot)/\(y.ki=3->zgd k.tab y.s);rw[j];exact⟨λa b=>(this.1 a b).more,λa=>(this.2 a).more⟩
theorem zoF.votes {n:Nd}{m:MC}(h:zoF n m)(d:zoY n.k):(m.ki=2->m.h.hf=0->zgd n.k.tab m.h.slot)/\(m.ki=3->zgd n.k.tab m.s):=by
 rcases h with⟨b,rfl,_⟩|rfl|⟨s,rfl,f⟩|⟨c,rfl,_⟩|⟨r,rfl⟩
 .exact⟨λe=>absurd (show(1:Int)=2 from e) (by decide),λe=>absurd (show(1:Int)=3 from e) (by decide)⟩
 .exact⟨λ_ e=>d.own e,λe=>absurd (show(2:Int)=3 from e) (by decide)⟩
 .exact⟨λe=>absurd (show(3:Int)=2 from e) (by decide),λ_=>f⟩
 .exact⟨λe=>absurd (show(4:Int)=2 from e) (by decide),λe=>absurd (show(4:Int)=3 from e) (by decide)⟩
 .exact⟨λe=>absurd (show(5:Int)=2 from e) (by decide),λe=>absurd (show(5:Int)=3 from e) (by decide)⟩
theorem zdV.step {o:No}{a b:Nd}(s:zbP o a b)(h:zdV a):zdV b:=by
 have j:=h.now;rcases s with⟨d,m,q,l,rfl⟩|⟨b,f,_,rfl⟩|⟨x,f,rfl⟩|⟨c,f,rfl⟩|⟨r,f,_,_,_,rfl⟩|⟨_,_,_,_,rfl⟩|⟨_,_,rfl⟩|⟨_,rfl⟩
 .unfold Nd.send
  split
  .exact h
  .refine⟨h.tape,h.each,λy p=>?_,h.syn⟩;rcases List.mem_append.1 p with g|g
   .exact h.says y g
   .rw[List.mem_singleton.1 g];exact l.votes j
 .exact h.log (zmN f) ⟨j.tab,j.own⟩
 .refine h.log ?_ (j.cast f.cast);rw[zmP];rcases zgf f.cast with⟨g,_⟩|⟨g,_,_⟩
  .have:=f.more;rw[g]at this;omega
  .rw[g]
 .unfold Nd.proofs at f;simp only[Bool.and_eq_true,decide_eq_true_eq]at f;exact h.log (zmQ f.1.1) ⟨j.tab,j.own⟩
 .have:=h.log (zmO rfl (zgU f).2.1 f) ⟨zzT f,λ_=>zkK f⟩;exact⟨this.tape,this.each,this.says,this.syn⟩
 .exact⟨h.tape,h.each,h.says,h.syn⟩
 .exact⟨h.tape,h.each,h.says,h.syn⟩
 .exact⟨h.tape,h.each,h.says,h.syn⟩
theorem zdV.steps {o:No}{a b:Nd}(s:zad o a b)(h:zdV a):zdV b:=zad.keeps (λ_ _ c h=>zdV.step c h) s h
theorem zzZ (n:Nd)(p:Int):∃e,n.recs=n.kept p++e:=zxX _ _
theorem zdV.crash {n:Nd}(h:zdV n)(p:Int):zdV (n.crash p):=by
 obtain⟨_,_,c,d,e,_,g,_⟩:=zc8 n p;obtain⟨x,j⟩:=zzZ n p;refine⟨by rw[g,d];rfl,λl y f=>?_,(λm b=>by rw[c]at b;cases b),by rw[e,d];exact nR_ _⟩;rw[d]at f;exact h.each l (y++x) (by rw[j,f,List.append_assoc])
theorem zdV.z (i:Int):zdV { Nd.z i with up:=true }:=by
 refine⟨rfl,λl e h=>?_,(λm b=>by cases b),nR_ _⟩;have h:[]=l++e:=h;have:l=[]:=by cases l with|nil=>rfl|cons a l=>cases h
 rw[this];exact zoY.z
def zdD (a b:Nd):Prop:=∃e,b.safe=a.safe++e
theorem zdD.refl {a b:Nd}(c:b.syn=a.syn)(d:b.recs=a.recs):zdD a b:=⟨[],by rw[Nd.safe,Nd.safe,c,d,List.append_nil]⟩
theorem zdD.trans {a b c:Nd}(h:zdD a b)(k:zdD b c):zdD a c:=by
 obtain⟨e,h⟩:=h;obtain⟨d,k⟩:=k;exact⟨e++d,by rw[k,h,List.append_assoc]⟩
theorem zdD.voted {a b:Nd}(h:zdD a b){s:SV}(c:zgd (ze8 a.safe).tab s):zgd (ze8 b.safe).tab s:=by
 obtain⟨e,h⟩:=h;rw[h];exact zz4 c
theorem zyq (n:Nd)(m:MC)(k:Kn):zdD n (n.log m k):=zzO n.syn n.syn (nR_ _) n.recs [m]
theorem zbP.safe {o:No}{a b:Nd}(s:zbP o a b):zdD a b:=by
 rcases s with⟨d,m,g,j,rfl⟩|⟨b,f,_,rfl⟩|⟨x,f,rfl⟩|⟨c,f,rfl⟩|⟨r,f,_,_,_,rfl⟩|⟨_,_,_,_,rfl⟩|⟨_,_,rfl⟩|⟨_,rfl⟩
 .unfold Nd.send;split<;>exact zdD.refl rfl rfl
 .exact zyq _ _ _
 .exact zyq _ _ _
 .exact zyq _ _ _
 .exact zyq a (zcl (a.header r)) a.k
 all_goals exact zdD.refl rfl rfl
theorem zad.safe {o:No}{a b:Nd}(s:zad o a b):zdD a b:=zad.keeps (P:=λn=>zdD a n) (λ_ _ c h=>h.trans (zbP.safe c)) s (zdD.refl rfl rfl)
theorem zAg {n:Nd}(g:n.syn<=(zae n.recs).length){p:Int}(f:0<=p):zdD n (n.crash p):=by
 obtain⟨_,_,_,d,e,_⟩:=zc8 n p;have c:(n.crash p).safe=n.kept p:=by rw[Nd.safe,e,d,zjh]
 obtain⟨x,b⟩:=zzO n.syn (zdT (zae n.recs).length n.syn p) (zAv g f) n.recs [];rw[List.append_nil]at b;exact⟨x,by rw[c];exact b⟩
theorem zAn (n:Nd):zdD n { n with wai:=[],syn:=(zae n.recs).length }:=by
 obtain⟨e,b⟩:=zxX n.syn n.recs;exact⟨e,by show zeo (zae n.recs).length n.recs=zeo n.syn n.recs++e;rw[zjh];exact b⟩
def zzP (o:No)(c:CV):Prop:=c.f=0/\∀v,v=c.au\/v∈c.vl->v=o.bad\/(v,c.au,c.rd,c.d)∈o.sg
theorem zAo {o:No}{c:CV}(h:o.proven c=true):zzP o c:=by
 unfold No.proven at h;have h:=of_decide_eq_true h;unfold zfl at h
 split at h
 .rename_i g;exact absurd h g
 .split at h
  .rename_i g;exact absurd h g
  .rename_i g
   split at h
   .cases h
   .rename_i b
    refine⟨by simpa using g,λv f=>?_⟩;simp only[Bool.or_eq_true,not_or,List.any_eq_true,not_exists,not_and]at b;have j:∀v,¬zdI o.sg o.bad c.au c.rd c.d v=true->v=o.bad\/(v,c.au,c.rd,c.d)∈o.sg:=λv d=>by
     unfold zdI at d;simp only[Bool.and_eq_true,decide_eq_true_eq,Bool.not_eq_true',decide_eq_false_iff_not,not_and,Decidable.not_not]at d;by_cases e:v=o.bad
     .exact .inl e
     .exact .inr (d e)
    rcases f with rfl|f
    .exact j _ b.1
    .exact j v (b.2 v f)
theorem zzP.more {o b:No}{c:CV}(h:zzP o c)(d:b.bad=o.bad){e:List GV}(f:b.sg=o.sg++e):zzP b c:=
 ⟨h.1,λv j=>by
  rcases h.2 v j with g|g
  .exact .inl (by rw[d];exact g)
  .exact .inr (by rw[f];exact List.mem_append_left _ g)⟩
def zfV (o:No)(n:Nd):Prop:=∀m∈n.recs,m.ki=4->zzP o m.ct
theorem zfV.log {o:No}{n:Nd}(h:zfV o n){m:MC}{k:Kn}(b:m.ki=4->zzP o m.ct):zfV o (n.log m k):=λx c e=>by
 rcases List.mem_append.1 c with g|g
 .exact h x g e
 .rw[List.mem_singleton.1 g]at e|-;exact b e
theorem zfV.step {o:No}{a b:Nd}(s:zbP o a b)(h:zfV o a):zfV o b:=by
 rcases s with⟨d,m,g,j,rfl⟩|⟨b,f,_,rfl⟩|⟨x,f,rfl⟩|⟨c,f,rfl⟩|⟨r,f,_,_,_,rfl⟩|⟨_,_,_,_,rfl⟩|⟨_,_,rfl⟩|⟨_,rfl⟩
 .unfold Nd.send;split<;>exact h
 .exact h.log (λe=>absurd (show(1:Int)=4 from e) (by decide))
 .exact h.log (λe=>absurd (show(3:Int)=4 from e) (by decide))
 .refine h.log (λ_=>?_);unfold Nd.proofs at f;simp only[Bool.and_eq_true,decide_eq_true_eq]at f;exact zAo f.1.2
 .exact h.log (k:=a.k) (λe=>absurd (show(2:Int)=4 from e) (by decide))
 .exact h
 .exact h
 .exact h
theorem zfV.steps {o:No}{a b:Nd}(s:zad o a b)(h:zfV o a):zfV o b:=zad.keeps (λ_ _ c h=>zfV.step c h) s h
theorem zfV.crash {o:No}{n:Nd}(h:zfV o n)(p:Int):zfV o (n.crash p):=λm b e=>by
 obtain⟨_,_,_,d,_⟩:=zc8 n p
 obtain⟨x,c⟩:=zzZ n p
 rw[d]at b
 exact h m (by rw[c];exact List.mem_append_left _ b) e
structure zgz (f:Fl):Prop where
 ok:zcn f
 good:∀i,0<=i/\i<4->zdV (f.node i)
 prov:∀i,0<=i/\i<4->zfV f.no (f.node i)
 sgn:∀g∈f.no.sg,(0<=g.1/\g.1<4)/\g.1≠f.no.bad/\zgd (ze8 (f.node g.1).safe).tab g.2
theorem zgz.set {f:Fl}(h:zgz f){i:Int}(b:0<=i/\i<4){n:Nd}(r:zeF i n)(p:zdV n)(t:zfV f.no n)(s:zdD (f.node i) n):zgz (f.set i n):=by
 have l:=h.ok.posts.1;refine⟨⟨h.ok.posts.set b r,h.ok.aw⟩,λj c=>?_,λj c=>?_,λg q=>?_⟩
 .by_cases e:j=i
  .subst e;rw[set_here _ l b];exact p
  .rw[set_there _ b.1 c.1 e];exact h.good j c
 .by_cases e:j=i
  .subst e;rw[set_here _ l b];exact t
  .rw[set_there _ b.1 c.1 e];exact h.prov j c
 .obtain⟨m,o,d⟩:=h.sgn g q;refine⟨m,o,?_⟩;by_cases e:g.1=i
  .rw[e,set_here _ l b];rw[e]at d;exact s.voted d
  .rw[set_there _ b.1 m.1 e];exact d
theorem zz5 {o:No}{a b:Nd}(c:0<=i/\i<4)(s:zad o a b)(d:a.up=true)(h:zeF i a):zeF i b:=zdq (λx y u f=>zf0.step i o x y c u f) s d h
theorem zz0 {l:List GV}{x:GV}(h:x∈zfS l g):x∈l\/x=g:=by
 rcases zz9 l g with e|e
 .rw[e]at h;exact .inl h
 .rw[e]at h;rcases List.mem_append.1 h with k|k
  .exact .inl k
  .exact .inr (List.mem_singleton.1 k)
theorem zAh (l:List MC)(f:Fl){x:GV}(h:x∈(l.foldl Fl.out f).no.sg):x∈f.no.sg\/∃m∈l,x.1=m.fr/\((m.ki=2/\m.h.hf=0/\x.2=m.h.slot)\/(m.ki=3/\x.2=m.s)):=by
 induction l generalizing f with
 | nil=>exact .inl h
 | cons m l ih=>
  rcases ih (f.out m) h with g|⟨y,d,g⟩
  .have g:x∈(f.no.sign m).sg:=g;unfold No.sign at g
   split at g
   .rename_i c
    split at g
    .rename_i b
     rcases zz0 g with k|k
     .exact .inl k
     .exact .inr ⟨m,by simp,by rw[k],.inl ⟨c,b,by rw[k]⟩⟩
    .exact .inl g
   .split at g
    .rename_i b
     rcases zz0 g with k|k
     .exact .inl k
     .exact .inr ⟨m,by simp,by rw[k],.inr ⟨b,by rw[k]⟩⟩
    .exact .inl g
  .exact .inr ⟨y,List.mem_cons_of_mem _ d,g⟩
theorem zgz.does {f:Fl}(h:zgz f){a:Ac}(L:a.ok):zgz (f.does a):=by
 refine zAD (P:=zgz) (λ_ h=>h.ok) ?_ ?_ ?_ ?_ ?_ ?_ ?_ h L
 .intro f i n h b E s;exact h.set b (zz5 b s (zfC E) (h.ok.posts.2 i b)) ((h.good i b).steps s) ((h.prov i b).steps s) s.safe
 .intro f i p h b _ q;exact h.set b (zf0.crash i _ p b q (h.ok.posts.2 i b)) ((h.good i b).crash p) ((h.prov i b).crash p) (zAg (h.good i b).syn q)
 .intro f i h b E;have r:=h.ok.posts.1;have y:=h.good i b;obtain⟨x,T,_⟩:=zAm (f.node i).wai (f.set i { f.node i with wai:=[],syn:=(zae (f.node i).recs).length }) i (λm d=>((h.ok.posts.2 i b).fr m d).1);have O:(f.sync i).no.sg=f.no.sg++x:=T;have N:zcn (f.sync i):=by
   refine⟨zah.nd (h.ok.posts.set b (n:={ f.node i with wai:=[],syn:=(zae (f.node i).recs).length }) ⟨(h.ok.posts.2 i b).nu,λm d=>by cases d⟩) (zdO _ _),?_⟩;unfold Fl.sync;refine zhx _ h.ok.aw (λm d=>?_);obtain⟨z,C⟩:=(h.ok.posts.2 i b).fr m d;exact⟨by rw[z];exact b,C⟩
  refine⟨N,λj u=>?_,λj u=>?_,λg o=>?_⟩
  .rw[zhS r b u]
   split
   .exact⟨y.tape,y.each,(λm d=>by cases d),nR_ _⟩
   .exact h.good j u
  .have H:zfV (f.sync i).no (f.node j):=λm d e=>((h.prov j u) m d e).more (zlm f i) O;rw[zhS r b u]
   split
   .rename_i e;subst e;exact H
   .exact H
  .have V:zgd (ze8 (f.node i).recs).tab g.2->zgd (ze8 ((f.sync i).node i).safe).tab g.2:=λR=>by
    rw[zhS r b b,if_pos rfl];show zgd (ze8 (zeo (zae (f.node i).recs).length (f.node i).recs)).tab g.2;rw[zjh];exact R
   have G:=zlm f i;rcases zAh (f.node i).wai _ o with k|⟨m,d,z,C⟩
   .obtain⟨F,J,D⟩:=h.sgn g k;refine⟨F,by rw[G];exact J,?_⟩;by_cases e:g.1=i
    .rw[e,zhS r b b,if_pos rfl];rw[e]at D;exact(zAn (f.node i)).voted D
    .rw[zhS r b F,if_neg e];exact D
   .obtain⟨U,X⟩:=(h.ok.posts.2 i b).fr m d;rw[U]at z;rw[z];refine⟨b,by rw[G];exact zAB E,V ?_⟩;rw[show(ze8 (f.node i).recs)=(f.node i).k from y.tape.symm];rcases C with⟨A,I,B⟩|⟨A,B⟩
    .rw[B];exact(y.says m d).1 A I
    .rw[B];exact(y.says m d).2 A
 .intro f l h M;exact⟨⟨h.ok.posts.nd rfl,λm d=>h.ok.aw m (M m d)⟩,h.good,h.prov,h.sgn⟩
 .intro f i _ h b _;have q:=h.ok.posts.2 i b;have o:=h.good i b;exact h.set b ⟨q.nu,q.fr⟩ ⟨o.tape,o.each,o.says,o.syn⟩ (h.prov i b) (zdD.refl rfl rfl)
 .intro f i t h b _;have q:=h.ok.posts.2 i b;have o:=h.good i b;exact h.set b ⟨q.nu,q.fr⟩ ⟨o.tape,o.each,o.says,o.syn⟩ (h.prov i b) (zdD.refl rfl rfl)
 .intro f c h;exact⟨⟨h.ok.posts.nd rfl,h.ok.aw⟩,h.good,h.prov,h.sgn⟩
theorem zgz.z (r:Int):zgz (Fl.z r):=
 ⟨zcn.z r,λi b=>by rw[zf1 r i b];exact zdV.z i,λi b=>(λm c=>by rw[zf1 r i b]at c;cases c),λg d=>by cases d⟩
theorem zgz.run (l:List Ac){f:Fl}(h:zgz f)(c:∀a∈l,a.ok):zgz (f.run l):=by
 induction l generalizing f with
 | nil=>exact h
 | cons a l ih=>exact ih (h.does (c a (by simp))) (λb d=>c b (List.mem_cons_of_mem _ d))
theorem zhy {a:AV}(h:a.e=0):a.ac.ok:=by
 obtain⟨b,c,d,_⟩:=zn3 h;exact⟨b.1,b.2,c.1,c.2,d.1,d.2⟩
theorem ziz {l:List AV}(h:∀a∈l,a.e=0/\a.t.size<=4000):∀x∈l.map AV.ac,x.ok:=λx c=>by
 obtain⟨a,b,rfl⟩:=List.mem_map.1 c
 exact zhy (h a b).1
def zoM:Nat->List AV
 | 0=>[]
 | k+1=>zoM k++[⟨8,k,0,⟨#[]⟩⟩]
def zji:Nat->List AV
 | 0=>[]
 | k+1=>zji k++[⟨2,k,0,⟨#[]⟩⟩,⟨3,k,0,⟨#[]⟩⟩]
def zdE (R:Nat):List AV:=match R with
 | 0=>zoM 4
 | R+1=>zdE R++zji 4++[⟨10,0,0,⟨#[]⟩⟩]
theorem zAp (k:Nat)(c:k<=4):∀a∈zoM k,a.e=0/\a.t.size<=4000:=by
 induction k with
 | zero=>intro a b;cases b
 | succ k ih=>
  refine zc9 (ih (by omega)) (λa b=>?_);rw[List.mem_singleton.1 b];exact⟨zaL _ _ _ _ (by decide) (by omega) (by decide) (by decide) (λh=>by cases h) (λ_=>rfl) (λ_=>rfl),by show ByteArray.size ⟨#[]⟩<=4000;decide⟩
theorem zz1 (k:Nat)(hk:k<=4):∀a∈zji k,a.e=0/\a.t.size<=4000:=by
 induction k with
 | zero=>intro a ha;cases ha
 | succ k ih=>
  refine zc9 (ih (by omega)) (λa ha=>?_);simp only[List.mem_cons,List.not_mem_nil,or_false]at ha;rcases ha with e|e<;>subst e<;>exact⟨zaL _ _ _ _ (by decide) (by omega) (by decide) (by decide) (λh=>by cases h) (λ_=>rfl) (λ_=>rfl),by show ByteArray.size ⟨#[]⟩<=4000;decide⟩
theorem zAb (R:Nat):∀a∈zdE R,a.e=0/\a.t.size<=4000:=by
 induction R with
 | zero=>exact zAp 4 (nR_ _)
 | succ R ih=>
  refine zc9 (zc9 ih (zz1 4 (nR_ _))) (λa b=>?_);rw[List.mem_singleton.1 b];exact⟨zaL _ _ _ _ (by decide) (by decide) (by decide) (by decide) (λ_=>rfl) (λ_=>rfl) (λ_=>rfl),by show ByteArray.size ⟨#[]⟩<=4000;decide⟩
theorem zz2 (R:Nat):(zdE R).length=4+9*R:=by
 induction R with
 | zero=>rfl
 | succ R ih=>rw[zdE,lP_,lP_,ih];show 4+9*R+8+1=_;omega
theorem zAx (R:Nat)(B:R<=100)(w:World) :
  Calls prog 13 #[I_ (R:Int)] w λe w'=>∃v,e=.returned v/\w'.ownsRow w.heap.size 40 4 v (zdE R).length (avs (zdE R))/\B_ w w':=by
 rw[zz2];go_in;go_wp2_with fail
 go_loopw [4,3] (λj v wr=>∃k:Nat,k<=4/\j=I_ k/\B_ w wr/\wr.ownsRow w.heap.size 40 4 v k (avs (zoM k))) (λj _ _=>4-(intOf j).toNat)
 case atStart=>exact⟨0,nZ_ _,rfl,bR_ _ _,oN_ _ _ _ _⟩
 case round=>
  obtain⟨k,o,rfl,b,c⟩:=hrel;by_cases hlt:k<4
  .have p:(k:Int)<4:=by omega
   have m:(wr.alloc (.cells #[I_ 8,I_ k,I_ 0,.string ⟨#[]⟩] 40)).heap[wr.heap.size]? = some (.cells (⟨8,k,0,⟨#[]⟩⟩:AV).cs.toArray 40 (0,0)):=hN_ _ _;have d:Hid (zoM (k+1)=zoM k++[⟨8,k,0,⟨#[]⟩⟩]):=rfl;generalize zoM k=l at c d;go_wp2_with (at_builtin;refine zkz rfl _ _ rfl w.heap.size _ k l rfl (c.alloc _) wr.heap.size ⟨8,k,0,⟨#[]⟩⟩ rfl m (by omega) (by have:=b.size;simp;omega) ?_)
   intro r w2 g f;go_wp2_with fail
   go_roundw
   case rel=>
    refine⟨k+1,by omega,by go_num,b.trans ?_,by rw[d.out];exact g⟩;exact((bR_ _ _).alloc b.size _).trans (f.below (by have:=b.size;simp;omega) (λq e=>(c.lt q e).1))
   case measure=>simp[intOf];omega
  .obtain rfl:k=4:=by omega
   have p:¬((4:Nat):Int)<4:=by omega
   clear hlt o;go_wp2_with fail
   go_loopw [5,3] (λj v wr=>∃i:Nat,i<=R/\j=I_ i/\B_ w wr/\wr.ownsRow w.heap.size 40 4 v (4+9*i) (avs (zdE i))) (λj _ _=>R-(intOf j).toNat)
   case atStart=>exact⟨0,nZ_ _,rfl,b,c⟩
   case round=>
    clear c b;obtain⟨i,y,rfl,b,c⟩:=hrel;by_cases hlt:i<R
    .have p:(i:Int)<R:=by omega
     go_wp2_with fail
     go_loopw [6,3] (λj v s=>∃k:Nat,k<=4/\j=I_ k/\B_ w s/\s.ownsRow w.heap.size 40 4 v (4+9*i+2*k) (avs (zdE i++zji k))) (λj _ _=>4-(intOf j).toNat)
     case atStart=>exact⟨0,nZ_ _,rfl,b,by rw[zji,List.append_nil];exact c⟩
     case round=>
      clear c b;obtain⟨k,o,rfl,b,c⟩:=hrel;by_cases hlt4:k<4
      .have A:(k:Int)<4:=by omega
       have m:(wr.alloc (.cells #[I_ 2,I_ k,I_ 0,.string ⟨#[]⟩,I_ 3,I_ k,I_ 0,.string ⟨#[]⟩] 40)).heap[wr.heap.size]? = some (.cells (avs [(⟨2,k,0,⟨#[]⟩⟩:AV),⟨3,k,0,⟨#[]⟩⟩]).toArray 40 (0,0)):=hN_ _ _;have t:=zdw m (λa u=>zz1 (k+1) hlt4 a (List.mem_append_right _ u));have d:Hid (zdE i++zji (k+1)=zdE i++zji k++[⟨2,k,0,⟨#[]⟩⟩,⟨3,k,0,⟨#[]⟩⟩]):=(List.append_assoc _ _ _).symm;have z:i<=100:=by omega
       generalize zdE i++zji k=l at c d;go_wp2_with (at_builtin;refine zfB rfl _ _ rfl w.heap.size _ (4+9*i+2*k) l rfl (c.alloc _) (some ⟨wr.heap.size,0,none⟩) 2 2 [(⟨2,k,0,⟨#[]⟩⟩:AV),⟨3,k,0,⟨#[]⟩⟩] rfl rfl t (λe=>by cases e) (by omega) (by have:=b.size;simp;omega) ?_)
       intro r w2 g f;go_wp2_with fail
       go_roundw
       case rel=>
        refine⟨k+1,by omega,by go_num,b.trans ?_,by rw[d.out,show 4+9*i+2*(k+1)=4+9*i+2*k+2 by omega];exact g⟩;exact((bR_ _ _).alloc b.size _).trans (f.below (by have:=b.size;simp;omega) (λq e=>(c.lt q e).1))
       case measure=>simp[intOf];omega
      .obtain rfl:k=4:=by omega
       have A:¬((4:Nat):Int)<4:=by omega
       have m:(wr.alloc (.cells #[I_ 10,I_ 0,I_ 0,.string ⟨#[]⟩] 40)).heap[wr.heap.size]? = some (.cells (⟨10,0,0,⟨#[]⟩⟩:AV).cs.toArray 40 (0,0)):=hN_ _ _;have d:Hid (zdE (i+1)=zdE i++zji 4++[⟨10,0,0,⟨#[]⟩⟩]):=rfl;have z:i<=100:=by omega
       generalize zdE i++zji 4=l at c d;clear hlt4 o;go_wp2_with (at_builtin;refine zkz rfl _ _ rfl w.heap.size _ (4+9*i+2*4) l rfl (c.alloc _) wr.heap.size ⟨10,0,0,⟨#[]⟩⟩ rfl m (by omega) (by have:=b.size;simp;omega) ?_)
       intro r w2 g f;go_wp2_with fail
       go_roundw
       case rel=>
        refine⟨i+1,by omega,by go_num,b.trans ?_,by rw[d.out,show 4+9*(i+1)=4+9*i+2*4+1 by omega];exact g⟩;exact((bR_ _ _).alloc b.size _).trans (f.below (by have:=b.size;simp;omega) (λq e=>(c.lt q e).1))
       case measure=>simp[intOf];omega
    .obtain rfl:i=R:=by omega
     have p:¬(i:Int)<i:=by omega
     clear hlt y;go_wp2_with fail
     go_ret;exact⟨_,rfl,c,b⟩
variable {W:World}
theorem zzy (c:Ct)(w:World)(o:za7 w c)(q:c.v.f=0)(l:zbJ w) :
  Calls prog 21 #[.agg (crow_ c)] w λe w'=>∃b,e=.returned (.slice (some ⟨b,0,none⟩) 32 32)/\B_ w w'/\zg w' (some ⟨b,0,none⟩) 32 c.v.d:=by
 have d:=zC w (.cells (crow_ c) 64);have f:=hN_ w (.cells (crow_ c) 64);have j:zO c.au c.rd c.bl c.pl=0:=by rw[Ct.hf_v];exact zfO (vl:=c.vl) q
 go_in;go_upto_region 1 with fail
 generalize w.alloc (.cells (crow_ c) 64)=s at d f|-;have g:=zea (o.hat.below d) j (l.below d);rw[Ct.d_v]at g;have t:=zb f 0 _ rfl;have u:=zb f 1 _ rfl;have y:=zb f 2 _ rfl;have z:=zb f 3 _ rfl;clear j;go_wp2_with fail
 refine g.mono ?_;rintro e A⟨b,p,_,m,r⟩;subst p;dsimp only;clear g;go_wp2_with fail
 go_ret;exact⟨b,rfl,d.trans (m.mono d.size),r⟩
structure zAi (W:World)(vb i:Nat)(x:Vm):Prop where
 vw:W.cell? ⟨vb,i*6+2,none⟩=some (.slice x.ca x.ls.length x.cc)
 rows:∀a (h:a<x.ls.length),∃g,x.ca=some ⟨g,0,none⟩/\W.rangeAt g (a*5) (x.ls[a]).cs
 each:∀c∈x.ls,za7 W c
theorem zex.vc {o:Om}(h:zex W o){c:Nat}(p:o.na=some ⟨c,0,none⟩){i:Nat}(g:i<4):zAi W c i (o.y i):=by
 obtain⟨b,f,l⟩:=h.row g;obtain rfl:c=b:=by rw[p]at f;simpa using f
 have j:=h.vm i g;refine⟨l 2 _ rfl,λa d=>zei j.rc d rfl (λt m=>zfx _ a t d m),j.ec⟩
theorem zAE (o:Om)(w:World)(hO:zex w o)(aH:∀i,i<4->zlk (o.y i).v)(h1:∀i k,i<4->k<4->∀c∈(o.y i).ls,∀d∈(o.y k).ls,c.v.au=d.v.au->c.v.rd=d.v.rd->c.v.d=d.v.d)(hT:zbJ w) :
  Calls prog 14 #[.agg #[.slice o.na 4 o.nc,.slice o.ga o.gs.length o.gc,I_ o.aw,.slice o.ca o.cs.length o.cc]] w λe w'=>e=.returned (.bool true)/\B_ w w':=by
 obtain⟨s,aq,_⟩:=hO.row (i:=0) (by decide);have HT:Hid (∀W:World,B_ w W->zbJ W):=λW hW=>hT.below hW;have HV:Hid (∀W:World,B_ w W->∀i,i<4->zAi W s i (o.y i)):=λW hW i hi=>(hO.below hW).vc aq hi;have HK:Hid (∀i,i<4->(o.y i).ls.length<=400/\∀c∈(o.y i).ls,c.v.f=0):=by
  intro i hi;have hd:=(aH i hi).dag;refine⟨zlE hd,λc hc=>?_⟩;obtain⟨k,hk,rfl⟩:=List.getElem_of_mem hc;have hz:=(zgw hd).2 k (by show k<(zI (o.y i).ls).length;rw[zbv];exact hk);rw[zgH,Bool.or_eq_false_iff]at hz;have hz:=of_decide_eq_false hz.1;have e:zaM (zI (o.y i).ls) k=((o.y i).ls[k]).v:=by rw[zk4 _ k hk]
  have hz:¬(zaM (zI (o.y i).ls) k).f≠0:=hz;rw[e]at hz;exact Decidable.not_not.1 hz
 have H1:Hid _:=h1;rw[aq];clear hT hO aH h1 aq;refine kV_ ?A0 ?_;exact Value.slice (some ⟨s,0,none⟩) 4 o.nc;refine kO_ ?B0 ?_;exact Obj.cells #[?A0,.slice o.ga o.gs.length o.gc,I_ o.aw,.slice o.ca o.cs.length o.cc] 28;have O:=zC w ?B0;have q0:=hN_ w ?B0;go_in;go_wp2_with fail
 generalize w.alloc ?B0=W0 at O q0|-;go_loopw [3] (λj wr=>∃i:Nat,i<=4/\j=I_ i/\B_ W0 wr) (λj _=>4-(intOf j).toNat)
 case atStart=>exact⟨0,nZ_ _,rfl,bR_ _ _⟩
 case round=>
  obtain⟨i,hi,rfl,r⟩:=hrel;have U:=zk r q0;have u:=zb U 0 ?A0 rfl;by_cases hlt:i<4
  .have aR:(i:Int)<4:=by omega
   obtain⟨aS,aI⟩:=HK.out i hlt;have HX:Hid (∀W:World,B_ W0 W->zAi W s i (o.y i)):=λW hW=>HV.out W (O.trans (hW.mono O.size)) i hlt;have aB:Hid _:=aI;have ay:Hid (∀k,k<4->∀c∈(o.y i).ls,∀d∈(o.y k).ls,c.v.au=d.v.au->c.v.rd=d.v.rd->c.v.d=d.v.d):=λk hk=>H1.out i k hlt hk;clear aI;generalize o.y i=x at aS HX aB ay;clear U;go_wp2_with fail
   clear u;go_loopw [4] (λj wx=>∃k:Nat,k<=i+1/\j=I_ k/\B_ W0 wx) (λj _=>i+1-(intOf j).toNat)
   case atStart=>exact⟨0,nZ_ _,rfl,r⟩
   case round=>
    clear r;obtain⟨k,hk,rfl,r⟩:=hrel;by_cases hki:k<=i
    .have aQ:(k:Int)<=i:=by omega
     have ap:k<4:=by omega
     have a1:(k:Int)<4:=by omega
     obtain⟨aT,aJ⟩:=HK.out k ap;have HY:Hid (∀W:World,B_ W0 W->zAi W s k (o.y k)):=λW hW=>HV.out W (O.trans (hW.mono O.size)) k ap;have aC:Hid _:=aJ;have az:Hid (∀c∈x.ls,∀d∈(o.y k).ls,c.v.au=d.v.au->c.v.rd=d.v.rd->c.v.d=d.v.d):=ay.out k ap;clear aJ;generalize o.y k=y at aT HY aC az;go_wp2_with fail
     go_loopw [5] (λj wx=>∃a:Nat,a<=x.ls.length/\j=I_ a/\B_ W0 wx) (λj _=>x.ls.length-(intOf j).toNat)
     case atStart=>exact⟨0,nZ_ _,rfl,r⟩
     case round=>
      clear r;obtain⟨a,ha,rfl,r⟩:=hrel;have U:=zk r q0;have u:=zb U 0 ?A0 rfl;have z:=(HX.out wr r).vw;clear U;by_cases hax:a<x.ls.length
      .have aN:(a:Int)<x.ls.length:=by omega
       go_wp2_with fail
       clear u z;go_loopw [6] (λj wx=>∃b:Nat,b<=y.ls.length/\j=I_ b/\B_ W0 wx) (λj _=>y.ls.length-(intOf j).toNat)
       case atStart=>exact⟨0,nZ_ _,rfl,r⟩
       case round=>
        clear r;obtain⟨b,aO,rfl,r⟩:=hrel;have U:=zk r q0;have u:=zb U 0 ?A0 rfl;have v1:=(HY.out wr r).vw;by_cases hby:b<y.ls.length
        .have aP:(b:Int)<y.ls.length:=by omega
         have hX:=HX.out wr r;have hY:=HY.out wr r;obtain⟨E,aF,rx⟩:=hX.rows a hax;obtain⟨F,aG,ry⟩:=hY.rows b hby;have z:=hX.vw;rw[aF]at z;have aw:=z;rw[aG]at v1;have an:=gM_ hax;have ao:=gM_ hby;have al:Hid (za7 wr (x.ls[a])/\(x.ls[a]).v.f=0):=⟨hX.each _ an,aB.out _ an⟩;have am:Hid (za7 wr (y.ls[b])/\(y.ls[b]).v.f=0):=⟨hY.each _ ao,aC.out _ ao⟩;have ad:Hid ((x.ls[a]).v.au=(y.ls[b]).v.au->(x.ls[a]).v.rd=(y.ls[b]).v.rd->(x.ls[a]).v.d=(y.ls[b]).v.d):=az.out _ an _ ao;clear an ao hX hY aF aG;generalize x.ls[a]=c at rx al ad;generalize y.ls[b]=d at ry am ad;have c0:wr.cell? ⟨E,a*5+0,none⟩=some (I_ c.au):=rx 0 _ rfl;have c1:wr.cell? ⟨E,a*5+1,none⟩=some (I_ c.rd):=rx 1 _ rfl;have c2:wr.cell? ⟨E,a*5+2,none⟩=some (.slice c.ba c.bl.length c.bc):=rx 2 _ rfl;have c3:wr.cell? ⟨E,a*5+3,none⟩=some (.slice c.pa c.pl.length c.pc):=rx 3 _ rfl;have ac:=zC wr (.cells (hrow_ c) 61);have qX:=hN_ wr (.cells (hrow_ c) 61);simp only[Nat.add_zero]at c0;go_upto_region 14 with fail
         clear c0 c1 c2 c3 u z;generalize wr.alloc (.cells (hrow_ c) 61)=W1 at ac qX|-;generalize wr.heap.size=X at qX|-;have aE:=zm r ac;have au:=zk ac U;have u:=zb au 0 ?A0 rfl;have ae:=zdd ry ac;have ax:=(ac.cell (bL_ v1)).trans v1;have c0:W1.cell? ⟨F,b*5+0,none⟩=some (I_ d.au):=ae 0 _ rfl;have c1:W1.cell? ⟨F,b*5+1,none⟩=some (I_ d.rd):=ae 1 _ rfl;have c2:W1.cell? ⟨F,b*5+2,none⟩=some (.slice d.ba d.bl.length d.bc):=ae 2 _ rfl;have c3:W1.cell? ⟨F,b*5+3,none⟩=some (.slice d.pa d.pl.length d.pc):=ae 3 _ rfl;have ab:=zC W1 (.cells (hrow_ d) 61);have qY:=hN_ W1 (.cells (hrow_ d) 61);simp only[Nat.add_zero]at c0;go_upto_region 15 with fail
         clear c0 c1 c2 c3 u;generalize W1.alloc (.cells (hrow_ d) 61)=t at ab qY|-;generalize W1.heap.size=Y at qY|-;have ak:=zm aE ab;have ai:=zm ac ab;have af:Hid (za7 t c/\c.v.f=0):=⟨al.out.1.below ai,al.out.2⟩;have ag:Hid (za7 t d/\d.v.f=0):=⟨am.out.1.below ai,am.out.2⟩;have ah:Hid (∀V:World,B_ t V->zbJ V):=λV hV=>HT.out V ((O.trans (ak.mono O.size)).trans (hV.mono (O.trans (ak.mono O.size)).size));have u:t.cell? ⟨w.heap.size,0,none⟩=some ?A0:=zb (zk ab au) 0 _ rfl;have z:=(ai.cell (bL_ aw)).trans aw;have I:=(ab.cell (bL_ ax)).trans ax;have G:=zdd rx ai;have H:=zdd ae ab;have ar:=zk ab qX;have J:=zb ar 0 _ rfl;have L:=zb ar 1 _ rfl;have M:=zb qY 0 _ rfl;have N:=zb qY 1 _ rfl;clear aw qX ar qY U au v1 ax rx ry ae ac ab ai al am r aE;by_cases e1:c.au=d.au;refine kV_ ?C0 ?_;exact Value.slice (some ⟨E,0,none⟩) x.ls.length x.cc;refine kV_ ?D0 ?_;exact Value.slice (some ⟨F,0,none⟩) y.ls.length y.cc
         .by_cases e2:c.rd=d.rd
          .have e3:(c.au == d.au)=true:=by simpa using e1
           have e4:(c.rd == d.rd)=true:=by simpa using e2
           obtain⟨D,hD⟩:∃D,D=c.v.d:=⟨_,rfl⟩;have aD:d.v.d=D:=by rw[hD];exact(ad.out e1 e2).symm
           have HL:Hid (D.length=32):=by show _=_;rw[hD,<-Ct.d_v];exact zbD _ _ _ _
           have aM:Hid (∀V:World,B_ t V->Calls prog 21 #[.agg (crow_ c)] V λe w'=>∃b,e=.returned (.slice (some ⟨b,0,none⟩) 32 32)/\B_ V w'/\zg w' (some ⟨b,0,none⟩) 32 D):=by
            show ∀V,_;intro V hV;rw[hD];exact zzy c V (af.out.1.below hV) af.out.2 (ah.out V hV)
           have aA:Hid (∀V:World,B_ t V->Calls prog 21 #[.agg (crow_ d)] V λe w'=>∃b,e=.returned (.slice (some ⟨b,0,none⟩) 32 32)/\B_ V w'/\zg w' (some ⟨b,0,none⟩) 32 D):=by
            show ∀V,_;intro V hV;rw[<-aD];exact zzy d V (ag.out.1.below hV) ag.out.2 (ah.out V hV)
           clear hD aD ad af ag ah;have p:=dB_ t;refine wR_ (S:=λw'=>w'.cell? ⟨w.heap.size,0,none⟩=some ?A0/\w'.cell? ⟨s,i*6+2,none⟩=some ?C0/\w'.cell? ⟨s,k*6+2,none⟩=some ?D0/\w'.cell? ⟨X,0,none⟩=some (I_ c.au)/\w'.cell? ⟨X,1,none⟩=some (I_ c.rd)/\w'.cell? ⟨Y,0,none⟩=some (I_ d.au)/\w'.cell? ⟨Y,1,none⟩=some (I_ d.rd)/\w'.rangeAt E (a*5) c.cs/\w'.rangeAt F (b*5) d.cs) (by kernel_rfl) ⟨zr p u,zr p z,zr p I,zr p J,zr p L,zr p M,zr p N,(zdd G p),(zdd H p)⟩ (λl=>?_);generalize t.drew=V0 at p  l ⊢;refine tks_ 21 [(0,63,(P_ X 0)),(1,64,I_ c.au),(2,65,(P_ Y 0)),(3,66,I_ d.au),(4,67,.bool true),(5,68,.bool true),(6,69,(P_ X 1)),(7,70,I_ c.rd),(8,71,(P_ Y 1)),(9,72,I_ d.rd),(10,73,.bool true),(11,74,.bool true),(12,75,.bool true),(13,76,(P_ w.heap.size 0)),(14,77,.slice (some ⟨s,0,none⟩) 4 o.nc),(15,78,I_ (i:Int)),(16,79,(P_ s (i*6))),(17,80,(P_ s (i*6+2))),(18,81,.slice (some ⟨E,0,none⟩) x.ls.length x.cc),(19,82,I_ (a:Int)),(20,83,(P_ E (a*5)))] l ?_;simp only[tkf_,zf];refine tQ_ 21 84 (.agg (crow_ c)) rfl rfl (yieldsIf_load_mid (by rfl) 64 _ rfl E (a*5) rfl c.cs _ (λw0 h=>h.2.2.2.2.2.2.2.1) underlying64 rfl zyN) l ?_;simp only[zf];refine tks_ 8 [(24,87,(P_ w.heap.size 0)),(25,88,.slice (some ⟨s,0,none⟩) 4 o.nc),(26,89,I_ (k:Int)),(27,90,(P_ s (k*6))),(28,91,(P_ s (k*6+2))),(29,92,.slice (some ⟨F,0,none⟩) y.ls.length y.cc),(30,93,I_ (b:Int)),(31,94,(P_ F (b*5)))] l ?_;simp only[tkf_,zf];refine tQ_ 32 95 (.agg (crow_ d)) rfl rfl (yieldsIf_load_mid (by rfl) 64 _ rfl F (b*5) rfl d.cs _ (λw0 h=>h.2.2.2.2.2.2.2.2) underlying64 rfl zyN) l ?_;simp only[zf];clear l;refine zno (λZ aa T=>?_);refine znp (λA0 A=>?_);refine kV_ ?E0 ?_;exact Value.string (zai D);have aX:Hid (∀(V:World) (g:Nat) (q:Nat),B_ t V->(zg V (some ⟨g,0,none⟩) 32 D)->(zg V (some ⟨q,0,none⟩) 32 D)->Z 0 #[true,true,true,true,true,true,true,true,true,true,true,true,true,true,true,true,true,true,true,true,true,true,true,true,true,true,true,true,true,true,true,true,true,true,true,true,true] ((((((A0.put (some 85) (.slice (some ⟨g,0,none⟩) 32 32)).put (some 96) (.slice (some ⟨q,0,none⟩) 32 32)).put (some 86) ?E0).put (some 97) ?E0).put (some 98) (.bool false)).put (some 99) (.bool false)) V):=by
            show ∀V,_;intro V g q f C R;refine aa.out _ _ _ _ ?_;rw[<-A.out]
            try simp only[zf]
            refine wD_ (by kernel_rfl) ?_ _;have aj:=zm ak f;clear aa T Z
            (try go_wp2_with fail)
            go_roundw
            case rel=>exact⟨b+1,by omega,by go_num,aj⟩
            case measure=>simp[intOf];omega
           have aL:Hid (∀(V:World) (g:Nat) (q:Nat),B_ t V->(zg V (some ⟨g,0,none⟩) 32 D)->(zg V (some ⟨q,0,none⟩) 32 D)->Z 2 #[true,true,true,true,true,true,true,true,true,true,true,true,true,true,true,true,true,true,true,true,true,true,true,true,true,true,true,true,true,true,true,true,true,true,true,false,false] ((((A0.put (some 85) (.slice (some ⟨g,0,none⟩) 32 32)).put (some 96) (.slice (some ⟨q,0,none⟩) 32 32)).put (some 86) ?E0).put (some 97) ?E0) V):=by
            show ∀V,_;intro V g q f C R;refine aa.out _ _ _ _ ?_;rw[<-A.out]
            try simp only[zf]
            refine zE 35 rfl (λK B=>?_);refine zgq (by rfl) 98 rfl (.bool false) V (by go_simp) ?_;refine B.out _ _ ⟨zr f u,zr f z,zr f I,zr f J,zr f L,zr f M,zr f N,(zdd G f),(zdd H f)⟩ (λl=>?_);simp only[zf];refine zU 36 99 (.bool false) rfl rfl l ?_;simp only[zf];clear l;have h:=aX.out V g q f C R;rw[<-A.out]at h
            (try simp only[zf]at h)
            (try simp only[zf])
            exact T.out _ _ _ _ h
           have aK:Hid (∀(V:World) (g:Nat) (q:Nat),B_ t V->(zg V (some ⟨g,0,none⟩) 32 D)->(zg V (some ⟨q,0,none⟩) 32 D)->Z 3 #[true,true,true,true,true,true,true,true,true,true,true,true,true,true,true,true,true,true,true,true,true,true,true,true,true,true,true,true,true,true,true,true,true,true,false,false,false] (((A0.put (some 85) (.slice (some ⟨g,0,none⟩) 32 32)).put (some 96) (.slice (some ⟨q,0,none⟩) 32 32)).put (some 86) ?E0) V):=by
            show ∀V,_;intro V g q f C R;refine aa.out _ _ _ _ ?_;rw[<-A.out]
            try simp only[zf]
            refine zE 34 rfl (λK B=>?_);have cv:=zd8 V (some ⟨q,0,none⟩) 32 32 D HL.out.symm R;refine zgq (by rfl) 97 rfl ?E0 V (by go_simp) ?_;refine B.out _ _ ⟨zr f u,zr f z,zr f I,zr f J,zr f L,zr f M,zr f N,(zdd G f),(zdd H f)⟩ (λl=>?_);clear l;have h:=aL.out V g q f C R;rw[<-A.out]at h
            (try simp only[zf]at h)
            (try simp only[zf])
            exact T.out _ _ _ _ h
           have aY:Hid (∀(V:World) (g:Nat) (q:Nat),B_ t V->(zg V (some ⟨g,0,none⟩) 32 D)->(zg V (some ⟨q,0,none⟩) 32 D)->Z 3 #[true,true,true,true,true,true,true,true,true,true,true,true,true,true,true,true,true,true,true,true,true,true,true,false,true,true,true,true,true,true,true,true,true,true,true,false,false] (((A0.put (some 85) (.slice (some ⟨g,0,none⟩) 32 32)).put (some 96) (.slice (some ⟨q,0,none⟩) 32 32)).put (some 97) ?E0) V):=by
            show ∀V,_;intro V g q f C R;refine aa.out _ _ _ _ ?_;rw[<-A.out]
            try simp only[zf]
            refine zE 23 rfl (λK B=>?_);have cv:=zd8 V (some ⟨g,0,none⟩) 32 32 D HL.out.symm C;refine zgq (by rfl) 86 rfl ?E0 V (by go_simp) ?_;refine B.out _ _ ⟨zr f u,zr f z,zr f I,zr f J,zr f L,zr f M,zr f N,(zdd G f),(zdd H f)⟩ (λl=>?_);clear l;have h:=aL.out V g q f C R;rw[<-A.out]at h
            (try simp only[zf]at h)
            (try simp only[zf])
            exact T.out _ _ _ _ h
           have aW:Hid (∀(V:World) (g:Nat) (q:Nat),B_ t V->(zg V (some ⟨g,0,none⟩) 32 D)->(zg V (some ⟨q,0,none⟩) 32 D)->Z 4 #[true,true,true,true,true,true,true,true,true,true,true,true,true,true,true,true,true,true,true,true,true,true,true,false,true,true,true,true,true,true,true,true,true,true,false,false,false] ((A0.put (some 85) (.slice (some ⟨g,0,none⟩) 32 32)).put (some 96) (.slice (some ⟨q,0,none⟩) 32 32)) V):=by
            show ∀V,_;intro V g q f C R;refine aa.out _ _ _ _ ?_;rw[<-A.out]
            try simp only[zf]
            refine wpAnyH_ready (rs:=[23,34]) (by kernel_rfl) (by simp) (AllReadyH.cons rfl (λK B=>?_) (AllReadyH.cons rfl (λK B=>?_) AllReadyH.nil));have cv:=zd8 V (some ⟨g,0,none⟩) 32 32 D HL.out.symm C;refine zgq (by rfl) 86 rfl ?E0 V (by go_simp) ?_
            rotate_left
            have cv:=zd8 V (some ⟨q,0,none⟩) 32 32 D HL.out.symm R;refine zgq (by rfl) 97 rfl ?E0 V (by go_simp) ?_
            rotate_left
            all_goals
             refine B.out _ _ ⟨zr f u,zr f z,zr f I,zr f J,zr f L,zr f M,zr f N,(zdd G f),(zdd H f)⟩ (λl=>?_);clear l
            have h:=aK.out V g q f C R
            rotate_left
            have h:=aY.out V g q f C R
            rotate_left
            all_goals
             rw[<-A.out]at h
             (try simp only[zf]at h)
             (try simp only[zf])
             exact T.out _ _ _ _ h
           have aZ:Hid (∀(V:World) (g:Nat),B_ t V->(zg V (some ⟨g,0,none⟩) 32 D)->Z 4 #[true,true,true,true,true,true,true,true,true,true,true,true,true,true,true,true,true,true,true,true,true,true,true,true,true,true,true,true,true,true,true,true,true,false,false,false,false] ((A0.put (some 85) (.slice (some ⟨g,0,none⟩) 32 32)).put (some 86) ?E0) V):=by
            show ∀V,_;intro V g f C;refine aa.out _ _ _ _ ?_;rw[<-A.out]
            try simp only[zf]
            refine zE 33 rfl (λK B=>?_);refine zaJ (by rfl) 96 rfl 21 [.tmp 95] #[64] rfl [.agg (crow_ d)] rfl (eO_ func21) (λv w'=>(∃b,v=.slice (some ⟨b,0,none⟩) 32 32/\zg w' (some ⟨b,0,none⟩) 32 D)/\B_ V w') ((aA.out V f).mono (λe w2 h=>by obtain⟨b,he,h1,h2⟩:=h;exact⟨_,he,⟨b,rfl,h2⟩,h1⟩)) ?_;rintro v W'⟨⟨q,rfl,av⟩,r⟩;have m:=zm f r;refine B.out _ _ ⟨zr m u,zr m z,zr m I,zr m J,zr m L,zr m M,zr m N,(zdd G m),(zdd H m)⟩ (λl=>?_);clear l;have h:=aK.out W' g q m (C.below r) av;rw[<-A.out]at h
            (try simp only[zf]at h)
            (try simp only[zf])
            exact T.out _ _ _ _ h
           have aV:Hid (∀(V:World) (g:Nat),B_ t V->(zg V (some ⟨g,0,none⟩) 32 D)->Z 5 #[true,true,true,true,true,true,true,true,true,true,true,true,true,true,true,true,true,true,true,true,true,true,true,false,true,true,true,true,true,true,true,true,true,false,false,false,false] (A0.put (some 85) (.slice (some ⟨g,0,none⟩) 32 32)) V):=by
            show ∀V,_;intro V g f C;refine aa.out _ _ _ _ ?_;rw[<-A.out]
            try simp only[zf]
            refine wpAnyH_ready (rs:=[23,33]) (by kernel_rfl) (by simp) (AllReadyH.cons rfl (λK B=>?_) (AllReadyH.cons rfl (λK B=>?_) AllReadyH.nil));have cv:=zd8 V (some ⟨g,0,none⟩) 32 32 D HL.out.symm C;refine zgq (by rfl) 86 rfl ?E0 V (by go_simp) ?_;refine B.out _ _ ⟨zr f u,zr f z,zr f I,zr f J,zr f L,zr f M,zr f N,(zdd G f),(zdd H f)⟩ (λl=>?_);clear l;have h:=aZ.out V g f C
            rotate_left
            refine zaJ (by rfl) 96 rfl 21 [.tmp 95] #[64] rfl [.agg (crow_ d)] rfl (eO_ func21) (λv w'=>(∃b,v=.slice (some ⟨b,0,none⟩) 32 32/\zg w' (some ⟨b,0,none⟩) 32 D)/\B_ V w') ((aA.out V f).mono (λe w2 h=>by obtain⟨b,he,h1,h2⟩:=h;exact⟨_,he,⟨b,rfl,h2⟩,h1⟩)) ?_;rintro v W'⟨⟨q,rfl,av⟩,r⟩;have m:=zm f r;refine B.out _ _ ⟨zr m u,zr m z,zr m I,zr m J,zr m L,zr m M,zr m N,(zdd G m),(zdd H m)⟩ (λl=>?_);clear l;have h:=aW.out W' g q m (C.below r) av
            rotate_left
            all_goals
             rw[<-A.out]at h
             (try simp only[zf]at h)
             (try simp only[zf])
             exact T.out _ _ _ _ h
           have aU:Hid (∀(V:World),B_ t V->Z 6 #[true,true,true,true,true,true,true,true,true,true,true,true,true,true,true,true,true,true,true,true,true,true,false,false,true,true,true,true,true,true,true,true,true,false,false,false,false] A0 V):=by
            show ∀V,_;intro V  f;refine aa.out _ _ _ _ ?_;rw[<-A.out]
            try dsimp only
            refine zE 22 rfl (λK B=>?_);refine zaJ (by rfl) 85 rfl 21 [.tmp 84] #[64] rfl [.agg (crow_ c)] rfl (eO_ func21) (λv w'=>(∃b,v=.slice (some ⟨b,0,none⟩) 32 32/\zg w' (some ⟨b,0,none⟩) 32 D)/\B_ V w') ((aM.out V f).mono (λe w2 h=>by obtain⟨b,he,h1,h2⟩:=h;exact⟨_,he,⟨b,rfl,h2⟩,h1⟩)) ?_;rintro v W'⟨⟨g,rfl,a0⟩,r⟩;have m:=zm f r;refine B.out _ _ ⟨zr m u,zr m z,zr m I,zr m J,zr m L,zr m M,zr m N,(zdd G m),(zdd H m)⟩ (λl=>?_);clear l;have h:=aV.out W' g m a0;rw[<-A.out]at h
            (try simp only[zf]at h)
            (try simp only[zf])
            exact T.out _ _ _ _ h
           exact aU.out V0 p
          .have e3:(c.au == d.au)=true:=by simpa using e1
           have e4:(c.rd == d.rd)=false:=by simpa using e2
           clear ad af ag ah;have p:=dB_ t;refine wR_ (S:=λw'=>w'.cell? ⟨w.heap.size,0,none⟩=some ?A0/\w'.cell? ⟨s,i*6+2,none⟩=some ?C0/\w'.cell? ⟨s,k*6+2,none⟩=some ?D0/\w'.cell? ⟨X,0,none⟩=some (I_ c.au)/\w'.cell? ⟨X,1,none⟩=some (I_ c.rd)/\w'.cell? ⟨Y,0,none⟩=some (I_ d.au)/\w'.cell? ⟨Y,1,none⟩=some (I_ d.rd)/\w'.rangeAt E (a*5) c.cs/\w'.rangeAt F (b*5) d.cs) (by kernel_rfl) ⟨zr p u,zr p z,zr p I,zr p J,zr p L,zr p M,zr p N,zde G,zde H⟩ (λl=>?_);generalize t.drew=V0 at p l|-;refine tks_ 24 [(0,63,(P_ X 0)),(1,64,I_ c.au),(2,65,(P_ Y 0)),(3,66,I_ d.au),(4,67,.bool true),(5,68,.bool true),(6,69,(P_ X 1)),(7,70,I_ c.rd),(8,71,(P_ Y 1)),(9,72,I_ d.rd),(10,73,.bool false),(11,74,.bool false),(12,75,.bool false),(13,76,undef),(14,77,undef),(15,78,undef),(16,79,undef),(17,80,undef),(18,81,undef),(19,82,undef),(20,83,undef),(21,84,undef),(22,85,undef),(23,86,undef)] l ?_;simp only[tkf_,zf];refine tks_ 13 [(24,87,undef),(25,88,undef),(26,89,undef),(27,90,undef),(28,91,undef),(29,92,undef),(30,93,undef),(31,94,undef),(32,95,undef),(33,96,undef),(34,97,undef),(35,98,undef),(36,99,.bool false)] l ?_;simp only[tkf_,zf];refine wD_ (by kernel_rfl) ?_ _;have aj:=zm ak p;clear l
           (try go_wp2_with fail)
           go_roundw
           case rel=>exact⟨b+1,by omega,by go_num,aj⟩
           case measure=>simp[intOf];omega
         .have e3:(c.au == d.au)=false:=by simpa using e1
          clear ad af ag ah;have p:=dB_ t;refine wR_ (S:=λw'=>w'.cell? ⟨w.heap.size,0,none⟩=some ?A0/\w'.cell? ⟨s,i*6+2,none⟩=some ?C0/\w'.cell? ⟨s,k*6+2,none⟩=some ?D0/\w'.cell? ⟨X,0,none⟩=some (I_ c.au)/\w'.cell? ⟨X,1,none⟩=some (I_ c.rd)/\w'.cell? ⟨Y,0,none⟩=some (I_ d.au)/\w'.cell? ⟨Y,1,none⟩=some (I_ d.rd)/\w'.rangeAt E (a*5) c.cs/\w'.rangeAt F (b*5) d.cs) (by kernel_rfl) ⟨zr p u,zr p z,zr p I,zr p J,zr p L,zr p M,zr p N,zde G,zde H⟩ (λl=>?_);generalize t.drew=V0 at p l|-;refine tks_ 24 [(0,63,(P_ X 0)),(1,64,I_ c.au),(2,65,(P_ Y 0)),(3,66,I_ d.au),(4,67,.bool false),(5,68,.bool false),(6,69,undef),(7,70,undef),(8,71,undef),(9,72,undef),(10,73,undef),(11,74,.bool false),(12,75,.bool false),(13,76,undef),(14,77,undef),(15,78,undef),(16,79,undef),(17,80,undef),(18,81,undef),(19,82,undef),(20,83,undef),(21,84,undef),(22,85,undef),(23,86,undef)] l ?_;simp only[tkf_,zf];refine tks_ 13 [(24,87,undef),(25,88,undef),(26,89,undef),(27,90,undef),(28,91,undef),(29,92,undef),(30,93,undef),(31,94,undef),(32,95,undef),(33,96,undef),(34,97,undef),(35,98,undef),(36,99,.bool false)] l ?_;simp only[tkf_,zf];refine wD_ (by kernel_rfl) ?_ _;have aj:=zm ak p;clear l
          (try go_wp2_with fail)
          go_roundw
          case rel=>exact⟨b+1,by omega,by go_num,aj⟩
          case measure=>simp[intOf];omega
        .obtain rfl:b=y.ls.length:=by omega
         have aP:¬(y.ls.length:Int)<y.ls.length:=by omega
         clear hby aO U;go_wp2_with fail
         go_roundw
         case rel=>exact⟨a+1,by omega,by go_num,r⟩
         case measure=>simp[intOf];omega
      .obtain rfl:a=x.ls.length:=by omega
       have aN:¬(x.ls.length:Int)<x.ls.length:=by omega
       clear hax ha;go_wp2_with fail
       go_roundw
       case rel=>exact⟨k+1,by omega,by go_num,r⟩
       case measure=>simp[intOf];omega
    .obtain rfl:k=i+1:=by omega
     have aQ:¬((i+1:Nat):Int)<=i:=by omega
     clear hki hk;go_wp2_with fail
     go_roundw
     case rel=>exact⟨i+1,by omega,by go_num,r⟩
     case measure=>simp[intOf];omega
  .obtain rfl:i=4:=by omega
   have aR:¬((4:Nat):Int)<4:=by omega
   clear hlt hi;go_wp2_with fail
   go_ret;exact⟨rfl,O.trans (r.mono O.size)⟩
end Go.Proofs.YtdnaljbnebnlhaaGreatDoor
