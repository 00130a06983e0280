import Derived.Test.YtdepbohhmfkjgaaGreatDoorPk37
set_option maxRecDepth 100000
set_option maxHeartbeats 4000000
namespace Go.Proofs.YtdepbohhmfkjgaaGreatDoor
open Go.RowKit _root_.Go.Proofs.Tryz
variable {i:Int}{g:Fl}
theorem Fl.run_cons (f:Fl)(a:Ac)(l:List Ac):f.run (a::l)=(f.does a).run l:=rfl
theorem zfZ {f:Fl}{a:Ac}(h:a.k=8):f.does a=f.start a.i:=by
 rw[Fl.does,Fl.act,if_neg (by omega),if_neg (by omega),if_neg (by omega),if_neg (by omega),if_pos h]
theorem zgB {f:Fl}{a:Ac}(h:a.k=3):f.does a=if f.runs a.i then f.sync a.i else f:=by
 rw[Fl.does,Fl.act,if_neg (by omega),if_neg (by omega),if_neg (by omega),if_neg (by omega),if_neg (by omega),if_pos (by omega),if_neg (show ¬a.k=2 by omega),if_pos h]
theorem zjg {f:Fl}{a:Ac}(h:a.k=7):f.does a=if f.runs a.i then f.set a.i ((f.node a.i).crash a.p)else f:=by
 rw[Fl.does,Fl.act,if_neg (by omega),if_neg (by omega),if_neg (by omega),if_neg (by omega),if_neg (by omega),if_pos (by omega),if_neg (show ¬a.k=2 by omega),if_neg (show ¬a.k=3 by omega)]
def Ac.ok (a:Ac):Prop:=1<=a.k/\a.k<=10/\0<=a.i/\a.i<4/\0<=a.p/\a.p<=400000
theorem zau (f:Fl)(i:Int)(n:Nd):(f.set i n).nd.length=f.nd.length:=by simp[Fl.set]
theorem set_here {f:Fl}(n:Nd)(b:f.nd.length=4)(c:0<=i/\i<4):(f.set i n).node i=n:=by
 have:i.toNat<f.nd.length:=by omega
 simp[Fl.set,Fl.node,List.getD,this]
theorem set_there {f:Fl}{j:Int}(n:Nd)(b:0<=i)(c:0<=j)(d:j≠i):(f.set i n).node j=f.node j:=by
 have:i.toNat≠j.toNat:=by omega
 simp[Fl.set,Fl.node,List.getD,this]
theorem zdO (l:List MC)(f:Fl):(l.foldl Fl.out f).nd=f.nd:=by
 induction l generalizing f with
 | nil=>rfl
 | cons m l ih=>rw[List.foldl_cons,ih];rfl
theorem zhv (o:No)(m:MC):(o.sign m).bad=o.bad:=by
 unfold No.sign
 split
 .split<;>rfl
 .split<;>rfl
theorem zha (l:List MC)(f:Fl):(l.foldl Fl.out f).no.bad=f.no.bad:=by
 induction l generalizing f with
 | nil=>rfl
 | cons m l ih=>rw[List.foldl_cons,ih];exact zhv _ _
theorem zev {f:Fl}(h:f.nd=g.nd)(i:Int):f.node i=g.node i:=by rw[Fl.node,Fl.node,h]
theorem zcj (f:Fl)(i:Int)(m:MC):(f.come i m).away=f.away:=by unfold Fl.come;split<;>rfl
theorem zew (f:Fl)(i:Int)(m:MC):(f.come i m).no=f.no:=by unfold Fl.come;split<;>rfl
theorem zca (f:Fl)(i:Int)(m:MC):(f.come i m).nd.length=f.nd.length:=by unfold Fl.come;split;exact zau _ _ _;rfl
theorem zlo (l:List MC)(f:Fl):(comes f l).no=f.no:=by
 induction l generalizing f with
 | nil=>rfl
 | cons m l ih=>exact(ih _).trans (zew _ _ _)
theorem zej (l:List MC)(f:Fl):(comes f l).away=f.away:=by
 induction l generalizing f with
 | nil=>rfl
 | cons m l ih=>exact(ih _).trans (zcj _ _ _)
theorem zeT (l:List MC)(f:Fl):(comes f l).nd.length=f.nd.length:=by
 induction l generalizing f with
 | nil=>rfl
 | cons m l ih=>exact(ih _).trans (zca _ _ _)
theorem zfs (f:Fl)(a:Ac):(f.does a).nd.length=f.nd.length:=by
 unfold Fl.does Fl.act
 split
 .unfold Fl.pick
  split
  .rfl
  .split
   .rfl
   .split
    .exact zca _ _ _
    .rfl
 .split
  .exact zeT _ _
  .split
   .unfold Fl.submit
    split
    .rfl
    .split
     .exact zau _ _ _
     .rfl
   .split
    .exact zcq (P:=λg=>g.nd.length=f.nd.length) _ _ rfl (λm=>zca _ _ _)
    .split
     .unfold Fl.start
      split
      .rfl
      .exact zau _ _ _
     .split
      .split
       .split
        .exact zau _ _ _
        .split
         .unfold Fl.sync;rw[zdO];exact zau _ _ _
         .exact zau _ _ _
       .rfl
      .rfl
theorem zgk (l:List Ac)(f:Fl):(f.run l).nd.length=f.nd.length:=by
 induction l generalizing f with
 | nil=>rfl
 | cons a l ih=>rw[Fl.run_cons,ih,zfs]
theorem zdQ (f:Fl)(a:Ac):(f.does a).no.bad=f.no.bad:=by
 unfold Fl.does Fl.act
 split
 .unfold Fl.pick
  split
  .rfl
  .split
   .rfl
   .split
    .rw[zew]
    .rfl
 .split
  .rw[zfw,zlo]
  .split
   .unfold Fl.submit
    split
    .rfl
    .split<;>rfl
   .split
    .exact zcq (P:=λg=>g.no.bad=f.no.bad) _ _ rfl (λm=>by rw[zew])
    .split
     .unfold Fl.start
      split<;>rfl
     .split
      .split
       .split
        .rfl
        .split
         .unfold Fl.sync;rw[zha];rfl
         .rfl
       .rfl
      .rfl
theorem zxU (l:List Ac)(f:Fl):(f.run l).no.bad=f.no.bad:=by
 induction l generalizing f with
 | nil=>rfl
 | cons a l ih=>rw[Fl.run_cons,ih,zdQ]
theorem zhS {f:Fl}{j:Int}(c:f.nd.length=4)(b:0<=i/\i<4)(d:0<=j/\j<4):(f.sync i).node j=if j=i then { f.node i with wai:=[],syn:=(zae (f.node i).recs).length } else f.node j:=by
 rw[Fl.sync,zev (zdO _ _)]
 split
 .rename_i e;subst e;exact set_here _ c b
 .rename_i e;exact set_there _ b.1 d.1 e
theorem zlm (f:Fl)(i:Int):(f.sync i).no.bad=f.no.bad:=by rw[Fl.sync,zha];rfl
theorem zln (f:Fl)(i:Int):(f.sync i).nd.length=f.nd.length:=by rw[Fl.sync,zdO];exact zau _ _ _
variable {k:Nat}{t:ByteArray}
theorem zbP.up {o:No}{a b:Nd}(s:zbP o a b):b.up=a.up:=by
 rcases s with⟨d,m,c,_,rfl⟩|⟨b,_,_,rfl⟩|⟨_,_,rfl⟩|⟨_,_,rfl⟩|⟨_,_,_,_,_,rfl⟩|⟨_,_,_,_,rfl⟩|⟨_,_,rfl⟩|⟨_,rfl⟩
 .unfold Nd.send;split<;>rfl
 all_goals rfl
theorem zdq {Q:Nd->Prop}{o:No}{a b:Nd}(h:∀x y,x.up=true->zbP o x y->Q x->Q y)(s:zad o a b)(g:a.up=true)(f:Q a):Q b:=
 (zad.keeps (P:=λn=>n.up=true/\Q n) (λx y d c=>⟨(zbP.up d).trans c.1,h x y c.1 d c.2⟩) s ⟨g,f⟩).2
theorem zfC {f:Fl}(h:f.runs i=true):(f.node i).up=true:=by
 unfold Fl.runs at h;rw[Bool.and_eq_true]at h;exact h.2
structure zc5 (S:ByteArray->Prop)(Q:Int->Nd->Prop):Prop where
 step:∀i o a b,0<=i/\i<4->a.up=true->zbP o a b->Q i a->Q i b
 crash:∀i n p,0<=i/\i<4->0<=p->Q i n->Q i (n.crash p)
 up:∀i n,0<=i/\i<4->Q i n->Q i { n with up:=true }
 synced:∀i n,0<=i/\i<4->Q i n->Q i { n with wai:=[],syn:=(zae n.recs).length }
 sub:∀i n t,0<=i/\i<4->S t->zcD n.nx n.txs t=0->Q i n->Q i { n with txs:=n.txs++[t] }
def zah (Q:Int->Nd->Prop)(f:Fl):Prop:=f.nd.length=4/\∀i,0<=i/\i<4->Q i (f.node i)
theorem zah.set {Q:Int->Nd->Prop}{f:Fl}(h:zah Q f){i:Int}(c:0<=i/\i<4){n:Nd}(d:Q i n):zah Q (f.set i n):=by
 refine⟨(zau _ _ _).trans h.1,λj b=>?_⟩;by_cases e:j=i
 .subst e;rw[set_here n h.1 b];exact d
 .rw[set_there n c.1 b.1 e];exact h.2 j b
theorem zah.nd {Q:Int->Nd->Prop}{f:Fl}(h:zah Q f)(e:g.nd=f.nd):zah Q g:=⟨by rw[e];exact h.1,λj b=>by rw[zev e];exact h.2 j b⟩
def MC.post (m:MC):Prop:=(0<=m.fr/\m.fr<4)/\0<=m.tt/\m.tt<4
theorem zah.come {S:ByteArray->Prop}{Q:Int->Nd->Prop}(k:zc5 S Q){f:Fl}(h:zah Q f){i:Int}(c:0<=i/\i<4){m:MC}(d:0<=m.fr/\m.fr<4):zah Q (f.come i m):=by
 unfold Fl.come
 split
 .rename_i g
  exact h.set c (zdq (λa b u s=>k.step i f.no a b c u s) (zfT f.no (f.node i) m d) (zfC g) (h.2 i c))
 .exact h
theorem zah.comes {S:ByteArray->Prop}{Q:Int->Nd->Prop}(k:zc5 S Q)(l:List MC){f:Fl}(h:zah Q f)(b:∀m∈l,m.post):zah Q (comes f l):=by
 induction l generalizing f with
 | nil=>exact h
 | cons m l ih=>exact ih (h.come k (b m (by simp)).2 (b m (by simp)).1) (λd c=>b d (List.mem_cons_of_mem _ c))
theorem zeU {l:List MC}(h:k<l.length):l.getD k MC.z∈l:=by simp[List.getD,h]
theorem zhw {m:MC}(h:zh2 t=some m):0<=m.fr/\m.fr<4:=by
 unfold zh2 at h
 split at h
 .rename_i e
  cases h;exact(zhI e.2).1
 .cases h
theorem zah.does {S:ByteArray->Prop}{Q:Int->Nd->Prop}(k:zc5 S Q){f:Fl}(h:zah Q f)(c:∀m∈f.away,m.post){a:Ac}(l:a.ok)(j:a.k=1->S a.t):zah Q (f.does a):=by
 obtain⟨_,_,o,p,t,_⟩:=l;have b:0<=a.i/\a.i<4:=⟨o,p⟩;unfold Fl.does Fl.act
 split
 .unfold Fl.pick
  split
  .exact h
  .rename_i B
   split
   .exact h.nd rfl
   .split
    .have d:=c _ (zeU (Nat.mod_lt a.p.toNat (show 0<f.away.length by omega)));exact zah.come k (h.nd (g:={ f with away:=f.away.eraseIdx (a.p.toNat % f.away.length) }) rfl) d.2 d.1
    .exact h.nd rfl
 .split
  .exact zah.comes k f.away (h.nd (g:={ f with away:=[] }) rfl) c
  .split
   .rename_i q
    unfold Fl.submit
    split
    .exact h.nd rfl
    .split
     .rename_i z;exact zah.nd (h.set b (k.sub a.i _ a.t b (j q) z (h.2 a.i b))) rfl
     .exact h.nd rfl
   .split
    .unfold Fl.forge
     split
     .rename_i m r
      split
      .exact h
      .exact zah.come k h b (zhw r)
     .exact h
    .split
     .unfold Fl.start
      split
      .exact h
      .exact h.set b (k.up a.i _ b (h.2 a.i b))
     .split
      .split
       .rename_i A
        split
        .exact h.set b (zdq (λx y u s=>k.step a.i f.no x y b u s) (zgV f.no (f.node a.i)) (zfC A) (h.2 a.i b))
        .split
         .exact zah.nd (h.set b (k.synced a.i _ b (h.2 a.i b))) (zdO _ _)
         .exact h.set b (k.crash a.i _ a.p b t (h.2 a.i b))
       .exact h
      .exact h
structure zeF (i:Int)(n:Nd):Prop where
 nu:n.nu=i
 fr:∀m∈n.wai,m.fr=i/\0<=m.tt/\m.tt<4
theorem zix {n:Nd}{d:Int}{m:MC}(h:zeF i n)(b:0<=d/\d<4):zeF i (n.send d m):=by
 unfold Nd.send
 split
 .exact h
 .refine⟨h.nu,λx c=>?_⟩;rcases List.mem_append.1 c with g|g
  .exact h.fr x g
  .rw[List.mem_singleton.1 g];exact⟨h.nu,b⟩
theorem zf0:zc5 (λ_=>True) zeF where
 step:=λi o a b j _ s h=>by
  rcases s with⟨d,m,g,_,rfl⟩|⟨b,_,_,rfl⟩|⟨_,_,rfl⟩|⟨_,_,rfl⟩|⟨_,_,_,_,_,rfl⟩|⟨_,_,_,_,rfl⟩|⟨_,_,rfl⟩|⟨_,rfl⟩
  .exact zix h g
  all_goals exact⟨h.nu,h.fr⟩
 crash:=λi n p _ _ h=>by
  obtain⟨a,_,c,_⟩:=zc8 n p
  exact⟨a.trans h.nu,λm f=>by rw[c]at f;cases f⟩
 up:=λi n _ h=>⟨h.nu,h.fr⟩
 synced:=λi n _ h=>⟨h.nu,λm f=>by cases f⟩
 sub:=λi n t _ _ _ h=>⟨h.nu,h.fr⟩
theorem zhx (l:List MC){f:Fl}(h:∀m∈f.away,m.post)(c:∀m∈l,m.post):∀m∈(l.foldl Fl.out f).away,m.post:=by
 induction l generalizing f with
 | nil=>exact h
 | cons x l ih=>
  refine ih (f:=f.out x) (λm b=>?_) (λm b=>c m (List.mem_cons_of_mem _ b));have b:m∈zct f.away x:=b;unfold zct at b
  split at b
  .rcases List.mem_append.1 b with g|g
   .exact h m g
   .rw[List.mem_singleton.1 g];exact c x (by simp)
  .exact h m b
structure zcn (f:Fl):Prop where
 posts:zah zeF f
 aw:∀m∈f.away,m.post
theorem zcn.does {f:Fl}(h:zcn f){a:Ac}(c:a.ok):zcn (f.does a):=by
 refine⟨h.posts.does zf0 h.aw c (λ_=>trivial),?_⟩;obtain⟨_,_,o,p,s,_⟩:=c;have d:0<=a.i/\a.i<4:=⟨o,p⟩;unfold Fl.does Fl.act
 split
 .unfold Fl.pick
  split
  .exact h.aw
  .rename_i r
   have q:=h.aw _ (zeU (Nat.mod_lt a.p.toNat (show 0<f.away.length by omega)))
   split
   .intro m b;have b:m∈zct f.away _:=b;unfold zct at b
    split at b
    .rcases List.mem_append.1 b with g|g
     .exact h.aw m g
     .rw[List.mem_singleton.1 g];exact q
    .exact h.aw m b
   .split
    .rw[zcj];intro m b;exact h.aw m (List.mem_of_mem_eraseIdx b)
    .intro m b;exact h.aw m (List.mem_of_mem_eraseIdx b)
 .split
  .rw[zfw,zej];intro m b;cases b
  .split
   .unfold Fl.submit
    split
    .exact h.aw
    .split<;>exact h.aw
   .split
    .exact zcq (P:=λg=>∀m∈g.away,m.post) _ _ h.aw (λm=>by rw[zcj];exact h.aw)
    .split
     .unfold Fl.start
      split<;>exact h.aw
     .split
      .split
       .split
        .exact h.aw
        .split
         .unfold Fl.sync;refine zhx _ h.aw (λm b=>?_);obtain⟨j,l⟩:=(h.posts.2 a.i d).fr m b;exact⟨by rw[j];exact d,l⟩
         .exact h.aw
       .exact h.aw
      .exact h.aw
theorem zf1 (r:Int)(i:Int)(b:0<=i/\i<4):(Fl.z r).node i={ Nd.z i with up:=true }:=by
 have:i=0\/i=1\/i=2\/i=3:=by omega
 rcases this with e|e|e|e<;>subst e<;>rfl
theorem zcn.z (r:Int):zcn (Fl.z r):=⟨⟨rfl,λi c=>by rw[zf1 r i c];exact⟨rfl,λm b=>by cases b⟩⟩,λm b=>by cases b⟩
theorem zah.run {S:ByteArray->Prop}{Q:Int->Nd->Prop}(k:zc5 S Q)(l:List Ac){f:Fl}(j:zcn f)(h:zah Q f)(d:∀a∈l,a.ok)(g:∀a∈l,a.k=1->S a.t):zah Q (f.run l):=by
 induction l generalizing f with
 | nil=>exact h
 | cons a l ih=>exact ih (j.does (d a (by simp))) (h.does k j.aw (d a (by simp)) (g a (by simp))) (λb c=>d b (List.mem_cons_of_mem _ c)) (λb c=>g b (List.mem_cons_of_mem _ c))
def zdf (_:Int)(n:Nd):Prop:=n.k=n.recs.foldl Kn.rcl Kn.z
theorem zmN {k:Kn}{b:BW}(h:zbG k.sh b=true):k.rcl (zed b)={ k with sh:=k.sh++[b] }:=by
 show(if zbG k.sh b=true then _ else _)=_;rw[if_pos h];rfl
theorem zmO {k:Kn}{h:CV}(d:h.vl=[])(c:h.hf=0)(b:(zaf k.tab h).2.2=0):k.rcl (zcl h)={ k with tab:=(zaf k.tab h).1,own:=h,slot:=h.slot }:=by
 have e:(zcl h).h=h:=by cases h;cases d;rfl
 show(if(zcl h).h.hf=0 then { k with own:=(zcl h).h,slot:=(zcl h).h.slot,tab:=if(zaf k.tab (zcl h).h).2.2=0 then(zaf k.tab (zcl h).h).1 else k.tab } else k)=_;rw[e,if_pos c,if_pos b]
theorem zmP (k:Kn)(s:SV):k.rcl (zcE s)={ k with tab:=k.tab++[s] }:=rfl
theorem zmQ {k:Kn}{c:CV}(h:za8 k.dag c=0):k.rcl (zdh c)={ k with dag:=k.dag++[c] }:=by
 show(if za8 k.dag c=0 then _ else _)=_;rw[if_pos h];rfl
theorem zdm {n:Nd}{m:MC}{k:Kn}(h:zdf i n)(e:n.k.rcl m=k):zdf i (n.log m k):=by
 show k=(n.recs++[m]).foldl Kn.rcl Kn.z;rw[List.foldl_append,<-h];exact e.symm
theorem zib:zc5 (λ_=>True) zdf where
 step:=λi o a b l _ s h=>by
  rcases s with⟨d,m,j,_,rfl⟩|⟨b,f,_,rfl⟩|⟨x,f,rfl⟩|⟨c,f,rfl⟩|⟨r,f,_,_,_,rfl⟩|⟨_,_,_,_,rfl⟩|⟨_,_,rfl⟩|⟨_,rfl⟩
  .unfold Nd.send;split<;>exact h
  .exact zdm h (zmN f)
  .refine zdm h ?_
   rw[zmP]
   rcases zgf f.cast with⟨g,_⟩|⟨g,_,_⟩
   .have:=f.more;rw[g]at this;omega
   .rw[g]
  .unfold Nd.proofs at f
   simp only[Bool.and_eq_true,decide_eq_true_eq]at f
   exact zdm h (zmQ f.1.1)
  .exact zdm h (zmO rfl (zgU f).2.1 f)
  all_goals exact h
 crash:=λi n p _ _ h=>by
  obtain⟨_,_,_,d,_,_,g,_⟩:=zc8 n p
  show(n.crash p).k=_
  rw[g,d]
 up:=λi n _ h=>h
 synced:=λi n _ h=>h
 sub:=λi n t _ _ _ h=>h
def zf2 (_:Int)(n:Nd):Prop:=n.up=false->n.syn=(zae n.recs).length
theorem zkc:zc5 (λ_=>True) zf2 where
 step:=λi o a b c u s h e=>by rw[zbP.up s,u]at e;cases e
 crash:=λi n p _ _ h _=>by
  obtain⟨_,_,_,d,e,_⟩:=zc8 n p
  rw[d,e]
 up:=λi n _ h e=>by cases e
 synced:=λi n _ h _=>rfl
 sub:=λi n t _ _ _ h=>h
variable {p:Int}
theorem zjh (l:List MC):zeo (zae l).length l=l:=by
 induction l with
 | nil=>rfl
 | cons m l ih=>
  have e:(zae (m::l)).length=m.onTape.length+(zae l).length:=by simp[zae]
  rw[zeo,if_pos (by omega),e,Nat.add_sub_cancel_left,ih]
theorem zlp {n:Nd}(h:n.syn=(zae n.recs).length){p:Int}(b:0<=p):n.kept p=n.recs:=by
 unfold Nd.kept;have e:zdT (zae n.recs).length n.syn p=(zae n.recs).length:=by
  rw[zdT,if_neg (by rw[h];omega)]
 rw[e,zjh]
theorem zmR {n:Nd}(c:n.k=n.recs.foldl Kn.rcl Kn.z)(h:n.syn=(zae n.recs).length){p:Int}(b:0<=p):(n.crash p).k=n.k:=by
 obtain⟨_,_,_,_,_,_,e,_⟩:=zc8 n p;rw[e,zlp h b,c]
theorem zgl (f:Fl)(i:Int):(f.start i).no=f.no:=by unfold Fl.start;split<;>rfl
theorem ze6 {f:Fl}(b:f.nd.length=4)(d:0<=i/\i<4)(c:i≠f.no.bad):(f.start i).node i={ f.node i with up:=true }:=by
 unfold Fl.start;rw[if_neg c,set_here _ b d]
theorem zkd (f:Fl)(i:Int):(f.start i).nd.length=f.nd.length:=by unfold Fl.start;split;rfl;exact zau _ _ _
def Fl.crashes (f:Fl)(i p:Int):Fl:=if f.runs i then f.set i ((f.node i).crash p)else f
theorem ziy {f:Fl}(h:i≠f.no.bad):f.runs i=(f.node i).up:=by unfold Fl.runs;simp[h]
theorem zuW {f:Fl}(d:f.nd.length=4)(b:0<=i/\i<4)(t:zdf i (f.node i))(r:0<=p)(q:i≠f.no.bad)(l:(f.node i).up=true) :
  ((f.sync i).node i).up=true/\((((f.sync i).crashes i p).start i).node i).up=true/\((((f.sync i).crashes i p).start i).node i).k=((f.sync i).node i).k/\((((f.sync i).crashes i p).start i).node i).txs=[]:=by
 have c:=zhS d b b;rw[if_pos rfl]at c;have g:(f.sync i).nd.length=4:=(zln f i).trans d;have j:i≠(f.sync i).no.bad:=by rw[zlm];exact q
 have s:(f.sync i).runs i=true:=by rw[ziy j,c];exact l
 have m:(f.sync i).crashes i p=(f.sync i).set i (((f.sync i).node i).crash p):=if_pos s;have o:((f.sync i).set i (((f.sync i).node i).crash p)).nd.length=4:=(zau _ _ _).trans g;rw[m,ze6 o b j,set_here _ g b];refine⟨by rw[c];exact l,rfl,?_,?_⟩
 .show(((f.sync i).node i).crash p).k=_;rw[c];exact zmR (n:={ f.node i with wai:=[],syn:=(zae (f.node i).recs).length }) t rfl r
 .exact(zc8 _ _).2.2.2.2.2.1
theorem zhy {a:AV}(h:a.e=0):a.ac.ok:=by
 obtain⟨b,c,d,_⟩:=zn3 h;exact⟨b.1,b.2,c.1,c.2,d.1,d.2⟩
theorem ziz {l:List AV}(h:∀a∈l,a.e=0/\a.t.size<=4000):∀x∈l.map AV.ac,x.ok:=λx c=>by
 obtain⟨a,b,rfl⟩:=List.mem_map.1 c
 exact zhy (h a b).1
theorem zjf (r:Int)(l:List Ac):((Fl.z r).run l).nd.length=4:=(zgk l _).trans rfl
theorem zsR (r:Int)(l:List Ac):((Fl.z r).run l).no.bad=r:=zxU l _
theorem zpH (r:Int)(l:List Ac)(c:∀a∈l,a.ok)(i:Int)(b:0<=i/\i<4):zdf i (((Fl.z r).run l).node i)/\zf2 i (((Fl.z r).run l).node i):=by
 have d:zah zdf (Fl.z r):=⟨rfl,λi b=>by rw[zf1 r i b];rfl⟩;have f:zah zf2 (Fl.z r):=⟨rfl,λi b=>by rw[zf1 r i b];intro e;cases e⟩;exact⟨(zah.run zib l (zcn.z r) d c (λ_ _ _=>trivial)).2 i b,(zah.run zkc l (zcn.z r) f c (λ_ _ _=>trivial)).2 i b⟩
theorem zg3 {f:Fl}(t:ByteArray):f.does ⟨7,i,p,t⟩=f.crashes i p:=by rw[zjg rfl];rfl
theorem ze7 {f:Fl}(t:ByteArray):f.does ⟨8,i,0,t⟩=f.start i:=zfZ rfl
theorem zwC {f:Fl}(o:f.nd.length=4)(r:0<=i/\i<4)(E:zdf i (f.node i))(d:i≠f.no.bad)(t:ByteArray) :
  (((f.does ⟨8,i,0,t⟩).does ⟨3,i,0,t⟩).view i).up=true/\((((((f.does ⟨8,i,0,t⟩).does ⟨3,i,0,t⟩).does ⟨7,i,0,t⟩).does ⟨8,i,0,t⟩).view i)).up=true/\zcx (((f.does ⟨8,i,0,t⟩).does ⟨3,i,0,t⟩).view i) ((((((f.does ⟨8,i,0,t⟩).does ⟨3,i,0,t⟩).does ⟨7,i,0,t⟩).does ⟨8,i,0,t⟩).view i))/\((((((f.does ⟨8,i,0,t⟩).does ⟨3,i,0,t⟩).does ⟨7,i,0,t⟩).does ⟨8,i,0,t⟩).view i)).tx=[]:=by
 have c:∀(g:Fl) (a:Ac),(g.does a).no.bad=g.no.bad:=λg a=>zdQ g a;have l:(((((f.does ⟨8,i,0,t⟩).does ⟨3,i,0,t⟩).does ⟨7,i,0,t⟩).does ⟨8,i,0,t⟩)).no.bad=((f.does ⟨8,i,0,t⟩).does ⟨3,i,0,t⟩).no.bad:=by rw[c,c]
 have j:((f.does ⟨8,i,0,t⟩).does ⟨3,i,0,t⟩).no.bad=f.no.bad:=by rw[c,c]
 have C:(f.start i).nd.length=4:=(zkd f i).trans o;have s:=ze6 o r d;have q:i≠(f.start i).no.bad:=by rw[zgl];exact d
 have u:((f.start i).node i).up=true:=by rw[s]
 have D:(f.start i).runs i=true:=by rw[ziy q,u]
 have m:(f.start i).does ⟨3,i,0,t⟩=(f.start i).sync i:=by rw[zgB rfl];exact if_pos D
 rw[ze7 (f:=f),m,zg3,ze7]at l|-;rw[ze7 (f:=f),m]at j;have F:zdf i ((f.start i).node i):=by rw[s];exact E
 obtain⟨z,A,b,B⟩:=zuW (p:=0) C r F (Int.le_refl _) q u;have y:∀g:Fl,g.no.bad=f.no.bad->g.view i=⟨(g.node i).up,zdi (g.node i).k.dag,(g.node i).k.dag,(g.node i).k.sh,(g.node i).k.tab,(g.node i).txs⟩:=λg e=>if_neg (by rw[e];exact d);rw[y _ j,y _ (l.trans j)];exact⟨z,A,⟨by simp only[b],by simp only[b],by simp only[b],by simp only[b]⟩,B⟩
theorem zpI {f:Fl}(h:i=f.no.bad):(f.view i).up=false:=by
 unfold Fl.view;rw[if_pos h]
 rfl
theorem topKept_walk (sa:Option Addr)(aw:Nat)(rs:List Ft)(n:Int)(C:Int)(w:World)(b7:zfn w sa rs)(_hc_rs:rs.length<=aw)(n1:-9223372036854775808<=n)(n2:n<=9223372036854775807)(bS:-9223372036854775808<=C)(bT:C<=9223372036854775807)(hT:zcw w/\za2 w) :
  Calls prog 3 #[.slice sa rs.length aw,I_ n,I_ C] w λe w'=>e=.returned (.bool true)/\B_ w w':=by
 have Z:Hid (∀W:World,B_ w W->zcw W/\za2 W):=λW hW=>⟨hT.1.below hW hT.1.lt,hT.2.below hW⟩;clear hT;obtain⟨cc,cd⟩:=zW n 5 (by decide);have aq:=zg9 n w n1 n2;obtain⟨b,bA⟩:∃b,b=pk n 5-1:=⟨_,rfl⟩;have bB:-1<=b/\b<=3:=by omega
 rw[<-bA]at aq;clear bA cc cd n1 n2;obtain⟨bY,bZ⟩:=zW C 4 (by decide);obtain⟨I,hI⟩:∃k:Nat,pk C 4=k:=⟨(pk C 4).toNat,by omega⟩;have HI:Hid (∀W:World,Calls prog 10 #[I_ C,I_ 4] W λe w'=>e=.returned (I_ (I:Int))/\W=w'):=λW=>by rw[<-hI];exact zbI C 4 W bS bT (by decide) (by decide)
 have D:I<4:=by omega
 clear hI bY bZ bS bT;go_in;go_wp2_with fail
 refine aq.mono ?_;rintro _ w0⟨rfl,rfl⟩;dsimp only;clear aq;go_wp2_with fail
 refine(HI.out _).mono ?_;rintro _ w0⟨rfl,rfl⟩;dsimp only;go_wp2_with fail
 refine(zeu rs sa _ aw 60 w rfl b7 (by decide)).mono ?_;rintro e am⟨v,l,j,t,hl,ck,g⟩;subst j;dsimp only;obtain⟨aa,ac,V,bE,bF⟩:=zbd t hl;subst V;have aS:Hid _:=hl;have bU:Hid _:=bF;clear t hl bF;have aX:=g;clear g;refine kO_ ?E0 ?_;exact Obj.cells #[I_ 8,I_ I,I_ 0,.string ⟨#[]⟩,I_ 3,I_ I,I_ 0,.string ⟨#[]⟩] 29;have ae:=zC am ?E0;have aj:=hN_ am ?E0;go_wp2_with fail
 generalize am.alloc ?E0=aV at ae aj|-;generalize am.heap.size=aR at aj|-;have aD:∀a∈[(⟨8,I,0,⟨#[]⟩⟩:AV),(⟨3,I,0,⟨#[]⟩⟩:AV)],a.e=0/\a.t.size<=4000:=by
  intro a z;simp only[List.mem_cons,List.not_mem_nil,or_false]at z;rcases z with e|e
  all_goals subst e;exact⟨zaL _ _ _ _ (by decide) (by omega) (by decide) (by decide) (λh=>by cases h) (λ_=>rfl) (λ_=>rfl),(by show ByteArray.size ⟨#[]⟩<=4000;decide)⟩
 have ba:=zm aX ae;have ay:=bE.below ae;clear aX bE;have bG:zbq aV (some ⟨aR,0,none⟩) [(⟨8,I,0,⟨#[]⟩⟩:AV),(⟨3,I,0,⟨#[]⟩⟩:AV)]:=zdw aj aD;have U:=zcZ l [(⟨8,I,0,⟨#[]⟩⟩:AV),(⟨3,I,0,⟨#[]⟩⟩:AV)] aa _ ac (some ⟨aR,0,none⟩) 2 2 aV rfl rfl ay bG bU.out (λe=>by cases e) (by simp;omega);refine U.mono ?_;rintro e aO⟨v,j,t,g⟩;subst j;dsimp only;clear U bG aj ae;have ab:Hid _:=zc9 aS.out aD;clear aD;obtain⟨m,A⟩:∃z9,z9=l++[(⟨8,I,0,⟨#[]⟩⟩:AV),(⟨3,I,0,⟨#[]⟩⟩:AV)]:=⟨_,rfl⟩;rw[<-A]at t ab;have au:Hid (m.length=l.length+2/\m=l++[(⟨8,I,0,⟨#[]⟩⟩:AV),(⟨3,I,0,⟨#[]⟩⟩:AV)]):=⟨by rw[A];simp,A⟩;clear A;obtain⟨ma,mc,V,aB,bI⟩:=zbd t ab.out;subst V;have bV:Hid _:=bI;have cl:m.length<=62:=by have:=au.out.1;omega
 clear t bI;have af:=zm ba g;have bb:=ay.below g;clear ba ay;clear g;have T:=zc4 b bB m ma _ mc aO rfl (by omega) aB (λa z=>(ab.out a z).1) (Z.out aO af).1 (Z.out aO af).2;go_wp2_with fail
 refine T.mono ?_;rintro e an⟨x,j,bK,bL,cn,g⟩;subst j;dsimp only;clear T;have bW:Hid _:=bL;clear bL;have aW:=zm af g;have bc:=bb.below g;have bd:=aB.below g;clear af bb aB;clear g;refine kO_ ?C0 ?_;exact Obj.cells #[.slice x.na 4 x.nc,.slice x.ga x.gs.length x.gc,I_ x.aw,.slice x.ca x.cs.length x.cc] 34;have O:=zC an ?C0;have ah:=hN_ an ?C0;go_upto_region 5 with fail
 generalize an.alloc ?C0=ad at O ah|-;generalize an.heap.size=Bx at ah|-;have aY:=zm aW O;have bs:=bK.below O;have be:=bc.below O;have bf:=bd.below O;clear aW bK bc bd;clear O;refine kO_ ?F0 ?_;exact Obj.cells #[I_ 7,I_ I,I_ 0,.string ⟨#[]⟩,I_ 8,I_ I,I_ 0,.string ⟨#[]⟩] 29;have G:=zC ad ?F0;have ai:=hN_ ad ?F0;go_wp2_with fail
 generalize ad.alloc ?F0=aU at G ai|-;generalize ad.heap.size=aQ at ai|-;have aC:∀a∈[(⟨7,I,0,⟨#[]⟩⟩:AV),(⟨8,I,0,⟨#[]⟩⟩:AV)],a.e=0/\a.t.size<=4000:=by
  intro a z;simp only[List.mem_cons,List.not_mem_nil,or_false]at z;rcases z with e|e
  .subst e;exact⟨zaL _ _ _ _ (by decide) (by omega) (by decide) (by decide) (λh=>by cases h) (λh=>by cases h) (λ_=>rfl),(by show ByteArray.size ⟨#[]⟩<=4000;decide)⟩
  .subst e;exact⟨zaL _ _ _ _ (by decide) (by omega) (by decide) (by decide) (λh=>by cases h) (λ_=>rfl) (λ_=>rfl),(by show ByteArray.size ⟨#[]⟩<=4000;decide)⟩
 have aZ:=zm aY G;have bt:=bs.below G;have bg:=be.below G;have ax:=bf.below G;have bO:=zk G ah;clear aY bs be bf ah;have bH:zbq aU (some ⟨aQ,0,none⟩) [(⟨7,I,0,⟨#[]⟩⟩:AV),(⟨8,I,0,⟨#[]⟩⟩:AV)]:=zdw ai aC;have U:=zcZ m [(⟨7,I,0,⟨#[]⟩⟩:AV),(⟨8,I,0,⟨#[]⟩⟩:AV)] ma _ mc (some ⟨aQ,0,none⟩) 2 2 aU rfl rfl ax bH bV.out (λe=>by cases e) (by simp;omega);refine U.mono ?_;rintro e aP⟨v,j,t,g⟩;subst j;dsimp only;clear U bH ai G;have av:Hid _:=zc9 ab.out aC;clear aC;obtain⟨q,A⟩:∃z9,z9=m++[(⟨7,I,0,⟨#[]⟩⟩:AV),(⟨8,I,0,⟨#[]⟩⟩:AV)]:=⟨_,rfl⟩;rw[<-A]at t av;have aT:Hid (q.length=m.length+2/\q=m++[(⟨7,I,0,⟨#[]⟩⟩:AV),(⟨8,I,0,⟨#[]⟩⟩:AV)]):=⟨by rw[A];simp,A⟩;clear A;obtain⟨qa,qc,V,aE,bJ⟩:=zbd t av.out;subst V;have ce:Hid _:=bJ;have cm:q.length<=64:=by have:=aT.out.1;omega
 clear t bJ;have ag:=zm aZ g;have bu:=bt.below g;have bh:=bg.below g;have bi:=ax.below g;have bP:=zk g bO;clear aZ bt bg ax bO;clear g;have T:=zc4 b bB q qa _ qc aP rfl (by omega) aE (λa z=>(av.out a z).1) (Z.out aP ag).1 (Z.out aP ag).2;go_wp2_with fail
 refine T.mono ?_;rintro e ao⟨y,j,bM,bN,ca,g⟩;subst j;dsimp only;clear T;have bX:Hid _:=bN;clear bN;have a6:=zm ag g;have bv:=bu.below g;have bj:=bh.below g;have bk:=bi.below g;have bl:=aE.below g;have bQ:=zk g bP;clear ag bu bh bi aE bP;clear g;refine kO_ ?D0 ?_;exact Obj.cells #[.slice y.na 4 y.nc,.slice y.ga y.gs.length y.gc,I_ y.aw,.slice y.ca y.cs.length y.cc] 34;have u:=zC ao ?D0;have ak:=hN_ ao ?D0;go_upto_region 6 with fail
 generalize ao.alloc ?D0=o at u ak|-;generalize ao.heap.size=By at ak|-;have a7:=zm a6 u;have az:=bv.below u;have bw:=bM.below u;have bm:=bj.below u;have bn:=bk.below u;have bo:=bl.below u;have aF:=zk u bQ;clear a6 bv bM bj bk bl bQ;clear u;have ex:x.v=((((Fl.z b).run (l.map AV.ac)).does ⟨8,I,0,⟨#[]⟩⟩).does ⟨3,I,0,⟨#[]⟩⟩).told:=by rw[bW.out,au.out.2,zcP];rfl
 have ey:y.v=((((((Fl.z b).run (l.map AV.ac)).does ⟨8,I,0,⟨#[]⟩⟩).does ⟨3,I,0,⟨#[]⟩⟩).does ⟨7,I,0,⟨#[]⟩⟩).does ⟨8,I,0,⟨#[]⟩⟩).told:=by rw[bX.out,aT.out.2,zcP,au.out.2,zcP];rfl
 have vx:=zb0 ex I D;have vy:=zb0 ey I D;have ap:Hid ((I:Int)=b->(x.y I).up=false/\(y.y I).up=false):=by
  show _->_;intro e;have X:=congrArg Vw.up vx;have Y:=congrArg Vw.up vy;rw[zpI (by rw[zdQ,zdQ,zsR];exact e)]at X;rw[zpI (by rw[zdQ,zdQ,zdQ,zdQ,zsR];exact e)]at Y;exact⟨X,Y⟩
 have ar:Hid (¬(I:Int)=b->(x.y I).up=true/\(y.y I).up=true/\zcx (x.y I).v (y.y I).v/\(y.y I).txs=[]):=by
  show _->_;intro e;obtain⟨X,Y,k3,k4⟩:=zwC (f:=(Fl.z b).run (l.map AV.ac)) (i:=I) (zjf _ _) (by omega) (zpH b (l.map AV.ac) (ziz aS.out) I (by omega)).1 (by rw[zsR];exact e) ⟨#[]⟩;rw[<-vx]at X k3;rw[<-vy]at Y k3 k4;exact⟨X,Y,k3,k4⟩
 clear ex ey vx vy;have cj:(I:Int)<4:=by omega
 go_upto_region 8 with fail
 obtain⟨E,bC,H⟩:=az.row D;have aH:o.cell? ⟨Bx,0,none⟩=some (.slice (some ⟨E,0,none⟩) 4 x.nc):=by rw[<-bC];exact zb aF 0 _ rfl
 have aI:o.cell? ⟨E,I*6,none⟩=some (.bool (x.y I).up):=H 0 _ rfl;have aJ:o.cell? ⟨E,I*6+1,none⟩=some (I_ (x.y I).rd):=H 1 _ rfl;have aK:o.cell? ⟨E,I*6+2,none⟩=some (.slice (x.y I).ca (x.y I).ls.length (x.y I).cc):=H 2 _ rfl;have aL:o.cell? ⟨E,I*6+3,none⟩=some (.slice (x.y I).ba (x.y I).bl.length (x.y I).bc):=H 3 _ rfl;have aM:o.cell? ⟨E,I*6+4,none⟩=some (.slice (x.y I).ta (x.y I).tab.length (x.y I).tc):=H 4 _ rfl;have aN:o.cell? ⟨E,I*6+5,none⟩=some (.slice (x.y I).pa (x.y I).txs.length (x.y I).pc):=H 5 _ rfl;refine kA_ ?A0 ?_;exact(#[.bool (x.y I).up,I_ (x.y I).rd,.slice (x.y I).ca (x.y I).ls.length (x.y I).cc,.slice (x.y I).ba (x.y I).bl.length (x.y I).bc,.slice (x.y I).ta (x.y I).tab.length (x.y I).tc,.slice (x.y I).pa (x.y I).txs.length (x.y I).pc]:Array Value);have s:=zC o (.cells ?A0 42);have al:=hN_ o (.cells ?A0 42);go_upto_region 9 with fail
 generalize o.alloc (.cells ?A0 42)=p at s al|-;generalize o.heap.size=Px at al|-;clear aH aI aJ aK aL aM aN bC H;have a8:=zm a7 s;have bx:=az.below s;have aA:=bw.below s;have bp:=bm.below s;have bq:=bn.below s;have br:=bo.below s;have bR:=zk s aF;have aG:=zk s ak;clear a7 az bw bm bn bo aF ak;clear s;obtain⟨F,bD,J⟩:=aA.row D;have aH:p.cell? ⟨By,0,none⟩=some (.slice (some ⟨F,0,none⟩) 4 y.nc):=by rw[<-bD];exact zb aG 0 _ rfl
 have aI:p.cell? ⟨F,I*6,none⟩=some (.bool (y.y I).up):=J 0 _ rfl;have aJ:p.cell? ⟨F,I*6+1,none⟩=some (I_ (y.y I).rd):=J 1 _ rfl;have aK:p.cell? ⟨F,I*6+2,none⟩=some (.slice (y.y I).ca (y.y I).ls.length (y.y I).cc):=J 2 _ rfl;have aL:p.cell? ⟨F,I*6+3,none⟩=some (.slice (y.y I).ba (y.y I).bl.length (y.y I).bc):=J 3 _ rfl;have aM:p.cell? ⟨F,I*6+4,none⟩=some (.slice (y.y I).ta (y.y I).tab.length (y.y I).tc):=J 4 _ rfl;have aN:p.cell? ⟨F,I*6+5,none⟩=some (.slice (y.y I).pa (y.y I).txs.length (y.y I).pc):=J 5 _ rfl;refine kA_ ?B0 ?_;exact(#[.bool (y.y I).up,I_ (y.y I).rd,.slice (y.y I).ca (y.y I).ls.length (y.y I).cc,.slice (y.y I).ba (y.y I).bl.length (y.y I).bc,.slice (y.y I).ta (y.y I).tab.length (y.y I).tc,.slice (y.y I).pa (y.y I).txs.length (y.y I).pc]:Array Value);have r:=zC p (.cells ?B0 42);have B:=hN_ p (.cells ?B0 42);go_upto_region 10 with fail
 generalize p.alloc (.cells ?B0 42)=L at r B|-;generalize p.heap.size=Py at B|-;clear aH aI aJ aK aL aM aN bD J;have a9:=zm a8 r;have b8:=bx.below r;have b9:=aA.below r;have cg:=bp.below r;have ch:=bq.below r;have ci:=br.below r;have co:=zk r bR;have cp:=zk r aG;have R:=zk r al;clear a8 bx aA bp bq br bR aG al;clear r;have HR:Hid (zcx (x.y I).v (y.y I).v->Calls prog 14 #[.agg ?A0,.agg ?B0] L λe w'=>e=.returned (.bool true)/\B_ L w'):=λhs=>zdC (x.y I) (y.y I) L (b8.vm I D) (b9.vm I D) (ca.vw I D) hs;have a0:=zb R 0 (.bool (x.y I).up) rfl;have b0:=zb B 0 (.bool (y.y I).up) rfl;have a1:=zb R 1 (I_ (x.y I).rd) rfl;have b1:=zb B 1 (I_ (y.y I).rd) rfl;have a2:=zb R 2 (.slice (x.y I).ca (x.y I).ls.length (x.y I).cc) rfl;have b2:=zb B 2 (.slice (y.y I).ca (y.y I).ls.length (y.y I).cc) rfl;have a3:=zb R 3 (.slice (x.y I).ba (x.y I).bl.length (x.y I).bc) rfl;have b3:=zb B 3 (.slice (y.y I).ba (y.y I).bl.length (y.y I).bc) rfl;have a4:=zb R 4 (.slice (x.y I).ta (x.y I).tab.length (x.y I).tc) rfl;have b4:=zb B 4 (.slice (y.y I).ta (y.y I).tab.length (y.y I).tc) rfl;have a5:=zb R 5 (.slice (x.y I).pa (x.y I).txs.length (x.y I).pc) rfl;have b5:=zb B 5 (.slice (y.y I).pa (y.y I).txs.length (y.y I).pc) rfl;generalize x.y I=c at*;generalize y.y I=d at*;by_cases hIb:(I:Int)=b
 .obtain⟨M,N⟩:=ap.out hIb;rw[M]at a0;rw[N]at b0;clear M N ap ar HR;go_wp2_with fail
  go_ret;exact⟨rfl,a9⟩
 .obtain⟨M,N,e3,e4⟩:=ar.out hIb;have HC:Calls prog 14 #[.agg #[.bool true,I_ c.rd,.slice c.ca c.ls.length c.cc,.slice c.ba c.bl.length c.bc,.slice c.ta c.tab.length c.tc,.slice c.pa c.txs.length c.pc],.agg #[.bool true,I_ d.rd,.slice d.ca d.ls.length d.cc,.slice d.ba d.bl.length d.bc,.slice d.ta d.tab.length d.tc,.slice d.pa 0 d.pc]] L λe w'=>e=.returned (.bool true)/\B_ L w':=by
   have h9:=HR.out e3;rw[M,N,e4]at h9;exact h9
  have f5:L.cell? ⟨Py,5,none⟩=some (.slice d.pa 0 d.pc):=by rw[b5,e4];rfl
  rw[M]at a0;rw[N]at b0;clear M N e3 e4 ap ar HR b5;go_wp2_with fail
  refine HC.mono ?_;rintro _ w9⟨rfl,bz⟩;dsimp only;have cf:=(bz.cell (bL_ f5)).trans f5;have b6:=zm a9 bz;clear HC a0 a1 a2 a3 a4 a5 b0 b1 b2 b3 b4 f5;go_wp2_with fail
  go_ret;exact⟨rfl,b6⟩
end Go.Proofs.YtdepbohhmfkjgaaGreatDoor
