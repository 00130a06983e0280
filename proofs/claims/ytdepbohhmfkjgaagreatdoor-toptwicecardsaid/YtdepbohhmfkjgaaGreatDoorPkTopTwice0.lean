import Derived.Test.YtdepbohhmfkjgaaGreatDoorPk36
set_option maxRecDepth 100000
set_option maxHeartbeats 4000000
namespace Go.Proofs.YtdepbohhmfkjgaaGreatDoor
open Go.RowKit Tryz
variable {i:Int}{g:Fl}
theorem Fl.run_cons (f:Fl)(a:Ac)(l:List Ac):f.run (a::l)=(f.does a).run l:=rfl
theorem zfZ {f:Fl}{a:Ac}(h:a.k=8):f.does a=f.start a.i:=by
 rw[Fl.does,Fl.act,if_neg (by omega),if_neg (by omega),if_neg (by omega),if_neg (by omega),if_pos h]
theorem zjg {f:Fl}{a:Ac}(h:a.k=7):f.does a=if f.runs a.i then f.set a.i ((f.node a.i).crash a.p)else f:=by
 rw[Fl.does,Fl.act,if_neg (by omega),if_neg (by omega),if_neg (by omega),if_neg (by omega),if_neg (by omega),if_pos (by omega),if_neg (show ¬a.k=2 by omega),if_neg (show ¬a.k=3 by omega)]
def Ac.ok (a:Ac):Prop:=1<=a.k/\a.k<=10/\0<=a.i/\a.i<4/\0<=a.p/\a.p<=400000
theorem zau (f:Fl)(i:Int)(n:Nd):(f.set i n).nd.length=f.nd.length:=by simp[Fl.set]
theorem set_here {f:Fl}(n:Nd)(b:f.nd.length=4)(c:0<=i/\i<4):(f.set i n).node i=n:=by
 have:i.toNat<f.nd.length:=by omega
 simp[Fl.set,Fl.node,List.getD,this]
theorem set_there {f:Fl}{j:Int}(n:Nd)(b:0<=i)(c:0<=j)(d:j≠i):(f.set i n).node j=f.node j:=by
 have:i.toNat≠j.toNat:=by omega
 simp[Fl.set,Fl.node,List.getD,this]
theorem zdO (l:List MC)(f:Fl):(l.foldl Fl.out f).nd=f.nd:=by
 induction l generalizing f with
 | nil=>rfl
 | cons m l ih=>rw[List.foldl_cons,ih];rfl
theorem zhv (o:No)(m:MC):(o.sign m).bad=o.bad:=by
 unfold No.sign
 split
 .split<;>rfl
 .split<;>rfl
theorem zha (l:List MC)(f:Fl):(l.foldl Fl.out f).no.bad=f.no.bad:=by
 induction l generalizing f with
 | nil=>rfl
 | cons m l ih=>rw[List.foldl_cons,ih];exact zhv _ _
theorem zev {f:Fl}(h:f.nd=g.nd)(i:Int):f.node i=g.node i:=by rw[Fl.node,Fl.node,h]
theorem zcj (f:Fl)(i:Int)(m:MC):(f.come i m).away=f.away:=by unfold Fl.come;split<;>rfl
theorem zew (f:Fl)(i:Int)(m:MC):(f.come i m).no=f.no:=by unfold Fl.come;split<;>rfl
theorem zca (f:Fl)(i:Int)(m:MC):(f.come i m).nd.length=f.nd.length:=by unfold Fl.come;split;exact zau _ _ _;rfl
theorem zlo (l:List MC)(f:Fl):(comes f l).no=f.no:=by
 induction l generalizing f with
 | nil=>rfl
 | cons m l ih=>exact(ih _).trans (zew _ _ _)
theorem zej (l:List MC)(f:Fl):(comes f l).away=f.away:=by
 induction l generalizing f with
 | nil=>rfl
 | cons m l ih=>exact(ih _).trans (zcj _ _ _)
theorem zeT (l:List MC)(f:Fl):(comes f l).nd.length=f.nd.length:=by
 induction l generalizing f with
 | nil=>rfl
 | cons m l ih=>exact(ih _).trans (zca _ _ _)
theorem zfs (f:Fl)(a:Ac):(f.does a).nd.length=f.nd.length:=by
 unfold Fl.does Fl.act
 split
 .unfold Fl.pick
  split
  .rfl
  .split
   .rfl
   .split
    .exact zca _ _ _
    .rfl
 .split
  .exact zeT _ _
  .split
   .unfold Fl.submit
    split
    .rfl
    .split
     .exact zau _ _ _
     .rfl
   .split
    .exact zcq (P:=λg=>g.nd.length=f.nd.length) _ _ rfl (λm=>zca _ _ _)
    .split
     .unfold Fl.start
      split
      .rfl
      .exact zau _ _ _
     .split
      .split
       .split
        .exact zau _ _ _
        .split
         .unfold Fl.sync;rw[zdO];exact zau _ _ _
         .exact zau _ _ _
       .rfl
      .rfl
theorem zgk (l:List Ac)(f:Fl):(f.run l).nd.length=f.nd.length:=by
 induction l generalizing f with
 | nil=>rfl
 | cons a l ih=>rw[Fl.run_cons,ih,zfs]
theorem zdQ (f:Fl)(a:Ac):(f.does a).no.bad=f.no.bad:=by
 unfold Fl.does Fl.act
 split
 .unfold Fl.pick
  split
  .rfl
  .split
   .rfl
   .split
    .rw[zew]
    .rfl
 .split
  .rw[zfw,zlo]
  .split
   .unfold Fl.submit
    split
    .rfl
    .split<;>rfl
   .split
    .exact zcq (P:=λg=>g.no.bad=f.no.bad) _ _ rfl (λm=>by rw[zew])
    .split
     .unfold Fl.start
      split<;>rfl
     .split
      .split
       .split
        .rfl
        .split
         .unfold Fl.sync;rw[zha];rfl
         .rfl
       .rfl
      .rfl
variable {k:Nat}{t:ByteArray}
theorem zbP.up {o:No}{a b:Nd}(s:zbP o a b):b.up=a.up:=by
 rcases s with⟨d,m,c,_,rfl⟩|⟨b,_,_,rfl⟩|⟨_,_,rfl⟩|⟨_,_,rfl⟩|⟨_,_,_,_,_,rfl⟩|⟨_,_,_,_,rfl⟩|⟨_,_,rfl⟩|⟨_,rfl⟩
 .unfold Nd.send;split<;>rfl
 all_goals rfl
theorem zdq {Q:Nd->Prop}{o:No}{a b:Nd}(h:∀x y,x.up=true->zbP o x y->Q x->Q y)(s:zad o a b)(g:a.up=true)(f:Q a):Q b:=
 (zad.keeps (P:=λn=>n.up=true/\Q n) (λx y d c=>⟨(zbP.up d).trans c.1,h x y c.1 d c.2⟩) s ⟨g,f⟩).2
theorem zfC {f:Fl}(h:f.runs i=true):(f.node i).up=true:=by
 unfold Fl.runs at h;rw[Bool.and_eq_true]at h;exact h.2
structure zc5 (S:ByteArray->Prop)(Q:Int->Nd->Prop):Prop where
 step:∀i o a b,0<=i/\i<4->a.up=true->zbP o a b->Q i a->Q i b
 crash:∀i n p,0<=i/\i<4->0<=p->Q i n->Q i (n.crash p)
 up:∀i n,0<=i/\i<4->Q i n->Q i { n with up:=true }
 synced:∀i n,0<=i/\i<4->Q i n->Q i { n with wai:=[],syn:=(zae n.recs).length }
 sub:∀i n t,0<=i/\i<4->S t->zcD n.nx n.txs t=0->Q i n->Q i { n with txs:=n.txs++[t] }
def zah (Q:Int->Nd->Prop)(f:Fl):Prop:=f.nd.length=4/\∀i,0<=i/\i<4->Q i (f.node i)
theorem zah.set {Q:Int->Nd->Prop}{f:Fl}(h:zah Q f){i:Int}(c:0<=i/\i<4){n:Nd}(d:Q i n):zah Q (f.set i n):=by
 refine⟨(zau _ _ _).trans h.1,λj b=>?_⟩;by_cases e:j=i
 .subst e;rw[set_here n h.1 b];exact d
 .rw[set_there n c.1 b.1 e];exact h.2 j b
theorem zah.nd {Q:Int->Nd->Prop}{f:Fl}(h:zah Q f)(e:g.nd=f.nd):zah Q g:=⟨by rw[e];exact h.1,λj b=>by rw[zev e];exact h.2 j b⟩
def MC.post (m:MC):Prop:=(0<=m.fr/\m.fr<4)/\0<=m.tt/\m.tt<4
theorem zah.come {S:ByteArray->Prop}{Q:Int->Nd->Prop}(k:zc5 S Q){f:Fl}(h:zah Q f){i:Int}(c:0<=i/\i<4){m:MC}(d:0<=m.fr/\m.fr<4):zah Q (f.come i m):=by
 unfold Fl.come
 split
 .rename_i g
  exact h.set c (zdq (λa b u s=>k.step i f.no a b c u s) (zfT f.no (f.node i) m d) (zfC g) (h.2 i c))
 .exact h
theorem zah.comes {S:ByteArray->Prop}{Q:Int->Nd->Prop}(k:zc5 S Q)(l:List MC){f:Fl}(h:zah Q f)(b:∀m∈l,m.post):zah Q (comes f l):=by
 induction l generalizing f with
 | nil=>exact h
 | cons m l ih=>exact ih (h.come k (b m (by simp)).2 (b m (by simp)).1) (λd c=>b d (List.mem_cons_of_mem _ c))
theorem zeU {l:List MC}(h:k<l.length):l.getD k MC.z∈l:=by simp[List.getD,h]
theorem zhw {m:MC}(h:zh2 t=some m):0<=m.fr/\m.fr<4:=by
 unfold zh2 at h
 split at h
 .rename_i e
  cases h;exact(zhI e.2).1
 .cases h
theorem zah.does {S:ByteArray->Prop}{Q:Int->Nd->Prop}(k:zc5 S Q){f:Fl}(h:zah Q f)(c:∀m∈f.away,m.post){a:Ac}(l:a.ok)(j:a.k=1->S a.t):zah Q (f.does a):=by
 obtain⟨_,_,o,p,t,_⟩:=l;have b:0<=a.i/\a.i<4:=⟨o,p⟩;unfold Fl.does Fl.act
 split
 .unfold Fl.pick
  split
  .exact h
  .rename_i B
   split
   .exact h.nd rfl
   .split
    .have d:=c _ (zeU (Nat.mod_lt a.p.toNat (show 0<f.away.length by omega)));exact zah.come k (h.nd (g:={ f with away:=f.away.eraseIdx (a.p.toNat % f.away.length) }) rfl) d.2 d.1
    .exact h.nd rfl
 .split
  .exact zah.comes k f.away (h.nd (g:={ f with away:=[] }) rfl) c
  .split
   .rename_i q
    unfold Fl.submit
    split
    .exact h.nd rfl
    .split
     .rename_i z;exact zah.nd (h.set b (k.sub a.i _ a.t b (j q) z (h.2 a.i b))) rfl
     .exact h.nd rfl
   .split
    .unfold Fl.forge
     split
     .rename_i m r
      split
      .exact h
      .exact zah.come k h b (zhw r)
     .exact h
    .split
     .unfold Fl.start
      split
      .exact h
      .exact h.set b (k.up a.i _ b (h.2 a.i b))
     .split
      .split
       .rename_i A
        split
        .exact h.set b (zdq (λx y u s=>k.step a.i f.no x y b u s) (zgV f.no (f.node a.i)) (zfC A) (h.2 a.i b))
        .split
         .exact zah.nd (h.set b (k.synced a.i _ b (h.2 a.i b))) (zdO _ _)
         .exact h.set b (k.crash a.i _ a.p b t (h.2 a.i b))
       .exact h
      .exact h
structure zeF (i:Int)(n:Nd):Prop where
 nu:n.nu=i
 fr:∀m∈n.wai,m.fr=i/\0<=m.tt/\m.tt<4
theorem zix {n:Nd}{d:Int}{m:MC}(h:zeF i n)(b:0<=d/\d<4):zeF i (n.send d m):=by
 unfold Nd.send
 split
 .exact h
 .refine⟨h.nu,λx c=>?_⟩;rcases List.mem_append.1 c with g|g
  .exact h.fr x g
  .rw[List.mem_singleton.1 g];exact⟨h.nu,b⟩
theorem zf0:zc5 (λ_=>True) zeF where
 step:=λi o a b j _ s h=>by
  rcases s with⟨d,m,g,_,rfl⟩|⟨b,_,_,rfl⟩|⟨_,_,rfl⟩|⟨_,_,rfl⟩|⟨_,_,_,_,_,rfl⟩|⟨_,_,_,_,rfl⟩|⟨_,_,rfl⟩|⟨_,rfl⟩
  .exact zix h g
  all_goals exact⟨h.nu,h.fr⟩
 crash:=λi n p _ _ h=>by
  obtain⟨a,_,c,_⟩:=zc8 n p
  exact⟨a.trans h.nu,λm f=>by rw[c]at f;cases f⟩
 up:=λi n _ h=>⟨h.nu,h.fr⟩
 synced:=λi n _ h=>⟨h.nu,λm f=>by cases f⟩
 sub:=λi n t _ _ _ h=>⟨h.nu,h.fr⟩
theorem zhx (l:List MC){f:Fl}(h:∀m∈f.away,m.post)(c:∀m∈l,m.post):∀m∈(l.foldl Fl.out f).away,m.post:=by
 induction l generalizing f with
 | nil=>exact h
 | cons x l ih=>
  refine ih (f:=f.out x) (λm b=>?_) (λm b=>c m (List.mem_cons_of_mem _ b));have b:m∈zct f.away x:=b;unfold zct at b
  split at b
  .rcases List.mem_append.1 b with g|g
   .exact h m g
   .rw[List.mem_singleton.1 g];exact c x (by simp)
  .exact h m b
structure zcn (f:Fl):Prop where
 posts:zah zeF f
 aw:∀m∈f.away,m.post
theorem zcn.does {f:Fl}(h:zcn f){a:Ac}(c:a.ok):zcn (f.does a):=by
 refine⟨h.posts.does zf0 h.aw c (λ_=>trivial),?_⟩;obtain⟨_,_,o,p,s,_⟩:=c;have d:0<=a.i/\a.i<4:=⟨o,p⟩;unfold Fl.does Fl.act
 split
 .unfold Fl.pick
  split
  .exact h.aw
  .rename_i r
   have q:=h.aw _ (zeU (Nat.mod_lt a.p.toNat (show 0<f.away.length by omega)))
   split
   .intro m b;have b:m∈zct f.away _:=b;unfold zct at b
    split at b
    .rcases List.mem_append.1 b with g|g
     .exact h.aw m g
     .rw[List.mem_singleton.1 g];exact q
    .exact h.aw m b
   .split
    .rw[zcj];intro m b;exact h.aw m (List.mem_of_mem_eraseIdx b)
    .intro m b;exact h.aw m (List.mem_of_mem_eraseIdx b)
 .split
  .rw[zfw,zej];intro m b;cases b
  .split
   .unfold Fl.submit
    split
    .exact h.aw
    .split<;>exact h.aw
   .split
    .exact zcq (P:=λg=>∀m∈g.away,m.post) _ _ h.aw (λm=>by rw[zcj];exact h.aw)
    .split
     .unfold Fl.start
      split<;>exact h.aw
     .split
      .split
       .split
        .exact h.aw
        .split
         .unfold Fl.sync;refine zhx _ h.aw (λm b=>?_);obtain⟨j,l⟩:=(h.posts.2 a.i d).fr m b;exact⟨by rw[j];exact d,l⟩
         .exact h.aw
       .exact h.aw
      .exact h.aw
theorem zf1 (r:Int)(i:Int)(b:0<=i/\i<4):(Fl.z r).node i={ Nd.z i with up:=true }:=by
 have:i=0\/i=1\/i=2\/i=3:=by omega
 rcases this with e|e|e|e<;>subst e<;>rfl
theorem zcn.z (r:Int):zcn (Fl.z r):=⟨⟨rfl,λi c=>by rw[zf1 r i c];exact⟨rfl,λm b=>by cases b⟩⟩,λm b=>by cases b⟩
theorem zah.run {S:ByteArray->Prop}{Q:Int->Nd->Prop}(k:zc5 S Q)(l:List Ac){f:Fl}(j:zcn f)(h:zah Q f)(d:∀a∈l,a.ok)(g:∀a∈l,a.k=1->S a.t):zah Q (f.run l):=by
 induction l generalizing f with
 | nil=>exact h
 | cons a l ih=>exact ih (j.does (d a (by simp))) (h.does k j.aw (d a (by simp)) (g a (by simp))) (λb c=>d b (List.mem_cons_of_mem _ c)) (λb c=>g b (List.mem_cons_of_mem _ c))
def zdf (_:Int)(n:Nd):Prop:=n.k=n.recs.foldl Kn.rcl Kn.z
theorem zmN {k:Kn}{b:BW}(h:zbG k.sh b=true):k.rcl (zed b)={ k with sh:=k.sh++[b] }:=by
 show(if zbG k.sh b=true then _ else _)=_;rw[if_pos h];rfl
theorem zmO {k:Kn}{h:CV}(d:h.vl=[])(c:h.hf=0)(b:(zaf k.tab h).2.2=0):k.rcl (zcl h)={ k with tab:=(zaf k.tab h).1,own:=h,slot:=h.slot }:=by
 have e:(zcl h).h=h:=by cases h;cases d;rfl
 show(if(zcl h).h.hf=0 then { k with own:=(zcl h).h,slot:=(zcl h).h.slot,tab:=if(zaf k.tab (zcl h).h).2.2=0 then(zaf k.tab (zcl h).h).1 else k.tab } else k)=_;rw[e,if_pos c,if_pos b]
theorem zmP (k:Kn)(s:SV):k.rcl (zcE s)={ k with tab:=k.tab++[s] }:=rfl
theorem zmQ {k:Kn}{c:CV}(h:za8 k.dag c=0):k.rcl (zdh c)={ k with dag:=k.dag++[c] }:=by
 show(if za8 k.dag c=0 then _ else _)=_;rw[if_pos h];rfl
theorem zdm {n:Nd}{m:MC}{k:Kn}(h:zdf i n)(e:n.k.rcl m=k):zdf i (n.log m k):=by
 show k=(n.recs++[m]).foldl Kn.rcl Kn.z;rw[List.foldl_append,<-h];exact e.symm
theorem zib:zc5 (λ_=>True) zdf where
 step:=λi o a b l _ s h=>by
  rcases s with⟨d,m,j,_,rfl⟩|⟨b,f,_,rfl⟩|⟨x,f,rfl⟩|⟨c,f,rfl⟩|⟨r,f,_,_,_,rfl⟩|⟨_,_,_,_,rfl⟩|⟨_,_,rfl⟩|⟨_,rfl⟩
  .unfold Nd.send;split<;>exact h
  .exact zdm h (zmN f)
  .refine zdm h ?_
   rw[zmP]
   rcases zgf f.cast with⟨g,_⟩|⟨g,_,_⟩
   .have:=f.more;rw[g]at this;omega
   .rw[g]
  .unfold Nd.proofs at f
   simp only[Bool.and_eq_true,decide_eq_true_eq]at f
   exact zdm h (zmQ f.1.1)
  .exact zdm h (zmO rfl (zgU f).2.1 f)
  all_goals exact h
 crash:=λi n p _ _ h=>by
  obtain⟨_,_,_,d,_,_,g,_⟩:=zc8 n p
  show(n.crash p).k=_
  rw[g,d]
 up:=λi n _ h=>h
 synced:=λi n _ h=>h
 sub:=λi n t _ _ _ h=>h
def zf2 (_:Int)(n:Nd):Prop:=n.up=false->n.syn=(zae n.recs).length
theorem zkc:zc5 (λ_=>True) zf2 where
 step:=λi o a b c u s h e=>by rw[zbP.up s,u]at e;cases e
 crash:=λi n p _ _ h _=>by
  obtain⟨_,_,_,d,e,_⟩:=zc8 n p
  rw[d,e]
 up:=λi n _ h e=>by cases e
 synced:=λi n _ h _=>rfl
 sub:=λi n t _ _ _ h=>h
variable {p:Int}
theorem zjh (l:List MC):zeo (zae l).length l=l:=by
 induction l with
 | nil=>rfl
 | cons m l ih=>
  have e:(zae (m::l)).length=m.onTape.length+(zae l).length:=by simp[zae]
  rw[zeo,if_pos (by omega),e,Nat.add_sub_cancel_left,ih]
theorem zlp {n:Nd}(h:n.syn=(zae n.recs).length){p:Int}(b:0<=p):n.kept p=n.recs:=by
 unfold Nd.kept;have e:zdT (zae n.recs).length n.syn p=(zae n.recs).length:=by
  rw[zdT,if_neg (by rw[h];omega)]
 rw[e,zjh]
theorem zmR {n:Nd}(c:n.k=n.recs.foldl Kn.rcl Kn.z)(h:n.syn=(zae n.recs).length){p:Int}(b:0<=p):(n.crash p).k=n.k:=by
 obtain⟨_,_,_,_,_,_,e,_⟩:=zc8 n p;rw[e,zlp h b,c]
theorem zgl (f:Fl)(i:Int):(f.start i).no=f.no:=by unfold Fl.start;split<;>rfl
theorem zje (f:Fl)(i:Int):(f.start i).away=f.away:=by unfold Fl.start;split<;>rfl
theorem ze6 {f:Fl}(b:f.nd.length=4)(d:0<=i/\i<4)(c:i≠f.no.bad):(f.start i).node i={ f.node i with up:=true }:=by
 unfold Fl.start;rw[if_neg c,set_here _ b d]
theorem zkd (f:Fl)(i:Int):(f.start i).nd.length=f.nd.length:=by unfold Fl.start;split;rfl;exact zau _ _ _
theorem znx {f:Fl}(h:i=f.no.bad):f.start i=f:=if_pos h
def Fl.crashes (f:Fl)(i p:Int):Fl:=if f.runs i then f.set i ((f.node i).crash p)else f
theorem zpG {f:Fl}(h:i=f.no.bad):f.runs i=false:=by unfold Fl.runs;simp[h]
theorem ziy {f:Fl}(h:i≠f.no.bad):f.runs i=(f.node i).up:=by unfold Fl.runs;simp[h]
theorem zsQ {f:Fl}{q:Int}(j:f.nd.length=4)(c:0<=i/\i<4)(F:zdf i (f.node i))(C:zf2 i (f.node i))(D:0<=q) :
  ((((f.crashes i p).start i).crashes i q).start i).away=((f.crashes i p).start i).away/\(((((f.crashes i p).start i).crashes i q).start i).node i).k=(((f.crashes i p).start i).node i).k/\(((((f.crashes i p).start i).crashes i q).start i).node i).up=(((f.crashes i p).start i).node i).up:=by
 by_cases hb:i=f.no.bad
 .have b:f.crashes i p=f:=by unfold Fl.crashes;rw[zpG hb];rfl
  have u:f.crashes i q=f:=by unfold Fl.crashes;rw[zpG hb];rfl
  rw[b,znx hb,u,znx hb];exact⟨rfl,rfl,rfl⟩
 .have G:∃n:Nd,(f.crashes i p).node i=n/\n.k=n.recs.foldl Kn.rcl Kn.z/\n.syn=(zae n.recs).length/\(f.crashes i p).nd.length=4/\(f.crashes i p).no=f.no:=by
   unfold Fl.crashes;cases hr:f.runs i with
   | true=>
    obtain⟨_,_,_,d,e,_,g,_⟩:=zc8 (f.node i) p;exact⟨(f.node i).crash p,set_here _ j c,by rw[g,d],by rw[e,d],(zau _ _ _).trans j,rfl⟩
   | false=>
    rw[ziy hb]at hr;exact⟨f.node i,rfl,F,C hr,j,rfl⟩
  obtain⟨n,t,z,B,m,A⟩:=G;generalize f.crashes i p=g at*;have s:i≠g.no.bad:=by rw[A];exact hb
  have b:=ze6 m c s;have l:i≠(g.start i).no.bad:=by rw[zgl];exact s
  have E:(g.start i).runs i=true:=by rw[ziy l,b]
  have o:(g.start i).nd.length=4:=(zkd g i).trans m;have y:(g.start i).crashes i q=(g.start i).set i (((g.start i).node i).crash q):=if_pos E;rw[y];have r:((g.start i).set i (((g.start i).node i).crash q)).nd.length=4:=(zau _ _ _).trans o;refine⟨by rw[zje];rfl,?_,?_⟩
  .rw[ze6 r c l,set_here _ o c,b,t];exact zmR (n:={ n with up:=true }) z B D
  .rw[ze6 r c l,b]
theorem zcA {o:Om}{f:Fl}(h:o.v=f.told):o.aw=f.away.length:=congrArg (λx:Ou=>x.aw) h
theorem zhy {a:AV}(h:a.e=0):a.ac.ok:=by
 obtain⟨b,c,d,_⟩:=zn3 h;exact⟨b.1,b.2,c.1,c.2,d.1,d.2⟩
theorem ziz {l:List AV}(h:∀a∈l,a.e=0/\a.t.size<=4000):∀x∈l.map AV.ac,x.ok:=λx c=>by
 obtain⟨a,b,rfl⟩:=List.mem_map.1 c
 exact zhy (h a b).1
theorem zkb {f:Fl}(b:g.no.bad=f.no.bad)(h:(g.node i).k=(f.node i).k):zcx (f.view i) (g.view i):=by
 unfold Fl.view;rw[b]
 split
 .exact⟨rfl,rfl,rfl,rfl⟩
 .exact⟨by simp only[h],by simp only[h],by simp only[h],by simp only[h]⟩
theorem zjf (r:Int)(l:List Ac):((Fl.z r).run l).nd.length=4:=(zgk l _).trans rfl
theorem zpH (r:Int)(l:List Ac)(c:∀a∈l,a.ok)(i:Int)(b:0<=i/\i<4):zdf i (((Fl.z r).run l).node i)/\zf2 i (((Fl.z r).run l).node i):=by
 have d:zah zdf (Fl.z r):=⟨rfl,λi b=>by rw[zf1 r i b];rfl⟩;have f:zah zf2 (Fl.z r):=⟨rfl,λi b=>by rw[zf1 r i b];intro e;cases e⟩;exact⟨(zah.run zib l (zcn.z r) d c (λ_ _ _=>trivial)).2 i b,(zah.run zkc l (zcn.z r) f c (λ_ _ _=>trivial)).2 i b⟩
theorem zg3 {f:Fl}(t:ByteArray):f.does ⟨7,i,p,t⟩=f.crashes i p:=by rw[zjg rfl];rfl
theorem ze7 {f:Fl}(t:ByteArray):f.does ⟨8,i,0,t⟩=f.start i:=zfZ rfl
theorem zwB {f:Fl}{q:Int}(m:f.nd.length=4)(r:0<=i/\i<4)(u:zdf i (f.node i))(o:zf2 i (f.node i))(s:0<=q)(t:ByteArray) :
  ((((f.does ⟨7,i,p,t⟩).does ⟨8,i,0,t⟩).does ⟨7,i,q,t⟩).does ⟨8,i,0,t⟩).away=((f.does ⟨7,i,p,t⟩).does ⟨8,i,0,t⟩).away/\zcx (((f.does ⟨7,i,p,t⟩).does ⟨8,i,0,t⟩).view i) (((((f.does ⟨7,i,p,t⟩).does ⟨8,i,0,t⟩).does ⟨7,i,q,t⟩).does ⟨8,i,0,t⟩).view i)/\(((f.does ⟨7,i,p,t⟩).does ⟨8,i,0,t⟩).view i).up=(((((f.does ⟨7,i,p,t⟩).does ⟨8,i,0,t⟩).does ⟨7,i,q,t⟩).does ⟨8,i,0,t⟩).view i).up:=by
 have c:∀(g:Fl) (a:Ac),(g.does a).no.bad=g.no.bad:=λg a=>zdQ g a;have b:((((f.does ⟨7,i,p,t⟩).does ⟨8,i,0,t⟩).does ⟨7,i,q,t⟩).does ⟨8,i,0,t⟩).no.bad=((f.does ⟨7,i,p,t⟩).does ⟨8,i,0,t⟩).no.bad:=by rw[c,c]
 rw[zg3,ze7,zg3,ze7]at b|-;obtain⟨d,j,l⟩:=zsQ (p:=p) m r u o s;refine⟨d,zkb b j,?_⟩;unfold Fl.view;rw[b]
 split
 .rfl
 .exact l.symm
theorem topTwice_walk (sa:Option Addr)(az:Nat)(rs:List Ft)(n:Int)(F:Int)(D:Int)(E:Int)(w:World)(bY:zfn w sa rs)(_hc_rs:rs.length<=az)(n1:-9223372036854775808<=n)(n2:n<=9223372036854775807)(bD:-9223372036854775808<=F)(bE:F<=9223372036854775807)(bu:-9223372036854775808<=D)(bv:D<=9223372036854775807)(bw:-9223372036854775808<=E)(bx:E<=9223372036854775807)(hT:zcw w/\za2 w) :
  Calls prog 4 #[.slice sa rs.length az,I_ n,I_ F,I_ D,I_ E] w λe w'=>e=.returned (.bool true)/\B_ w w':=by
 have U:Hid (∀W:World,B_ w W->zcw W/\za2 W):=λW hW=>⟨hT.1.below hW hT.1.lt,hT.2.below hW⟩;clear hT;obtain⟨b3,b4⟩:=zW n 5 (by decide);have aw:=zg9 n w n1 n2;obtain⟨b,bi⟩:∃b,b=pk n 5-1:=⟨_,rfl⟩;have bj:-1<=b/\b<=3:=by omega
 rw[<-bi]at aw;clear bi b3 b4 n1 n2;obtain⟨bK,bL⟩:=zW F 4 (by decide);obtain⟨I,hI⟩:∃k:Nat,pk F 4=k:=⟨(pk F 4).toNat,by omega⟩;have HI:Hid (∀W:World,Calls prog 10 #[I_ F,I_ 4] W λe w'=>e=.returned (I_ (I:Int))/\W=w'):=λW=>by rw[<-hI];exact zbI F 4 W bD bE (by decide) (by decide)
 have u:I<4:=by omega
 clear hI bK bL bD bE;obtain⟨bM,bN⟩:=zW D 900 (by decide);obtain⟨X,hX⟩:∃k:Nat,pk D 900=k:=⟨(pk D 900).toNat,by omega⟩;have HX:Hid (∀W:World,Calls prog 10 #[I_ D,I_ 900] W λe w'=>e=.returned (I_ (X:Int))/\W=w'):=λW=>by rw[<-hX];exact zbI D 900 W bu bv (by decide) (by decide)
 have XB:X<900:=by omega
 clear hX bM bN bu bv;obtain⟨bO,bP⟩:=zW E 900 (by decide);obtain⟨Y,hY⟩:∃k:Nat,pk E 900=k:=⟨(pk E 900).toNat,by omega⟩;have HY:Hid (∀W:World,Calls prog 10 #[I_ E,I_ 900] W λe w'=>e=.returned (I_ (Y:Int))/\W=w'):=λW=>by rw[<-hY];exact zbI E 900 W bw bx (by decide) (by decide)
 have YB:Y<900:=by omega
 clear hY bO bP bw bx;go_in;go_wp2_with fail
 refine aw.mono ?_;rintro _ w0⟨rfl,rfl⟩;dsimp only;clear aw;go_wp2_with fail
 refine(HI.out _).mono ?_;rintro _ w0⟨rfl,rfl⟩;dsimp only;go_wp2_with fail
 refine(zeu rs sa _ az 60 w rfl bY (by decide)).mono ?_;rintro e ar⟨v,l,j,t,hl,cd,g⟩;subst j;dsimp only;obtain⟨aa,ac,R,bk,bl⟩:=zbd t hl;subst R;have aQ:Hid _:=hl;have bG:Hid _:=bl;clear t hl bl;have aW:=g;clear g;refine kO_ ?C0 ?_;exact Obj.cells #[I_ 7,I_ I,I_ X,.string ⟨#[]⟩,I_ 8,I_ I,I_ 0,.string ⟨#[]⟩] 29;have ak:=zC ar ?C0;have ap:=hN_ ar ?C0;go_wp2_with (go_at_call 10;refine(HX.out _).mono ?_;rintro e w9⟨rfl,rfl⟩)
 generalize ar.alloc ?C0=aT at ak ap|-;generalize ar.heap.size=aP at ap|-;have aG:∀a∈[(⟨7,I,X,⟨#[]⟩⟩:AV),(⟨8,I,0,⟨#[]⟩⟩:AV)],a.e=0/\a.t.size<=4000:=by
  intro a A;simp only[List.mem_cons,List.not_mem_nil,or_false]at A;rcases A with e|e
  .subst e;exact⟨zaL _ _ _ _ (by decide) (by omega) (by omega) (by decide) (λh=>by cases h) (λh=>by cases h) (λ_=>rfl),(by show ByteArray.size ⟨#[]⟩<=4000;decide)⟩
  .subst e;exact⟨zaL _ _ _ _ (by decide) (by omega) (by decide) (by decide) (λh=>by cases h) (λ_=>rfl) (λ_=>rfl),(by show ByteArray.size ⟨#[]⟩<=4000;decide)⟩
 have a0:=zm aW ak;have aB:=bk.below ak;clear aW bk;have bm:zbq aT (some ⟨aP,0,none⟩) [(⟨7,I,X,⟨#[]⟩⟩:AV),(⟨8,I,0,⟨#[]⟩⟩:AV)]:=zdw ap aG;have O:=zcZ l [(⟨7,I,X,⟨#[]⟩⟩:AV),(⟨8,I,0,⟨#[]⟩⟩:AV)] aa _ ac (some ⟨aP,0,none⟩) 2 2 aT rfl rfl aB bm bG.out (λe=>by cases e) (by simp;omega);refine O.mono ?_;rintro e aM⟨v,j,t,g⟩;subst j;dsimp only;clear O bm ap ak;have Z:Hid _:=zc9 aQ.out aG;clear aG;obtain⟨m,C⟩:∃z9,z9=l++[(⟨7,I,X,⟨#[]⟩⟩:AV),(⟨8,I,0,⟨#[]⟩⟩:AV)]:=⟨_,rfl⟩;rw[<-C]at t Z;have ax:Hid (m.length=l.length+2/\m=l++[(⟨7,I,X,⟨#[]⟩⟩:AV),(⟨8,I,0,⟨#[]⟩⟩:AV)]):=⟨by rw[C];simp,C⟩;clear C;obtain⟨ma,mc,R,aE,bo⟩:=zbd t Z.out;subst R;have bH:Hid _:=bo;have ce:m.length<=62:=by have:=ax.out.1;omega
 clear t bo;have al:=zm a0 g;have a1:=aB.below g;clear a0 aB;clear g;have N:=zc4 b bj m ma _ mc aM rfl (by omega) aE (λa A=>(Z.out a A).1) (U.out aM al).1 (U.out aM al).2;go_wp2_with fail
 refine N.mono ?_;rintro e au⟨x,j,bq,br,cg,g⟩;subst j;dsimp only;clear N;have bI:Hid _:=br;clear br;have aV:=zm al g;have a2:=a1.below g;have a3:=aE.below g;clear al a1 aE;clear g;refine kO_ ?A0 ?_;exact Obj.cells #[.slice x.na 4 x.nc,.slice x.ga x.gs.length x.gc,I_ x.aw,.slice x.ca x.cs.length x.cc] 34;have M:=zC au ?A0;have an:=hN_ au ?A0;go_upto_region 5 with fail
 generalize au.alloc ?A0=ab at M an|-;generalize au.heap.size=G at an|-;have aX:=zm aV M;have bc:=bq.below M;have a4:=a2.below M;have a5:=a3.below M;clear aV bq a2 a3;clear M;refine kO_ ?D0 ?_;exact Obj.cells #[I_ 7,I_ I,I_ Y,.string ⟨#[]⟩,I_ 8,I_ I,I_ 0,.string ⟨#[]⟩] 29;have J:=zC ab ?D0;have ao:=hN_ ab ?D0;go_wp2_with (go_at_call 10;refine(HY.out _).mono ?_;rintro e w9⟨rfl,rfl⟩)
 generalize ab.alloc ?D0=aS at J ao|-;generalize ab.heap.size=aO at ao|-;have aF:∀a∈[(⟨7,I,Y,⟨#[]⟩⟩:AV),(⟨8,I,0,⟨#[]⟩⟩:AV)],a.e=0/\a.t.size<=4000:=by
  intro a A;simp only[List.mem_cons,List.not_mem_nil,or_false]at A;rcases A with e|e
  .subst e;exact⟨zaL _ _ _ _ (by decide) (by omega) (by omega) (by decide) (λh=>by cases h) (λh=>by cases h) (λ_=>rfl),(by show ByteArray.size ⟨#[]⟩<=4000;decide)⟩
  .subst e;exact⟨zaL _ _ _ _ (by decide) (by omega) (by decide) (by decide) (λh=>by cases h) (λ_=>rfl) (λ_=>rfl),(by show ByteArray.size ⟨#[]⟩<=4000;decide)⟩
 have aY:=zm aX J;have bd:=bc.below J;have a6:=a4.below J;have aA:=a5.below J;have bz:=zk J an;clear aX bc a4 a5 an;have bn:zbq aS (some ⟨aO,0,none⟩) [(⟨7,I,Y,⟨#[]⟩⟩:AV),(⟨8,I,0,⟨#[]⟩⟩:AV)]:=zdw ao aF;have O:=zcZ m [(⟨7,I,Y,⟨#[]⟩⟩:AV),(⟨8,I,0,⟨#[]⟩⟩:AV)] ma _ mc (some ⟨aO,0,none⟩) 2 2 aS rfl rfl aA bn bH.out (λe=>by cases e) (by simp;omega);refine O.mono ?_;rintro e aN⟨v,j,t,g⟩;subst j;dsimp only;clear O bn ao J;have ay:Hid _:=zc9 Z.out aF;clear aF;obtain⟨q,C⟩:∃z9,z9=m++[(⟨7,I,Y,⟨#[]⟩⟩:AV),(⟨8,I,0,⟨#[]⟩⟩:AV)]:=⟨_,rfl⟩;rw[<-C]at t ay;have aR:Hid (q.length=m.length+2/\q=m++[(⟨7,I,Y,⟨#[]⟩⟩:AV),(⟨8,I,0,⟨#[]⟩⟩:AV)]):=⟨by rw[C];simp,C⟩;clear C;obtain⟨qa,qc,R,aH,bp⟩:=zbd t ay.out;subst R;have b7:Hid _:=bp;have cf:q.length<=64:=by have:=aR.out.1;omega
 clear t bp;have am:=zm aY g;have be:=bd.below g;have a7:=a6.below g;have a8:=aA.below g;have bA:=zk g bz;clear aY bd a6 aA bz;clear g;have N:=zc4 b bj q qa _ qc aN rfl (by omega) aH (λa A=>(ay.out a A).1) (U.out aN am).1 (U.out aN am).2;go_wp2_with fail
 refine N.mono ?_;rintro e av⟨y,j,bs,bt,b2,g⟩;subst j;dsimp only;clear N;have bJ:Hid _:=bt;clear bt;have aZ:=zm am g;have bf:=be.below g;have a9:=a7.below g;have ba:=a8.below g;have bb:=aH.below g;have bB:=zk g bA;clear am be a7 a8 aH bA;clear g;refine kO_ ?B0 ?_;exact Obj.cells #[.slice y.na 4 y.nc,.slice y.ga y.gs.length y.gc,I_ y.aw,.slice y.ca y.cs.length y.cc] 34;have z:=zC av ?B0;have aq:=hN_ av ?B0;go_upto_region 6 with fail
 generalize av.alloc ?B0=s at z aq|-;generalize av.heap.size=H at aq|-;have bX:=zm aZ z;have bg:=bf.below z;have bh:=bs.below z;have b8:=a9.below z;have b9:=ba.below z;have ca:=bb.below z;have bC:=zk z bB;clear aZ bf bs a9 ba bb bB;clear z;have aC:=zpH b (l.map AV.ac) (ziz aQ.out) I (by omega);have T:=zwB (f:=(Fl.z b).run (l.map AV.ac)) (i:=I) (p:=X) (q:=Y) (zjf _ _) (by omega) aC.1 aC.2 (by omega) ⟨#[]⟩;have ex:x.v=((((Fl.z b).run (l.map AV.ac)).does ⟨7,I,X,⟨#[]⟩⟩).does ⟨8,I,0,⟨#[]⟩⟩).told:=by rw[bI.out,ax.out.2,zcP];rfl
 have ey:y.v=((((((Fl.z b).run (l.map AV.ac)).does ⟨7,I,X,⟨#[]⟩⟩).does ⟨8,I,0,⟨#[]⟩⟩).does ⟨7,I,Y,⟨#[]⟩⟩).does ⟨8,I,0,⟨#[]⟩⟩).told:=by rw[bJ.out,aR.out.2,zcP,ax.out.2,zcP];rfl
 have aU:y.aw=x.aw:=by rw[zcA ey,zcA ex,T.1]
 have aj:(y.y I).up=(x.y I).up:=by have e1:=congrArg Vw.up (zb0 ex I u);have e2:=congrArg Vw.up (zb0 ey I u);exact e2.trans (T.2.2.symm.trans e1.symm)
 have bF:Hid (zcx (x.y I).v (y.y I).v):=by show zcx _ _;rw[zb0 ex I u,zb0 ey I u];exact T.2.1
 clear T ex ey aC;have HR:Hid (∀V:World,B_ s V->Calls prog 14 #[.agg (vrow_ (x.y I)),.agg (vrow_ (y.y I))] V λe w'=>e=.returned (.bool true)/\B_ V w'):=λV hV=>zdC (x.y I) (y.y I) V ((bg.vm I u).below hV) ((bh.vm I u).below hV) (b2.vw I u) bF.out;obtain⟨o,b0,aI⟩:=bg.row u;obtain⟨r,b1,aJ⟩:=bh.row u;generalize x.y I=c at HR aI aj;generalize y.y I=d at HR aJ aj;have cc:(I:Int)<4:=by omega
 have u1:s.cell? ⟨o,I*6,none⟩=some (.bool c.up):=aI 0 _ rfl;have u2:s.cell? ⟨r,I*6,none⟩=some (.bool c.up):=by rw[<-aj];exact aJ 0 _ rfl
 have aD:=dB_ s;have ae:s.drew.cell? ⟨G,2,none⟩=some (I_ x.aw):=zb bC 2 _ rfl;have ag:s.drew.cell? ⟨H,2,none⟩=some (I_ x.aw):=by rw[<-aU];exact zb aq 2 _ rfl
 have ad:s.drew.cell? ⟨G,0,none⟩=some (.slice (some ⟨o,0,none⟩) 4 x.nc):=by rw[<-b0];exact zb bC 0 _ rfl
 have af:s.drew.cell? ⟨H,0,none⟩=some (.slice (some ⟨r,0,none⟩) 4 y.nc):=by rw[<-b1];exact zb aq 0 _ rfl
 have ah:=dC_ u1;have ai:=dC_ u2;have aK:s.drew.rangeAt o (I*6) c.cs:=zde aI;have aL:s.drew.rangeAt r (I*6) d.cs:=zde aJ;refine wR_ (S:=λw'=>w'.cell? ⟨G,2,none⟩=some (I_ x.aw)/\w'.cell? ⟨H,2,none⟩=some (I_ x.aw)/\w'.cell? ⟨G,0,none⟩=some (.slice (some ⟨o,0,none⟩) 4 x.nc)/\w'.cell? ⟨H,0,none⟩=some (.slice (some ⟨r,0,none⟩) 4 y.nc)/\w'.cell? ⟨o,I*6,none⟩=some (.bool c.up)/\w'.cell? ⟨r,I*6,none⟩=some (.bool c.up)/\w'.rangeAt o (I*6) c.cs/\w'.rangeAt r (I*6) d.cs) (by kernel_rfl) ⟨ae,ag,ad,af,ah,ai,aK,aL⟩ (λL=>?_);generalize s.drew=V0 at aD ae ag ad af ah ai aK aL L|-;refine tks_ 9 [(0,52,.bool true),(1,53,.bool true),(2,54,.bool true),(3,55,.bool true),(4,56,.bool true),(5,57,(P_ G 0)),(6,58,.slice (some ⟨o,0,none⟩) 4 x.nc),(7,59,I_ (I:Int)),(8,60,(P_ o (I*6)))] L ?_;simp only[tkf_,zf];refine tQ_ 9 61 (.agg (vrow_ c)) rfl rfl (yieldsIf_load_mid (by rfl) 42 _ rfl o (I*6) rfl c.cs _ (λw0 h=>h.2.2.2.2.2.2.1) underlying42 rfl zck) L ?_;simp only[zf];refine tks_ 4 [(10,62,(P_ H 0)),(11,63,.slice (some ⟨r,0,none⟩) 4 y.nc),(12,64,I_ (I:Int)),(13,65,(P_ r (I*6)))] L ?_;simp only[tkf_,zf];refine tQ_ 14 66 (.agg (vrow_ d)) rfl rfl (yieldsIf_load_mid (by rfl) 42 _ rfl r (I*6) rfl d.cs _ (λw0 h=>h.2.2.2.2.2.2.2) underlying42 rfl zck) L ?_;simp only[zf];refine zE 15 rfl (λKK hK=>?_);refine zaJ (by rfl) 67 rfl 14 [.tmp 61,.tmp 66] #[42,42] rfl [.agg (vrow_ c),.agg (vrow_ d)] rfl (eO_ func14) (λv w'=>v=.bool true/\B_ V0 w') ((HR.out V0 aD).mono (λe w2 h=>⟨_,h.1,rfl,h.2⟩)) ?_;rintro v V1⟨rfl,B⟩;have bZ:=zm aD B;have bR:=(B.cell (bL_ ae)).trans ae;have bT:=(B.cell (bL_ ag)).trans ag;have bQ:=(B.cell (bL_ ad)).trans ad;have bS:=(B.cell (bL_ af)).trans af;have bU:=(B.cell (bL_ ah)).trans ah;have bV:=(B.cell (bL_ ai)).trans ai;have b5:=zdd aK B;have b6:=zdd aL B;refine hK.out _ _ ⟨bR,bT,bQ,bS,bU,bV,b5,b6⟩ (λL=>?_);simp only[zf];refine tks_ 24 [(16,68,.bool true),(17,69,.bool true),(18,70,(P_ G 0)),(19,71,.slice (some ⟨o,0,none⟩) 4 x.nc),(20,72,I_ (I:Int)),(21,73,(P_ o (I*6))),(22,74,(P_ o (I*6))),(23,75,.bool c.up),(24,76,(P_ H 0)),(25,77,.slice (some ⟨r,0,none⟩) 4 y.nc),(26,78,I_ (I:Int)),(27,79,(P_ r (I*6))),(28,80,(P_ r (I*6))),(29,81,.bool c.up),(30,82,.bool true),(31,83,.bool true),(32,84,.bool true),(33,85,(P_ G 2)),(34,86,I_ x.aw),(35,87,(P_ H 2)),(36,88,I_ x.aw),(37,89,.bool true),(38,90,.bool true),(39,10,.bool true)] L ?_;simp only[tkf_,zf];refine wD_ (by kernel_rfl) ?_ _;have bW:=zm bX bZ;clear aU aj;go_wp2_with fail
 go_ret;exact⟨rfl,bW⟩
end Go.Proofs.YtdepbohhmfkjgaaGreatDoor
