import Derived.Test.YtdnaljbnebnlhaaGreatDoorPk38
set_option maxRecDepth 100000
set_option maxHeartbeats 4000000
namespace Go.Proofs.YtdnaljbnebnlhaaGreatDoor
open Go.RowKit _root_.Go.Proofs.Tryz
variable {i:Int}
theorem Fl.run_cons (f:Fl)(a:Ac)(l:List Ac):f.run (a::l)=(f.does a).run l:=rfl
def Ac.ok (a:Ac):Prop:=1<=a.k/\a.k<=10/\0<=a.i/\a.i<4/\0<=a.p/\a.p<=400000
theorem zau (f:Fl)(i:Int)(n:Nd):(f.set i n).nd.length=f.nd.length:=by simp[Fl.set]
theorem set_here {f:Fl}(n:Nd)(b:f.nd.length=4)(c:0<=i/\i<4):(f.set i n).node i=n:=by
 have:i.toNat<f.nd.length:=by omega
 simp[Fl.set,Fl.node,List.getD,this]
theorem set_there {f:Fl}{j:Int}(n:Nd)(b:0<=i)(c:0<=j)(d:j≠i):(f.set i n).node j=f.node j:=by
 have:i.toNat≠j.toNat:=by omega
 simp[Fl.set,Fl.node,List.getD,this]
theorem zdO (l:List MC)(f:Fl):(l.foldl Fl.out f).nd=f.nd:=by
 induction l generalizing f with
 | nil=>rfl
 | cons m l ih=>rw[List.foldl_cons,ih];rfl
theorem zhv (o:No)(m:MC):(o.sign m).bad=o.bad:=by
 unfold No.sign
 split
 .split<;>rfl
 .split<;>rfl
theorem zha (l:List MC)(f:Fl):(l.foldl Fl.out f).no.bad=f.no.bad:=by
 induction l generalizing f with
 | nil=>rfl
 | cons m l ih=>rw[List.foldl_cons,ih];exact zhv _ _
theorem zev {f g:Fl}(h:f.nd=g.nd)(i:Int):f.node i=g.node i:=by rw[Fl.node,Fl.node,h]
theorem zcj (f:Fl)(i:Int)(m:MC):(f.come i m).away=f.away:=by unfold Fl.come;split<;>rfl
theorem zew (f:Fl)(i:Int)(m:MC):(f.come i m).no=f.no:=by unfold Fl.come;split<;>rfl
theorem zca (f:Fl)(i:Int)(m:MC):(f.come i m).nd.length=f.nd.length:=by unfold Fl.come;split;exact zau _ _ _;rfl
theorem zlo (l:List MC)(f:Fl):(zkP f l).no=f.no:=by
 induction l generalizing f with
 | nil=>rfl
 | cons m l ih=>exact(ih _).trans (zew _ _ _)
theorem zej (l:List MC)(f:Fl):(zkP f l).away=f.away:=by
 induction l generalizing f with
 | nil=>rfl
 | cons m l ih=>exact(ih _).trans (zcj _ _ _)
theorem zeT (l:List MC)(f:Fl):(zkP f l).nd.length=f.nd.length:=by
 induction l generalizing f with
 | nil=>rfl
 | cons m l ih=>exact(ih _).trans (zca _ _ _)
theorem zfs (f:Fl)(a:Ac):(f.does a).nd.length=f.nd.length:=by
 unfold Fl.does Fl.act
 split
 .unfold Fl.pick
  split
  .rfl
  .split
   .rfl
   .split
    .exact zca _ _ _
    .rfl
 .split
  .exact zeT _ _
  .split
   .unfold Fl.submit
    split
    .rfl
    .split
     .exact zau _ _ _
     .rfl
   .split
    .exact zcq (P:=λg=>g.nd.length=f.nd.length) _ _ rfl (λm=>zca _ _ _)
    .split
     .unfold Fl.start
      split
      .rfl
      .exact zau _ _ _
     .split
      .split
       .split
        .exact zau _ _ _
        .split
         .unfold Fl.sync;rw[zdO];exact zau _ _ _
         .exact zau _ _ _
       .rfl
      .rfl
theorem zgk (l:List Ac)(f:Fl):(f.run l).nd.length=f.nd.length:=by
 induction l generalizing f with
 | nil=>rfl
 | cons a l ih=>rw[Fl.run_cons,ih,zfs]
theorem zdQ (f:Fl)(a:Ac):(f.does a).no.bad=f.no.bad:=by
 unfold Fl.does Fl.act
 split
 .unfold Fl.pick
  split
  .rfl
  .split
   .rfl
   .split
    .rw[zew]
    .rfl
 .split
  .rw[zfw,zlo]
  .split
   .unfold Fl.submit
    split
    .rfl
    .split<;>rfl
   .split
    .exact zcq (P:=λg=>g.no.bad=f.no.bad) _ _ rfl (λm=>by rw[zew])
    .split
     .unfold Fl.start
      split<;>rfl
     .split
      .split
       .split
        .rfl
        .split
         .unfold Fl.sync;rw[zha];rfl
         .rfl
       .rfl
      .rfl
theorem zxU (l:List Ac)(f:Fl):(f.run l).no.bad=f.no.bad:=by
 induction l generalizing f with
 | nil=>rfl
 | cons a l ih=>rw[Fl.run_cons,ih,zdQ]
variable {k:Nat}{t:ByteArray}
theorem zbP.up {o:No}{a b:Nd}(s:zbP o a b):b.up=a.up:=by
 rcases s with⟨d,m,c,_,rfl⟩|⟨b,_,_,rfl⟩|⟨_,_,rfl⟩|⟨_,_,rfl⟩|⟨_,_,_,_,_,rfl⟩|⟨_,_,_,_,rfl⟩|⟨_,_,rfl⟩|⟨_,rfl⟩
 .unfold Nd.send;split<;>rfl
 all_goals rfl
theorem zdq {Q:Nd->Prop}{o:No}{a b:Nd}(h:∀x y,x.up=true->zbP o x y->Q x->Q y)(s:zad o a b)(g:a.up=true)(f:Q a):Q b:=
 (zad.keeps (P:=λn=>n.up=true/\Q n) (λx y d c=>⟨(zbP.up d).trans c.1,h x y c.1 d c.2⟩) s ⟨g,f⟩).2
theorem zfC {f:Fl}(h:f.runs i=true):(f.node i).up=true:=by
 unfold Fl.runs at h;rw[Bool.and_eq_true]at h;exact h.2
structure zc5 (S:ByteArray->Prop)(Q:Int->Nd->Prop):Prop where
 step:∀i o a b,0<=i/\i<4->a.up=true->zbP o a b->Q i a->Q i b
 crash:∀i n p,0<=i/\i<4->0<=p->Q i n->Q i (n.crash p)
 up:∀i n,0<=i/\i<4->Q i n->Q i { n with up:=true }
 synced:∀i n,0<=i/\i<4->Q i n->Q i { n with wai:=[],syn:=(zae n.recs).length }
 sub:∀i n t,0<=i/\i<4->S t->zcD n.nx n.txs t=0->Q i n->Q i { n with txs:=n.txs++[t] }
def zah (Q:Int->Nd->Prop)(f:Fl):Prop:=f.nd.length=4/\∀i,0<=i/\i<4->Q i (f.node i)
theorem zah.set {Q:Int->Nd->Prop}{f:Fl}(h:zah Q f){i:Int}(c:0<=i/\i<4){n:Nd}(d:Q i n):zah Q (f.set i n):=by
 refine⟨(zau _ _ _).trans h.1,λj b=>?_⟩;by_cases e:j=i
 .subst e;rw[set_here n h.1 b];exact d
 .rw[set_there n c.1 b.1 e];exact h.2 j b
theorem zah.nd {Q:Int->Nd->Prop}{f g:Fl}(h:zah Q f)(e:g.nd=f.nd):zah Q g:=⟨by rw[e];exact h.1,λj b=>by rw[zev e];exact h.2 j b⟩
def MC.post (m:MC):Prop:=(0<=m.fr/\m.fr<4)/\0<=m.tt/\m.tt<4
theorem zah.come {S:ByteArray->Prop}{Q:Int->Nd->Prop}(k:zc5 S Q){f:Fl}(h:zah Q f){i:Int}(c:0<=i/\i<4){m:MC}(d:0<=m.fr/\m.fr<4):zah Q (f.come i m):=by
 unfold Fl.come
 split
 .rename_i g
  exact h.set c (zdq (λa b u s=>k.step i f.no a b c u s) (zfT f.no (f.node i) m d) (zfC g) (h.2 i c))
 .exact h
theorem zah.zkP {S:ByteArray->Prop}{Q:Int->Nd->Prop}(k:zc5 S Q)(l:List MC){f:Fl}(h:zah Q f)(b:∀m∈l,m.post):zah Q (zkP f l):=by
 induction l generalizing f with
 | nil=>exact h
 | cons m l ih=>exact ih (h.come k (b m (by simp)).2 (b m (by simp)).1) (λd c=>b d (List.mem_cons_of_mem _ c))
theorem zeU {l:List MC}(h:k<l.length):l.getD k MC.z∈l:=by simp[List.getD,h]
theorem zhw {m:MC}(h:zh2 t=some m):0<=m.fr/\m.fr<4:=by
 unfold zh2 at h
 split at h
 .rename_i e
  cases h;exact(zhI e.2).1
 .cases h
theorem zah.does {S:ByteArray->Prop}{Q:Int->Nd->Prop}(k:zc5 S Q){f:Fl}(h:zah Q f)(c:∀m∈f.away,m.post){a:Ac}(l:a.ok)(j:a.k=1->S a.t):zah Q (f.does a):=by
 obtain⟨_,_,o,p,t,_⟩:=l;have b:0<=a.i/\a.i<4:=⟨o,p⟩;unfold Fl.does Fl.act
 split
 .unfold Fl.pick
  split
  .exact h
  .rename_i B
   split
   .exact h.nd rfl
   .split
    .have d:=c _ (zeU (Nat.mod_lt a.p.toNat (show 0<f.away.length by omega)));exact zah.come k (h.nd (g:={ f with away:=f.away.eraseIdx (a.p.toNat % f.away.length) }) rfl) d.2 d.1
    .exact h.nd rfl
 .split
  .exact zah.zkP k f.away (h.nd (g:={ f with away:=[] }) rfl) c
  .split
   .rename_i q
    unfold Fl.submit
    split
    .exact h.nd rfl
    .split
     .rename_i z;exact zah.nd (h.set b (k.sub a.i _ a.t b (j q) z (h.2 a.i b))) rfl
     .exact h.nd rfl
   .split
    .unfold Fl.forge
     split
     .rename_i m r
      split
      .exact h
      .exact zah.come k h b (zhw r)
     .exact h
    .split
     .unfold Fl.start
      split
      .exact h
      .exact h.set b (k.up a.i _ b (h.2 a.i b))
     .split
      .split
       .rename_i A
        split
        .exact h.set b (zdq (λx y u s=>k.step a.i f.no x y b u s) (zgV f.no (f.node a.i)) (zfC A) (h.2 a.i b))
        .split
         .exact zah.nd (h.set b (k.synced a.i _ b (h.2 a.i b))) (zdO _ _)
         .exact h.set b (k.crash a.i _ a.p b t (h.2 a.i b))
       .exact h
      .exact h
structure zeF (i:Int)(n:Nd):Prop where
 nu:n.nu=i
 fr:∀m∈n.wai,m.fr=i/\0<=m.tt/\m.tt<4
theorem zix {n:Nd}{d:Int}{m:MC}(h:zeF i n)(b:0<=d/\d<4):zeF i (n.send d m):=by
 unfold Nd.send
 split
 .exact h
 .refine⟨h.nu,λx c=>?_⟩;rcases List.mem_append.1 c with g|g
  .exact h.fr x g
  .rw[List.mem_singleton.1 g];exact⟨h.nu,b⟩
theorem zf0:zc5 (λ_=>True) zeF where
 step:=λi o a b j _ s h=>by
  rcases s with⟨d,m,g,_,rfl⟩|⟨b,_,_,rfl⟩|⟨_,_,rfl⟩|⟨_,_,rfl⟩|⟨_,_,_,_,_,rfl⟩|⟨_,_,_,_,rfl⟩|⟨_,_,rfl⟩|⟨_,rfl⟩
  .exact zix h g
  all_goals exact⟨h.nu,h.fr⟩
 crash:=λi n p _ _ h=>by
  obtain⟨a,_,c,_⟩:=zc8 n p
  exact⟨a.trans h.nu,λm f=>by rw[c]at f;cases f⟩
 up:=λi n _ h=>⟨h.nu,h.fr⟩
 synced:=λi n _ h=>⟨h.nu,λm f=>by cases f⟩
 sub:=λi n t _ _ _ h=>⟨h.nu,h.fr⟩
theorem zhx (l:List MC){f:Fl}(h:∀m∈f.away,m.post)(c:∀m∈l,m.post):∀m∈(l.foldl Fl.out f).away,m.post:=by
 induction l generalizing f with
 | nil=>exact h
 | cons x l ih=>
  refine ih (f:=f.out x) (λm b=>?_) (λm b=>c m (List.mem_cons_of_mem _ b));have b:m∈zct f.away x:=b;unfold zct at b
  split at b
  .rcases List.mem_append.1 b with g|g
   .exact h m g
   .rw[List.mem_singleton.1 g];exact c x (by simp)
  .exact h m b
structure zcn (f:Fl):Prop where
 posts:zah zeF f
 aw:∀m∈f.away,m.post
theorem zcn.does {f:Fl}(h:zcn f){a:Ac}(c:a.ok):zcn (f.does a):=by
 refine⟨h.posts.does zf0 h.aw c (λ_=>trivial),?_⟩;obtain⟨_,_,o,p,s,_⟩:=c;have d:0<=a.i/\a.i<4:=⟨o,p⟩;unfold Fl.does Fl.act
 split
 .unfold Fl.pick
  split
  .exact h.aw
  .rename_i r
   have q:=h.aw _ (zeU (Nat.mod_lt a.p.toNat (show 0<f.away.length by omega)))
   split
   .intro m b;have b:m∈zct f.away _:=b;unfold zct at b
    split at b
    .rcases List.mem_append.1 b with g|g
     .exact h.aw m g
     .rw[List.mem_singleton.1 g];exact q
    .exact h.aw m b
   .split
    .rw[zcj];intro m b;exact h.aw m (List.mem_of_mem_eraseIdx b)
    .intro m b;exact h.aw m (List.mem_of_mem_eraseIdx b)
 .split
  .rw[zfw,zej];intro m b;cases b
  .split
   .unfold Fl.submit
    split
    .exact h.aw
    .split<;>exact h.aw
   .split
    .exact zcq (P:=λg=>∀m∈g.away,m.post) _ _ h.aw (λm=>by rw[zcj];exact h.aw)
    .split
     .unfold Fl.start
      split<;>exact h.aw
     .split
      .split
       .split
        .exact h.aw
        .split
         .unfold Fl.sync;refine zhx _ h.aw (λm b=>?_);obtain⟨j,l⟩:=(h.posts.2 a.i d).fr m b;exact⟨by rw[j];exact d,l⟩
         .exact h.aw
       .exact h.aw
      .exact h.aw
theorem zf1 (r:Int)(i:Int)(b:0<=i/\i<4):(Fl.z r).node i={ Nd.z i with up:=true }:=by
 have:i=0\/i=1\/i=2\/i=3:=by omega
 rcases this with e|e|e|e<;>subst e<;>rfl
theorem zcn.z (r:Int):zcn (Fl.z r):=⟨⟨rfl,λi c=>by rw[zf1 r i c];exact⟨rfl,λm b=>by cases b⟩⟩,λm b=>by cases b⟩
theorem zah.run {S:ByteArray->Prop}{Q:Int->Nd->Prop}(k:zc5 S Q)(l:List Ac){f:Fl}(j:zcn f)(h:zah Q f)(d:∀a∈l,a.ok)(g:∀a∈l,a.k=1->S a.t):zah Q (f.run l):=by
 induction l generalizing f with
 | nil=>exact h
 | cons a l ih=>exact ih (j.does (d a (by simp))) (h.does k j.aw (d a (by simp)) (g a (by simp))) (λb c=>d b (List.mem_cons_of_mem _ c)) (λb c=>g b (List.mem_cons_of_mem _ c))
def zAX (S:ByteArray->Prop)(_:Int)(n:Nd):Prop:=∀t∈n.txs,S t
theorem zAY (S:ByteArray->Prop):zc5 S (zAX S) where
 step:=λi o a b q _ s h=>by
  rcases s with⟨d,m,l,_,rfl⟩|⟨b,_,_,rfl⟩|⟨_,_,rfl⟩|⟨_,_,rfl⟩|⟨_,_,_,_,_,rfl⟩|⟨_,_,_,_,rfl⟩|⟨_,_,rfl⟩|⟨_,rfl⟩
  .unfold Nd.send;split<;>exact h
  .exact h
  .exact h
  .exact h
  .exact h
  .exact h
  .exact λt c=>h t (List.mem_of_mem_drop c)
  .exact h
 crash:=λi n p _ _ h t c=>by rw[(zc8 n p).2.2.2.2.2.1]at c;cases c
 up:=λi n _ h=>h
 synced:=λi n _ h=>h
 sub:=λi n t _ f _ h x j=>by
  rcases List.mem_append.1 j with g|g
  .exact h x g
  .rw[List.mem_singleton.1 g];exact f
theorem zzw {o:Om}{f:Fl}(h:o.v=f.told):o.cs=f.codes:=congrArg (λx:Ou=>x.cs) h
theorem zhy {a:AV}(h:a.e=0):a.ac.ok:=by
 obtain⟨b,c,d,_⟩:=zn3 h;exact⟨b.1,b.2,c.1,c.2,d.1,d.2⟩
theorem zcP (r:Int)(l m:List AV):(Fl.z r).run ((l++m).map AV.ac)=((Fl.z r).run (l.map AV.ac)).run (m.map AV.ac):=by rw[List.map_append,Fl.run_append]
theorem ziz {l:List AV}(h:∀a∈l,a.e=0/\a.t.size<=4000):∀x∈l.map AV.ac,x.ok:=λx c=>by
 obtain⟨a,b,rfl⟩:=List.mem_map.1 c
 exact zhy (h a b).1
theorem zjf (r:Int)(l:List Ac):((Fl.z r).run l).nd.length=4:=(zgk l _).trans rfl
theorem zsR (r:Int)(l:List Ac):((Fl.z r).run l).no.bad=r:=zxU l _
variable {ss:List ByteArray}
theorem zAO {l:List BW}{b:BW}(h:zbG l b=true):b.f=0:=by
 unfold zbG at h;simp only[Bool.and_eq_true,decide_eq_true_eq]at h;exact h.1.1
theorem zAj {l:List BW}{b:BW}(h:∀x∈l,x.f=0)(c:b.f=0):∀x∈l++[b],x.f=0:=λx d=>by
 rcases List.mem_append.1 d with g|g
 .exact h x g
 .rw[List.mem_singleton.1 g];exact c
theorem zBa {k:Kn}(m:MC)(h:∀b∈k.sh,b.f=0):∀b∈(k.rcl m).sh,b.f=0:=by
 unfold Kn.rcl
 split
 .split
  .rename_i e;exact zAj h (zAO e)
  .exact h
 .split
  .split<;>exact h
  .split
   .exact h
   .split
    .split<;>exact h
    .exact h
theorem zA6 (l:List MC)(k:Kn)(h:∀b∈k.sh,b.f=0):∀b∈(l.foldl Kn.rcl k).sh,b.f=0:=by
 induction l generalizing k with
 | nil=>exact h
 | cons m l ih=>exact ih (k.rcl m) (zBa m h)
structure zzM (i:Int)(n:Nd):Prop where
 pool:zaO n.nx n.txs=0
 sh:∀b∈n.k.sh,b.f=0
theorem zAK:zc5 (λ_=>True) zzM where
 step:=λi o a b q _ s h=>by
  rcases s with⟨d,m,l,_,rfl⟩|⟨b,e,_,rfl⟩|⟨_,_,rfl⟩|⟨_,_,rfl⟩|⟨_,_,_,_,_,rfl⟩|⟨_,_,_,_,rfl⟩|⟨e,_,rfl⟩|⟨_,rfl⟩
  .unfold Nd.send
   split
   .exact h
   .exact⟨h.pool,h.sh⟩
  .exact⟨h.pool,zAj h.sh (zAO e)⟩
  .exact⟨h.pool,h.sh⟩
  .exact⟨h.pool,h.sh⟩
  .exact⟨h.pool,h.sh⟩
  .exact⟨h.pool,h.sh⟩
  .exact⟨(zxv e).2,h.sh⟩
  .exact⟨h.pool,h.sh⟩
 crash:=λi n p _ _ h=>by
  obtain⟨_,_,_,_,_,j,g,_⟩:=zc8 n p
  have c:∀b∈(n.crash p).k.sh,b.f=0:=by rw[g];exact zA6 _ _ (λb f=>by cases f)
  refine⟨?_,c⟩
  have r:=zt3 n.nu (n.crash p).k.sh c
  have e:(n.crash p).nx=zd2 n.nu (n.crash p).k.sh:=rfl
  rw[j,e,zaO,if_neg (by show ¬(_\/40<0);omega)]
  rfl
 up:=λi n _ h=>⟨h.pool,h.sh⟩
 synced:=λi n _ h=>⟨h.pool,h.sh⟩
 sub:=λi n t _ _ e h=>⟨zyH h.pool e,h.sh⟩
theorem zzM.z (r:Int):zah zzM (Fl.z r):=⟨rfl,λi d=>by rw[zf1 r i d];exact⟨rfl,λb c=>by cases c⟩⟩
theorem ztH {f:Fl}{E:Int}(b:E≠0)(h:f.runs i=false/\E=12\/f.runs i=true/\zcD (f.node i).nx (f.node i).txs t=E):(f.submit i t).codes=f.codes++[E]/\(f.submit i t).nd=f.nd/\(f.submit i t).runs i=f.runs i:=by
 have e:f.submit i t={ f with codes:=f.codes++[E] }:=by
  unfold Fl.submit;rcases h with⟨h,rfl⟩|⟨h,c⟩
  .rw[if_pos h]
  .rw[if_neg (by rw[h];decide),c,if_neg b]
 rw[e];exact⟨rfl,rfl,rfl⟩
theorem zAJ {f:Fl}(t e:ByteArray)(h:f.runs i=false):(((f.submit i t).submit i t).submit i e).codes=f.codes++[12,12,12]:=by
 obtain⟨c,_,b⟩:=ztH (t:=t) (by decide) (.inl ⟨h,rfl⟩);obtain⟨d,_,j⟩:=ztH (t:=t) (by decide) (.inl ⟨b.trans h,rfl⟩);obtain⟨g,_,_⟩:=ztH (t:=e) (by decide) (.inl ⟨j.trans (b.trans h),rfl⟩);rw[g,d,c]
 simp
theorem zzU {nx:Int}(t:ByteArray)(h:zaO nx ss=0):zcD nx ss t=zdK ss t:=by rw[zcD,if_pos h]
theorem zA1 {f:Fl}{e:ByteArray}(J:f.nd.length=4)(O:0<=i/\i<4)(b:f.runs i=true)(d:zaO (f.node i).nx (f.node i).txs=0)(p:zbM t=true)(u:inS t (f.node i).txs=false)(M:zbM e=false) :
  (((f.submit i t).submit i t).submit i e).codes=f.codes++[6,6,1] \/
  ((((f.submit i t).submit i t).submit i e).codes=f.codes++[0,7,1]/\((((f.submit i t).submit i t).submit i e).node i).txs=(f.node i).txs++[t]):=by
 have r:∀ss,zdK ss e=1:=λss=>by rw[zdK,if_pos M]
 by_cases hf:40<=(f.node i).txs.length
 .left
  have G:zdK (f.node i).txs t=6:=by rw[zdK,if_neg (by rw[p];decide),if_neg (by rw[u];decide),if_pos hf]
  have B:zcD (f.node i).nx (f.node i).txs t=6:=(zzU t d).trans G;have T:zcD (f.node i).nx (f.node i).txs e=1:=(zzU e d).trans (r _);obtain⟨I,z,C⟩:=ztH (t:=t) (E:=6) (by decide) (.inr ⟨b,B⟩);obtain⟨l,j,q⟩:=ztH (t:=t) (E:=6) (by decide) (.inr ⟨C.trans b,by rw[zev z];exact B⟩);obtain⟨m,_,_⟩:=ztH (t:=e) (E:=1) (by decide) (.inr ⟨q.trans (C.trans b),by rw[zev (j.trans z)];exact T⟩);rw[m,l,I]
  simp
 .right
  have D:zdK (f.node i).txs t=0:=by rw[zdK,if_neg (by rw[p];decide),if_neg (by rw[u];decide),if_neg hf]
  have A:zcD (f.node i).nx (f.node i).txs t=0:=(zzU t d).trans D;have y:=zyH d A;have o:f.submit i t={ (f.set i { f.node i with txs:=(f.node i).txs++[t] })with codes:=f.codes++[0] }:=by
   unfold Fl.submit;rw[if_neg (by rw[b];decide),if_pos A]
  have c:(f.submit i t).node i={ f.node i with txs:=(f.node i).txs++[t] }:=by
   rw[o];exact set_here _ J O
  have s:(f.submit i t).runs i=true:=by
   have L:(f.submit i t).no.bad=f.no.bad:=by rw[o];rfl
   unfold Fl.runs at b|-;rw[c,L];exact b
  have N:(f.submit i t).codes=f.codes++[0]:=by rw[o]
  generalize f.submit i t=g at*;have H:zcD (g.node i).nx (g.node i).txs t=7:=by
   rw[c];show zcD (f.node i).nx ((f.node i).txs++[t]) t=7;rw[zzU t y,zdK,if_neg (by rw[p];decide),if_pos (by simp[inS])]
  have F:zcD (g.node i).nx (g.node i).txs e=1:=by
   rw[c];exact(zzU e y).trans (r _)
  obtain⟨l,j,q⟩:=ztH (t:=t) (E:=7) (by decide) (.inr ⟨s,H⟩);obtain⟨m,R,_⟩:=ztH (t:=e) (E:=1) (by decide) (.inr ⟨q.trans s,by rw[zev j];exact F⟩);refine⟨by rw[m,l,N];simp,?_⟩;rw[zev (R.trans j),c]
theorem zAZ (h:∀s∈ss,s.size=3)(c:t.size=9):inS t ss=false:=by
 cases e:inS t ss with
 | false=>rfl
 | true=>
  have b:t∈ss:=by simpa[inS]using e
  have:=h t b;omega
theorem zBb (r:Int)(l:List Ac)(c:∀a∈l,a.ok)(f:∀a∈l,a.k=1->a.t.size=3)(i:Int)(b:0<=i/\i<4):zaO (((Fl.z r).run l).node i).nx (((Fl.z r).run l).node i).txs=0/\∀s∈(((Fl.z r).run l).node i).txs,s.size=3:=by
 have d:zah (zAX λt=>t.size=3) (Fl.z r):=⟨rfl,λi b=>by rw[zf1 r i b];exact λt g=>by cases g⟩;exact⟨((zah.run zAK l (zcn.z r) (zzM.z r) c (λ_ _ _=>trivial)).2 i b).pool,(zah.run (zAY _) l (zcn.z r) d c f).2 i b⟩
theorem zzV (f:Fl)(i:Int)(t:ByteArray):(f.submit i t).no=f.no:=by
 unfold Fl.submit
 split
 .rfl
 .split<;>rfl
variable {w:World}
def zjS:List AV->Nat
 | []=>0
 | a::l=>(if a.k=1 then 1 else 0)+zjS l
theorem zAR (l:List AV)(f:Fl):(f.run (l.map AV.ac)).codes.length=f.codes.length+zjS l:=by
 induction l generalizing f with
 | nil=>rfl
 | cons a l ih=>
  rw[List.map_cons,Fl.run_cons,ih,zrO,zjS];show _+(if a.k=1 then 1 else 0)+_=_;omega
theorem zA2 {b:Int}{l:List AV}{i:Nat}{T:ByteArray}(I:i<4)(p:T.size=9)(C:∀a∈l,a.e=0/\a.t.size<=4000)(t:∀a∈l,a.k=1->a.t.size=3){f g:Fl}(c:f=(Fl.z b).run (l.map AV.ac))(A:g=(Fl.z b).run ((l++[(⟨1,i,0,T⟩:AV),⟨1,i,0,T⟩,⟨1,i,0,⟨#[]⟩⟩]).map AV.ac)) :
  f.codes.length=zjS l/\((b=i/\g.codes=f.codes++[12,12,12])\/(¬b=i/\(f.view i).up=false/\g.codes=f.codes++[12,12,12])\/(¬b=i/\(f.view i).up=true/\g.codes=f.codes++[6,6,1])\/(¬b=i/\(f.view i).up=true/\g.codes=f.codes++[0,7,1]/\∃ss,(g.view i).tx=ss++[T])):=by
 have q:(0:Int)<=(i:Int)/\(i:Int)<4:=by omega
 have u:f.nd.length=4:=by rw[c];exact zjf b _
 have d:f.no.bad=b:=by rw[c];exact zsR b _
 have z:f.codes.length=zjS l:=by rw[c,zAR];exact Nat.zero_add _
 have j:g=((f.submit i T).submit i T).submit i ⟨#[]⟩:=by
  rw[A,zcP,<-c];show((f.does ⟨1,i,0,T⟩).does ⟨1,i,0,T⟩).does ⟨1,i,0,⟨#[]⟩⟩=_;rw[zp3 rfl,zp3 rfl,zp3 rfl]
 have B:g.no.bad=b:=by rw[j,zzV,zzV,zzV];exact d
 have o:=zBb b (l.map AV.ac) (ziz C) (λa y=>by obtain⟨x,F,rfl⟩:=List.mem_map.1 y;exact t x F) i q;rw[<-c]at o;refine⟨z,?_⟩;by_cases hbi:b=i
 .left
  refine⟨hbi,?_⟩;rw[j];refine zAJ _ _ ?_;unfold Fl.runs;rw[d,<-hbi]
  simp
 .right
  have m:¬(i:Int)=b:=λe=>hbi e.symm;have E:(f.view i).up=(f.node i).up:=by
   unfold Fl.view;rw[if_neg (by rw[d];exact m)]
  have s:f.runs i=(f.node i).up:=by
   unfold Fl.runs;rw[d,dT_ m,Bool.true_and]
  rw[E];cases hu:(f.node i).up with
  | false=>
   left
   refine⟨hbi,rfl,?_⟩;rw[j];exact zAJ _ _ (s.trans hu)
  | true=>
   right
   have D:inS T (f.node i).txs=false:=zAZ o.2 p;have r:=zA1 (e:=⟨#[]⟩) u q (s.trans hu) o.1 (show zbM T=true by unfold zbM;rw[p];rfl) D (by rfl);rw[<-j]at r;rcases r with k|⟨G,H⟩
   .exact .inl ⟨hbi,rfl,k⟩
   .refine .inr ⟨hbi,rfl,G,(f.node i).txs,?_⟩;unfold Fl.view;rw[if_neg (by rw[B];exact m)];exact H
theorem zA0 {o:Om}{M:Nat}{c:List Int}{m p q:Int}(h:zex w o)(l:o.cs=c++[m,p,q])(f:c.length=M):∃b,o.ca=some ⟨b,0,none⟩/\w.cell? ⟨b,M,none⟩=some (I_ m)/\w.cell? ⟨b,M+1,none⟩=some (I_ p)/\w.cell? ⟨b,M+2,none⟩=some (I_ q):=by
 have u:o.cs.length=M+3:=by rw[l,lP_,f];rfl
 have g:∀j:Nat,(iv o.cs)[j]? = (o.cs[j]?).map (Value.int .i64):=λj=>by simp[iv]
 have d:=h.co;rcases d.2 with⟨_,y⟩|⟨b,s,t,e,_⟩
 .omega
 .simp only[Value.slice.injEq]at e;have r:=e.1;rw[r]at d;refine⟨b,r,?_,?_,?_⟩
  .rw[World.ownsRow.cellAt d M (by omega),g,l,List.getElem?_append_right (by omega),f,Nat.sub_self];rfl
  .rw[World.ownsRow.cellAt d (M+1) (by omega),g,l,List.getElem?_append_right (by omega),f,show M+1-M=1 by omega];rfl
  .rw[World.ownsRow.cellAt d (M+2) (by omega),g,l,List.getElem?_append_right (by omega),f,show M+2-M=2 by omega];rfl
theorem zA3 {v:Vm}{T:ByteArray}(h:zfX w v)(d:v.txs=ss++[T]):∃b c,v.pa=some ⟨b,c,none⟩/\w.cell? ⟨b,c+ss.length,none⟩=some (.string T):=by
 rcases h.tx.strs.cells with e|⟨b,c,e,f⟩
 .rw[d]at e;simp at e
 .refine⟨b,c,e,?_⟩;rw[f ss.length (by rw[d];simp),d];simp[List.getD]
theorem topCodes_walk (sa:Option Addr)(aw:Nat)(rs:List Ft)(n:Int)(A p u:Int)(C:ByteArray)(w:World)(bN:zfn w sa rs)(_hc_rs:rs.length<=aw)(n1:-9223372036854775808<=n)(n2:n<=9223372036854775807)(_g1:I64 A)(g2:I64 p)(g3:I64 u)(_g4:C.size<=maxLen)(hT:zcw w/\zbJ w) :
  Calls prog 7 #[.slice sa rs.length aw,I_ n,.agg #[I_ A,I_ p,I_ u,.string C]] w λe w'=>e=.returned (.bool true)/\B_ w w':=by
 have HT:Hid (∀W:World,B_ w W->zcw W/\zbJ W):=λW hW=>⟨hT.1.below hW hT.1.lt,hT.2.below hW⟩;clear hT;obtain⟨bX,bY⟩:=zW n 5 (by decide);have ar:Hid (∀W:World,Calls prog 9 #[I_ n] W λe w'=>e=.returned (I_ (pk n 5-1))/\W=w'):=λW=>zg9 n W n1 n2;obtain⟨b,a9⟩:∃b,b=pk n 5-1:=⟨_,rfl⟩;have ba:-1<=b/\b<=3:=by omega
 rw[<-a9]at ar;clear a9 bX bY n1 n2;have aP:-9223372036854775808<=p:=g2.1;have aQ:p<=9223372036854775807:=g2.2;obtain⟨bV,bW⟩:=zW p 4 (by decide);obtain⟨i,hi⟩:∃k:Nat,pk p 4=k:=⟨(pk p 4).toNat,by omega⟩;have Hi:Hid (∀W:World,Calls prog 17 #[I_ p,I_ 4] W λe w'=>e=.returned (I_ (i:Int))/\W=w'):=λW=>by rw[<-hi];exact zbI p 4 W aP aQ (by decide) (by decide)
 have R:i<4:=by omega
 clear hi bV bW aP aQ;refine kA_ ?A0 ?_;exact #[I_ A,I_ p,I_ u,.string C];have aM:Hid (∀W:World,Calls prog 19 #[.agg ?A0] W λe w'=>(∃s:ByteArray,e=.returned (.string s)/\s.size=3)/\B_ W w'):=λW=>zpl A p u C W g2 g3;clear g2 g3;go_in;have ay:=zC w (.cells ?A0 38);have qg:=hN_ w (.cells ?A0 38);go_upto_region 1 with fail
 generalize w.alloc (.cells ?A0 38)=Wg at ay qg|-;obtain⟨Bg,aX⟩:∃B,B=w.heap.size:=⟨_,rfl⟩;rw[<-aX]at qg|-;clear aX;have az:=ay;clear ay;go_wp2_with fail
 refine(ar.out _).mono ?_;rintro _ w0⟨rfl,rfl⟩;dsimp only;clear ar;have ax:=zb qg 1 (I_ p) rfl;go_wp2_with fail
 refine(Hi.out _).mono ?_;rintro _ w0⟨rfl,rfl⟩;dsimp only;clear Hi ax;go_wp2_with fail
 refine(zpm rs sa _ aw 40 Wg rfl (bN.below az) (by decide)).mono ?_;rintro e bE⟨v,l,q,L,hl,b5,o⟩;subst q;dsimp only;have aD:∀a∈l,a.e=0/\a.t.size<=4000:=λa t=>(hl a t).1;have bF:Hid (∀a∈l,a.k=1->a.t.size=3):=λa t=>(hl a t).2;obtain⟨aa,ac,hv,aE,bg⟩:=zbd L aD;subst hv;have au:Hid _:=aD;have bG:Hid _:=bg;clear L hl aD bg;have aU:=zm az o;have bx:=zk o qg;clear az qg;clear o;have aL:Hid (zbq bE aa l):=aE;go_wp2_with fail
 go_loopw [11,10] (λj v wr=>∃k M:Nat,k<=l.length/\M<=k/\j=I_ k/\v=I_ M/\Hid (zjS l=M+zjS (l.drop k))/\B_ bE wr) (λj _ _=>l.length-(intOf j).toNat)
 case atStart=>exact⟨0,0,nZ_ _,nR_ _,rfl,rfl,by show _=_;rw[List.drop_zero,Nat.zero_add],bR_ _ _⟩
 case round=>
  obtain⟨k,M,hk,hM,rfl,rfl,aj,H⟩:=hrel;by_cases hlt:k<l.length
  .have bS:(k:Int)<l.length:=by omega
   rcases(aL.out.below H).cells with hc|⟨sb,so,bU,hc⟩
   .subst hc;simp at hlt
   subst bU;obtain⟨c0,-,-,-⟩:=hc k hlt;have be:l.getD k .z=l[k]:=by simp[List.getD,hlt]
   have O:Hid (zjS l=M+((if(l[k]).k=1 then 1 else 0)+zjS (l.drop (k+1)))):=by
    show _=_;rw[aj.out,List.drop_eq_getElem_cons hlt,zjS]
   rw[be]at c0;clear hc be aj;generalize l[k]=x at*;by_cases G:x.k=1
   .rw[G]at c0;rw[if_pos G]at O;have aI:Hid (zjS l=(M+1)+zjS (l.drop (k+1))):=by show _=_;rw[O.out];omega
    clear G O;go_wp2_with fail
    go_roundw
    case rel=>exact⟨k+1,M+1,by omega,by omega,by go_num,by go_num,aI,H⟩
    case measure=>simp[intOf];omega
   .have b1:(x.k == 1)=false:=by simpa using G
    rw[if_neg G]at O;have aI:Hid (zjS l=M+zjS (l.drop (k+1))):=by show _=_;rw[O.out];omega
    clear G O;go_wp2_with fail
    go_roundw
    case rel=>exact⟨k+1,M,by omega,by omega,by go_num,rfl,aI,H⟩
    case measure=>simp[intOf];omega
  .obtain rfl:k=l.length:=by omega
   have bS:¬(l.length:Int)<l.length:=by omega
   have HM:Hid (zjS l=M):=by show _=_;rw[aj.out,List.drop_length];rfl
   clear aL aj hlt hk;have aW:=zm aU H;have a3:=aE.below H;have U:=zk H bx;clear aU aE bx;clear H;have bJ:=zb U 0 (I_ A) rfl;have ax:=zb U 1 (I_ p) rfl;have bK:=zb U 2 (I_ u) rfl;have bL:=zb U 3 (.string C) rfl;go_wp2_with fail
   refine(aM.out _).mono ?_;rintro e w9⟨⟨s,q,bm⟩,o⟩;subst q;dsimp only;clear aM bJ ax bK bL;have af:=zm aW o;have aB:=a3.below o;have ca:=zk o U;clear aW a3 U;clear o;have J:(({ data:=#[102,114,101,115,104,32] }++s):ByteArray).size=9:=by rw[ByteArray.size_append,bm];rfl
   go_upto_region 11 with fail
   generalize ({ data:=#[102,114,101,115,104,32] }++s)=T at J|-;clear bm;have V:=zc4 b ba l aa _ ac w9 rfl (by omega) aB (λa t=>(au.out a t).1) (HT.out w9 af).1 (HT.out w9 af).2;go_wp2_with fail
   refine V.mono ?_;rintro e ap⟨x,q,bn,bq,b7,o⟩;subst q;dsimp only;clear V;have bH:Hid _:=bq;clear bq;have aR:=zm af o;have aY:=aB.below o;clear af aB;clear o;refine kO_ ?B0 ?_;exact Obj.cells #[.slice x.na 4 x.nc,.slice x.ga x.gs.length x.gc,I_ x.aw,.slice x.ca x.cs.length x.cc] 28;have X:=zC ap ?B0;have am:=hN_ ap ?B0;go_upto_region 12 with fail
   generalize ap.alloc ?B0=ab at X am|-;generalize ap.heap.size=Bx at am|-;have aS:=zm aR X;have a4:=bn.below X;have aZ:=aY.below X;clear aR bn aY;clear X;refine kO_ ?D0 ?_;exact Obj.cells #[I_ 1,I_ i,I_ 0,.string T,I_ 1,I_ i,I_ 0,.string T,I_ 1,I_ i,I_ 0,.string ⟨#[]⟩] 40;have I:=zC ab ?D0;have an:=hN_ ab ?D0;go_wp2_with fail
   generalize ab.alloc ?D0=aO at I an|-;generalize ab.heap.size=aK at an|-;have aG:∀a∈[(⟨1,i,0,T⟩:AV),(⟨1,i,0,T⟩:AV),(⟨1,i,0,⟨#[]⟩⟩:AV)],a.e=0/\a.t.size<=4000:=by
    intro a t;simp only[List.mem_cons,List.not_mem_nil,or_false]at t;rcases t with e|e|e
    .subst e;exact⟨zaL _ _ _ _ (by decide) (by omega) (by decide) (by rw[J];decide) (λh=>by cases h) (λ_=>rfl) (λh=>by cases h),(by show ByteArray.size T<=4000;rw[J];decide)⟩
    .subst e;exact⟨zaL _ _ _ _ (by decide) (by omega) (by decide) (by rw[J];decide) (λh=>by cases h) (λ_=>rfl) (λh=>by cases h),(by show ByteArray.size T<=4000;rw[J];decide)⟩
    .subst e;exact⟨zaL _ _ _ _ (by decide) (by omega) (by decide) (by decide) (λh=>by cases h) (λ_=>rfl) (λh=>by cases h),(by show ByteArray.size ⟨#[]⟩<=4000;decide)⟩
   have aT:=zm aS I;have a5:=a4.below I;have aA:=aZ.below I;have bv:=zk I am;clear aS a4 aZ am;have bh:zbq aO (some ⟨aK,0,none⟩) [(⟨1,i,0,T⟩:AV),(⟨1,i,0,T⟩:AV),(⟨1,i,0,⟨#[]⟩⟩:AV)]:=zdw an aG;have a8:=zcZ l [(⟨1,i,0,T⟩:AV),(⟨1,i,0,T⟩:AV),(⟨1,i,0,⟨#[]⟩⟩:AV)] aa _ ac (some ⟨aK,0,none⟩) 3 3 aO rfl rfl aA bh bG.out (λe=>by cases e) (by simp;omega);refine a8.mono ?_;rintro e aJ⟨v,q,L,o⟩;subst q;dsimp only;clear a8 bh an I;have av:Hid _:=zc9 au.out aG;clear aG;obtain⟨m,ai⟩:∃z9,z9=l++[(⟨1,i,0,T⟩:AV),(⟨1,i,0,T⟩:AV),(⟨1,i,0,⟨#[]⟩⟩:AV)]:=⟨_,rfl⟩;rw[<-ai]at L av;have aN:Hid (m.length=l.length+3/\m=l++[(⟨1,i,0,T⟩:AV),(⟨1,i,0,T⟩:AV),(⟨1,i,0,⟨#[]⟩⟩:AV)]):=⟨by rw[ai];simp,ai⟩;clear ai;obtain⟨ma,mc,hv,aF,bi⟩:=zbd L av.out;subst hv;have b0:Hid _:=bi;have b6:m.length<=43:=by have:=aN.out.1;omega
   clear L bi;have ae:=zm aT o;have a6:=a5.below o;have a0:=aA.below o;have bw:=zk o bv;clear aT a5 aA bv;clear o;have V:=zc4 b ba m ma _ mc aJ rfl (by omega) aF (λa t=>(av.out a t).1) (HT.out aJ ae).1 (HT.out aJ ae).2;go_wp2_with fail
   refine V.mono ?_;rintro e aq⟨y,q,br,bu,b8,o⟩;subst q;dsimp only;clear V;have bI:Hid _:=bu;clear bu;have aV:=zm ae o;have a7:=a6.below o;have a1:=a0.below o;have a2:=aF.below o;have bz:=zk o bw;clear ae a6 a0 aF bw;clear o;refine kO_ ?C0 ?_;exact Obj.cells #[.slice y.na 4 y.nc,.slice y.ga y.gs.length y.gc,I_ y.aw,.slice y.ca y.cs.length y.cc] 28;have D:=zC aq ?C0;have ao:=hN_ aq ?C0;go_upto_region 13 with fail
   generalize aq.alloc ?C0=F at D ao|-;generalize aq.heap.size=By at ao|-;have bM:=zm aV D;have bP:=a7.below D;have aC:=br.below D;have b2:=a1.below D;have b3:=a2.below D;have bA:=zk D bz;clear aV a7 br a1 a2 bz;clear D;obtain⟨f,hf⟩:∃f,f=(Fl.z b).run (l.map AV.ac):=⟨_,rfl⟩;obtain⟨g,hg⟩:∃g,g=(Fl.z b).run (m.map AV.ac):=⟨_,rfl⟩;have ex:x.v=f.told:=by rw[bH.out,hf]
   have ey:y.v=g.told:=by rw[bI.out,hg]
   have bd:g=(Fl.z b).run ((l++[(⟨1,i,0,T⟩:AV),⟨1,i,0,T⟩,⟨1,i,0,⟨#[]⟩⟩]).map AV.ac):=by rw[hg,aN.out.2]
   obtain⟨bb,bQ⟩:=zA2 R J au.out bF.out hf bd;clear bd;have bp:x.cs.length=M:=by rw[zzw ex,bb,HM.out]
   have b4:M<=40:=by omega
   have bC:=zb0 ex i R;have bD:=zb0 ey i R;have bB:=zzw ey;have bZ:=zzw ex;have ag:∀d:Int,0<=d->d<=3->IntKind.i64.wrap ((M:Int)+d)=(M:Int)+d:=λd G h2=>by rw[IntKind.wrap_i64];omega
   have w1:=ag 1 (by decide) (by decide);have w2:=ag 2 (by decide) (by decide);have w3:=ag 3 (by decide) (by decide);clear ag;have E:∀e1 e2 e3:Int,g.codes=f.codes++[e1,e2,e3]->∃r,F.cell? ⟨By,3,none⟩=some (.slice (some ⟨r,0,none⟩) (M+3) y.cc)/\F.cell? ⟨r,M,none⟩=some (I_ e1)/\F.cell? ⟨r,M+1,none⟩=some (I_ e2)/\F.cell? ⟨r,M+2,none⟩=some (I_ e3):=λe1 e2 e3 h=>by
    have bt:y.cs=f.codes++[e1,e2,e3]:=bB.trans h;have bc:f.codes.length=M:=by rw[bb,HM.out]
    obtain⟨r,k0,k1,k2,k3⟩:=zA0 aC bt bc;refine⟨r,?_,k1,k2,k3⟩;rw[<-k0,show M+3=y.cs.length by rw[bt,lP_,bc];rfl];exact zb ao 3 _ rfl
   have x3:F.cell? ⟨Bx,3,none⟩=some (.slice x.ca M x.cc):=by rw[<-bp];exact zb bA 3 _ rfl
   obtain⟨xb,bo,bk⟩:=bP.row R;obtain⟨yb,bs,bl⟩:=aC.row R;have x0:F.cell? ⟨Bx,0,none⟩=some (.slice (some ⟨xb,0,none⟩) 4 x.nc):=by rw[<-bo];exact zb bA 0 _ rfl
   have y0:F.cell? ⟨By,0,none⟩=some (.slice (some ⟨yb,0,none⟩) 4 y.nc):=by rw[<-bs];exact zb ao 0 _ rfl
   have vy:=aC.vm i R;have u0:=bk 0 _ rfl;have u5:=bl 5 _ rfl;have b9:(i:Int)<4:=by omega
   have ad:=bM;have al:(x.y i).up=(f.view i).up:=congrArg (λz:Vw=>z.up) bC;have ak:(y.y i).txs=(g.view i).tx:=congrArg (λz:Vw=>z.tx) bD;simp only[Nat.add_zero]at u0;generalize x.y i=c at u0 al;generalize y.y i=d at u5 vy ak
   skip
   clear bp bB bZ bC bD bk bl bo bs;rcases bQ with⟨ah,h⟩|⟨ah,Z,h⟩|⟨ah,Z,h⟩|⟨ah,Z,h,ss,aH⟩;obtain⟨r,y3,k1,k2,k3⟩:=E 12 12 12 h;clear E h;subst ah
   rotate_left
   obtain⟨r,y3,k1,k2,k3⟩:=E 12 12 12 h;clear E h;have bf:((i:Int) == b)=false:=by simp;omega
   have Y:c.up=false:=al.trans Z;rw[Y]at u0
   rotate_left
   obtain⟨r,y3,k1,k2,k3⟩:=E 6 6 1 h;clear E h;have bf:((i:Int) == b)=false:=by simp;omega
   have Y:c.up=true:=al.trans Z;rw[Y]at u0
   rotate_left
   obtain⟨r,y3,k1,k2,k3⟩:=E 0 7 1 h;clear E h;have bf:((i:Int) == b)=false:=by simp;omega
   have Y:c.up=true:=al.trans Z;rw[Y]at u0;obtain⟨sb,so,bT,bR⟩:=zA3 vy (ak.trans aH);have bj:d.txs.length=ss.length+1:=by rw[ak,aH];simp
   rw[bT,bj]at u5;have bO:ss.length<=9223372036854775806:=by have:=vy.tx.max;have:=vy.tx.le;unfold maxLen at*;omega
   clear aH bj ak;generalize ss.length=N at u5 bR bO;have wl:IntKind.i64.wrap (N:Int)=(N:Int):=by rw[IntKind.wrap_i64];omega
   have cc:IntKind.i64.wrap ((N:Int)+1-1)=(N:Int):=by rw[IntKind.wrap_i64];omega
   have cd:(0:Int)<(N:Int)+1:=by omega
   have ce:(N:Int)<(N:Int)+1:=by omega
   rotate_left
   all_goals
    go_wp2_with fail
    go_ret;exact⟨rfl,ad⟩
open Go.ChangeShapes Go.WideShapes Go.ChangeAt
theorem open_gear {H : Type} {enc : TypeId × Value → H} {W : World} {base : Nat} {v : Value} {d : DataW H} {p : List MemPlace}
    (hv : Value.okWide prog W .any base 38 v) (h : DataW.Trod enc prog W 0 (fun _ => true) true 38 v d p) (_hfit : ∀ n ∈ d.weights prog 38, n ≤ reachBytes) :
    ∃ fk fa fb' ft, v = .agg #[.int .i64 fk, .int .i64 fa, .int .i64 fb', .string ft] ∧ I64 fk ∧ I64 fa ∧ I64 fb' ∧ ft.size ≤ maxLen := by
  obtain ⟨cs, rfl, _⟩ := okWide_struct underlying38 hv
  obtain ⟨fuel, hf⟩ := h
  obtain ⟨r, hr, h1, h2, h3, h4⟩ := zl7 hf
  obtain ⟨l⟩ := cs
  simp [Value.cells] at hr
  subst hr
  exact ⟨_, _, _, _, rfl, h1, h2, h3, h4⟩
end Go.Proofs.YtdnaljbnebnlhaaGreatDoor
