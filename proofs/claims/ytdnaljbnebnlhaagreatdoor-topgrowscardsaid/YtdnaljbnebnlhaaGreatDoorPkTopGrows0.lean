import Derived.Test.YtdnaljbnebnlhaaGreatDoorPk38
set_option maxRecDepth 100000
set_option maxHeartbeats 4000000
namespace Go.Proofs.YtdnaljbnebnlhaaGreatDoor
open Go.RowKit _root_.Go.Proofs.Tryz
variable {i:Int}
def Ac.ok (a:Ac):Prop:=1<=a.k/\a.k<=10/\0<=a.i/\a.i<4/\0<=a.p/\a.p<=400000
theorem zau (f:Fl)(i:Int)(n:Nd):(f.set i n).nd.length=f.nd.length:=by simp[Fl.set]
theorem set_here {f:Fl}(n:Nd)(b:f.nd.length=4)(c:0<=i/\i<4):(f.set i n).node i=n:=by
 have:i.toNat<f.nd.length:=by omega
 simp[Fl.set,Fl.node,List.getD,this]
theorem set_there {f:Fl}{j:Int}(n:Nd)(b:0<=i)(c:0<=j)(d:j≠i):(f.set i n).node j=f.node j:=by
 have:i.toNat≠j.toNat:=by omega
 simp[Fl.set,Fl.node,List.getD,this]
theorem zdO (l:List MC)(f:Fl):(l.foldl Fl.out f).nd=f.nd:=by
 induction l generalizing f with
 | nil=>rfl
 | cons m l ih=>rw[List.foldl_cons,ih];rfl
theorem zhv (o:No)(m:MC):(o.sign m).bad=o.bad:=by
 unfold No.sign
 split
 .split<;>rfl
 .split<;>rfl
theorem zha (l:List MC)(f:Fl):(l.foldl Fl.out f).no.bad=f.no.bad:=by
 induction l generalizing f with
 | nil=>rfl
 | cons m l ih=>rw[List.foldl_cons,ih];exact zhv _ _
theorem zev {f g:Fl}(h:f.nd=g.nd)(i:Int):f.node i=g.node i:=by rw[Fl.node,Fl.node,h]
theorem zcj (f:Fl)(i:Int)(m:MC):(f.come i m).away=f.away:=by unfold Fl.come;split<;>rfl
theorem zew (f:Fl)(i:Int)(m:MC):(f.come i m).no=f.no:=by unfold Fl.come;split<;>rfl
theorem zca (f:Fl)(i:Int)(m:MC):(f.come i m).nd.length=f.nd.length:=by unfold Fl.come;split;exact zau _ _ _;rfl
theorem zlo (l:List MC)(f:Fl):(zkP f l).no=f.no:=by
 induction l generalizing f with
 | nil=>rfl
 | cons m l ih=>exact(ih _).trans (zew _ _ _)
theorem zej (l:List MC)(f:Fl):(zkP f l).away=f.away:=by
 induction l generalizing f with
 | nil=>rfl
 | cons m l ih=>exact(ih _).trans (zcj _ _ _)
theorem zdQ (f:Fl)(a:Ac):(f.does a).no.bad=f.no.bad:=by
 unfold Fl.does Fl.act
 split
 .unfold Fl.pick
  split
  .rfl
  .split
   .rfl
   .split
    .rw[zew]
    .rfl
 .split
  .rw[zfw,zlo]
  .split
   .unfold Fl.submit
    split
    .rfl
    .split<;>rfl
   .split
    .exact zcq (P:=λg=>g.no.bad=f.no.bad) _ _ rfl (λm=>by rw[zew])
    .split
     .unfold Fl.start
      split<;>rfl
     .split
      .split
       .split
        .rfl
        .split
         .unfold Fl.sync;rw[zha];rfl
         .rfl
       .rfl
      .rfl
theorem zhS {f:Fl}{j:Int}(c:f.nd.length=4)(b:0<=i/\i<4)(d:0<=j/\j<4):(f.sync i).node j=if j=i then { f.node i with wai:=[],syn:=(zae (f.node i).recs).length } else f.node j:=by
 rw[Fl.sync,zev (zdO _ _)]
 split
 .rename_i e;subst e;exact set_here _ c b
 .rename_i e;exact set_there _ b.1 d.1 e
variable {k:Nat}{t:ByteArray}
theorem zbP.up {o:No}{a b:Nd}(s:zbP o a b):b.up=a.up:=by
 rcases s with⟨d,m,c,_,rfl⟩|⟨b,_,_,rfl⟩|⟨_,_,rfl⟩|⟨_,_,rfl⟩|⟨_,_,_,_,_,rfl⟩|⟨_,_,_,_,rfl⟩|⟨_,_,rfl⟩|⟨_,rfl⟩
 .unfold Nd.send;split<;>rfl
 all_goals rfl
theorem zdq {Q:Nd->Prop}{o:No}{a b:Nd}(h:∀x y,x.up=true->zbP o x y->Q x->Q y)(s:zad o a b)(g:a.up=true)(f:Q a):Q b:=
 (zad.keeps (P:=λn=>n.up=true/\Q n) (λx y d c=>⟨(zbP.up d).trans c.1,h x y c.1 d c.2⟩) s ⟨g,f⟩).2
theorem zfC {f:Fl}(h:f.runs i=true):(f.node i).up=true:=by
 unfold Fl.runs at h;rw[Bool.and_eq_true]at h;exact h.2
structure zc5 (S:ByteArray->Prop)(Q:Int->Nd->Prop):Prop where
 step:∀i o a b,0<=i/\i<4->a.up=true->zbP o a b->Q i a->Q i b
 crash:∀i n p,0<=i/\i<4->0<=p->Q i n->Q i (n.crash p)
 up:∀i n,0<=i/\i<4->Q i n->Q i { n with up:=true }
 synced:∀i n,0<=i/\i<4->Q i n->Q i { n with wai:=[],syn:=(zae n.recs).length }
 sub:∀i n t,0<=i/\i<4->S t->zcD n.nx n.txs t=0->Q i n->Q i { n with txs:=n.txs++[t] }
def zah (Q:Int->Nd->Prop)(f:Fl):Prop:=f.nd.length=4/\∀i,0<=i/\i<4->Q i (f.node i)
theorem zah.set {Q:Int->Nd->Prop}{f:Fl}(h:zah Q f){i:Int}(c:0<=i/\i<4){n:Nd}(d:Q i n):zah Q (f.set i n):=by
 refine⟨(zau _ _ _).trans h.1,λj b=>?_⟩;by_cases e:j=i
 .subst e;rw[set_here n h.1 b];exact d
 .rw[set_there n c.1 b.1 e];exact h.2 j b
theorem zah.nd {Q:Int->Nd->Prop}{f g:Fl}(h:zah Q f)(e:g.nd=f.nd):zah Q g:=⟨by rw[e];exact h.1,λj b=>by rw[zev e];exact h.2 j b⟩
def MC.post (m:MC):Prop:=(0<=m.fr/\m.fr<4)/\0<=m.tt/\m.tt<4
theorem zah.come {S:ByteArray->Prop}{Q:Int->Nd->Prop}(k:zc5 S Q){f:Fl}(h:zah Q f){i:Int}(c:0<=i/\i<4){m:MC}(d:0<=m.fr/\m.fr<4):zah Q (f.come i m):=by
 unfold Fl.come
 split
 .rename_i g
  exact h.set c (zdq (λa b u s=>k.step i f.no a b c u s) (zfT f.no (f.node i) m d) (zfC g) (h.2 i c))
 .exact h
theorem zah.zkP {S:ByteArray->Prop}{Q:Int->Nd->Prop}(k:zc5 S Q)(l:List MC){f:Fl}(h:zah Q f)(b:∀m∈l,m.post):zah Q (zkP f l):=by
 induction l generalizing f with
 | nil=>exact h
 | cons m l ih=>exact ih (h.come k (b m (by simp)).2 (b m (by simp)).1) (λd c=>b d (List.mem_cons_of_mem _ c))
theorem zeU {l:List MC}(h:k<l.length):l.getD k MC.z∈l:=by simp[List.getD,h]
theorem zhw {m:MC}(h:zh2 t=some m):0<=m.fr/\m.fr<4:=by
 unfold zh2 at h
 split at h
 .rename_i e
  cases h;exact(zhI e.2).1
 .cases h
theorem zah.does {S:ByteArray->Prop}{Q:Int->Nd->Prop}(k:zc5 S Q){f:Fl}(h:zah Q f)(c:∀m∈f.away,m.post){a:Ac}(l:a.ok)(j:a.k=1->S a.t):zah Q (f.does a):=by
 obtain⟨_,_,o,p,t,_⟩:=l;have b:0<=a.i/\a.i<4:=⟨o,p⟩;unfold Fl.does Fl.act
 split
 .unfold Fl.pick
  split
  .exact h
  .rename_i B
   split
   .exact h.nd rfl
   .split
    .have d:=c _ (zeU (Nat.mod_lt a.p.toNat (show 0<f.away.length by omega)));exact zah.come k (h.nd (g:={ f with away:=f.away.eraseIdx (a.p.toNat % f.away.length) }) rfl) d.2 d.1
    .exact h.nd rfl
 .split
  .exact zah.zkP k f.away (h.nd (g:={ f with away:=[] }) rfl) c
  .split
   .rename_i q
    unfold Fl.submit
    split
    .exact h.nd rfl
    .split
     .rename_i z;exact zah.nd (h.set b (k.sub a.i _ a.t b (j q) z (h.2 a.i b))) rfl
     .exact h.nd rfl
   .split
    .unfold Fl.forge
     split
     .rename_i m r
      split
      .exact h
      .exact zah.come k h b (zhw r)
     .exact h
    .split
     .unfold Fl.start
      split
      .exact h
      .exact h.set b (k.up a.i _ b (h.2 a.i b))
     .split
      .split
       .rename_i A
        split
        .exact h.set b (zdq (λx y u s=>k.step a.i f.no x y b u s) (zgV f.no (f.node a.i)) (zfC A) (h.2 a.i b))
        .split
         .exact zah.nd (h.set b (k.synced a.i _ b (h.2 a.i b))) (zdO _ _)
         .exact h.set b (k.crash a.i _ a.p b t (h.2 a.i b))
       .exact h
      .exact h
structure zeF (i:Int)(n:Nd):Prop where
 nu:n.nu=i
 fr:∀m∈n.wai,m.fr=i/\0<=m.tt/\m.tt<4
theorem zix {n:Nd}{d:Int}{m:MC}(h:zeF i n)(b:0<=d/\d<4):zeF i (n.send d m):=by
 unfold Nd.send
 split
 .exact h
 .refine⟨h.nu,λx c=>?_⟩;rcases List.mem_append.1 c with g|g
  .exact h.fr x g
  .rw[List.mem_singleton.1 g];exact⟨h.nu,b⟩
theorem zf0:zc5 (λ_=>True) zeF where
 step:=λi o a b j _ s h=>by
  rcases s with⟨d,m,g,_,rfl⟩|⟨b,_,_,rfl⟩|⟨_,_,rfl⟩|⟨_,_,rfl⟩|⟨_,_,_,_,_,rfl⟩|⟨_,_,_,_,rfl⟩|⟨_,_,rfl⟩|⟨_,rfl⟩
  .exact zix h g
  all_goals exact⟨h.nu,h.fr⟩
 crash:=λi n p _ _ h=>by
  obtain⟨a,_,c,_⟩:=zc8 n p
  exact⟨a.trans h.nu,λm f=>by rw[c]at f;cases f⟩
 up:=λi n _ h=>⟨h.nu,h.fr⟩
 synced:=λi n _ h=>⟨h.nu,λm f=>by cases f⟩
 sub:=λi n t _ _ _ h=>⟨h.nu,h.fr⟩
theorem zhx (l:List MC){f:Fl}(h:∀m∈f.away,m.post)(c:∀m∈l,m.post):∀m∈(l.foldl Fl.out f).away,m.post:=by
 induction l generalizing f with
 | nil=>exact h
 | cons x l ih=>
  refine ih (f:=f.out x) (λm b=>?_) (λm b=>c m (List.mem_cons_of_mem _ b));have b:m∈zct f.away x:=b;unfold zct at b
  split at b
  .rcases List.mem_append.1 b with g|g
   .exact h m g
   .rw[List.mem_singleton.1 g];exact c x (by simp)
  .exact h m b
structure zcn (f:Fl):Prop where
 posts:zah zeF f
 aw:∀m∈f.away,m.post
theorem zcn.does {f:Fl}(h:zcn f){a:Ac}(c:a.ok):zcn (f.does a):=by
 refine⟨h.posts.does zf0 h.aw c (λ_=>trivial),?_⟩;obtain⟨_,_,o,p,s,_⟩:=c;have d:0<=a.i/\a.i<4:=⟨o,p⟩;unfold Fl.does Fl.act
 split
 .unfold Fl.pick
  split
  .exact h.aw
  .rename_i r
   have q:=h.aw _ (zeU (Nat.mod_lt a.p.toNat (show 0<f.away.length by omega)))
   split
   .intro m b;have b:m∈zct f.away _:=b;unfold zct at b
    split at b
    .rcases List.mem_append.1 b with g|g
     .exact h.aw m g
     .rw[List.mem_singleton.1 g];exact q
    .exact h.aw m b
   .split
    .rw[zcj];intro m b;exact h.aw m (List.mem_of_mem_eraseIdx b)
    .intro m b;exact h.aw m (List.mem_of_mem_eraseIdx b)
 .split
  .rw[zfw,zej];intro m b;cases b
  .split
   .unfold Fl.submit
    split
    .exact h.aw
    .split<;>exact h.aw
   .split
    .exact zcq (P:=λg=>∀m∈g.away,m.post) _ _ h.aw (λm=>by rw[zcj];exact h.aw)
    .split
     .unfold Fl.start
      split<;>exact h.aw
     .split
      .split
       .split
        .exact h.aw
        .split
         .unfold Fl.sync;refine zhx _ h.aw (λm b=>?_);obtain⟨j,l⟩:=(h.posts.2 a.i d).fr m b;exact⟨by rw[j];exact d,l⟩
         .exact h.aw
       .exact h.aw
      .exact h.aw
theorem zf1 (r:Int)(i:Int)(b:0<=i/\i<4):(Fl.z r).node i={ Nd.z i with up:=true }:=by
 have:i=0\/i=1\/i=2\/i=3:=by omega
 rcases this with e|e|e|e<;>subst e<;>rfl
theorem zcn.z (r:Int):zcn (Fl.z r):=⟨⟨rfl,λi c=>by rw[zf1 r i c];exact⟨rfl,λm b=>by cases b⟩⟩,λm b=>by cases b⟩
theorem zcn.run (l:List Ac){f:Fl}(h:zcn f)(c:∀a∈l,a.ok):zcn (f.run l):=by
 induction l generalizing f with
 | nil=>exact h
 | cons a l ih=>exact ih (h.does (c a (by simp))) (λb d=>c b (List.mem_cons_of_mem _ d))
variable {l:List SV}
structure zdp (a b:Nd):Prop where
 dag:∃e,b.k.dag=a.k.dag++e
 sh:∃e,b.k.sh=a.k.sh++e
 tab:∃e,b.k.tab=a.k.tab++e
theorem zdp.refl {a b:Nd}(h:b.k=a.k):zdp a b:=by
 refine⟨⟨[],?_⟩,⟨[],?_⟩,⟨[],?_⟩⟩<;>rw[h,List.append_nil]
theorem zdp.trans {a b c:Nd}(h:zdp a b)(k:zdp b c):zdp a c:=by
 obtain⟨⟨d,g⟩,⟨q,j⟩,⟨s,l⟩⟩:=h;obtain⟨⟨f,m⟩,⟨r,o⟩,⟨t,p⟩⟩:=k;exact⟨⟨d++f,by rw[m,g,List.append_assoc]⟩,⟨q++r,by rw[o,j,List.append_assoc]⟩,⟨s++t,by rw[p,l,List.append_assoc]⟩⟩
theorem zzS {h:CV}(e:(zaf l h).2.2=0):∃t,(zaf l h).1=l++t:=by
 rcases zgf e with⟨g,_⟩|⟨g,_,_⟩
 .exact⟨[],by rw[g,List.append_nil]⟩
 .exact⟨_,g⟩
theorem zjn {α:Type}(l:List α):∃e,l=l++e:=⟨[],(List.append_nil l).symm⟩
theorem zbP.grown {o:No}{a b:Nd}(s:zbP o a b):zdp a b:=by
 rcases s with⟨d,m,g,_,rfl⟩|⟨b,_,_,rfl⟩|⟨x,f,rfl⟩|⟨c,_,rfl⟩|⟨r,f,_,_,_,rfl⟩|⟨_,_,_,_,rfl⟩|⟨_,_,rfl⟩|⟨_,rfl⟩
 .exact zdp.refl (ze2 _ _ _)
 .exact⟨zjn _,⟨_,rfl⟩,zjn _⟩
 .exact⟨zjn _,zjn _,zzS f.cast⟩
 .exact⟨⟨_,rfl⟩,zjn _,zjn _⟩
 .exact⟨zjn _,zjn _,zzS f⟩
 all_goals exact zdp.refl rfl
theorem zad.grown {o:No}{a b:Nd}(s:zad o a b):zdp a b:=
 zad.keeps (P:=λn=>zdp a n) (λ_ _ c h=>h.trans (zbP.grown c)) s (zdp.refl rfl)
theorem zzW {f:Fl}{m:MC}(c:f.nd.length=4)(b:0<=i/\i<4)(g:0<=m.fr/\m.fr<4)(j:Int)(d:0<=j/\j<4):zdp (f.node j) ((f.come i m).node j):=by
 unfold Fl.come
 split
 .by_cases e:j=i
  .subst e;rw[set_here _ c b];exact(zfT _ _ _ g).grown
  .rw[set_there _ b.1 d.1 e];exact zdp.refl rfl
 .exact zdp.refl rfl
theorem zBg (l:List MC){f:Fl}(c:f.nd.length=4)(b:∀m∈l,m.post)(j:Int)(d:0<=j/\j<4):zdp (f.node j) ((zkP f l).node j):=by
 induction l generalizing f with
 | nil=>exact zdp.refl rfl
 | cons m l ih=>exact(zzW c (b m (by simp)).2 (b m (by simp)).1 j d).trans (ih ((zca _ _ _).trans c) (λo g=>b o (List.mem_cons_of_mem _ g)))
theorem zz8 {f:Fl}{n:Nd}(c:f.nd.length=4)(b:0<=i/\i<4)(h:zdp (f.node i) n)(j:Int)(d:0<=j/\j<4):zdp (f.node j) ((f.set i n).node j):=by
 by_cases e:j=i
 .subst e;rw[set_here _ c b];exact h
 .rw[set_there _ b.1 d.1 e];exact zdp.refl rfl
theorem zf4 {f g:Fl}(h:g.nd=f.nd)(j:Int):zdp (f.node j) (g.node j):=by rw[zev h];exact zdp.refl rfl
theorem zz9 (l:List GV)(g:GV):zfS l g=l\/zfS l g=l++[g]:=by
 unfold zfS
 split
 .exact .inl rfl
 .rename_i h
  split
  .rename_i b
   unfold zec at b|-
   split at b
   .cases b
   .rename_i d
    split at b
    .rename_i c;exact absurd b c
    .rename_i c
     rw[if_neg d,if_neg c,if_neg h];exact .inr rfl
  .exact .inl rfl
theorem zAC (o:No)(m:MC):∃e,(o.sign m).sg=o.sg++e/\∀g∈e,g.1=m.fr:=by
 have none:∃e,o.sg=o.sg++e/\∀g∈e,g.1=m.fr:=⟨[],by simp,λg b=>by cases b⟩;have c:∀g:GV,g.1=m.fr->∃e,zfS o.sg g=o.sg++e/\∀x∈e,x.1=m.fr:=λg b=>by
  rcases zz9 o.sg g with e|e
  .rw[e];exact none
  .exact⟨[g],e,λx d=>by rw[List.mem_singleton.1 d];exact b⟩
 unfold No.sign
 split
 .split
  .exact c _ rfl
  .exact none
 .split
  .exact c _ rfl
  .exact none
theorem zAm (l:List MC)(f:Fl)(i:Int)(c:∀m∈l,m.fr=i):∃e,(l.foldl Fl.out f).no.sg=f.no.sg++e/\∀g∈e,g.1=i:=by
 induction l generalizing f with
 | nil=>exact⟨[],by simp,λg b=>by cases b⟩
 | cons m l ih=>
  obtain⟨d,o,r⟩:=zAC f.no m;obtain⟨j,p,s⟩:=ih (f.out m) (λx q=>c x (List.mem_cons_of_mem _ q));refine⟨d++j,?_,λg b=>?_⟩
  .rw[List.foldl_cons,p,<-List.append_assoc,<-o];rfl
  .rcases List.mem_append.1 b with g1|g1
   .rw[r g g1];exact c m (by simp)
   .exact s g g1
theorem zBk {f:Fl}(h:zcn f){a:Ac}(o:a.ok)(E:a.k≠7):(∀j,0<=j/\j<4->zdp (f.node j) ((f.does a).node j))/\∃e,(f.does a).no.sg=f.no.sg++e:=by
 obtain⟨F,G,q,r,I,_⟩:=o;have d:0<=a.i/\a.i<4:=⟨q,r⟩;have c:=h.posts.1;unfold Fl.does Fl.act
 split
 .unfold Fl.pick
  split
  .exact⟨λj _=>zf4 rfl j,zjn _⟩
  .rename_i H
   split
   .exact⟨λj _=>zf4 rfl j,zjn _⟩
   .split
    .have l:=h.aw _ (zeU (Nat.mod_lt a.p.toNat (show 0<f.away.length by omega)));refine⟨λj b=>?_,by rw[zew];exact zjn _⟩;exact zzW (f:={ f with away:=f.away.eraseIdx (a.p.toNat % f.away.length) }) c l.2 l.1 j b
    .exact⟨λj _=>zf4 rfl j,zjn _⟩
 .split
  .refine⟨λj b=>zBg f.away (f:={ f with away:=[] }) c h.aw j b,?_⟩;rw[zfw,zlo];exact zjn _
  .split
   .unfold Fl.submit
    split
    .exact⟨λj _=>zf4 rfl j,zjn _⟩
    .split
     .refine⟨λj b=>?_,zjn _⟩;exact zz8 (n:={ f.node a.i with txs:=(f.node a.i).txs++[a.t] }) c d (zdp.refl rfl) j b
     .exact⟨λj _=>zf4 rfl j,zjn _⟩
   .split
    .unfold Fl.forge
     split
     .rename_i m g
      split
      .exact⟨λj _=>zf4 rfl j,zjn _⟩
      .exact⟨λj b=>zzW c d (zhw g) j b,by rw[zew];exact zjn _⟩
     .exact⟨λj _=>zf4 rfl j,zjn _⟩
    .split
     .unfold Fl.start
      split
      .exact⟨λj _=>zf4 rfl j,zjn _⟩
      .exact⟨λj b=>zz8 (n:={ f.node a.i with up:=true }) c d (zdp.refl rfl) j b,zjn _⟩
     .split
      .split
       .split
        .exact⟨λj b=>zz8 c d (zgV f.no (f.node a.i)).grown j b,zjn _⟩
        .split
         .refine⟨λj b=>?_,?_⟩
          .rw[zhS c d b]
           split
           .rename_i e;subst e;exact zdp.refl rfl
           .exact zdp.refl rfl
          .obtain⟨e,p,_⟩:=zAm (f.node a.i).wai (f.set a.i { f.node a.i with wai:=[],syn:=(zae (f.node a.i).recs).length }) a.i (λm g=>((h.posts.2 a.i d).fr m g).1);exact⟨e,p⟩
         .rename_i s t u y z A B C D;exfalso;omega
       .exact⟨λj _=>zf4 rfl j,zjn _⟩
      .exact⟨λj _=>zf4 rfl j,zjn _⟩
theorem zBc (l:List CV)(r:Int)(f:Nat):r<=zlI l r f:=by
 induction f generalizing r with
 | zero=>exact Int.le_refl _
 | succ f ih=>
  rw[zlI]
  split
  .have:=ih (r+1);omega
  .exact Int.le_refl _
theorem zBh {l m:List CV}(h:∀r,zhn l r<=zhn m r)(f g:Nat)(c:f<=g)(r:Int):zlI l r f<=zlI m r g:=by
 induction f generalizing r g with
 | zero=>exact zBc m r g
 | succ f ih=>
  obtain⟨b,rfl⟩:∃b,g=b+1:=⟨g-1,by omega⟩;rw[zlI,zlI]
  split
  .rename_i e
   rw[if_pos (nT_ e (h r))];exact ih b (by omega) (r+1)
  .split
   .have:=zBc m (r+1) b;omega
   .exact Int.le_refl _
theorem zBl (l e:List CV):zdi l<=zdi (l++e):=
 zBh (λr=>by rw[zhn,zhn,List.filter_append,lP_];exact Nat.le_add_right _ _) _ _ (by simp) 1
theorem zpd (a:Bc)(b:List Bc):bcl (a::b)=a.cs++bcl b:=by simp[bcl]
theorem zrb (l:List Bc)(j i:Nat)(h:j<l.length)(b:i<3):(bcl l)[j*3+i]? = (l[j]).cs[i]?:=by
 induction l generalizing j with
 | nil=>cases h
 | cons x r ih=>
  cases j with
  | zero=>
   rw[zpd,Nat.zero_mul,Nat.zero_add,List.getElem?_append_left (by simp[Bc.cs];exact b)];rfl
  | succ j=>
   have h':j<r.length:=by simpa using h
   rw[zpd,List.getElem?_append_right (by simp[Bc.cs];omega)];have e:(j+1)*3+i-x.cs.length=j*3+i:=by simp[Bc.cs];omega
   rw[e,ih j h'];rfl
theorem ziw {o:Om}{f:Fl}(h:o.v=f.told):o.gs.length=f.no.sg.length:=by
 have e:(gvs o.gs).length=f.no.sg.length:=congrArg (λx:Ou=>x.sg.length) h;rw[zgj]at e;exact e
theorem zhy {a:AV}(h:a.e=0):a.ac.ok:=by
 obtain⟨b,c,d,_⟩:=zn3 h;exact⟨b.1,b.2,c.1,c.2,d.1,d.2⟩
theorem zcP (r:Int)(l m:List AV):(Fl.z r).run ((l++m).map AV.ac)=((Fl.z r).run (l.map AV.ac)).run (m.map AV.ac):=by rw[List.map_append,Fl.run_append]
theorem ziz {l:List AV}(h:∀a∈l,a.e=0/\a.t.size<=4000):∀x∈l.map AV.ac,x.ok:=λx c=>by
 obtain⟨a,b,rfl⟩:=List.mem_map.1 c
 exact zhy (h a b).1
theorem zww (b ys:List Int)(f g:Option Addr)(n m c d:Nat)(w:World)(p:n=b.length)(o:m=ys.length)(j:zg w f c b)(l:zg w g d ys)(q:∀x∈b,0<=x/\x<=255)(r:∀x∈ys,0<=x/\x<=255) :
  Calls prog 70 #[.slice f n c,.slice g m d] w λe w'=>e=.returned (.bool (decide (b=ys)))/\w=w':=by
 have t:=zd8 w f n c b p j;have u:=zd8 w g m d ys o l;have s:Hid (((zai b).toList == (zai ys).toList)=decide (b=ys)):=by
  show _=_;by_cases h:b=ys
  .simp[h]
  .rw[dF_ h,beq_eq_false_iff_ne];exact λe=>h (ziD q r (zhf e))
 clear p o j l q r;generalize zai b=A at*;generalize zai ys=B at*;go_in;go_wp2_with fail
 go_ret;exact⟨zN (by rw[<-s.out]),rfl⟩
def za0 (ps:List zi):List (List Int):=ps.map (·.bs)
theorem zju (b f:List zi)(I J:Option Addr)(n m c d:Nat)(w:World)(hn:n=b.length)(hm:m=f.length)(hx:n<=1000)(hy:m<=1000)(O:zx w I c b)(R:zx w J d f)(F:∀p∈b,∀x∈p.bs,0<=x/\x<=255)(G:∀p∈f,∀x∈p.bs,0<=x/\x<=255) :
  Calls prog 100 #[.slice I n c,.slice J m d] w λe w'=>e=.returned (.bool (decide (za0 b=za0 f)))/\B_ w w':=by
 subst hn hm;by_cases hl:b.length=f.length
 .have A:Hid (b.length=f.length):=hl;have Z:Hid _:=F;have HV:Hid _:=G;rw[<-hl];clear F G hl;go_in;go_wp2_with fail
  go_loopw [5] (λj wr=>∃k:Nat,k<=b.length/\j=I_ k/\Hid (za0 (b.take k)=za0 (f.take k))/\B_ w wr) (λj _=>b.length-(intOf j).toNat)
  case atStart=>exact⟨0,nZ_ _,rfl,by show _=_;simp,bR_ _ _⟩
  case round=>
   obtain⟨k,hk,rfl,E,g⟩:=hrel;by_cases hlt:k<b.length
   .have t:k<f.length:=by have:=A.out;omega
    obtain⟨l,o,rfl,C⟩:∃l o,I=some ⟨l,o,none⟩/\∀j (h:j<b.length),w.cell? ⟨l,o+j,none⟩=some (.slice (b[j]).sa (b[j]).bs.length (b[j]).cap):=by
     rcases O.parts.cells with h|h
     .subst h;simp at hlt
     .exact h
    obtain⟨r,s,rfl,D⟩:∃r s,J=some ⟨r,s,none⟩/\∀j (h:j<f.length),w.cell? ⟨r,s+j,none⟩=some (.slice (f[j]).sa (f[j]).bs.length (f[j]).cap):=by
     rcases R.parts.cells with h|h
     .subst h;simp at t
     .exact h
    have ka:=(g.cell (p:=⟨l,o+k,none⟩) (bL_ (C k hlt))).trans (C k hlt);have kb:=(g.cell (p:=⟨r,s+k,none⟩) (bL_ (D k t))).trans (D k t);have ae:=(O.parts.each b[k] (gM_ hlt)).below g;have af:=(R.parts.each f[k] (gM_ t)).below g;have X:=Z.out b[k] (gM_ hlt);have Y:=HV.out f[k] (gM_ t);have ad:(k:Int)<b.length:=by omega
    have h0:(0:Int)<=k:=by omega
    clear C D;have U:Hid (za0 (b.take (k+1))=za0 (b.take k)++[(b[k]).bs]):=by show _=_;rw[za0,tS_ hlt,List.map_append];rfl
    have V:Hid (za0 (f.take (k+1))=za0 (f.take k)++[(f[k]).bs]):=by show _=_;rw[za0,tS_ t,List.map_append];rfl
    generalize b[k]=p at*;generalize f[k]=q at*;have N:∀u,B_ wr u->Calls prog 70 #[.slice p.sa p.bs.length p.cap,.slice q.sa q.bs.length q.cap] u λe w'=>e=.returned (.bool (decide (p.bs=q.bs)))/\u=w':=λu T=>zww p.bs q.bs p.sa q.sa _ _ p.cap q.cap u rfl rfl (ae.below T) (af.below T) X Y;have y:Hid _:=N;clear N X Y;by_cases he:p.bs=q.bs;have H:Hid (p.bs=q.bs):=he;rw[dT_ he]at y
    rotate_left
    have H:Hid (¬p.bs=q.bs):=he;rw[dF_ he]at y
    rotate_left
    all_goals
     clear he;go_wp2_with fail
     go_region_held3 (λw'=>w'.cell? ⟨l,o+k,none⟩=some (.slice p.sa p.bs.length p.cap)/\w'.cell? ⟨r,s+k,none⟩=some (.slice q.sa q.bs.length q.cap)) (go_keep) ((go_at_call 70;refine(y.out _ ?_).mono ?_;exact(bR_ _ _).drew;rintro e w8⟨rfl,rfl⟩))
    .all_goals
      go_wp2_with fail
      go_roundw
      case rel=>
       have M:∃B:Nat,B<=b.length/\(Value.int .i64 ((k:Int)+1))=I_ B/\Hid (za0 (b.take B)=za0 (f.take B))/\B_ w wr.drew:=⟨k+1,by omega,by go_num,by show _=_;rw[U.out,V.out,E.out,H.out],g.drew⟩
       first|exact M|((repeat apply Exists.intro);exact⟨M,rfl⟩)
      case measure=>simp[intOf];omega
    .all_goals
      go_wp2_with fail
      go_ret;refine⟨zN (dF_ λe=>H.out ?_).symm,g.drew⟩;have z:=U.out;have h2:=V.out;have L:za0 (b.take (k+1))=za0 (f.take (k+1)):=by
       have e':(za0 b).take (k+1)=(za0 f).take (k+1):=by rw[e]
       simpa[za0,List.map_take]using e'
      rw[z,h2,E.out]at L;have h4:=List.append_cancel_left L
      simpa using h4
   .obtain rfl:k=b.length:=by omega
    have ad:¬(b.length:Int)<b.length:=by omega
    have aa:Hid (za0 b=za0 f):=by
     have z:=E.out;rw[tL_ (nR_ _),tL_ (by have:=A.out;omega)]at z;exact z
    go_wp2_with fail
    go_ret;exact⟨zN (dT_ aa.out).symm,g⟩
 .have ac:¬(b.length:Int)=f.length:=by omega
  have A:Hid (¬za0 b=za0 f):=λe=>hl (by have:=congrArg List.length e;simpa[za0]using this);have ag:((b.length:Int) == (f.length:Int))=false:=beq_eq_false_iff_ne.2 ac;clear F G;go_in;go_wp2_with fail
  go_ret;exact⟨zN (dF_ A.out).symm,bR_ _ _⟩
structure zuS (w:World)(ba:Option Addr)(bn bc:Nat)(bl:List zi)(pa:Option Addr)(pn pc:Nat)(pl:List zi):Prop where
 eb:bn=bl.length
 ep:pn=pl.length
 b3:bn<=1000
 p4:pn<=1000
 bat:zx w ba bc bl
 par:zx w pa pc pl
 bu:∀p∈bl,∀x∈p.bs,0<=x/\x<=255
 pu:∀p∈pl,∀x∈p.bs,0<=x/\x<=255
theorem zmK (au rd c l:Int)(B:Option Addr)(F D:Nat)(bl:List zi)(q:Option Addr)(u s:Nat)(pl:List zi)(C:Option Addr)(G E:Nat)(d:List zi)(r:Option Addr)(A t:Nat)(m:List zi)(w:World)(f:zuS w B F D bl q u s pl)(g:zuS w C G E d r A t m) :
  Calls prog 67 #[.agg #[I_ au,I_ rd,.slice B F D,.slice q u s],.agg #[I_ c,I_ l,.slice C G E,.slice r A t]] w λe w'=>e=.returned (.bool (decide (au=c/\rd=l/\za0 bl=za0 d/\za0 pl=za0 m)))/\B_ w w':=by
 have H:B_ w ((w.alloc (.cells #[I_ au,I_ rd,.slice B F D,.slice q u s] 61)).alloc (.cells #[I_ c,I_ l,.slice C G E,.slice r A t] 61)):=((bR_ _ _).alloc (nR_ _) _).alloc (by simp) _;have J:∀b,B_ w b->Calls prog 100 #[.slice B F D,.slice C G E] b λe w'=>e=.returned (.bool (decide (za0 bl=za0 d)))/\B_ b w':=λb h=>zju bl d B C F G D E b f.eb g.eb f.b3 g.b3 (f.bat.below h) (g.bat.below h) f.bu g.bu;have L:∀b,B_ w b->Calls prog 100 #[.slice q u s,.slice r A t] b λe w'=>e=.returned (.bool (decide (za0 pl=za0 m)))/\B_ b w':=λb h=>zju pl m q r u A s t b f.ep g.ep f.p4 g.p4 (f.par.below h) (g.par.below h) f.pu g.pu;have I:Hid _:=J;have N:Hid _:=L;clear J L f g;have o:Hid (decide (au=c/\rd=l/\za0 bl=za0 d/\za0 pl=za0 m)=(decide (au=c/\rd=l)&&decide (za0 bl=za0 d)&&decide (za0 pl=za0 m))):=by
  show _=_;by_cases h1:au=c<;>by_cases h2:rd=l<;>by_cases h3:za0 bl=za0 d<;>simp[h1,h2,h3]
 generalize decide (za0 bl=za0 d)=x at*;generalize decide (za0 pl=za0 m)=y at*;generalize decide (au=c/\rd=l/\za0 bl=za0 d/\za0 pl=za0 m)=z at*;by_cases h1:au=c
 .subst h1;by_cases h2:rd=l
  .subst h2;have p:Hid (z=(x&&y)):=by have:=o.out;show _=_;simpa using this
   clear o;cases x
   all_goals
    go_in;go_wp2_with fail
    refine(I.out _ H).mono ?_;rintro e T⟨rfl,j⟩
   .go_wp2_with fail
    go_ret;exact⟨zN (by rw[p.out];rfl),zS (zS j)⟩
   .have M:=zbK j;have R:=zbK (zS j);rw[zG]at M;replace j:=zS (zS j);have U:=zb R 3 (.slice q u s) rfl;have V:=zb M 3 (.slice r A t) rfl;go_wp2_with fail
    refine(N.out _ j).mono ?_;rintro e w2⟨rfl,O⟩;go_wp2_with fail
    go_ret;exact⟨zN (by rw[p.out];simp),j.trans (O.mono j.size)⟩
  .have p:Hid (z=false):=by have:=o.out;show _=_;simpa[h2]using this
   clear o;have Y:(rd == l)=false:=by simpa using h2
   go_in;go_wp2_with fail
   go_ret;exact⟨zN p.out.symm,H⟩
 .have p:Hid (z=false):=by have:=o.out;show _=_;simpa[h1]using this
  clear o;have X:(au == c)=false:=by simpa using h1
  go_in;go_wp2_with fail
  go_ret;exact⟨zN p.out.symm,H⟩
variable {qs:List zi}
structure zg2 (ps qs:List zi):Prop where
 same:zbm ps qs
 u8:∀p∈qs,∀x∈p.bs,0<=x/\x<=255
 le:qs.length<=1000
theorem zg2.length {b:List zi}(h:zg2 b qs):b.length=qs.length:=h.same.length
theorem zg2.u8' {b:List zi}(h:zg2 b qs):∀p∈b,∀x∈p.bs,0<=x/\x<=255:=by
 intro p j x d;have c:p.bs∈b.map (·.bs):=List.mem_map_of_mem j;have g:b.map (·.bs)=qs.map (·.bs):=h.same;rw[g]at c;obtain⟨q,l,e⟩:=List.mem_map.1 c;have f:q.bs=p.bs:=e;rw[<-f]at d;exact h.u8 q l x d
theorem zmL (au rd:Int)(o:Option Addr)(p:Nat)(d:List zi)(q:Option Addr)(r:Nat)(f:List zi)(g:Option Addr)(j:Nat)(bl:List zi)(l:Option Addr)(m:Nat)(pl:List zi)(w:World)(b:zg2 d bl)(c:zg2 f pl)(s:zx w o p d)(t:zx w q r f)(u:zx w g j bl)(y:zx w l m pl) :
  Calls prog 67 #[.agg #[I_ au,I_ rd,.slice o bl.length p,.slice q pl.length r],.agg #[I_ au,I_ rd,.slice g bl.length j,.slice l pl.length m]] w λe w'=>e=.returned (.bool true)/\B_ w w':=by
 have h:=zmK au rd au rd o bl.length p d q pl.length r f g bl.length j bl l pl.length m pl w ⟨b.length.symm,c.length.symm,b.le,c.le,s,t,b.u8',c.u8'⟩ ⟨rfl,rfl,b.le,c.le,u,y,b.u8,c.u8⟩;have z:decide (au=au/\rd=rd/\za0 d=za0 bl/\za0 f=za0 pl)=true:=dT_ ⟨rfl,rfl,b.same,c.same⟩;rw[z]at h;exact h
theorem zpx (vl:List Int)(o p:Option Addr)(c d:Nat)(w:World)(C:vl.length<=9000000000000000000)(u:zax w o vl)(y:zax w p vl) :
  Calls prog 68 #[.slice o vl.length c,.slice p vl.length d] w λe w'=>e=.returned (.bool true)/\B_ w w':=by
 go_in;go_wp2_with fail
 go_loopw [5] (λj wr=>∃k:Nat,k<=vl.length/\j=I_ k/\B_ w wr) (λj _=>vl.length-(intOf j).toNat)
 case atStart=>exact⟨0,nZ_ _,rfl,bR_ _ _⟩
 case round=>
  obtain⟨k,B,rfl,b⟩:=hrel;by_cases hlt2:k<vl.length
  .obtain⟨f,g,rfl,r⟩:∃f g,o=some ⟨f,g,none⟩/\∀j,j<vl.length->wr.cell? ⟨f,g+j,none⟩=some (I_ (vl.getD j 0)):=by
    rcases(u.below b).cells with h|h
    .subst h;simp at hlt2
    .exact h
   obtain⟨l,m,rfl,s⟩:∃l m,p=some ⟨l,m,none⟩/\∀j,j<vl.length->wr.cell? ⟨l,m+j,none⟩=some (I_ (vl.getD j 0)):=by
    rcases(y.below b).cells with h|h
    .subst h;simp at hlt2
    .exact h
   have D:=r k hlt2;have E:=s k hlt2;have z:(k:Int)<vl.length:=by omega
   have A:(0:Int)<=k:=by omega
   clear r s;generalize vl.getD k 0=x at*;go_wp2_with fail
   go_region
   all_goals
    go_wp2_with fail
    go_roundw
    case rel=>
     have q:∃t:Nat,t<=vl.length/\(Value.int .i64 ((k:Int)+1))=I_ t/\B_ w wr.drew:=⟨k+1,by omega,by go_num,b.drew⟩
     first|exact q|((repeat apply Exists.intro);exact⟨q,rfl⟩)
    case measure=>simp[intOf];omega
  .obtain rfl:k=vl.length:=by omega
   have z:¬(vl.length:Int)<vl.length:=by omega
   go_wp2_with fail
   go_ret;exact⟨rfl,b⟩
theorem zpy (au rd:Int)(m:Option Addr)(o:Nat)(y:List zi)(p:Option Addr)(q:Nat)(z:List zi)(r:Option Addr)(s:Nat)(b:List Int)(c:Option Addr)(d:Nat)(bl:List zi)(f:Option Addr)(g:Nat)(pl:List zi)(j:Option Addr)(l:Nat)(w:World)(A:zg2 y bl)(B:zg2 z pl)(U:b.length<=9000000000000000000)(J:zx w m o y)(L:zx w p q z)(M:zax w r b)(N:zx w c d bl)(O:zx w f g pl)(R:zax w j b) :
  Calls prog 44 #[.agg #[I_ au,I_ rd,.slice m y.length o,.slice p z.length q,.slice r b.length s],.agg #[I_ au,I_ rd,.slice c bl.length d,.slice f pl.length g,.slice j b.length l]] w λe w'=>e=.returned (.bool true)/\B_ w w':=by
 rw[A.length,B.length];refine kA_ ?A0 ?_;exact #[I_ au,I_ rd,.slice c bl.length d,.slice f pl.length g,.slice j b.length l];refine kO_ ?B0 ?_;exact Obj.cells #[I_ au,I_ rd,.slice m bl.length o,.slice p pl.length q,.slice r b.length s] 64;have t:B_ w ((w.alloc ?B0).alloc (.cells ?A0 64)):=((bR_ _ _).alloc (nR_ _) _).alloc (by rw[zG];omega) _;have E:=hX_ w ?B0 (.cells ?A0 64);have F:((w.alloc ?B0).alloc (.cells ?A0 64)).heap[w.heap.size+1]? = some (.cells ?A0 64 (0,0)):=by
  have:=hN_ (w.alloc ?B0) (.cells ?A0 64);rw[zG]at this;exact this
 have G:Hid _:=A;have H:Hid _:=B;clear A B;go_in;go_wp2_with fail
 generalize (w.alloc ?B0).alloc (.cells ?A0 64)=I at t E F|-;refine(zmL au rd m o y p q z c d bl f g pl I G.out H.out (J.below t) (L.below t) (N.below t) (O.below t)).mono ?_;rintro _ Y⟨rfl,C⟩;dsimp only;have V:=zk C E;have X:=zk C F;have Z:=zb V 4 _ rfl;have m4:=zb X 4 _ rfl;have u:=zm t C;go_wp2_with fail
 refine(zpx b r j s l Y U (M.below u) (R.below u)).mono ?_;rintro _ w2⟨rfl,T⟩;dsimp only;go_wp2_with fail
 go_ret;exact⟨rfl,u.trans (T.mono u.size)⟩
theorem znT (b:List ByteArray)(t u:Option Addr)(n m c d:Nat)(w:World)(F:n=b.length)(E:m=b.length)(C:n<=maxLen)(A:zas w t b)(B:zas w u b) :
  Calls prog 69 #[.slice t n c,.slice u m d] w λe w'=>e=.returned (.bool true)/\B_ w w':=by
 subst F E;unfold maxLen at C;go_in;go_wp2_with fail
 go_loopw [5] (λj wr=>∃k:Nat,k<=b.length/\j=I_ k/\B_ w wr) (λj _=>b.length-(intOf j).toNat)
 case atStart=>exact⟨0,nZ_ _,rfl,bR_ _ _⟩
 case round=>
  obtain⟨k,H,rfl,q⟩:=hrel;by_cases hlt:k<b.length
  .obtain⟨f,g,rfl,r⟩:∃f g,t=some ⟨f,g,none⟩/\∀j,j<b.length->w.cell? ⟨f,g+j,none⟩=some (.string (b.getD j ByteArray.empty)):=by
    rcases A.cells with h|h
    .rw[h]at hlt;simp at hlt
    .exact h
   obtain⟨l,o,rfl,s⟩:∃l o,u=some ⟨l,o,none⟩/\∀j,j<b.length->w.cell? ⟨l,o+j,none⟩=some (.string (b.getD j ByteArray.empty)):=by
    rcases B.cells with h|h
    .rw[h]at hlt;simp at hlt
    .exact h
   have I:=(q.cell (p:=⟨f,g+k,none⟩) (bL_ (r k hlt))).trans (r k hlt);have J:=(q.cell (p:=⟨l,o+k,none⟩) (bL_ (s k hlt))).trans (s k hlt);have D:(k:Int)<b.length:=by omega
   have G:(0:Int)<=k:=by omega
   clear r s;generalize b.getD k ByteArray.empty=x at*;go_wp2_with fail
   go_region_held3 (λw'=>w'.cell? ⟨f,g+k,none⟩=some (.string x)/\w'.cell? ⟨l,o+k,none⟩=some (.string x)) (go_keep) (fail)
   all_goals
    go_wp2_with fail
    go_roundw
    case rel=>
     have y:∃z:Nat,z<=b.length/\(Value.int .i64 ((k:Int)+1))=I_ z/\B_ w wr.drew:=⟨k+1,by omega,by go_num,q.drew⟩
     first|exact y|((repeat apply Exists.intro);exact⟨y,rfl⟩)
    case measure=>simp[intOf];omega
  .obtain rfl:k=b.length:=by omega
   have D:¬(b.length:Int)<b.length:=by omega
   go_wp2_with fail
   go_ret;exact⟨rfl,q⟩
theorem znU (au f:Int)(b:List ByteArray)(g j:Option Addr)(n m c d:Nat)(w:World)(q:n=b.length)(p:m=b.length)(o:n<=maxLen)(s:zas w g b)(t:zas w j b) :
  Calls prog 45 #[.agg #[I_ au,I_ f,.slice g n c],.agg #[I_ au,I_ f,.slice j m d]] w λe w'=>e=.returned (.bool true)/\B_ w w':=by
 have l:B_ w ((w.alloc (.cells #[I_ au,I_ f,.slice g n c] 58)).alloc (.cells #[I_ au,I_ f,.slice j m d] 58)):=((bR_ _ _).alloc (nR_ _) _).alloc (by simp) _;have r:=znT b g j n m c d _ q p o (s.below l) (t.below l);clear q p o;go_in;go_wp2_with fail
 refine r.mono ?_;rintro _ z⟨rfl,u⟩;dsimp only;go_wp2_with fail
 go_ret;exact⟨rfl,zS (zS u)⟩
theorem zxO (bs:List Int)(b f:Option Addr)(n m c d:Nat)(w:World)(o:n=bs.length)(l:m=bs.length)(g:zg w b c bs)(j:zg w f d bs) :
  Calls prog 70 #[.slice b n c,.slice f m d] w λe w'=>e=.returned (.bool true)/\w=w':=by
 have p:=zd8 w b n c bs o g;have q:=zd8 w f m d bs l j;clear o l g j;go_in;go_wp2_with fail
 go_ret;exact⟨by simp,rfl⟩
theorem zpz (au rd:Int)(bs:List Int)(b f:Option Addr)(n m c d:Nat)(w:World)(p:n=bs.length)(o:m=bs.length)(j:zg w b c bs)(l:zg w f d bs) :
  Calls prog 46 #[.agg #[I_ au,I_ rd,.slice b n c],.agg #[I_ au,I_ rd,.slice f m d]] w λe w'=>e=.returned (.bool true)/\B_ w w':=by
 have g:B_ w ((w.alloc (.cells #[I_ au,I_ rd,.slice b n c] 53)).alloc (.cells #[I_ au,I_ rd,.slice f m d] 53)):=((bR_ _ _).alloc (nR_ _) _).alloc (by simp) _;have h:=zxO bs b f n m c d _ p o (j.below g) (l.below g);clear p o j l;go_in;go_wp2_with fail
 refine h.mono ?_;rintro e q⟨rfl,rfl⟩;dsimp only;go_wp2_with fail
 go_ret;exact⟨rfl,g⟩
variable {bl:List zi}
theorem zrf (b:List Sl)(j i:Nat)(h:j<b.length)(c:i<3):(slv b)[j*3+i]? = (b[j]).cs[i]?:=by
 induction b generalizing j with
 | nil=>cases h
 | cons x r ih=>
  cases j with
  | zero=>simp only[slv,Nat.zero_mul,Nat.zero_add,List.getElem_cons_zero];rw[List.getElem?_append_left (by simp[Sl.cs];exact c)]
  | succ j=>
   have h':j<r.length:=by simpa using h
   simp only[slv,List.getElem_cons_succ];rw[List.getElem?_append_right (by simp[Sl.cs];omega),<-ih j h']
   congr 1
   simp[Sl.cs];omega
theorem zpA {c:List zi}(j:bss c=bss bl)(d:bl.length<=1000)(g:∀b∈bss bl,∀x∈b,0<=x/\x<=255):zg2 c bl:=
 ⟨j,λp f x l=>g p.bs (List.mem_map.2 ⟨p,f,rfl⟩) x l,d⟩
theorem zuT (c d:Ct)(w:World)(f:c.v=d.v)(N:d.v.f=0)(D:∀b∈d.v.bl++d.v.pl,∀x∈b,0<=x/\x<=255)(J:za7 w c)(L:za7 w d) :
  Calls prog 24 #[.agg #[I_ c.au,I_ c.rd,.slice c.ba c.bl.length c.bc,.slice c.pa c.pl.length c.pc,.slice c.va c.vl.length c.vc],.agg #[I_ d.au,I_ d.rd,.slice d.ba d.bl.length d.bc,.slice d.pa d.pl.length d.pc,.slice d.va d.vl.length d.vc]] w λe w'=>e=.returned (.bool true)/\Below w.heap.size w w':=by
 have H:Hid (c.v=d.v):=f;clear f;refine kA_ ?A0 ?_;exact #[I_ c.au,I_ c.rd,.slice c.ba c.bl.length c.bc,.slice c.pa c.pl.length c.pc,.slice c.va c.vl.length c.vc];refine kA_ ?B0 ?_;exact #[I_ d.au,I_ d.rd,.slice d.ba d.bl.length d.bc,.slice d.pa d.pl.length d.pc,.slice d.va d.vl.length d.vc];have l:Below w.heap.size w ((w.alloc (.cells ?A0 64)).alloc (.cells ?B0 64)):=((bR_ _ _).alloc (nR_ _) _).alloc (by simp) _;have g:=hX_ w (.cells ?A0 64) (.cells ?B0 64);have j:=hY_ w (.cells ?A0 64) (.cells ?B0 64);go_in;go_upto_region 1 with fail
 generalize (w.alloc (.cells ?A0 64)).alloc (.cells ?B0 64)=m at l g j|-;have f:=H.out;have z:c.au=d.au:=congrArg CV.au f;have A:c.rd=d.rd:=congrArg CV.rd f;have B:bss c.bl=bss d.bl:=congrArg CV.bl f;have C:bss c.pl=bss d.pl:=congrArg CV.pl f;have o:c.vl=d.vl:=congrArg CV.vl f;obtain⟨E,F,O,_,_⟩:=zow N;have u:=zpA B E (λb t=>D b (List.mem_append.2 (.inl t)));have y:=zpA C F (λb t=>D b (List.mem_append.2 (.inr t)));have p:=J.below l;have q:=L.below l;have s:=p.ints;rw[o]at s;have r:=zpy c.au c.rd c.ba c.bc c.bl c.pa c.pc c.pl c.va c.vc d.vl d.ba d.bc d.bl d.pa d.pc d.pl d.va d.vc m u y (by omega) p.hat.lb p.hat.lp s q.hat.lb q.hat.lp q.ints;rw[<-o]at r;have G:Calls prog 44 #[.agg ?A0,.agg ?B0] m λe w'=>e=.returned (.bool true)/\Below m.heap.size m w':=by
  rw[<-z,<-A,<-o];exact r
 clear r z A B C o u y s p q E F O f;have R:=zb g 0 _ rfl;have T:=zb g 1 _ rfl;have U:=zb g 2 _ rfl;have V:=zb g 3 _ rfl;have X:=zb g 4 _ rfl;have Y:=zb j 0 _ rfl;have Z:=zb j 1 _ rfl;have b2:=zb j 2 _ rfl;have b3:=zb j 3 _ rfl;have b4:=zb j 4 _ rfl;go_wp2_with fail
 refine G.mono ?_;rintro _ w1⟨rfl,I⟩;dsimp only;go_wp2_with fail
 go_ret;exact⟨rfl,l.trans (I.mono l.size)⟩
theorem zsM (c d:Bc)(w:World)(b:c.v=d.v)(s:zcN w c)(l:zcN w d) :
  Calls prog 25 #[.agg #[I_ c.v.au,I_ c.v.nu,.slice c.ta c.v.ss.length c.tc],.agg #[I_ d.v.au,I_ d.v.nu,.slice d.ta d.v.ss.length d.tc]] w λe w'=>e=.returned (.bool true)/\Below w.heap.size w w':=by
 have p:Hid (c.v=d.v):=b;clear b;refine kO_ ?A0 ?_;exact Obj.cells #[I_ c.v.au,I_ c.v.nu,.slice c.ta c.v.ss.length c.tc] 58;refine kO_ ?B0 ?_;exact Obj.cells #[I_ d.v.au,I_ d.v.nu,.slice d.ta d.v.ss.length d.tc] 58;have f:Below w.heap.size w ((w.alloc ?A0).alloc ?B0):=((bR_ _ _).alloc (nR_ _) _).alloc (by simp) _;have g:=hX_ w ?A0 ?B0;have j:=hY_ w ?A0 ?B0;go_in;go_upto_region 1 with fail
 generalize (w.alloc ?A0).alloc ?B0=q at f g j|-;have b:=p.out;have m:=(s.below f).strs;rw[b]at m;have o:=znU d.v.au d.v.nu d.v.ss c.ta d.ta _ _ c.tc d.tc q rfl rfl (nT_ l.le l.max) m (l.below f).strs;rw[b]at g|-;clear m b;have u:=zb g 0 _ rfl;have A:=zb j 0 _ rfl;have y:=zb g 1 _ rfl;have B:=zb j 1 _ rfl;have z:=zb g 2 _ rfl;have C:=zb j 2 _ rfl;go_wp2_with fail
 refine o.mono ?_;rintro _ D⟨rfl,r⟩;dsimp only;go_wp2_with fail
 go_ret;exact⟨rfl,f.trans (r.mono f.size)⟩
theorem zuU (c d:Sl)(w:World)(b:c.v=d.v)(q:zg w c.p.sa c.p.cap c.p.bs)(r:zg w d.p.sa d.p.cap d.p.bs) :
  Calls prog 26 #[.agg #[I_ c.au,I_ c.rd,.slice c.p.sa c.p.bs.length c.p.cap],.agg #[I_ d.au,I_ d.rd,.slice d.p.sa d.p.bs.length d.p.cap]] w λe w'=>e=.returned (.bool true)/\Below w.heap.size w w':=by
 have u:Hid (c.v=d.v):=b;clear b;refine kO_ ?A0 ?_;exact Obj.cells #[I_ c.au,I_ c.rd,.slice c.p.sa c.p.bs.length c.p.cap] 53;refine kO_ ?B0 ?_;exact Obj.cells #[I_ d.au,I_ d.rd,.slice d.p.sa d.p.bs.length d.p.cap] 53;have f:Below w.heap.size w ((w.alloc ?A0).alloc ?B0):=((bR_ _ _).alloc (nR_ _) _).alloc (by simp) _;have g:=hX_ w ?A0 ?B0;have j:=hY_ w ?A0 ?B0;go_in;go_upto_region 1 with fail
 generalize (w.alloc ?A0).alloc ?B0=y at f g j|-;have b:=u.out;have o:c.au=d.au:=congrArg (λs:SV=>s.1) b;have p:c.rd=d.rd:=congrArg (λs:SV=>s.2.1) b;have l:c.p.bs=d.p.bs:=congrArg (λs:SV=>s.2.2) b;have m:=q.below f;rw[l]at m;have t:=zpz d.au d.rd d.p.bs c.p.sa d.p.sa _ _ c.p.cap d.p.cap y rfl rfl m (r.below f);rw[o,p,l]at g|-;clear m b o p l q r;have B:=zb g 0 _ rfl;have E:=zb j 0 _ rfl;have C:=zb g 1 _ rfl;have F:=zb j 1 _ rfl;have D:=zb g 2 _ rfl;have G:=zb j 2 _ rfl;go_wp2_with fail
 refine t.mono ?_;rintro _ H⟨rfl,z⟩;dsimp only;go_wp2_with fail
 go_ret;exact⟨rfl,f.trans (z.mono f.size)⟩
theorem zyO:(prog.info? 64).map (·.size)=some 5:=by kernel_rfl
theorem zyP:(prog.info? 58).map (·.size)=some 3:=by kernel_rfl
theorem zyQ:(prog.info? 53).map (·.size)=some 3:=by kernel_rfl
structure zcx (p q:Vw):Prop where
 rd:p.rd=q.rd
 cs:p.cs=q.cs
 bs:p.bs=q.bs
 vt:p.vt=q.vt
theorem zpB {α β:Type}{f:α->β}{l m:List α}(h:l.map f=m.map f)(k:Nat)(b:k<l.length)(c:k<m.length):f l[k]=f m[k]:=by
 have:=congrArg (λx:List β=>x[k]?) h
 simpa[b,c]using this
theorem zdC (p q:Vm)(w:World)(hp:zfX w p)(hq:zfX w q)(ho:zlk q.v)(hs:zcx p.v q.v) :
  Calls prog 16 #[.agg #[.bool p.up,I_ p.rd,.slice p.ca p.ls.length p.cc,.slice p.ba p.bl.length p.bc,.slice p.ta p.tab.length p.tc,.slice p.pa p.txs.length p.pc],.agg #[.bool q.up,I_ q.rd,.slice q.ca q.ls.length q.cc,.slice q.ba q.bl.length q.bc,.slice q.ta q.tab.length q.tc,.slice q.pa q.txs.length q.pc]] w λe w'=>e=.returned (.bool true)/\Below w.heap.size w w':=by
 have er:p.rd=q.rd:=hs.rd;have l1:p.ls.length=q.ls.length:=by have:=congrArg List.length hs.cs;simpa[Vm.v,zI]using this
 have l2:p.bl.length=q.bl.length:=by have:=congrArg List.length hs.bs;simpa[Vm.v]using this
 have l3:p.tab.length=q.tab.length:=by have:=congrArg List.length hs.vt;simpa[Vm.v,vs]using this
 have b1:q.ls.length<=400:=zlE ho.dag;have b2:q.bl.length<=800:=by have:=ho.sh;simpa[Vm.v]using this
 have b3:q.tab.length<=400000:=by have:=ho.tab;simpa[Vm.v,vs]using this
 have HS:Hid _:=hs;have HO:Hid _:=ho;have ER:Hid (p.rd=q.rd):=er;have L1:Hid (p.ls.length=q.ls.length):=l1;have L2:Hid (p.bl.length=q.bl.length):=l2;have L3:Hid (p.tab.length=q.tab.length):=l3;clear er l1 l2 l3;refine kO_ ?A0 ?_;exact Obj.cells #[.bool p.up,I_ p.rd,.slice p.ca p.ls.length p.cc,.slice p.ba p.bl.length p.bc,.slice p.ta p.tab.length p.tc,.slice p.pa p.txs.length p.pc] 47;refine kO_ ?B0 ?_;exact Obj.cells #[.bool q.up,I_ q.rd,.slice q.ca q.ls.length q.cc,.slice q.ba q.bl.length q.bc,.slice q.ta q.tab.length q.tc,.slice q.pa q.txs.length q.pc] 47;have hA:Below w.heap.size w ((w.alloc ?A0).alloc ?B0):=((bR_ _ _).alloc (nR_ _) _).alloc (by simp) _;have q0:=hX_ w ?A0 ?B0;have q1:=hY_ w ?A0 ?B0;go_in;go_upto_region 1 with fail
 generalize (w.alloc ?A0).alloc ?B0=W0 at hA q0 q1|-;generalize w.heap.size+1=Q at q1|-;generalize ag:w.heap.size=P at q0|-;have HP:Hid (w.heap.size=P):=ag;clear ag hs ho;have ax:=hp.below hA;have ay:=hq.below hA;clear hp hq;have p1:=zb q0 1 _ rfl;have p2:=zb q0 2 _ rfl;have p3:=zb q0 3 _ rfl;have p4:=zb q0 4 _ rfl;have s1:=zb q1 1 _ rfl;have s2:=zb q1 2 _ rfl;have s3:=zb q1 3 _ rfl;have s4:=zb q1 4 _ rfl;rw[ER.out]at p1;rw[L1.out]at p2;rw[L2.out]at p3;rw[L3.out]at p4;clear q0 q1;generalize ak:q.ls.length=U at p2 s2 b1 L1|-;generalize al:q.bl.length=X at p3 s3 b2 L2|-;generalize am:q.tab.length=Y at p4 s4 b3 L3|-;have N1:Hid _:=ak;have N2:Hid _:=al;have N3:Hid _:=am;clear ak al am;go_wp2_with fail
 have an:=ax;have ao:=ay;have az:=p2;have aC:=p3;have aF:=p4;have aI:=s2;have aL:=s3;have aO:=s4;go_loopw [5] (λj wr=>∃k:Nat,k<=U/\j=I_ k/\Below W0.heap.size W0 wr) (λj _=>U-(intOf j).toNat)
 case atStart=>exact⟨0,nZ_ _,rfl,bR_ _ _⟩
 case round=>
  obtain⟨k,hk,rfl,g⟩:=hrel;have o:=an.below g;have r:=ao.below g;have z:=zr g az;have A:=zr g aC;have B:=zr g aF;have E:=zr g aI;have F:=zr g aL;have G:=zr g aO;by_cases hlt:k<U
  .have af:(k:Int)<U:=by omega
   have N:k<p.ls.length:=by rw[L1.out];exact hlt
   have J:k<q.ls.length:=by rw[N1.out];exact hlt
   have L:Hid _:=(λ(V:World) (hV:Below wr.heap.size wr V)=>zuT (p.ls[k]) (q.ls[k]) V (zpB (f:=Ct.v) HS.out.cs k N J) (znZ HO.out.dag _ (gM_ J)) (HO.out.du8 _ (List.mem_map.2 ⟨_,gM_ J,rfl⟩)) ((o.ec _ (gM_ N)).below hV) ((r.ec _ (gM_ J)).below hV));have Z:=o.rc;rw[L1.out]at Z;have aa:=r.rc;rw[N1.out]at aa;obtain⟨s,ad,O⟩:=zei Z hlt (row:=(p.ls[k]).cs) rfl (λt T=>zfx p.ls k t N T);obtain⟨u,ae,R⟩:=zei aa hlt (row:=(q.ls[k]).cs) rfl (λt T=>zfx q.ls k t J T);rw[ad]at z;rw[ae]at E;generalize p.ls[k]=c at L O;generalize q.ls[k]=d at L R;have y:=dB_ wr;have C:=dC_ z;have H:=dC_ E;have D:=zde O;have I:=zde R;go_upto_region 6 with fail
   refine wR_ (S:=λw'=>w'.cell? ⟨P,2,none⟩=some (.slice (some ⟨s,0,none⟩) U p.cc)/\w'.cell? ⟨Q,2,none⟩=some (.slice (some ⟨u,0,none⟩) U q.cc)/\w'.rangeAt s (k*5) c.cs/\w'.rangeAt u (k*5) d.cs) (by kernel_rfl) ⟨C,H,D,I⟩ (λl=>?_);generalize wr.drew=M at y C H D I l|-;refine tks_ 4 [(0,47,(P_ P 2)),(1,48,.slice (some ⟨s,0,none⟩) U p.cc),(2,49,I_ (k:Int)),(3,50,(P_ s (k*5)))] l ?_;simp only[tkf_,zf];refine kA_ ?C0 ?_;exact #[I_ c.au,I_ c.rd,.slice c.ba c.bl.length c.bc,.slice c.pa c.pl.length c.pc,.slice c.va c.vl.length c.vc];refine tQ_ 4 51 (.agg ?C0) rfl rfl (yieldsIf_load_mid (by rfl) 64 _ rfl s (k*5) rfl c.cs _ (λw0 h=>h.2.2.1) underlying64 rfl zyO) l ?_;simp only[zf];refine tks_ 4 [(5,52,(P_ Q 2)),(6,53,.slice (some ⟨u,0,none⟩) U q.cc),(7,54,I_ (k:Int)),(8,55,(P_ u (k*5)))] l ?_;simp only[tkf_,zf];refine kA_ ?D0 ?_;exact #[I_ d.au,I_ d.rd,.slice d.ba d.bl.length d.bc,.slice d.pa d.pl.length d.pc,.slice d.va d.vl.length d.vc];refine tQ_ 9 56 (.agg ?D0) rfl rfl (yieldsIf_load_mid (by rfl) 64 _ rfl u (k*5) rfl d.cs _ (λw0 h=>h.2.2.2) underlying64 rfl zyO) l ?_;simp only[zf];refine zE 10 rfl (λK9 hK=>?_);refine zj rfl 57 rfl 24 [.tmp 51,.tmp 56] #[64,64] rfl [.agg ?C0,.agg ?D0] rfl (eO_ func24) (λv w'=>v=.bool true/\Below M.heap.size M w') ((L.out M y).mono (λe w2 h=>⟨_,h.1,rfl,h.2⟩)) ?_;rintro v V1⟨rfl,m⟩;have ac:=zm y m;refine hK.out _ _ ⟨zr m C,zr m H,zdd D m,zdd I m⟩ (λl=>?_);simp only[zf];refine zU 11 58 (.bool false) rfl rfl l ?_;simp only[zf];refine wD_ (by kernel_rfl) ?_ _;have ab:=zm g ac;clear C H D I l y m o r Z aa O R z A B E F G;go_wp2_with fail
   go_roundw
   case rel=>exact⟨k+1,by omega,by go_num,ab⟩
   case measure=>simp[intOf];omega
  .obtain rfl:U=k:=by omega
   have af:¬((U:Nat):Int)<(U:Nat):=by omega
   obtain⟨W1,ah⟩:∃W,W=wr:=⟨_,rfl⟩;rw[<-ah]at g o r z A B E F G|-;clear ah;have ab:=zm hA g;have ap:=o;have aq:=r;have aA:=z;have aD:=A;have aG:=B;have aJ:=E;have aM:=F;have aP:=G;clear g o r z A B E F G hlt hk;go_wp2_with fail
   go_loopw [6] (λj wr=>∃k:Nat,k<=X/\j=I_ k/\Below W1.heap.size W1 wr) (λj _=>X-(intOf j).toNat)
   case atStart=>exact⟨0,nZ_ _,rfl,bR_ _ _⟩
   case round=>
    obtain⟨k,hk,rfl,g⟩:=hrel;have o:=ap.below g;have r:=aq.below g;have z:=zr g aA;have A:=zr g aD;have B:=zr g aG;have E:=zr g aJ;have F:=zr g aM;have G:=zr g aP;by_cases hlt:k<X
    .have af:(k:Int)<X:=by omega
     have N:k<p.bl.length:=by rw[L2.out];exact hlt
     have J:k<q.bl.length:=by rw[N2.out];exact hlt
     have L:Hid _:=(λ(V:World) (hV:Below wr.heap.size wr V)=>zsM (p.bl[k]) (q.bl[k]) V (zpB (f:=λb:Bc=>b.v) HS.out.bs k N J) ((o.eb _ (gM_ N)).below hV) ((r.eb _ (gM_ J)).below hV));have Z:=o.rb;rw[L2.out]at Z;have aa:=r.rb;rw[N2.out]at aa;obtain⟨s,ad,O⟩:=zei Z hlt (row:=(p.bl[k]).cs) rfl (λt T=>zrb p.bl k t N T);obtain⟨u,ae,R⟩:=zei aa hlt (row:=(q.bl[k]).cs) rfl (λt T=>zrb q.bl k t J T);rw[ad]at A;rw[ae]at F;generalize p.bl[k]=c at L O;generalize q.bl[k]=d at L R;have y:=dB_ wr;have C:=dC_ A;have H:=dC_ F;have D:=zde O;have I:=zde R;go_upto_region 11 with fail
     refine wR_ (S:=λw'=>w'.cell? ⟨P,3,none⟩=some (.slice (some ⟨s,0,none⟩) X p.bc)/\w'.cell? ⟨Q,3,none⟩=some (.slice (some ⟨u,0,none⟩) X q.bc)/\w'.rangeAt s (k*3) c.cs/\w'.rangeAt u (k*3) d.cs) (by kernel_rfl) ⟨C,H,D,I⟩ (λl=>?_);generalize wr.drew=M at y C H D I l|-;refine tks_ 4 [(0,66,(P_ P 3)),(1,67,.slice (some ⟨s,0,none⟩) X p.bc),(2,68,I_ (k:Int)),(3,69,(P_ s (k*3)))] l ?_;simp only[tkf_,zf];refine kA_ ?E0 ?_;exact #[I_ c.v.au,I_ c.v.nu,.slice c.ta c.v.ss.length c.tc];refine tQ_ 4 70 (.agg ?E0) rfl rfl (yieldsIf_load_mid (by rfl) 58 _ rfl s (k*3) rfl c.cs _ (λw0 h=>h.2.2.1) underlying58 rfl zyP) l ?_;simp only[zf];refine tks_ 4 [(5,71,(P_ Q 3)),(6,72,.slice (some ⟨u,0,none⟩) X q.bc),(7,73,I_ (k:Int)),(8,74,(P_ u (k*3)))] l ?_;simp only[tkf_,zf];refine kA_ ?F0 ?_;exact #[I_ d.v.au,I_ d.v.nu,.slice d.ta d.v.ss.length d.tc];refine tQ_ 9 75 (.agg ?F0) rfl rfl (yieldsIf_load_mid (by rfl) 58 _ rfl u (k*3) rfl d.cs _ (λw0 h=>h.2.2.2) underlying58 rfl zyP) l ?_;simp only[zf];refine zE 10 rfl (λK9 hK=>?_);refine zj rfl 76 rfl 25 [.tmp 70,.tmp 75] #[58,58] rfl [.agg ?E0,.agg ?F0] rfl (eO_ func25) (λv w'=>v=.bool true/\Below M.heap.size M w') ((L.out M y).mono (λe w2 h=>⟨_,h.1,rfl,h.2⟩)) ?_;rintro v V1⟨rfl,m⟩;have ac:=zm y m;refine hK.out _ _ ⟨zr m C,zr m H,zdd D m,zdd I m⟩ (λl=>?_);simp only[zf];refine zU 11 77 (.bool false) rfl rfl l ?_;simp only[zf];refine wD_ (by kernel_rfl) ?_ _;have ab:=zm g ac;clear C H D I l y m o r Z aa O R z A B E F G;go_wp2_with fail
     go_roundw
     case rel=>exact⟨k+1,by omega,by go_num,ab⟩
     case measure=>simp[intOf];omega
    .obtain rfl:X=k:=by omega
     have af:¬((X:Nat):Int)<(X:Nat):=by omega
     obtain⟨W2,ai⟩:∃W,W=wr:=⟨_,rfl⟩;rw[<-ai]at g o r z A B E F G|-;clear ai;have av:=zm ab g;have ar:=o;have au:=r;have aB:=z;have aE:=A;have aH:=B;have aK:=E;have aN:=F;have aQ:=G;clear g o r z A B E F G hlt hk;go_wp2_with fail
     go_loopw [7] (λj wr=>∃k:Nat,k<=Y/\j=I_ k/\Below W2.heap.size W2 wr) (λj _=>Y-(intOf j).toNat)
     case atStart=>exact⟨0,nZ_ _,rfl,bR_ _ _⟩
     case round=>
      obtain⟨k,hk,rfl,g⟩:=hrel;have o:=ar.below g;have r:=au.below g;have z:=zr g aB;have A:=zr g aE;have B:=zr g aH;have E:=zr g aK;have F:=zr g aN;have G:=zr g aQ;by_cases hlt:k<Y
      .have af:(k:Int)<Y:=by omega
       have N:k<p.tab.length:=by rw[L3.out];exact hlt
       have J:k<q.tab.length:=by rw[N3.out];exact hlt
       have L:Hid _:=(λ(V:World) (hV:Below wr.heap.size wr V)=>zuU (p.tab[k]) (q.tab[k]) V (zpB (f:=Sl.v) HS.out.vt k N J) ((o.et _ (gM_ N)).below hV) ((r.et _ (gM_ J)).below hV));have Z:=o.rt;rw[L3.out]at Z;have aa:=r.rt;rw[N3.out]at aa;obtain⟨s,ad,O⟩:=zei Z hlt (row:=(p.tab[k]).cs) rfl (λt T=>zrf p.tab k t N T);obtain⟨u,ae,R⟩:=zei aa hlt (row:=(q.tab[k]).cs) rfl (λt T=>zrf q.tab k t J T);rw[ad]at B;rw[ae]at G;generalize p.tab[k]=c at L O;generalize q.tab[k]=d at L R;have y:=dB_ wr;have C:=dC_ B;have H:=dC_ G;have D:=zde O;have I:=zde R;go_upto_region 16 with fail
       refine wR_ (S:=λw'=>w'.cell? ⟨P,4,none⟩=some (.slice (some ⟨s,0,none⟩) Y p.tc)/\w'.cell? ⟨Q,4,none⟩=some (.slice (some ⟨u,0,none⟩) Y q.tc)/\w'.rangeAt s (k*3) c.cs/\w'.rangeAt u (k*3) d.cs) (by kernel_rfl) ⟨C,H,D,I⟩ (λl=>?_);generalize wr.drew=M at y C H D I l|-;refine tks_ 4 [(0,85,(P_ P 4)),(1,86,.slice (some ⟨s,0,none⟩) Y p.tc),(2,87,I_ (k:Int)),(3,88,(P_ s (k*3)))] l ?_;simp only[tkf_,zf];refine kA_ ?G0 ?_;exact #[I_ c.au,I_ c.rd,.slice c.p.sa c.p.bs.length c.p.cap];refine tQ_ 4 89 (.agg ?G0) rfl rfl (yieldsIf_load_mid (by rfl) 53 _ rfl s (k*3) rfl c.cs _ (λw0 h=>h.2.2.1) underlying53 rfl zyQ) l ?_;simp only[zf];refine tks_ 4 [(5,90,(P_ Q 4)),(6,91,.slice (some ⟨u,0,none⟩) Y q.tc),(7,92,I_ (k:Int)),(8,93,(P_ u (k*3)))] l ?_;simp only[tkf_,zf];refine kA_ ?H0 ?_;exact #[I_ d.au,I_ d.rd,.slice d.p.sa d.p.bs.length d.p.cap];refine tQ_ 9 94 (.agg ?H0) rfl rfl (yieldsIf_load_mid (by rfl) 53 _ rfl u (k*3) rfl d.cs _ (λw0 h=>h.2.2.2) underlying53 rfl zyQ) l ?_;simp only[zf];refine zE 10 rfl (λK9 hK=>?_);refine zj rfl 95 rfl 26 [.tmp 89,.tmp 94] #[53,53] rfl [.agg ?G0,.agg ?H0] rfl (eO_ func26) (λv w'=>v=.bool true/\Below M.heap.size M w') ((L.out M y).mono (λe w2 h=>⟨_,h.1,rfl,h.2⟩)) ?_;rintro v V1⟨rfl,m⟩;have ac:=zm y m;refine hK.out _ _ ⟨zr m C,zr m H,zdd D m,zdd I m⟩ (λl=>?_);simp only[zf];refine zU 11 96 (.bool false) rfl rfl l ?_;simp only[zf];refine wD_ (by kernel_rfl) ?_ _;have ab:=zm g ac;clear C H D I l y m o r Z aa O R z A B E F G;go_wp2_with fail
       go_roundw
       case rel=>exact⟨k+1,by omega,by go_num,ab⟩
       case measure=>simp[intOf];omega
      .obtain rfl:Y=k:=by omega
       have af:¬((Y:Nat):Int)<(Y:Nat):=by omega
       obtain⟨W3,aj⟩:∃W,W=wr:=⟨_,rfl⟩;rw[<-aj]at g o r z A B E F G|-;clear aj;have aw:=zm av g;clear g o r hlt hk;go_wp2_with fail
       go_ret;exact⟨rfl,aw⟩
variable {w:World}{n B:Nat}{T:TypeId}{xs:List Value}
theorem zAN {c s m:Nat}{a:Option Addr}{ys:List Value}(h:w.ownsRow B T s (.slice a n c) n xs)(p:m<=n)(t:ys=xs.take (m*s)):w.ownsRow B T s (.slice a m c) m ys:=by
 subst t;have r:=h.1;have q:m*s<=n*s:=Nat.mul_le_mul_right _ p;refine⟨by rw[lT9_,r];omega,?_⟩;rcases h.2 with⟨e,z⟩|⟨g,u,b,e,d,f,y,j,l,o⟩
 .left
  cases e;have:m=0:=by omega
  subst this;exact⟨rfl,rfl⟩
 .cases e;exact .inr ⟨g,_,b,rfl,d,f,by omega,j,l,by rw[<-o,List.take_take,Nat.min_eq_left q]⟩
theorem zAV {c s:Nat}{a:Option Addr}(h:w.ownsRow B T s (.slice a n c) n xs):n<=c:=by
 rcases h.2 with⟨e,m⟩|⟨g,d,f,e,j,l,b,_⟩
 .omega
 .cases e;exact b
theorem zAW (a:Option Addr):Option.map (λx:Addr=>x.add 0) a=a:=by
 cases a with
 | none=>rfl
 | some x=>obtain⟨b,c,d⟩:=x;rfl
theorem zAk {α:Type}(f:α->List Value)(s:Nat)(b:∀x,(f x).length=s):∀(l:List α) (m:Nat),(l.take m).flatMap f=(l.flatMap f).take (m*s)
 | [],m=>by simp
 | x::l,0=>by simp
 | x::l,m+1=>by
  have e:(m+1)*s=(f x).length+m*s:=by rw[b,Nat.succ_mul];omega
  rw[List.take_succ_cons,List.flatMap_cons,List.flatMap_cons,zAk f s b l m,e,List.take_length_add_append]
theorem zBq {f:Fl}(o:zcn f){a:Ac}(m:a.ok)(l:a.k≠7):(∀i:Nat,i<4->((f.view i).rd<=((f.does a).view i).rd/\(∃e,((f.does a).view i).cs=(f.view i).cs++e)/\(∃e,((f.does a).view i).bs=(f.view i).bs++e)/\∃e,((f.does a).view i).vt=(f.view i).vt++e))/\f.no.sg.length<=(f.does a).no.sg.length:=by
 obtain⟨c,e,j⟩:=zBk o m l;refine⟨λi p=>?_,by rw[j,lP_];omega⟩;have g:=c (i:Int) (by omega);unfold Fl.view;rw[zdQ]
 split
 .exact⟨Int.le_refl _,⟨[],rfl⟩,⟨[],rfl⟩,⟨[],rfl⟩⟩
 .obtain⟨d,b⟩:=g.dag;refine⟨?_,⟨d,b⟩,g.sh,g.tab⟩;show zdi _<=zdi _;rw[b];exact zBl _ _
def Vm.cut (q p:Vm):Vm:={ q with rd:=p.rd,ls:=q.ls.take p.ls.length,bl:=q.bl.take p.bl.length,tab:=q.tab.take p.tab.length }
structure zA8 (p q:Vm):Prop where
 ls:p.ls.length<=q.ls.length
 bl:p.bl.length<=q.bl.length
 tab:p.tab.length<=q.tab.length
 rd:p.rd<=q.rd
 same:zcx p.v (q.cut p).v
theorem zBr {p q:Vm}(h:p.v.rd<=q.v.rd/\(∃e,q.v.cs=p.v.cs++e)/\(∃e,q.v.bs=p.v.bs++e)/\∃e,q.v.vt=p.v.vt++e):zA8 p q:=by
 obtain⟨j,⟨a,l⟩,⟨b,m⟩,⟨c,o⟩⟩:=h;have d:zI q.ls=zI p.ls++a:=l;have f:q.bl.map (·.v)=p.bl.map (·.v)++b:=m;have g:vs q.tab=vs p.tab++c:=o;have r:=congrArg List.length d;have s:=congrArg List.length f;have t:=congrArg List.length g;simp only[zI,vs,List.length_map,lP_]at r s t;refine⟨by omega,by omega,by omega,j,rfl,?_,?_,?_⟩;show zI p.ls=zI (q.ls.take p.ls.length);have:=congrArg (List.take p.ls.length) d;simp only[zI]at this|-
 rotate_left
 show p.bl.map (·.v)=(q.bl.take p.bl.length).map (·.v);have:=congrArg (List.take p.bl.length) f
 rotate_left
 show vs p.tab=vs (q.tab.take p.tab.length);have:=congrArg (List.take p.tab.length) g;simp only[vs]at this|-
 rotate_left
 all_goals rw[List.map_take,this,List.take_left' (by simp)]
theorem zA8.ok {p q:Vm}(h:zA8 p q)(k:zlk p.v)(f:zlk q.v):zlk (q.cut p).v:=by
 have b:=h.same.cs;have c:=h.same.bs;have d:=h.same.vt;refine⟨?_,?_,?_,?_,?_,?_,?_⟩
 .rw[<-b];exact k.dag
 .rw[<-b];exact k.du8
 .rw[<-c];exact k.sh
 .rw[<-c];exact k.shf
 .rw[<-d];exact k.tab
 .rw[<-d];exact k.u8t
 .exact f.txs
theorem zBo (l:List Ct):ctv l=l.flatMap Ct.cs:=by
 induction l with
 | nil=>rfl
 | cons a l ih=>rw[ctv,ih,List.flatMap_cons]
theorem zBp (l:List Sl):slv l=l.flatMap Sl.cs:=by
 induction l with
 | nil=>rfl
 | cons a l ih=>rw[slv,ih,List.flatMap_cons]
theorem zfX.cut {p q:Vm}(h:zfX w q)(m:zA8 p q):zfX w (q.cut p):=by
 have d:(q.cut p).ls.length=p.ls.length:=by show(q.ls.take _).length=_;rw[lT9_];have:=m.ls;omega
 have f:(q.cut p).bl.length=p.bl.length:=by show(q.bl.take _).length=_;rw[lT9_];have:=m.bl;omega
 have g:(q.cut p).tab.length=p.tab.length:=by show(q.tab.take _).length=_;rw[lT9_];have:=m.tab;omega
 refine⟨?_,λc b=>h.ec c (List.mem_of_mem_take b),?_,λc b=>h.eb c (List.mem_of_mem_take b),?_,λc b=>h.et c (List.mem_of_mem_take b),h.tx⟩
 .rw[d];exact zAN h.rc m.ls (by rw[zBo,zBo];exact zAk _ 5 (λ_=>rfl) _ _)
 .rw[f];exact zAN h.rb m.bl (by rw[bcl,bcl];exact zAk _ 3 (λ_=>rfl) _ _)
 .rw[g];exact zAN h.rt m.tab (by rw[zBp,zBp];exact zAk _ 3 (λ_=>rfl) _ _)
end Go.Proofs.YtdnaljbnebnlhaaGreatDoor
