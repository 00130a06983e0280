import Derived.Test.YtdepbohhmfkjgaaGreatDoorPk37
set_option maxRecDepth 100000
set_option maxHeartbeats 4000000
namespace Go.Proofs.YtdepbohhmfkjgaaGreatDoor
open Go.RowKit _root_.Go.Proofs.Tryz
variable {i:Int}{g:Fl}
theorem Fl.run_cons (f:Fl)(a:Ac)(l:List Ac):f.run (a::l)=(f.does a).run l:=rfl
def Ac.ok (a:Ac):Prop:=1<=a.k/\a.k<=10/\0<=a.i/\a.i<4/\0<=a.p/\a.p<=400000
theorem zau (f:Fl)(i:Int)(n:Nd):(f.set i n).nd.length=f.nd.length:=by simp[Fl.set]
theorem set_here {f:Fl}(n:Nd)(b:f.nd.length=4)(c:0<=i/\i<4):(f.set i n).node i=n:=by
 have:i.toNat<f.nd.length:=by omega
 simp[Fl.set,Fl.node,List.getD,this]
theorem set_there {f:Fl}{j:Int}(n:Nd)(b:0<=i)(c:0<=j)(d:j≠i):(f.set i n).node j=f.node j:=by
 have:i.toNat≠j.toNat:=by omega
 simp[Fl.set,Fl.node,List.getD,this]
theorem zdO (l:List MC)(f:Fl):(l.foldl Fl.out f).nd=f.nd:=by
 induction l generalizing f with
 | nil=>rfl
 | cons m l ih=>rw[List.foldl_cons,ih];rfl
theorem zev {f:Fl}(h:f.nd=g.nd)(i:Int):f.node i=g.node i:=by rw[Fl.node,Fl.node,h]
theorem zcj (f:Fl)(i:Int)(m:MC):(f.come i m).away=f.away:=by unfold Fl.come;split<;>rfl
theorem zew (f:Fl)(i:Int)(m:MC):(f.come i m).no=f.no:=by unfold Fl.come;split<;>rfl
theorem zca (f:Fl)(i:Int)(m:MC):(f.come i m).nd.length=f.nd.length:=by unfold Fl.come;split;exact zau _ _ _;rfl
theorem zfD (f:Fl)(l:List MC)(i:Int)(m:MC):({ f with away:=l }:Fl).come i m={ f.come i m with away:=l }:=by
 unfold Fl.come;show(if f.runs i then _ else _)=_
 split<;>rfl
theorem zej (l:List MC)(f:Fl):(comes f l).away=f.away:=by
 induction l generalizing f with
 | nil=>rfl
 | cons m l ih=>exact(ih _).trans (zcj _ _ _)
theorem zeT (l:List MC)(f:Fl):(comes f l).nd.length=f.nd.length:=by
 induction l generalizing f with
 | nil=>rfl
 | cons m l ih=>exact(ih _).trans (zca _ _ _)
theorem zfs (f:Fl)(a:Ac):(f.does a).nd.length=f.nd.length:=by
 unfold Fl.does Fl.act
 split
 .unfold Fl.pick
  split
  .rfl
  .split
   .rfl
   .split
    .exact zca _ _ _
    .rfl
 .split
  .exact zeT _ _
  .split
   .unfold Fl.submit
    split
    .rfl
    .split
     .exact zau _ _ _
     .rfl
   .split
    .exact zcq (P:=λg=>g.nd.length=f.nd.length) _ _ rfl (λm=>zca _ _ _)
    .split
     .unfold Fl.start
      split
      .rfl
      .exact zau _ _ _
     .split
      .split
       .split
        .exact zau _ _ _
        .split
         .unfold Fl.sync;rw[zdO];exact zau _ _ _
         .exact zau _ _ _
       .rfl
      .rfl
theorem zgk (l:List Ac)(f:Fl):(f.run l).nd.length=f.nd.length:=by
 induction l generalizing f with
 | nil=>rfl
 | cons a l ih=>rw[Fl.run_cons,ih,zfs]
variable {k:Nat}{t:ByteArray}
theorem zbP.up {o:No}{a b:Nd}(s:zbP o a b):b.up=a.up:=by
 rcases s with⟨d,m,c,_,rfl⟩|⟨b,_,_,rfl⟩|⟨_,_,rfl⟩|⟨_,_,rfl⟩|⟨_,_,_,_,_,rfl⟩|⟨_,_,_,_,rfl⟩|⟨_,_,rfl⟩|⟨_,rfl⟩
 .unfold Nd.send;split<;>rfl
 all_goals rfl
theorem zdq {Q:Nd->Prop}{o:No}{a b:Nd}(h:∀x y,x.up=true->zbP o x y->Q x->Q y)(s:zad o a b)(g:a.up=true)(f:Q a):Q b:=
 (zad.keeps (P:=λn=>n.up=true/\Q n) (λx y d c=>⟨(zbP.up d).trans c.1,h x y c.1 d c.2⟩) s ⟨g,f⟩).2
theorem zfC {f:Fl}(h:f.runs i=true):(f.node i).up=true:=by
 unfold Fl.runs at h;rw[Bool.and_eq_true]at h;exact h.2
structure zc5 (S:ByteArray->Prop)(Q:Int->Nd->Prop):Prop where
 step:∀i o a b,0<=i/\i<4->a.up=true->zbP o a b->Q i a->Q i b
 crash:∀i n p,0<=i/\i<4->0<=p->Q i n->Q i (n.crash p)
 up:∀i n,0<=i/\i<4->Q i n->Q i { n with up:=true }
 synced:∀i n,0<=i/\i<4->Q i n->Q i { n with wai:=[],syn:=(zae n.recs).length }
 sub:∀i n t,0<=i/\i<4->S t->zcD n.nx n.txs t=0->Q i n->Q i { n with txs:=n.txs++[t] }
def zah (Q:Int->Nd->Prop)(f:Fl):Prop:=f.nd.length=4/\∀i,0<=i/\i<4->Q i (f.node i)
theorem zah.set {Q:Int->Nd->Prop}{f:Fl}(h:zah Q f){i:Int}(c:0<=i/\i<4){n:Nd}(d:Q i n):zah Q (f.set i n):=by
 refine⟨(zau _ _ _).trans h.1,λj b=>?_⟩;by_cases e:j=i
 .subst e;rw[set_here n h.1 b];exact d
 .rw[set_there n c.1 b.1 e];exact h.2 j b
theorem zah.nd {Q:Int->Nd->Prop}{f:Fl}(h:zah Q f)(e:g.nd=f.nd):zah Q g:=⟨by rw[e];exact h.1,λj b=>by rw[zev e];exact h.2 j b⟩
def MC.post (m:MC):Prop:=(0<=m.fr/\m.fr<4)/\0<=m.tt/\m.tt<4
theorem zah.come {S:ByteArray->Prop}{Q:Int->Nd->Prop}(k:zc5 S Q){f:Fl}(h:zah Q f){i:Int}(c:0<=i/\i<4){m:MC}(d:0<=m.fr/\m.fr<4):zah Q (f.come i m):=by
 unfold Fl.come
 split
 .rename_i g
  exact h.set c (zdq (λa b u s=>k.step i f.no a b c u s) (zfT f.no (f.node i) m d) (zfC g) (h.2 i c))
 .exact h
theorem zah.comes {S:ByteArray->Prop}{Q:Int->Nd->Prop}(k:zc5 S Q)(l:List MC){f:Fl}(h:zah Q f)(b:∀m∈l,m.post):zah Q (comes f l):=by
 induction l generalizing f with
 | nil=>exact h
 | cons m l ih=>exact ih (h.come k (b m (by simp)).2 (b m (by simp)).1) (λd c=>b d (List.mem_cons_of_mem _ c))
theorem zeU {l:List MC}(h:k<l.length):l.getD k MC.z∈l:=by simp[List.getD,h]
theorem zhw {m:MC}(h:zh2 t=some m):0<=m.fr/\m.fr<4:=by
 unfold zh2 at h
 split at h
 .rename_i e
  cases h;exact(zhI e.2).1
 .cases h
theorem zah.does {S:ByteArray->Prop}{Q:Int->Nd->Prop}(k:zc5 S Q){f:Fl}(h:zah Q f)(c:∀m∈f.away,m.post){a:Ac}(l:a.ok)(j:a.k=1->S a.t):zah Q (f.does a):=by
 obtain⟨_,_,o,p,t,_⟩:=l;have b:0<=a.i/\a.i<4:=⟨o,p⟩;unfold Fl.does Fl.act
 split
 .unfold Fl.pick
  split
  .exact h
  .rename_i B
   split
   .exact h.nd rfl
   .split
    .have d:=c _ (zeU (Nat.mod_lt a.p.toNat (show 0<f.away.length by omega)));exact zah.come k (h.nd (g:={ f with away:=f.away.eraseIdx (a.p.toNat % f.away.length) }) rfl) d.2 d.1
    .exact h.nd rfl
 .split
  .exact zah.comes k f.away (h.nd (g:={ f with away:=[] }) rfl) c
  .split
   .rename_i q
    unfold Fl.submit
    split
    .exact h.nd rfl
    .split
     .rename_i z;exact zah.nd (h.set b (k.sub a.i _ a.t b (j q) z (h.2 a.i b))) rfl
     .exact h.nd rfl
   .split
    .unfold Fl.forge
     split
     .rename_i m r
      split
      .exact h
      .exact zah.come k h b (zhw r)
     .exact h
    .split
     .unfold Fl.start
      split
      .exact h
      .exact h.set b (k.up a.i _ b (h.2 a.i b))
     .split
      .split
       .rename_i A
        split
        .exact h.set b (zdq (λx y u s=>k.step a.i f.no x y b u s) (zgV f.no (f.node a.i)) (zfC A) (h.2 a.i b))
        .split
         .exact zah.nd (h.set b (k.synced a.i _ b (h.2 a.i b))) (zdO _ _)
         .exact h.set b (k.crash a.i _ a.p b t (h.2 a.i b))
       .exact h
      .exact h
structure zeF (i:Int)(n:Nd):Prop where
 nu:n.nu=i
 fr:∀m∈n.wai,m.fr=i/\0<=m.tt/\m.tt<4
theorem zix {n:Nd}{d:Int}{m:MC}(h:zeF i n)(b:0<=d/\d<4):zeF i (n.send d m):=by
 unfold Nd.send
 split
 .exact h
 .refine⟨h.nu,λx c=>?_⟩;rcases List.mem_append.1 c with g|g
  .exact h.fr x g
  .rw[List.mem_singleton.1 g];exact⟨h.nu,b⟩
theorem zf0:zc5 (λ_=>True) zeF where
 step:=λi o a b j _ s h=>by
  rcases s with⟨d,m,g,_,rfl⟩|⟨b,_,_,rfl⟩|⟨_,_,rfl⟩|⟨_,_,rfl⟩|⟨_,_,_,_,_,rfl⟩|⟨_,_,_,_,rfl⟩|⟨_,_,rfl⟩|⟨_,rfl⟩
  .exact zix h g
  all_goals exact⟨h.nu,h.fr⟩
 crash:=λi n p _ _ h=>by
  obtain⟨a,_,c,_⟩:=zc8 n p
  exact⟨a.trans h.nu,λm f=>by rw[c]at f;cases f⟩
 up:=λi n _ h=>⟨h.nu,h.fr⟩
 synced:=λi n _ h=>⟨h.nu,λm f=>by cases f⟩
 sub:=λi n t _ _ _ h=>⟨h.nu,h.fr⟩
theorem zhx (l:List MC){f:Fl}(h:∀m∈f.away,m.post)(c:∀m∈l,m.post):∀m∈(l.foldl Fl.out f).away,m.post:=by
 induction l generalizing f with
 | nil=>exact h
 | cons x l ih=>
  refine ih (f:=f.out x) (λm b=>?_) (λm b=>c m (List.mem_cons_of_mem _ b));have b:m∈zct f.away x:=b;unfold zct at b
  split at b
  .rcases List.mem_append.1 b with g|g
   .exact h m g
   .rw[List.mem_singleton.1 g];exact c x (by simp)
  .exact h m b
structure zcn (f:Fl):Prop where
 posts:zah zeF f
 aw:∀m∈f.away,m.post
theorem zcn.does {f:Fl}(h:zcn f){a:Ac}(c:a.ok):zcn (f.does a):=by
 refine⟨h.posts.does zf0 h.aw c (λ_=>trivial),?_⟩;obtain⟨_,_,o,p,s,_⟩:=c;have d:0<=a.i/\a.i<4:=⟨o,p⟩;unfold Fl.does Fl.act
 split
 .unfold Fl.pick
  split
  .exact h.aw
  .rename_i r
   have q:=h.aw _ (zeU (Nat.mod_lt a.p.toNat (show 0<f.away.length by omega)))
   split
   .intro m b;have b:m∈zct f.away _:=b;unfold zct at b
    split at b
    .rcases List.mem_append.1 b with g|g
     .exact h.aw m g
     .rw[List.mem_singleton.1 g];exact q
    .exact h.aw m b
   .split
    .rw[zcj];intro m b;exact h.aw m (List.mem_of_mem_eraseIdx b)
    .intro m b;exact h.aw m (List.mem_of_mem_eraseIdx b)
 .split
  .rw[zfw,zej];intro m b;cases b
  .split
   .unfold Fl.submit
    split
    .exact h.aw
    .split<;>exact h.aw
   .split
    .exact zcq (P:=λg=>∀m∈g.away,m.post) _ _ h.aw (λm=>by rw[zcj];exact h.aw)
    .split
     .unfold Fl.start
      split<;>exact h.aw
     .split
      .split
       .split
        .exact h.aw
        .split
         .unfold Fl.sync;refine zhx _ h.aw (λm b=>?_);obtain⟨j,l⟩:=(h.posts.2 a.i d).fr m b;exact⟨by rw[j];exact d,l⟩
         .exact h.aw
       .exact h.aw
      .exact h.aw
theorem zf1 (r:Int)(i:Int)(b:0<=i/\i<4):(Fl.z r).node i={ Nd.z i with up:=true }:=by
 have:i=0\/i=1\/i=2\/i=3:=by omega
 rcases this with e|e|e|e<;>subst e<;>rfl
theorem zcn.z (r:Int):zcn (Fl.z r):=⟨⟨rfl,λi c=>by rw[zf1 r i c];exact⟨rfl,λm b=>by cases b⟩⟩,λm b=>by cases b⟩
theorem zcn.run (l:List Ac){f:Fl}(h:zcn f)(c:∀a∈l,a.ok):zcn (f.run l):=by
 induction l generalizing f with
 | nil=>exact h
 | cons a l ih=>exact ih (h.does (c a (by simp))) (λb d=>c b (List.mem_cons_of_mem _ d))
theorem zxV {o:No}{n:Nd}{m:MC}(b:0<=m.fr/\m.fr<4):(n.hear o m).up=n.up:=zad.keeps (P:=λx=>x.up=n.up) (λ_ _ s h=>(zbP.up s).trans h) (zfT o n m b) rfl
theorem zqG (n:Nd)(b:BW):(n.hearB b).hearB b=n.hearB b:=by
 cases h:(zbG n.k.sh b&&n.room (zed b))with
 | true=>
  have e:n.hearB b=n.log (zed b) { n.k with sh:=n.k.sh++[b] }:=by rw[Nd.hearB,if_pos h]
  rw[e,Nd.hearB,if_neg];show ¬(zbG (n.k.sh++[b]) b&&_)=true;have:zb1 (n.k.sh++[b]) b.d=true:=zm9 (by simp);simp[zbG,this]
 | false=>
  have e:n.hearB b=n:=by rw[Nd.hearB,if_neg (by rw[h];decide)]
  rw[e,e]
theorem zqH (n:Nd)(o:No)(c:CV):(n.hearP o c).hearP o c=n.hearP o c:=by
 cases h:n.proofs o c with
 | true=>
  have e:n.hearP o c=n.log (zdh c) { n.k with dag:=n.k.dag++[c] }:=by rw[Nd.hearP,if_pos h]
  rw[e,Nd.hearP,if_neg];have d:za8 (n.k.dag++[c]) c≠0:=λg=>by
   have b:=zoy (zg5 g).2.1;rw[zox]at b
   split at b
   .omega
   .rw[if_pos ⟨rfl,rfl⟩]at b;omega
  show ¬(decide (za8 (n.k.dag++[c]) c=0)&&_&&_)=true;simp[d]
 | false=>
  have e:n.hearP o c=n:=by rw[Nd.hearP,if_neg (by rw[h];decide)]
  rw[e,e]
theorem zsV {l:List SV}{s:SV}(g:zgd l s):zbp l s.1 s.2.1 l.length≠none:=λe=>by
 obtain⟨t,f,c,d,_⟩:=g
 obtain⟨k,b,rfl⟩:=List.getElem_of_mem f
 have:=zm8 e k b
 rw[hit,decide_eq_false_iff_not]at this
 exact this (by simp[zd1,List.getD,b,c,d])
theorem zqI (n:Nd)(o:No)(h:CV):((n.hearO o h).hearO o h).k=(n.hearO o h).k:=by
 have m:∀a:Nd,zgd a.k.tab h.slot->(a.hearO o h).k=a.k:=λa l=>by
  unfold Nd.hearO
  split
  .rfl
  .split
   .rfl
   .rename_i b
    have b:(zaf a.k.tab h).2.2=0:=by simpa using b
    split
    .rename_i j
     exfalso
     rcases zgf b with⟨g,_⟩|⟨_,g,_⟩
     .rw[g]at j;omega
     .exact zsV l g
    .exact ze2 _ _ _
 by_cases e:n.hearO o h=n
 .rw[e,e]
 .refine m _ ?_;unfold Nd.hearO at e|-
  split
  .rename_i g;rw[if_pos g]at e;exact absurd rfl e
  .rename_i g
   rw[if_neg g]at e
   split
   .rename_i c;rw[if_pos c]at e;exact absurd rfl e
   .rename_i c
    rw[if_neg c]at e;have b:(zaf n.k.tab h).2.2=0:=by simpa using c
    split
    .rename_i d
     rw[if_pos d]at e
     split
     .rw[ze2];exact zkK b
     .rename_i f;rw[if_neg f]at e;exact absurd rfl e
    .rename_i d
     rw[ze2];rcases zgf b with⟨_,g⟩|⟨g,_,_⟩
     .exact g
     .rw[g]at d;simp at d
theorem zqJ (q:Nd)(m:MC):(q.sendAll m).vot=q.vot:=by
 show(((((q.send 0 m).send 1 m).send 2 m).send 3 m)).vot=q.vot;rw[zge,zge,zge,zge]
theorem zqK (n:Nd)(o:No)(b:Int)(s:SV):(n.hearV o b s).hearV o b s=n.hearV o b s:=by
 by_cases e:n.hearV o b s=n
 .rw[e,e]
 .have c:b∈(n.hearV o b s).vot:=by
   unfold Nd.hearV at e|-
   split
   .rename_i g;rw[if_pos g]at e;exact absurd rfl e
   .split
    .simp
    .split
     .rw[zqJ];unfold Nd.hearP
      split<;>simp[Nd.log]
     .simp
  rw[Nd.hearV,if_pos (.inr (.inr (.inl c)))]
theorem zyX (t:Int)(l:List CV)(n:Nd):(n.tell t l).k=n.k:=by
 induction l generalizing n with
 | nil=>rfl
 | cons c l ih=>
  have b:∀(ds:List (List Int)) (q:Nd),(q.sendB t ds).k=q.k:=λds=>by
   induction ds with
   | nil=>intro q;rfl
   | cons d ds ih2=>
    intro q;refine(ih2 (q.sendD t d)).trans ?_;unfold Nd.sendD
    split
    .exact ze2 _ _ _
    .rfl
  refine(ih (n.tellC t c)).trans ?_;rw[Nd.tellC,ze2,b]
theorem zsW (n:Nd)(o:No)(m:MC):((n.hear o m).hear o m).k=(n.hear o m).k:=by
 unfold Nd.hear
 split
 .rw[zqG]
 .split
  .exact zqI n o m.h
  .split
   .rw[zqK]
   .split
    .rw[zqH]
    .split
     .unfold Nd.hearW;rw[zyX]
     .rfl
theorem zcA {o:Om}{f:Fl}(h:o.v=f.told):o.aw=f.away.length:=congrArg (λx:Ou=>x.aw) h
theorem zhy {a:AV}(h:a.e=0):a.ac.ok:=by
 obtain⟨b,c,d,_⟩:=zn3 h;exact⟨b.1,b.2,c.1,c.2,d.1,d.2⟩
theorem ziz {l:List AV}(h:∀a∈l,a.e=0/\a.t.size<=4000):∀x∈l.map AV.ac,x.ok:=λx c=>by
 obtain⟨a,b,rfl⟩:=List.mem_map.1 c
 exact zhy (h a b).1
theorem zkb {f:Fl}(b:g.no.bad=f.no.bad)(h:(g.node i).k=(f.node i).k):zcx (f.view i) (g.view i):=by
 unfold Fl.view;rw[b]
 split
 .exact⟨rfl,rfl,rfl,rfl⟩
 .exact⟨by simp only[h],by simp only[h],by simp only[h],by simp only[h]⟩
theorem zjf (r:Int)(l:List Ac):((Fl.z r).run l).nd.length=4:=(zgk l _).trans rfl
variable {p:Int}
theorem zsX {f:Fl}{m:MC}(d:f.nd.length=4)(b:0<=i/\i<4)(p:0<=m.fr/\m.fr<4)(j:Int)(o:0<=j/\j<4):(((f.come i m).come i m).node j).k=((f.come i m).node j).k:=by
 cases hr:f.runs i with
 | false=>
  have e:f.come i m=f:=by unfold Fl.come;rw[hr];rfl
  rw[e,e]
 | true=>
  have e:f.come i m=f.set i ((f.node i).hear f.no m):=by unfold Fl.come;rw[hr];rfl
  have l:(f.set i ((f.node i).hear f.no m)).nd.length=4:=(zau _ _ _).trans d;have c:(f.set i ((f.node i).hear f.no m)).node i=(f.node i).hear f.no m:=set_here _ d b;have q:(f.set i ((f.node i).hear f.no m)).runs i=true:=by
   unfold Fl.runs at hr|-;rw[c,zxV p];exact hr
  have g:(f.set i ((f.node i).hear f.no m)).come i m=(f.set i ((f.node i).hear f.no m)).set i (((f.node i).hear f.no m).hear f.no m):=by
   unfold Fl.come;rw[q,c]
   rfl
  rw[e,g];by_cases ej:j=i
  .subst ej;rw[set_here _ l b,c];exact zsW _ _ _
  .rw[set_there _ b.1 o.1 ej]
theorem zsY {f:Fl}(h:f.away.length≠0):f.pick 4 p={ f.come (f.away.getD (p.toNat % f.away.length) MC.z).tt (f.away.getD (p.toNat % f.away.length) MC.z)with away:=f.away.eraseIdx (p.toNat % f.away.length) }:=by
 unfold Fl.pick;rw[if_neg h,if_neg (by decide),if_pos rfl,zfD]
theorem zzv {f:Fl}(h:f.away.length≠0)(b:f.away.length<400):f.pick 6 p={ f with away:=f.away++[f.away.getD (p.toNat % f.away.length) MC.z] }:=by
 unfold Fl.pick;rw[if_neg h,if_pos rfl,zct,if_pos b]
theorem znz (f:Fl)(l:List MC)(j:Int):({ f with away:=l }:Fl).view j=f.view j:=rfl
theorem zu1 {f:Fl}(F:zcn f)(z:f.nd.length=4){i:Nat}(b:i<f.away.length)(B:f.away.length<400) :
  (((f.pick 6 i).pick 4 i).pick 4 ((f.away.length:Int)-1)).away.length=(f.pick 4 i).away.length/\∀j,0<=j/\j<4->zcx ((f.pick 4 i).view j) ((((f.pick 6 i).pick 4 i).pick 4 ((f.away.length:Int)-1)).view j):=by
 have g:f.away.length≠0:=by omega
 have o:(i:Int).toNat % f.away.length=i:=by rw[Int.toNat_natCast];exact Nat.mod_eq_of_lt b
 obtain⟨m,c⟩:∃m,m=f.away.getD i MC.z:=⟨_,rfl⟩;have C:m∈f.away:=by rw[c,List.getD,List.getElem?_eq_getElem b];exact gM_ b
 have l:=F.aw m C;have r:f.pick 6 i={ f with away:=f.away++[m] }:=by rw[zzv g B,o,c]
 have p:f.pick 4 i={ f.come m.tt m with away:=f.away.eraseIdx i }:=by rw[zsY g,o,<-c]
 have D:(f.away++[m]).length=f.away.length+1:=by simp
 have u:(f.away++[m]).getD i MC.z=m:=by
  rw[List.getD,List.getElem?_append_left b,c,List.getD]
 have G:(f.away++[m]).eraseIdx i=f.away.eraseIdx i++[m]:=List.eraseIdx_append_of_lt_length b _;have s:({ f with away:=f.away++[m] }:Fl).pick 4 i={ f.come m.tt m with away:=f.away.eraseIdx i++[m] }:=by
  have d:({ f with away:=f.away++[m] }:Fl).away.length≠0:=by show(f.away++[m]).length≠0;omega
  rw[zsY d];show({ (({ f with away:=f.away++[m] }:Fl).come ((f.away++[m]).getD ((i:Int).toNat % (f.away++[m]).length) MC.z).tt ((f.away++[m]).getD ((i:Int).toNat % (f.away++[m]).length) MC.z))with away:=(f.away++[m]).eraseIdx ((i:Int).toNat % (f.away++[m]).length) }:Fl)=_;rw[D,Int.toNat_natCast,Nat.mod_eq_of_lt (by omega),u,G,zfD]
 have le:(f.away.eraseIdx i).length=f.away.length-1:=List.length_eraseIdx_of_lt b;have E:(f.away.eraseIdx i++[m]).length=f.away.length:=by simp[le];omega
 have y:(f.away.eraseIdx i++[m]).getD (f.away.length-1) MC.z=m:=by
  rw[List.getD,List.getElem?_append_right (by omega),le]
  simp
 have H:(f.away.eraseIdx i++[m]).eraseIdx (f.away.length-1)=f.away.eraseIdx i:=by
  rw[List.eraseIdx_append_of_length_le (by omega),le]
  simp
 have t:({ f.come m.tt m with away:=f.away.eraseIdx i++[m] }:Fl).pick 4 ((f.away.length:Int)-1)={ (f.come m.tt m).come m.tt m with away:=f.away.eraseIdx i }:=by
  have d:({ f.come m.tt m with away:=f.away.eraseIdx i++[m] }:Fl).away.length≠0:=by show(f.away.eraseIdx i++[m]).length≠0;omega
  rw[zsY d];show({ (({ f.come m.tt m with away:=f.away.eraseIdx i++[m] }:Fl).come ((f.away.eraseIdx i++[m]).getD (((f.away.length:Int)-1).toNat % (f.away.eraseIdx i++[m]).length) MC.z).tt ((f.away.eraseIdx i++[m]).getD (((f.away.length:Int)-1).toNat % (f.away.eraseIdx i++[m]).length) MC.z))with away:=(f.away.eraseIdx i++[m]).eraseIdx (((f.away.length:Int)-1).toNat % (f.away.eraseIdx i++[m]).length) }:Fl)=_;have q:((f.away.length:Int)-1).toNat=f.away.length-1:=by omega
  rw[E,q,Nat.mod_eq_of_lt (by omega),y,H,zfD]
 rw[r,s,t,p];refine⟨rfl,λj A=>?_⟩;rw[znz,znz];refine zkb (by rw[zew,zew]) ?_;exact zsX z l.2 l.1 j A
theorem topCopies_walk (sa:Option Addr)(az:Nat)(rs:List Ft)(n:Int)(p:Int)(w:World)(cc:zfn w sa rs)(_hc_rs:rs.length<=az)(n1:-9223372036854775808<=n)(n2:n<=9223372036854775807)(p1:-9223372036854775808<=p)(p2:p<=9223372036854775807)(hT:zcw w/\za2 w) :
  Calls prog 5 #[.slice sa rs.length az,I_ n,I_ p] w λe w'=>e=.returned (.bool true)/\B_ w w':=by
 have F:Hid (∀W:World,B_ w W->zcw W/\za2 W):=λW hW=>⟨hT.1.below hW hT.1.lt,hT.2.below hW⟩;clear hT;obtain⟨cl,cm⟩:=zW n 5 (by decide);have av:=zg9 n w n1 n2;obtain⟨b,bz⟩:∃b,b=pk n 5-1:=⟨_,rfl⟩;have aD:-1<=b/\b<=3:=by omega
 rw[<-bz]at av;clear bz cl cm n1 n2;obtain⟨b5,b6⟩:=zW p 400 (by decide);obtain⟨E,bl⟩:∃k:Nat,pk p 400=k:=⟨(pk p 400).toNat,by omega⟩;have b0:Hid (∀W:World,Calls prog 10 #[I_ p,I_ 400] W λe w'=>e=.returned (I_ (E:Int))/\W=w'):=λW=>by rw[<-bl];exact zbI p 400 W p1 p2 (by decide) (by decide)
 have cq:E<400:=by omega
 clear bl b5 b6 p1 p2;go_in;go_wp2_with fail
 refine av.mono ?_;rintro _ w0⟨rfl,rfl⟩;dsimp only;clear av;go_wp2_with fail
 refine(zeu rs sa _ az 60 w rfl cc (by decide)).mono ?_;rintro e aQ⟨v,l,o,t,hl,cw,g⟩;subst o;dsimp only;obtain⟨aa,ac,T,aE,bF⟩:=zbd t hl;subst T;have Y:Hid _:=hl;have aV:Hid _:=bF;clear t hl bF;have ae:=g;clear g;go_wp2_with fail
 refine(b0.out _).mono ?_;rintro _ w0⟨rfl,rfl⟩;dsimp only;have B:=zc4 b aD l aa _ ac aQ rfl (by omega) aE (λa s=>(Y.out a s).1) (F.out aQ ae).1 (F.out aQ ae).2;go_wp2_with fail
 refine B.mono ?_;rintro e ar⟨x,o,bK,bL,ci,g⟩;subst o;dsimp only;clear B;have b2:Hid _:=bL;clear bL;have a4:=zm ae g;have be:=aE.below g;clear ae aE;clear g;refine kO_ ?A0 ?_;exact Obj.cells #[.slice x.na 4 x.nc,.slice x.ga x.gs.length x.gc,I_ x.aw,.slice x.ca x.cs.length x.cc] 34;have O:=zC ar ?A0;have U:=hN_ ar ?A0;go_upto_region 5 with fail
 generalize ar.alloc ?A0=ab at O U|-;generalize ar.heap.size=Bx at U|-;have aA:=zm a4 O;have bm:=bK.below O;have a8:=be.below O;clear a4 bK be;clear O;have cj:=ci.aw;have G:=zb U 2 (I_ x.aw) rfl;by_cases hx0:x.aw=0
 .rw[hx0]at G;clear cj;go_wp2_with fail
  go_ret;exact⟨rfl,aA⟩
 refine kV_ ?B0 ?_;exact Value.string ⟨#[]⟩
 .have cz:¬((x.aw:Int)=0):=by omega
  have cA:((x.aw:Int) == 0)=false:=by simpa using hx0
  obtain⟨Q,hQ⟩:∃Q:Nat,Int.tmod (E:Int) x.aw=Q:=⟨(Int.tmod (E:Int) x.aw).toNat,by rw[Int.tmod_eq_emod_of_nonneg (by omega)];have:=Int.emod_nonneg (E:Int) (b:=(x.aw:Int)) (by omega);omega⟩;have cv:Q<x.aw:=by rw[Int.tmod_eq_emod_of_nonneg (by omega)]at hQ;have:=Int.emod_lt_of_pos (E:Int) (b:=(x.aw:Int)) (by omega);omega
  go_upto_region 8 with fail
  clear hQ G;refine kO_ ?F0 ?_;exact Obj.cells #[I_ 4,I_ 0,I_ Q,?B0] 29;have J:=zC ab ?F0;have aj:=hN_ ab ?F0;go_wp2_with fail
  generalize ab.alloc ?F0=aY at J aj|-;generalize ab.heap.size=aT at aj|-;have aG:∀a∈[(⟨4,0,Q,⟨#[]⟩⟩:AV)],a.e=0/\a.t.size<=4000:=by
   intro a s;simp only[List.mem_cons,List.not_mem_nil,or_false]at s;subst s;exact⟨zaL _ _ _ _ (by decide) (by decide) (by omega) (by decide) (λ_=>rfl) (λh=>by cases h) (λ_=>rfl),(by show ByteArray.size ⟨#[]⟩<=4000;decide)⟩
  have a1:=zm aA J;have bn:=bm.below J;have aB:=a8.below J;have bQ:=zk J U;clear aA bm a8 U;have bG:zbq aY (some ⟨aT,0,none⟩) [(⟨4,0,Q,⟨#[]⟩⟩:AV)]:=zdw aj aG;have R:=zcZ l [(⟨4,0,Q,⟨#[]⟩⟩:AV)] aa _ ac (some ⟨aT,0,none⟩) 1 1 aY rfl rfl aB bG aV.out (λe=>by cases e) (by simp;omega);refine R.mono ?_;rintro e aR⟨v,o,t,g⟩;subst o;dsimp only;clear R bG aj J;have ax:Hid _:=zc9 Y.out aG;clear aG;obtain⟨m,A⟩:∃z9,z9=l++[(⟨4,0,Q,⟨#[]⟩⟩:AV)]:=⟨_,rfl⟩;rw[<-A]at t ax;have aW:Hid (m.length=l.length+1/\m=l++[(⟨4,0,Q,⟨#[]⟩⟩:AV)]):=⟨by rw[A];simp,A⟩;clear A;obtain⟨ma,mc,T,aF,bI⟩:=zbd t ax.out;subst T;have co:Hid _:=bI;have cx:m.length<=61:=by have:=aW.out.1;omega
  clear t bI;have af:=zm a1 g;have bo:=bn.below g;have a9:=aB.below g;have bR:=zk g bQ;clear a1 bn aB bQ;clear g;have B:=zc4 b aD m ma _ mc aR rfl (by omega) aF (λa s=>(ax.out a s).1) (F.out aR af).1 (F.out aR af).2;go_wp2_with fail
  refine B.mono ?_;rintro e aq⟨y,o,bM,bN,cB,g⟩;subst o;dsimp only;clear B;have b3:Hid _:=bN;clear bN;have a2:=zm af g;have bp:=bo.below g;have ba:=a9.below g;have bb:=aF.below g;have bS:=zk g bR;clear af bo a9 aF bR;clear g;refine kO_ ?C0 ?_;exact Obj.cells #[.slice y.na 4 y.nc,.slice y.ga y.gs.length y.gc,I_ y.aw,.slice y.ca y.cs.length y.cc] 34;have C:=zC aq ?C0;have ak:=hN_ aq ?C0;go_upto_region 9 with fail
  generalize aq.alloc ?C0=Z at C ak|-;generalize aq.heap.size=By at ak|-;have a3:=zm a2 C;have bq:=bp.below C;have br:=bM.below C;have bc:=ba.below C;have bd:=bb.below C;have aN:=zk C bS;clear a2 bp bM ba bb bS;clear C;have ch:IntKind.i64.wrap ((x.aw:Int)-1)=(x.aw:Int)-1:=by rw[IntKind.wrap_i64];omega
  have G:=zb aN 2 (I_ x.aw) rfl;refine kO_ ?E0 ?_;exact Obj.cells #[I_ 6,I_ 0,I_ Q,?B0,I_ 4,I_ 0,I_ Q,?B0,I_ 4,I_ 0,I_ ((x.aw:Int)-1),?B0] 29;have u:=zC Z ?E0;have al:=hN_ Z ?E0;go_wp2_with fail
  generalize Z.alloc ?E0=aZ at u al|-;generalize Z.heap.size=aU at al|-;have aH:∀a∈[(⟨6,0,Q,⟨#[]⟩⟩:AV),(⟨4,0,Q,⟨#[]⟩⟩:AV),(⟨4,0,((x.aw:Int)-1),⟨#[]⟩⟩:AV)],a.e=0/\a.t.size<=4000:=by
   intro a s;simp only[List.mem_cons,List.not_mem_nil,or_false]at s;rcases s with e|e|e
   all_goals subst e;exact⟨zaL _ _ _ _ (by decide) (by decide) (by omega) (by decide) (λ_=>rfl) (λh=>by cases h) (λ_=>rfl),(by show ByteArray.size ⟨#[]⟩<=4000;decide)⟩
  have a5:=zm a3 u;have bs:=bq.below u;have bt:=br.below u;have aC:=bc.below u;have bf:=bd.below u;have bT:=zk u aN;have bU:=zk u ak;clear a3 bq br bc bd aN ak;have bH:zbq aZ (some ⟨aU,0,none⟩) [(⟨6,0,Q,⟨#[]⟩⟩:AV),(⟨4,0,Q,⟨#[]⟩⟩:AV),(⟨4,0,((x.aw:Int)-1),⟨#[]⟩⟩:AV)]:=zdw al aH;have R:=zcZ l [(⟨6,0,Q,⟨#[]⟩⟩:AV),(⟨4,0,Q,⟨#[]⟩⟩:AV),(⟨4,0,((x.aw:Int)-1),⟨#[]⟩⟩:AV)] aa _ ac (some ⟨aU,0,none⟩) 3 3 aZ rfl rfl aC bH aV.out (λe=>by cases e) (by simp;omega);refine R.mono ?_;rintro e aS⟨v,o,t,g⟩;subst o;dsimp only;clear R bH al u;have ay:Hid _:=zc9 Y.out aH;clear aH;obtain⟨q,A⟩:∃z9,z9=l++[(⟨6,0,Q,⟨#[]⟩⟩:AV),(⟨4,0,Q,⟨#[]⟩⟩:AV),(⟨4,0,((x.aw:Int)-1),⟨#[]⟩⟩:AV)]:=⟨_,rfl⟩;rw[<-A]at t ay;have aX:Hid (q.length=l.length+3/\q=l++[(⟨6,0,Q,⟨#[]⟩⟩:AV),(⟨4,0,Q,⟨#[]⟩⟩:AV),(⟨4,0,((x.aw:Int)-1),⟨#[]⟩⟩:AV)]):=⟨by rw[A];simp,A⟩;clear A;obtain⟨qa,qc,T,aI,bJ⟩:=zbd t ay.out;subst T;have cp:Hid _:=bJ;have cy:q.length<=63:=by have:=aX.out.1;omega
  clear t bJ;have ag:=zm a5 g;have bu:=bs.below g;have bv:=bt.below g;have bg:=aC.below g;have bh:=bf.below g;have bV:=zk g bT;have bW:=zk g bU;clear a5 bs bt aC bf bT bU;clear g;clear ch G;have B:=zc4 b aD q qa _ qc aS rfl (by omega) aI (λa s=>(ay.out a s).1) (F.out aS ag).1 (F.out aS ag).2;go_wp2_with fail
  refine B.mono ?_;rintro e au⟨z,o,bO,bP,ck,g⟩;subst o;dsimp only;clear B;have b4:Hid _:=bP;clear bP;have a6:=zm ag g;have bw:=bu.below g;have bx:=bv.below g;have bi:=bg.below g;have bj:=bh.below g;have bk:=aI.below g;have bX:=zk g bV;have bY:=zk g bW;clear ag bu bv bg bh aI bV bW;clear g;refine kO_ ?D0 ?_;exact Obj.cells #[.slice z.na 4 z.nc,.slice z.ga z.gs.length z.gc,I_ z.aw,.slice z.ca z.cs.length z.cc] 34;have r:=zC au ?D0;have am:=hN_ au ?D0;go_upto_region 10 with fail
  generalize au.alloc ?D0=a0 at r am|-;generalize au.heap.size=X at am|-;have a7:=zm a6 r;have cu:=bw.below r;have cd:=bx.below r;have ce:=bO.below r;have cr:=bi.below r;have cs:=bj.below r;have ct:=bk.below r;have cn:=zk r bX;have bZ:=zk r bY;clear a6 bw bx bO bi bj bk bX bY;clear r;obtain⟨f,N⟩:∃f,f=(Fl.z b).run (l.map AV.ac):=⟨_,rfl⟩;have bE:zcn f:=by rw[N];exact zcn.run _ (zcn.z b) (ziz Y.out)
  have bC:f.nd.length=4:=by rw[N];exact zjf _ _
  have bD:f.away.length=x.aw:=by rw[N];exact(zcA b2.out).symm
  have ey:y.v=(f.pick 4 Q).told:=by rw[b3.out,aW.out.2,zcP,<-N];rfl
  have ez:z.v=(((f.pick 6 Q).pick 4 Q).pick 4 ((f.away.length:Int)-1)).told:=by rw[b4.out,aX.out.2,zcP,<-N,bD];rfl
  have aw:Hid (x.aw<400->z.aw=y.aw/\∀i,i<4->zcx (y.y i).v (z.y i).v):=by
   show _->_;intro ad;obtain⟨k1,k2⟩:=zu1 bE bC (i:=Q) (by omega) (by omega);exact⟨by rw[zcA ez,zcA ey,k1],λi hi=>by rw[zb0 ey i hi,zb0 ez i hi];exact k2 i (by omega)⟩
  clear ey ez N bE bC bD;have G:=zb cn 2 (I_ x.aw) rfl;by_cases ad:x.aw<400
  .obtain⟨ea,es⟩:=aw.out ad;have b1:Hid _:=es;have b7:¬((400:Int)<=x.aw):=by omega
   have b8:(x.aw:Int)<400:=by omega
   have d2:=zb bZ 2 (I_ y.aw) rfl;have e2:a0.cell? ⟨X,2,none⟩=some (I_ y.aw):=by have:=zb am 2 _ rfl;rw[ea]at this;exact this
   clear ea es aw ad;go_wp2_with fail
   clear d2 e2 G;go_loopw [17] (λj wr=>∃k:Nat,k<=4/\j=I_ k/\B_ a0 wr) (λj _=>4-(intOf j).toNat)
   case atStart=>exact⟨0,nZ_ _,rfl,bR_ _ _⟩
   case round=>
    obtain⟨k,hk,rfl,M⟩:=hrel;have aO:=zk M bZ;have aP:=zk M am;by_cases hlt:k<4
    .have cg:(k:Int)<4:=by omega
     have aL:=cd.below M;have aM:=ce.below M;have HR:Hid (∀V:World,B_ wr V->Calls prog 14 #[.agg (vrow_ (y.y k)),.agg (vrow_ (z.y k))] V λe w'=>e=.returned (.bool true)/\B_ V w'):=λV hV=>zdC (y.y k) (z.y k) V ((aL.vm k hlt).below hV) ((aM.vm k hlt).below hV) (ck.vw k hlt) (b1.out k hlt);obtain⟨H,bA,aJ⟩:=aL.row hlt;obtain⟨I,bB,aK⟩:=aM.row hlt;generalize y.y k=c at HR aJ;generalize z.y k=d at HR aK;have ah:=dB_ wr;have ai:wr.drew.cell? ⟨By,0,none⟩=some (.slice (some ⟨H,0,none⟩) 4 y.nc):=by rw[<-bA];exact zb aO 0 _ rfl
     have ao:wr.drew.cell? ⟨X,0,none⟩=some (.slice (some ⟨I,0,none⟩) 4 z.nc):=by rw[<-bB];exact zb aP 0 _ rfl
     have an:=zde aJ;have ap:=zde aK;clear aL aM aJ aK bA bB aO aP;go_upto_region 17 with fail
     refine wR_ (S:=λw'=>w'.cell? ⟨By,0,none⟩=some (.slice (some ⟨H,0,none⟩) 4 y.nc)/\w'.cell? ⟨X,0,none⟩=some (.slice (some ⟨I,0,none⟩) 4 z.nc)/\w'.rangeAt H (k*6) c.cs/\w'.rangeAt I (k*6) d.cs) (by kernel_rfl) ⟨ai,ao,an,ap⟩ (λD=>?_);generalize wr.drew=V0 at ah ai ao an ap D|-;refine tks_ 4 [(0,92,(P_ By 0)),(1,93,.slice (some ⟨H,0,none⟩) 4 y.nc),(2,94,I_ (k:Int)),(3,95,(P_ H (k*6)))] D ?_;simp only[tkf_,zf];refine tQ_ 4 96 (.agg (vrow_ c)) rfl rfl (yieldsIf_load_mid (by rfl) 42 _ rfl H (k*6) rfl c.cs _ (λw0 h=>h.2.2.1) underlying42 rfl zck) D ?_;simp only[zf];refine tks_ 4 [(5,97,(P_ X 0)),(6,98,.slice (some ⟨I,0,none⟩) 4 z.nc),(7,99,I_ (k:Int)),(8,100,(P_ I (k*6)))] D ?_;simp only[tkf_,zf];refine tQ_ 9 101 (.agg (vrow_ d)) rfl rfl (yieldsIf_load_mid (by rfl) 42 _ rfl I (k*6) rfl d.cs _ (λw0 h=>h.2.2.2) underlying42 rfl zck) D ?_;simp only[zf];refine zE 10 rfl (λE hK=>?_);refine zj rfl 102 rfl 14 [.tmp 96,.tmp 101] #[42,42] rfl [.agg (vrow_ c),.agg (vrow_ d)] rfl (eO_ func14) (λv w'=>v=.bool true/\B_ V0 w') ((HR.out V0 ah).mono (λe w2 h=>⟨_,h.1,rfl,h.2⟩)) ?_;rintro v V1⟨rfl,L⟩;have cf:=zm ah L;refine hK.out _ _ ⟨zr L ai,zr L ao,zdd an L,zdd ap L⟩ (λD=>?_);simp only[zf];refine zU 11 103 (.bool false) rfl rfl D ?_;simp only[zf];refine wD_ (by kernel_rfl) ?_ _;have b9:=zm M cf;clear ai ao an ap D ah L;go_wp2_with fail
     go_roundw
     case rel=>exact⟨k+1,by omega,by go_num,b9⟩
     case measure=>simp[intOf];omega
    .obtain rfl:k=4:=by omega
     have cg:¬((4:Nat):Int)<4:=by omega
     have ca:=zm a7 M;clear aO aP hlt hk;go_wp2_with fail
     go_ret;exact⟨rfl,ca⟩
  .have b7:(400:Int)<=x.aw:=by omega
   have b8:¬((x.aw:Int)<400):=by omega
   clear aw ad;go_wp2_with fail
   go_ret;exact⟨rfl,a7⟩
end Go.Proofs.YtdepbohhmfkjgaaGreatDoor
