import Derived.Test.YtnlfpfajecldkaaGreatDoorPk18
set_option maxRecDepth 100000
set_option maxHeartbeats 4000000
namespace Go.Proofs.YtnlfpfajecldkaaGreatDoor
open Go.RowKit _root_.Go.Proofs.Tryz
variable {i rd j p:Int}{l:List SV}{t:ByteArray}
structure zzz (i j:Int)(o:No):Prop where
 bad:o.bad=-1
 sg:∀g∈o.sg,g.1≠i/\g.1≠j
theorem zzz.proven (s:0<=i/\i<4)(u:0<=j/\j<4)(t:i≠j){o:No}(h:zzz i j o)(c:CV):o.proven c=false:=by
 cases e:o.proven c with
 | false=>rfl
 | true=>
  have p:=zzS e;obtain⟨x,y,z,f,l,m,q⟩:=zAq (CV.voters p.1);have b:∀v,v∈c.vl->0<=v->v≠i/\v≠j:=λv d r=>by
   rcases p.2 v (.inr d)with g|g
   .rw[h.bad]at g;omega
   .exact h.sg _ g
  have A:=b x f (by omega);have B:=b y l (by omega);have C:=b z m (by omega);omega
theorem zzz.signed {o:No}(h:zzz i j o){b:Int}{s:SV}(e:o.signed b s=true):b≠i/\b≠j/\0<=b/\b<4:=by
 unfold No.signed zce at e
 split at e
 .simp at e
 .split at e
  .simp at e
  .rename_i k
   have k:gF (b,s.1,s.2.1,s.2.2)=0:=by simpa using k
   have c:0<=b/\b<4:=by
    unfold gF zhD at k
    split at k
    .cases k
    .rename_i f
     by_cases e:0<=b/\b<4
     .exact e
     .exact absurd e f
   have d:¬b=o.bad:=by rw[h.bad];omega
   simp only[d,decide_false,Bool.false_or,decide_true,Bool.true_and,decide_eq_true_eq]at e;have:=h.sg _ e;exact⟨this.1,this.2,c⟩
theorem zAm (rd:Int)(pl:List (L_))(m:Nat):zb5 [] rd pl (m+1)≠0:=by
 have e:ziM [] rd (pl.getD m [])=8:=by
  unfold ziM;exact if_pos (show(-1:Int)<0 by decide)
 rw[zb5,e]
 split
 .decide
 .rw[if_neg (by decide)];decide
theorem zAs {pl:List (L_)}(h:zdz [] rd pl=0):pl=[]:=by
 unfold zdz at h;cases pl with
 | nil=>rfl
 | cons a l=>exact absurd h (zAm rd (a::l) l.length)
theorem zAt {h:CV}(e:h.hf=0)(b:h.pl=[]):h.rd=1:=by
 unfold CV.hf zO at e
 split at e
 .cases e
 .rename_i g
  split at e
  .cases e
  .split at e
   .rename_i k;exact absurd e k
   .split at e
    .rename_i k;exact absurd e k
    .rw[b]at e;unfold zb9 at e
     split at e
     .cases e
     .rename_i k
      simp only[pz,List.map_nil,List.length_nil]at k;omega
def ziv (i j:Int)(s:SV):Prop:=s.2.1=1/\0<=s.1/\s.1<4/\s.1≠i/\s.1≠j
structure NF (i j:Int)(n:Nd):Prop where
 tape:n.k=zbX n.recs
 no4:∀x∈n.recs,x.ki≠4
 tab:∀s∈n.k.tab,ziv i j s
theorem NF.dag {n:Nd}(h:NF i j n):n.k.dag=[]:=by
 rw[h.tape];cases e:(zbX n.recs).dag with
 | nil=>rfl
 | cons c l=>
  rcases zAr n.recs Kn.z (c:=c) (by show c∈(zbX n.recs).dag;rw[e];simp)with g|⟨m,b,k,_⟩
  .cases g
  .exact absurd k (h.no4 m b)
theorem NF.log {n:Nd}(h:NF i j n){m:MC}{k:Kn}(e:n.k.rcl m=k)(b:m.ki≠4)(c:∀s∈k.tab,ziv i j s):NF i j (n.log m k):=by
 refine⟨?_,λx d=>?_,c⟩
 .show k=(n.recs++[m]).foldl Kn.rcl Kn.z;rw[List.foldl_append,show n.recs.foldl Kn.rcl Kn.z=n.k from h.tape.symm];exact e.symm
 .rcases List.mem_append.1 d with g|g
  .exact h.no4 x g
  .rw[List.mem_singleton.1 g];exact b
theorem zzZ {h:CV}(b:∀s∈l,ziv i j s)(e:(zaf l h).2.2=0)(c:ziv i j h.slot):∀s∈(zaf l h).1,ziv i j s:=by
 rcases zgf e with⟨g,_⟩|⟨g,_,_⟩
 .rw[g];exact b
 .rw[g];intro s k;rcases List.mem_append.1 k with q|q
  .exact b s q
  .rw[List.mem_singleton.1 q];exact c
theorem NF.step (y:0<=i/\i<4)(A:0<=j/\j<4)(z:i≠j){o:No}(u:zzz i j o){a b:Nd}(p:0<=a.nu/\a.nu<4/\a.nu≠i/\a.nu≠j)(s:zbP o a b)(h:NF i j a):NF i j b:=by
 rcases s with⟨d,m,D,E,rfl⟩|⟨b,f,_,rfl⟩|⟨x,f,rfl⟩|⟨c,f,rfl⟩|⟨r,f,_,F,B,rfl⟩|⟨C,_,_,f,rfl⟩|⟨_,_,rfl⟩|⟨_,rfl⟩
 .unfold Nd.send
  split
  .exact h
  .exact⟨h.tape,h.no4,h.tab⟩
 .exact h.log (zmN f) (show(1:Int)≠4 by decide) h.tab
 .have l:=f.knows;unfold Kn.knows at l;rw[Bool.and_eq_true]at l;have l:=of_decide_eq_true l.2;rw[h.dag]at l;have t:=zAt f.hf (zAs l);have q:=u.signed f.signed;refine h.log ?_ (show(3:Int)≠4 by decide) (zzZ h.tab f.cast ⟨t,q.2.2.1,q.2.2.2,q.1,q.2.1⟩);rw[zmP];rcases zgf f.cast with⟨g,_⟩|⟨g,_,_⟩
  .have:=f.more;rw[g]at this;omega
  .rw[g]
 .unfold Nd.proofs at f;rw[u.proven y A z]at f
  simp at f
 .have t:r=1:=by rw[B,h.dag];rfl
  subst t;have:=h.log (zmO rfl (zgU f).2.1 f) (show(2:Int)≠4 by decide) (zzZ h.tab f ⟨rfl,p.1,p.2.1,p.2.2.1,p.2.2.2⟩);exact⟨this.tape,this.no4,this.tab⟩
 .exact⟨h.tape,h.no4,h.tab⟩
 .exact⟨h.tape,h.no4,h.tab⟩
 .exact⟨h.tape,h.no4,h.tab⟩
theorem zzP {k:Int}(c:1<=k/\k<=10)(b:0<=i/\i<4)(d:0<=p/\p<=400000):(⟨k,i,p,t⟩:Ac).ok:=⟨c.1,c.2,b.1,b.2,d.1,d.2⟩
theorem zAy {o:No}{a b:Nd}(s:zbP o a b):b.nu=a.nu:=by
 rcases s with⟨d,m,j,l,rfl⟩|⟨b,f,_,rfl⟩|⟨x,f,rfl⟩|⟨c,f,rfl⟩|⟨r,f,_,q,p,rfl⟩|⟨g,_,_,f,rfl⟩|⟨_,_,rfl⟩|⟨_,rfl⟩
 .exact zmu _ _ _
 all_goals rfl
theorem NF.steps (f:0<=i/\i<4)(l:0<=j/\j<4)(g:i≠j){o:No}(m:zzz i j o){a b:Nd}(d:0<=a.nu/\a.nu<4/\a.nu≠i/\a.nu≠j)(s:zad o a b)(h:NF i j a):NF i j b:=
 (zad.keeps (P:=λn=>n.nu=a.nu/\NF i j n) (λx y c k=>⟨(zAy c).trans k.1,NF.step f l g m (by rw[k.1];exact d) c k.2⟩) s ⟨rfl,h⟩).2
theorem NF.crash {n:Nd}(h:NF i j n)(p:Int):NF i j (n.crash p):=by
 obtain⟨_,_,_,d,_,_,g,_⟩:=zc8 n p;obtain⟨x,c⟩:=zzy n p;refine⟨by rw[g,d];rfl,λy f=>?_,λs b=>?_⟩
 .rw[d]at f;exact h.no4 y (by rw[c];exact List.mem_append_left _ f)
 .rw[g]at b;obtain⟨e,l⟩:=zzV x (zbX (n.kept p));refine h.tab s ?_;rw[h.tape,c,show zbX (n.kept p++x)=x.foldl Kn.rcl (zbX (n.kept p))from List.foldl_append,l];exact List.mem_append_left _ b
structure Few (i j:Int)(f:Fl):Prop where
 ok:zcn f
 o:zzz i j f.no
 ri:f.runs i=false
 rj:f.runs j=false
 nf:∀m,0<=m/\m<4->NF i j (f.node m)
theorem zoY {f:Fl}{m:Int}(b:0<=i)(c:0<=m/\m<4)(d:i≠m)(n:Nd):(f.set m n).runs i=f.runs i:=by
 unfold Fl.runs;rw[set_there n c.1 b d]
 rfl
theorem Few.set (l:0<=i/\i<4)(o:0<=j/\j<4){f:Fl}(h:Few i j f){m:Int}(b:0<=m/\m<4)(c:f.runs m=true){n:Nd}(q:zeF m n)(p:NF i j n):Few i j (f.set m n):=by
 have g:=h.ok.posts.1;have r:i≠m:=λe=>by rw[<-e,h.ri]at c;cases c
 have s:j≠m:=λe=>by rw[<-e,h.rj]at c;cases c
 refine⟨⟨h.ok.posts.set b q,h.ok.aw⟩,h.o,(zoY l.1 b r n).trans h.ri,(zoY o.1 b s n).trans h.rj,λx d=>?_⟩;by_cases e:x=m
 .subst e;rw[set_here _ g b];exact p
 .rw[set_there _ b.1 d.1 e];exact h.nf x d
theorem Few.ne {f:Fl}(h:Few i j f){m:Int}(c:0<=m/\m<4)(b:f.runs m=true):0<=(f.node m).nu/\(f.node m).nu<4/\(f.node m).nu≠i/\(f.node m).nu≠j:=by
 rw[(h.ok.posts.2 m c).nu];exact⟨c.1,c.2,(λe=>by rw[e,h.ri]at b;cases b),λe=>by rw[e,h.rj]at b;cases b⟩
theorem Few.does (q:0<=i/\i<4)(r:0<=j/\j<4)(I:i≠j){f:Fl}(h:Few i j f){a:Ac}(F:a.ok)(E:a.k≠8):Few i j (f.does a):=by
 refine zz6 (P:=Few i j) (a:=a) (λ_ h=>h.ok) ?_ ?_ ?_ ?_ ?_ ?_ ?_ h F
 .intro f m n h b d s;exact h.set q r b d (zyq b s (zfC d) (h.ok.posts.2 m b)) (NF.steps q r I h.o (h.ne b d) s (h.nf m b))
 .intro f m p h b d u;exact h.set q r b d (zf0.crash m _ p b u (h.ok.posts.2 m b)) ((h.nf m b).crash p)
 .intro f m h b d;have B:=h.ok.posts.1;have G:f.does ⟨3,m,0,⟨#[]⟩⟩=f.sync m:=by rw[zgB rfl];exact if_pos d
  have L:zcn (f.sync m):=by rw[<-G];exact h.ok.does (zzP (by decide) b (by decide))
  have z:=h.ne b d;rw[(h.ok.posts.2 m b).nu]at z;obtain⟨e,y,H⟩:=zzR (f.node m).wai (f.set m { f.node m with wai:=[],syn:=(zae (f.node m).recs).length }) m (λx o=>((h.ok.posts.2 m b).fr x o).1);have y:(f.sync m).no.sg=f.no.sg++e:=y;have D:∀x,0<=x/\x<4->f.runs x=false->(f.sync m).runs x=false:=λx o d=>by
   unfold Fl.runs at d|-;rw[zlm,zhS B b o]
   split
   .rename_i e;rw[<-e];exact d
   .exact d
  refine⟨L,⟨by rw[zlm];exact h.o.bad,λg C=>?_⟩,D i q h.ri,D j r h.rj,λx o=>?_⟩
  .rw[y]at C;rcases List.mem_append.1 C with k|k
   .exact h.o.sg g k
   .rw[H g k];exact⟨z.2.2.1,z.2.2.2⟩
  .rw[zhS B b o];have:=h.nf m b
   split
   .exact⟨this.tape,this.no4,this.tab⟩
   .exact h.nf x o
 .intro f l h J;exact⟨⟨h.ok.posts.nd rfl,λm b=>h.ok.aw m (J m b)⟩,h.o,h.ri,h.rj,h.nf⟩
 .intro f m M;exact absurd M E
 .intro f m t h b d;have u:=h.ok.posts.2 m b;have A:=h.nf m b;exact h.set q r b d ⟨u.nu,u.fr⟩ ⟨A.tape,A.no4,A.tab⟩
 .intro f c h;exact⟨⟨h.ok.posts.nd rfl,h.ok.aw⟩,h.o,h.ri,h.rj,h.nf⟩
theorem Few.run (m:0<=i/\i<4)(p:0<=j/\j<4)(o:i≠j)(l:List Ac){f:Fl}(h:Few i j f)(g:∀a∈l,a.ok)(d:∀a∈l,a.k≠8):Few i j (f.run l):=by
 induction l generalizing f with
 | nil=>exact h
 | cons a l ih=>exact ih (h.does m p o (g a (by simp)) (d a (by simp))) (λb c=>g b (List.mem_cons_of_mem _ c)) (λb c=>d b (List.mem_cons_of_mem _ c))
theorem NF.z (i j m:Int):NF i j { Nd.z m with up:=true }:=⟨rfl,(λx c=>by cases c),λs b=>by cases b⟩
theorem Few.z (c:0<=i/\i<4)(d:0<=j/\j<4)(o:i≠j)(t:ByteArray):Few i j (((Fl.z (-1)).does ⟨7,i,0,t⟩).does ⟨7,j,0,t⟩):=by
 have s:=zcn.z (-1);have f:=s.posts.1;have p:∀m,0<=m/\m<4->(Fl.z (-1)).runs m=true:=λm b=>by
  rw[ziy (show m≠(Fl.z (-1)).no.bad from λe=>by have e:m=-1:=e;omega),zf1 _ m b]
 have u:zcn (((Fl.z (-1)).does ⟨7,i,0,t⟩).does ⟨7,j,0,t⟩):=(s.does (zzP (by decide) c (by decide))).does (zzP (by decide) d (by decide));have y:(Fl.z (-1)).does ⟨7,i,0,t⟩=(Fl.z (-1)).set i (((Fl.z (-1)).node i).crash 0):=by rw[zjg rfl];exact if_pos (p i c)
 have B:((Fl.z (-1)).set i (((Fl.z (-1)).node i).crash 0)).runs j=true:=(zoY d.1 c (λe=>o e.symm) _).trans (p j d);have z:((Fl.z (-1)).set i (((Fl.z (-1)).node i).crash 0)).does ⟨7,j,0,t⟩=((Fl.z (-1)).set i (((Fl.z (-1)).node i).crash 0)).set j ((((Fl.z (-1)).set i (((Fl.z (-1)).node i).crash 0)).node j).crash 0):=by rw[zjg rfl];exact if_pos B
 have l:((Fl.z (-1)).set i (((Fl.z (-1)).node i).crash 0)).nd.length=4:=(zau _ _ _).trans f;rw[y,z]at u|-;have r:∀m,0<=m/\m<4->NF i j ((Fl.z (-1)).node m):=λm b=>by rw[zf1 _ m b];exact NF.z i j m
 have q:∀m,0<=m/\m<4->NF i j (((Fl.z (-1)).set i (((Fl.z (-1)).node i).crash 0)).node m):=λm b=>by
  by_cases e:m=i
  .subst e;rw[set_here _ f c];exact(r m b).crash 0
  .rw[set_there _ c.1 b.1 e];exact r m b
 refine⟨u,⟨rfl,λg A=>by cases A⟩,?_,?_,λm b=>?_⟩
 .rw[zoY c.1 d o];unfold Fl.runs;rw[set_here _ f c,(zc8 _ _).2.1,Bool.and_false]
 .unfold Fl.runs;rw[set_here _ l d,(zc8 _ _).2.1,Bool.and_false]
 .by_cases e:m=j
  .subst e;rw[set_here _ l d];exact(q m b).crash 0
  .rw[set_there _ d.1 b.1 e];exact q m b
theorem zz0 (h:zdt l=0){a b:Nat}(j:b<l.length)(g:a<b)(d:(zd1 l a).1=(zd1 l b).1)(f:(zd1 l a).2.1=(zd1 l b).2.1):False:=by
 have c:=(zmY h).2 b j;rw[zeD,Bool.or_eq_false_iff]at c;have c:=c.2;simp only[zff,List.any_eq_false]at c;refine c a (by simpa using g) ?_;rw[hit];exact dT_ ⟨d,f⟩
theorem zAz (t:0<=i/\i<4)(y:0<=j/\j<4)(u:i≠j){l:List SV}(h:zdt l=0)(o:∀s∈l,ziv i j s):l.length<=2:=by
 by_cases hl:l.length<=2
 .exact hl
 .have g:∀k,k<l.length->ziv i j (zd1 l k):=λk m=>o _ (zvC m);have c:=g 0 (by omega);have d:=g 1 (by omega);have f:=g 2 (by omega);have p:(zd1 l 0).1≠(zd1 l 1).1:=λe=>zz0 h (a:=0) (b:=1) (by omega) (by decide) e (c.1.trans d.1.symm);have q:(zd1 l 0).1≠(zd1 l 2).1:=λe=>zz0 h (a:=0) (b:=2) (by omega) (by decide) e (c.1.trans f.1.symm);have r:(zd1 l 1).1≠(zd1 l 2).1:=λe=>zz0 h (a:=1) (b:=2) (by omega) (by decide) e (d.1.trans f.1.symm);obtain⟨_,F,I,z,C⟩:=c;obtain⟨_,G,J,A,D⟩:=d;obtain⟨_,H,L,B,E⟩:=f;omega
theorem zAu (c:0<=i/\i<4)(d:0<=j/\j<4)(g:i≠j)(t:ByteArray)(l:List Ac)(q:∀a∈l,a.ok)(s:∀a∈l,a.k≠8)(m:Int)(r:0<=m/\m<4) :
  (((Fl.z (-1)).run (⟨7,i,0,t⟩::⟨7,j,0,t⟩::l)).view m).cs=[]/\(((Fl.z (-1)).run (⟨7,i,0,t⟩::⟨7,j,0,t⟩::l)).view m).rd=1/\(((Fl.z (-1)).run (⟨7,i,0,t⟩::⟨7,j,0,t⟩::l)).view m).vt.length<=2:=by
 have h:=Few.run c d g l (Few.z c d g t) q s;have p:=zgO.run (⟨7,i,0,t⟩::⟨7,j,0,t⟩::l) (zgO.z (-1)) (λa b=>by
  rcases List.mem_cons.1 b with e|b
  .subst e;exact zzP (by decide) c (by decide)
  .rcases List.mem_cons.1 b with e|b
   .subst e;exact zzP (by decide) d (by decide)
   .exact q a b)
 have e:(Fl.z (-1)).run (⟨7,i,0,t⟩::⟨7,j,0,t⟩::l)=(((Fl.z (-1)).does ⟨7,i,0,t⟩).does ⟨7,j,0,t⟩).run l:=rfl;rw[e]at p|-;generalize (((Fl.z (-1)).does ⟨7,i,0,t⟩).does ⟨7,j,0,t⟩).run l=f at h p|-;have o:=h.nf m r;have u:¬m=f.no.bad:=by rw[h.o.bad];omega
 unfold Fl.view;rw[if_neg u];refine⟨o.dag,?_,zAz c d g (p.good m r).now.tab o.tab⟩;show zdi (f.node m).k.dag=1;rw[o.dag];rfl
variable {w w':World}{n base k:Nat}{sa:Q_}{v':Value}
def zdp:List AV->List AV
 | []=>[]
 | a::l=>if a.k=8\/a.k=9 then zdp l else a::zdp l
theorem ztH {l:List AV}{a:AV}(h:a∈zdp l):a∈l/\a.k≠8:=by
 induction l with
 | nil=>cases h
 | cons b l ih=>
  rw[zdp]at h
  split at h
  .exact⟨List.mem_cons_of_mem _ (ih h).1,(ih h).2⟩
  .rename_i k
   rcases List.mem_cons.1 h with g|g
   .subst g;exact⟨by simp,λe=>k (.inl e)⟩
   .exact⟨List.mem_cons_of_mem _ (ih g).1,(ih g).2⟩
theorem zAc (l:List AV)(a:AV):zdp (l++[a])=if a.k=8\/a.k=9 then zdp l else zdp l++[a]:=by
 induction l with
 | nil=>by_cases h:a.k=8\/a.k=9<;>simp[zdp,h]
 | cons b l ih=>
  rw[List.cons_append,zdp,zdp,ih];by_cases h:a.k=8\/a.k=9<;>by_cases g:b.k=8\/b.k=9<;>simp[h,g]
theorem zAd {l:List AV}(h:k<l.length):zdp (l.take (k+1))=if(l[k]).k=8\/(l[k]).k=9 then zdp (l.take k)else zdp (l.take k)++[l[k]]:=by
 rw[tS_ h,zAc]
theorem zAe {i j:Nat}(t:i<4)(y:j<4)(u:i≠j){l:List AV}(q:∀a∈l,a.e=0/\a.t.size<=4000){o:Om}(h:o.v=((Fl.z (-1)).run (([(⟨7,i,0,⟨#[]⟩⟩:AV),⟨7,j,0,⟨#[]⟩⟩]++zdp l).map AV.ac)).told)(n:Nat)(r:n<4) :
  (o.y n).ls.length=0/\(o.y n).rd=1/\(o.y n).tab.length<=2:=by
 have k:=zAu (i:=i) (j:=j) (by omega) (by omega) (by omega) ⟨#[]⟩ ((zdp l).map AV.ac) (ziz (λa b=>q a (ztH b).1)) (λx s=>by obtain⟨a,b,rfl⟩:=List.mem_map.1 s;exact(ztH b).2) (n:Int) (by omega);have c:=zb0 h n r;have g:zI (o.y n).ls=[]:=(congrArg (λx:Vw=>x.cs) c).trans k.1;have m:(o.y n).rd=1:=(congrArg (λx:Vw=>x.rd) c).trans k.2.1;have p:vs (o.y n).tab=_:=congrArg (λx:Vw=>x.vt) c;have d:=congrArg List.length g;have f:=congrArg List.length p;rw[zbv]at d;rw[zay]at f;exact⟨d,m,by rw[f];exact k.2.2⟩
theorem zAf {b:Nat}{l:List AV}(h:R_ w b ((avs l).toArray) 55)(d:n=l.length)(c:base<=b)(f:l.length<=1000):w.ownsRow base 55 4 (.slice (some ⟨b,0,none⟩) n n) n (avs l):=by
 subst d;have e:=zg1 l;refine⟨by rw[e];omega,.inr ⟨b,l.length,(avs l).toArray,rfl,c,h,nR_ _,by unfold maxLen;omega,by simp[e];omega,?_⟩⟩;rw[List.toList_toArray,tL_ (by rw[e];omega)]
theorem zbq.grew {v:Value}{l:List AV}(h:zbq w sa l)(g:zV w v w' v')(s:∀b d,sa=some ⟨b,d,none⟩->v.ownBlock≠some b):zbq w' sa l:=by
 refine⟨?_,h.text⟩;rcases h.cells with e|⟨b,d,e,q⟩
 .exact .inl e
 .refine .inr ⟨b,d,e,λj r=>?_⟩;obtain⟨f,m,o,p⟩:=q j r;have c:=g.grown.block b (bL_ f) (λk=>s b d e k.symm);exact⟨(cB_ c).trans f,(cB_ c).trans m,(cB_ c).trans o,(cB_ c).trans p⟩
theorem topAlone_walk (sa:Q_)(cap:Nat)(rs:List Ft)(qa:Int)(qc:Int)(w:World)(hF_rs:zfn w sa rs)(_hc_rs:rs.length<=cap)(qa1:-9223372036854775808<=qa)(qa2:qa<=9223372036854775807)(qc1:-9223372036854775808<=qc)(qc2:qc<=9223372036854775807)(hT:zcw w/\za2 w) :
  Calls prog 6 #[.slice sa rs.length cap,I_ qa,I_ qc] w λe w'=>e=.returned (.bool true)/\B_ w w':=by
 have HT:Hid (∀W:World,B_ w W->zcw W/\za2 W):=λW hW=>⟨hT.1.below hW hT.1.lt,hT.2.below hW⟩;clear hT;obtain⟨i0_,i1_⟩:=zW qa 4 (by decide);obtain⟨i,hi⟩:∃k:Nat,pk qa 4=k:=⟨(pk qa 4).toNat,by omega⟩;have Hi:Hid (∀W:World,Calls prog 7 #[I_ qa,I_ 4] W λe w'=>e=.returned (I_ (i:Int))/\W=w'):=λW=>by rw[<-hi];exact zbI qa 4 W qa1 qa2 (by decide) (by decide)
 have iB:i<4:=by omega
 clear hi i0_ i1_ qa1 qa2;obtain⟨p0_,p1_⟩:=zW qc 3 (by decide);obtain⟨p,hp⟩:∃k:Nat,pk qc 3=k:=⟨(pk qc 3).toNat,by omega⟩;have Hp:Hid (∀W:World,Calls prog 7 #[I_ qc,I_ 3] W λe w'=>e=.returned (I_ (p:Int))/\W=w'):=λW=>by rw[<-hp];exact zbI qc 3 W qc1 qc2 (by decide) (by decide)
 have pB:p<3:=by omega
 clear hp p0_ p1_ qc1 qc2;have hw1:IntKind.i64.wrap ((i:Int)+1)=(i:Int)+1:=by rw[IntKind.wrap_i64];omega
 have hw2:IntKind.i64.wrap ((i:Int)+1+(p:Int))=(i:Int)+1+(p:Int):=by rw[IntKind.wrap_i64];omega
 obtain⟨j,hJ⟩:∃j:Nat,Int.tmod ((i:Int)+1+(p:Int)) 4=j:=⟨(Int.tmod ((i:Int)+1+(p:Int)) 4).toNat,by rw[Int.tmod_eq_emod_of_nonneg (by omega)];omega⟩;have hj4:j<4/\i≠j:=by rw[Int.tmod_eq_emod_of_nonneg (by omega)]at hJ;omega
 obtain⟨hj4,hij⟩:=hj4;have HIJ:Hid (i≠j):=hij;clear hij;go_in;go_wp2_with fail
 refine(Hi.out _).mono ?_;rintro _ w0⟨rfl,rfl⟩;dsimp only;clear Hi;go_wp2_with fail
 refine(Hp.out _).mono ?_;rintro _ w0⟨rfl,rfl⟩;dsimp only;clear Hp;refine kO_ ?A0 ?_;exact Obj.cells #[I_ 7,I_ i,I_ 0,.string ⟨#[]⟩,I_ 7,I_ j,I_ 0,.string ⟨#[]⟩] 55;have hA0:=zC w ?A0;have qa:=hN_ w ?A0;go_upto_region 4 with fail
 clear hw1 hw2 hJ;generalize w.alloc ?A0=Wa at hA0 qa|-;obtain⟨Ba,hBa⟩:∃B,B=w.heap.size:=⟨_,rfl⟩;have hBa2:w.heap.size<=Ba:=by omega
 rw[<-hBa]at qa|-;clear hBa;have ho0:Wa.ownsRow w.heap.size 55 4 (.slice (some ⟨Ba,0,none⟩) 2 2) 2 (avs [(⟨7,i,0,⟨#[]⟩⟩:AV),⟨7,j,0,⟨#[]⟩⟩]):=zAf (l:=[(⟨7,i,0,⟨#[]⟩⟩:AV),⟨7,j,0,⟨#[]⟩⟩]) qa rfl hBa2 (by show 2<=1000;decide);have hBa3:Ba<Wa.heap.size:=ze qa;clear qa hBa2;go_wp2_with fail
 refine(zeu rs sa _ cap 60 Wa rfl (hF_rs.below hA0) (by decide)).mono ?_;rintro e w1⟨v,l,he,ho,hl,hln,hb⟩;subst he;dsimp only;obtain⟨la,lc,hv,hlA,hlN⟩:=zbd ho hl;subst hv;have HLB:Hid (∀sb so,la=some ⟨sb,so,none⟩->Wa.heap.size<=sb/\sb<w1.heap.size):=by
  show ∀_,_;intro sb so e;exact ho.lt sb (by rw[e];rfl)
 have HlG:Hid _:=hl;clear ho hl hlN;have ho1:=zw ho0 hb;have hB1:=zm hA0 hb;have hBa4:∀q,(Value.slice (some ⟨Ba,0,none⟩) 2 2).ownBlock=some q->q<Wa.heap.size\/w1.heap.size<=q:=λq e=>by cases e;exact .inl hBa3
 clear ho0 hb hA0;go_wp2_with fail
 go_loopw [31,9] (λu v wr=>∃(k:Nat) (m:List AV),k<=l.length/\u=I_ k/\m.length<=k+2/\Hid (m=[(⟨7,i,0,⟨#[]⟩⟩:AV),⟨7,j,0,⟨#[]⟩⟩]++zdp (l.take k))/\B_ w wr/\Hid (zbq wr la l)/\w1.heap.size<=wr.heap.size/\Hid (∀q,v.ownBlock=some q->q<Wa.heap.size\/w1.heap.size<=q)/\wr.ownsRow w.heap.size 55 4 v m.length (avs m)) (λu _ _=>l.length-(intOf u).toNat)
 case atStart=>exact⟨0,[(⟨7,i,0,⟨#[]⟩⟩:AV),⟨7,j,0,⟨#[]⟩⟩],nZ_ _,rfl,nR_ _,by show _=_;rw[List.take_zero];rfl,hB1,hlA,nR_ _,hBa4,ho1⟩
 case round=>
  obtain⟨k,m,hk,rfl,hmk,hme,hb,hLA,hws,hvb,ho⟩:=hrel;by_cases hlt:k<l.length
  .have hltI:(k:Int)<l.length:=by omega
   rcases hLA.out.cells with hc|⟨sb,so,hsa,hc⟩
   .subst hc;simp at hlt
   subst hsa;obtain⟨c0,c1,c2,c3⟩:=hc k hlt;have hgd:l.getD k .z=l[k]:=by simp[List.getD,hlt]
   have HKT:Hid _:=zAd hlt;rw[hgd]at c0 c1 c2 c3;clear hc hgd;generalize l[k]=x at*;refine kO_ ?B0 ?_;exact Obj.cells #[I_ x.k,I_ x.n,I_ x.p,.string x.t] 55;have hX:=zC wr ?B0;have qX:=hN_ wr ?B0;go_upto_region 7 with fail
   have hoX:=zw ho hX;have hb2:=zm hb hX;have hLA2:Hid _:=hLA.out.below hX;have hws2:=nT_ hws hX.size;clear hb hLA hws ho hX;generalize wr.alloc ?B0=V at qX hoX hb2 hLA2 hws2|-;generalize wr.heap.size=Bx at qX|-;have d0:=zb qX 0 _ rfl;clear c0 c1 c2 c3;by_cases h8:x.k=8\/x.k=9
   .have hme2:Hid (m=[(⟨7,i,0,⟨#[]⟩⟩:AV),⟨7,j,0,⟨#[]⟩⟩]++zdp (l.take (k+1))):=by show _=_;rw[HKT.out,if_pos h8];exact hme.out
    rcases h8 with h8|h8
    all_goals
     rw[h8]at d0;clear h8;go_wp2_with fail
     go_roundw
     case rel=>exact⟨k+1,m,by omega,by go_num,by omega,hme2,hb2,hLA2,hws2,hvb,hoX⟩
     case measure=>simp[intOf];omega
   .have hme2:Hid (m++[x]=[(⟨7,i,0,⟨#[]⟩⟩:AV),⟨7,j,0,⟨#[]⟩⟩]++zdp (l.take (k+1))):=by show _=_;rw[HKT.out,if_neg h8,hme.out,List.append_assoc]
    have e8:(x.k == 8)=false:=by simp;omega
    have e9:(x.k == 9)=false:=by simp;omega
    have d1:=zb qX 1 _ rfl;have d2:=zb qX 2 _ rfl;have d3:=zb qX 3 _ rfl;clear h8 hme HKT;have qY:(V.alloc ?B0).heap[V.heap.size]? = some (.cells x.cs.toArray 55 (0,0)):=hN_ _ _;go_wp2_with (at_builtin;refine zkz rfl _ _ rfl w.heap.size _ m.length m rfl (hoX.alloc _) V.heap.size x rfl qY (by omega) (by have:=hb2.size;simp;omega) ?_)
    intro v' w2 ho2 hg2;go_wp2_with fail
    go_roundw
    case rel=>
     refine⟨k+1,m++[x],by omega,by go_num,by simp;omega,hme2,hb2.trans ?_,?_,?_,?_,by rw[lP_];exact ho2⟩
     .exact((bR_ _ _).alloc hb2.size _).trans (hg2.below (by have:=hb2.size;simp;omega) (λq e=>(hoX.lt q e).1))
     .exact(hLA2.out.below ((bR_ V.heap.size V).alloc (nR_ _) _)).grew hg2 (λsb so e k=>by have h1:=HLB.out sb so e;have h2:=hvb.out sb k;omega)
     .have h1:=hg2.grown.size;simp at h1;omega
     .show ∀_,_;intro q e;rcases hg2.fresh q e with g|g
      .exact hvb.out q g
      .refine .inr ?_
       simp at g
       omega
    case measure=>simp[intOf];omega
  .obtain rfl:k=l.length:=by omega
   have hltI:¬(l.length:Int)<l.length:=by omega
   have hmE:m=[(⟨7,i,0,⟨#[]⟩⟩:AV),⟨7,j,0,⟨#[]⟩⟩]++zdp l:=by have:=hme.out;rw[List.take_length]at this;exact this
   have hmG:∀a∈m,a.e=0/\a.t.size<=4000:=by
    rw[hmE];refine zc9 (λa ha=>?_) (λa ha=>HlG.out a (ztH ha).1);simp only[List.mem_cons,List.not_mem_nil,or_false]at ha;rcases ha with e|e<;>subst e<;>exact⟨zaL _ _ _ _ (by decide) (by omega) (by decide) (by decide) (λh=>by cases h) (λh=>by cases h) (λ_=>rfl),by show ByteArray.size ⟨#[]⟩<=4000;decide⟩
   obtain⟨ma,mc,hv,hmA,-⟩:=zbd ho hmG;subst hv;have HmG:Hid _:=hmG;have HmE:Hid _:=hmE;have hmn:m.length<=62:=by omega
   clear ho hmG hmE hme hLA hws hvb hlt hk hmk;have hbw:=hb;clear hb;have HRn:=zc4 (-1) (by decide) m ma _ mc wr rfl (by omega) hmA (λa ha=>(HmG.out a ha).1) (HT.out wr hbw).1 (HT.out wr hbw).2;go_wp2_with fail
   refine HRn.mono ?_;rintro e w_1⟨o,he,hoM,hov,hoT,hb⟩;subst he;dsimp only;clear HRn;have HoV:Hid _:=hov;clear hov;have hB_2:=zm hbw hb;have hC_3:=hmA.below hb;clear hbw hmA;clear hb;refine kO_ ?C0 ?_;exact Obj.cells #[.slice o.na 4 o.nc,.slice o.ga o.gs.length o.gc,I_ o.aw,.slice o.ca o.cs.length o.cc] 32;have hA_6:=zC w_1 ?C0;have q_5:=hN_ w_1 ?C0;go_upto_region 11 with fail
   generalize w_1.alloc ?C0=W_4 at hA_6 q_5|-;generalize w_1.heap.size=Bo at q_5|-;have hB_7:=zm hB_2 hA_6;have hO_8:=hoM.below hA_6;have hC_9:=hC_3.below hA_6;clear hB_2 hoM hC_3;clear hA_6;have HAl:Hid (∀n,n<4->(o.y n).ls.length=0/\(o.y n).rd=1/\(o.y n).tab.length<=2):=by
    have h:=HoV.out;rw[HmE.out]at h;exact zAe iB hj4 HIJ.out HlG.out h
   clear HmE HmG HlG HLB HIJ;go_wp2_with fail
   go_loopw [14] (λu wx=>∃n:Nat,n<=4/\u=I_ n/\B_ W_4 wx) (λu _=>4-(intOf u).toNat)
   case atStart=>exact⟨0,nZ_ _,rfl,bR_ _ _⟩
   case round=>
    obtain⟨n,hn,rfl,hbL⟩:=hrel;have qr:=zk hbL q_5;by_cases hlt:n<4
    .have hltI:(n:Int)<4:=by omega
     have hr:=hO_8.below hbL;obtain⟨hz,hrd,htb⟩:=HAl.out n hlt;obtain⟨vb,hna,hrow⟩:=hr.row hlt;generalize o.y n=v at hz hrd htb hrow;have c0:=zb qr 0 (.slice (some ⟨vb,0,none⟩) 4 o.nc) (by rw[<-hna];rfl);have x1:=hrow 1 _ rfl;have x2:=hrow 2 _ rfl;have x4:=hrow 4 _ rfl;rw[hrd]at x1;rw[hz]at x2;obtain⟨N,hN⟩:∃N,v.tab.length=N:=⟨_,rfl⟩;rw[hN]at x4 htb;have hN2:¬(2:Int)<N:=by omega
     clear hz hrd hN hrow hr hna htb qr;go_wp2_with fail
     go_roundw
     case rel=>exact⟨n+1,by omega,by go_num,hbL⟩
     case measure=>simp[intOf];omega
    .obtain rfl:n=4:=by omega
     have hltI:¬((4:Nat):Int)<4:=by omega
     have hBE:=zm hB_7 hbL;clear hlt hn qr;go_wp2_with fail
     go_ret;exact⟨rfl,hBE⟩
end Go.Proofs.YtnlfpfajecldkaaGreatDoor
