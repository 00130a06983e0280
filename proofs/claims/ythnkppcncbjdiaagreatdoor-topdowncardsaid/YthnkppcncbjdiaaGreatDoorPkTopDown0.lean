import Derived.Test.YthnkppcncbjdiaaGreatDoorPk20
set_option maxRecDepth 100000
set_option maxHeartbeats 4000000
namespace Go.Proofs.YthnkppcncbjdiaaGreatDoor
open Go.RowKit _root_.Go.Proofs.Tryz
theorem Fl.run_cons (f:Fl)(a:Ac)(l:List Ac):f.run (a::l)=(f.does a).run l:=rfl
theorem zew (f:Fl)(i:Int)(m:MC):(f.come i m).no=f.no:=by unfold Fl.come;split<;>rfl
theorem zca (f:Fl)(i:Int)(m:MC):(f.come i m).nd.length=f.nd.length:=by unfold Fl.come;split;exact zau _ _ _;rfl
theorem zlo (l:List MC)(f:Fl):(comes f l).no=f.no:=by
 induction l generalizing f with
 | nil=>rfl
 | cons m l ih=>exact(ih _).trans (zew _ _ _)
theorem zeT (l:List MC)(f:Fl):(comes f l).nd.length=f.nd.length:=by
 induction l generalizing f with
 | nil=>rfl
 | cons m l ih=>exact(ih _).trans (zca _ _ _)
theorem zfs (f:Fl)(a:Ac):(f.does a).nd.length=f.nd.length:=by
 unfold Fl.does Fl.act
 split
 .unfold Fl.pick
  split
  .rfl
  .split
   .rfl
   .split
    .exact zca _ _ _
    .rfl
 .split
  .exact zeT _ _
  .split
   .unfold Fl.submit
    split
    .rfl
    .split
     .exact zau _ _ _
     .rfl
   .split
    .exact zcq (P:=λg=>g.nd.length=f.nd.length) _ _ rfl (λm=>zca _ _ _)
    .split
     .unfold Fl.start
      split
      .rfl
      .exact zau _ _ _
     .split
      .split
       .split
        .exact zau _ _ _
        .split
         .unfold Fl.sync;rw[zdO];exact zau _ _ _
         .exact zau _ _ _
       .rfl
      .rfl
theorem zgk (l:List Ac)(f:Fl):(f.run l).nd.length=f.nd.length:=by
 induction l generalizing f with
 | nil=>rfl
 | cons a l ih=>rw[Fl.run_cons,ih,zfs]
theorem zdQ (f:Fl)(a:Ac):(f.does a).no.bad=f.no.bad:=by
 unfold Fl.does Fl.act
 split
 .unfold Fl.pick
  split
  .rfl
  .split
   .rfl
   .split
    .rw[zew]
    .rfl
 .split
  .rw[zfw,zlo]
  .split
   .unfold Fl.submit
    split
    .rfl
    .split<;>rfl
   .split
    .exact zcq (P:=λg=>g.no.bad=f.no.bad) _ _ rfl (λm=>by rw[zew])
    .split
     .unfold Fl.start
      split<;>rfl
     .split
      .split
       .split
        .rfl
        .split
         .unfold Fl.sync;rw[zha];rfl
         .rfl
       .rfl
      .rfl
theorem zxU (l:List Ac)(f:Fl):(f.run l).no.bad=f.no.bad:=by
 induction l generalizing f with
 | nil=>rfl
 | cons a l ih=>rw[Fl.run_cons,ih,zdQ]
theorem zcn.run (l:List Ac){f:Fl}(h:zcn f)(c:∀a∈l,a.ok):zcn (f.run l):=by
 induction l generalizing f with
 | nil=>exact h
 | cons a l ih=>exact ih (h.does (c a (by simp))) (λb d=>c b (List.mem_cons_of_mem _ d))
variable {i j:Int}
def Fl.crashes (f:Fl)(i p:Int):Fl:=if f.runs i then f.set i ((f.node i).crash p)else f
theorem zzw {f:Fl}{m:MC}(b:f.runs i=false)(c:0<=i)(d:0<=j):(f.come j m).node i=f.node i:=by
 unfold Fl.come
 split
 .rename_i h
  exact set_there _ d c (λe=>by rw[e,h]at b;cases b)
 .rfl
theorem zAD (l:List MC){f:Fl}{i:Int}(c:f.runs i=false)(d:0<=i)(b:∀m∈l,m.post):(comes f l).node i=f.node i:=by
 induction l generalizing f with
 | nil=>rfl
 | cons m l ih=>
  have e:=zzw (m:=m) c d (b m (by simp)).2.1;refine(ih (f:=f.come m.tt m) ?_ (λx g=>b x (List.mem_cons_of_mem _ g))).trans e;rw[Fl.runs,zew,e];exact c
theorem zAH {f:Fl}(h:zcn f){i:Int}(j:f.runs i=false)(b:0<=i/\i<4){a:Ac}(r:a.ok)(y:a.k≠8):(f.does a).node i=f.node i/\∃e,(f.does a).no.sg=f.no.sg++e/\∀g∈e,g.1≠i:=by
 obtain⟨z,A,d,t,C,_⟩:=r;have p:0<=a.i/\a.i<4:=⟨d,t⟩;have q:=h.posts.1;have none:∃e,f.no.sg=f.no.sg++e/\∀g∈e,g.1≠i:=⟨[],by simp,λg l=>by cases l⟩;have ne:f.runs a.i=true->i≠a.i:=λe g=>by rw[g,e]at j;cases j
 unfold Fl.does Fl.act
 split
 .unfold Fl.pick
  split
  .exact⟨rfl,none⟩
  .rename_i B
   split
   .exact⟨rfl,none⟩
   .split
    .have u:=h.aw _ (zeU (Nat.mod_lt a.p.toNat (show 0<f.away.length by omega)));exact⟨zzw (f:={ f with away:=f.away.eraseIdx (a.p.toNat % f.away.length) }) j b.1 u.2.1,by rw[zew];exact none⟩
    .exact⟨rfl,none⟩
 .split
  .exact⟨zAD f.away (f:={ f with away:=[] }) j b.1 h.aw,by rw[zfw,zlo];exact none⟩
  .split
   .unfold Fl.submit
    split
    .exact⟨rfl,none⟩
    .rename_i c
     split
     .exact⟨set_there _ d b.1 (ne (by simpa using c)),none⟩
     .exact⟨rfl,none⟩
   .split
    .exact zcq (P:=λg=>g.node i=f.node i/\∃e,g.no.sg=f.no.sg++e/\∀x∈e,x.1≠i) _ _ ⟨rfl,none⟩ (λm=>⟨zzw j b.1 d,by rw[zew];exact none⟩)
    .split
     .split
      .rename_i c
       split
       .exact⟨set_there _ d b.1 (ne c),none⟩
       .split
        .refine⟨?_,?_⟩
         .rw[zhS q p b,if_neg (ne c)]
         .obtain⟨e,s,l⟩:=zzR (f.node a.i).wai (f.set a.i { f.node a.i with wai:=[],syn:=(zae (f.node a.i).recs).length }) a.i (λm o=>((h.posts.2 a.i p).fr m o).1);exact⟨e,s,λg o=>by rw[l g o];exact λe=>ne c e.symm⟩
        .exact⟨set_there _ d b.1 (ne c),none⟩
      .exact⟨rfl,none⟩
     .exact⟨rfl,none⟩
theorem zAN (l:List Ac){f:Fl}(h:zcn f){i:Int}(p:f.runs i=false)(r:0<=i/\i<4)(c:∀a∈l,a.ok)(o:∀a∈l,a.k≠8):(f.run l).node i=f.node i/\∃e,(f.run l).no.sg=f.no.sg++e/\∀g∈e,g.1≠i:=by
 induction l generalizing f with
 | nil=>exact⟨rfl,[],by simp[Fl.run],λg j=>by cases j⟩
 | cons a l ih=>
  obtain⟨m,A,y,t⟩:=zAH h p r (c a (by simp)) (o a (by simp));have s:(f.does a).runs i=false:=by rw[Fl.runs,m,zdQ];exact p
  obtain⟨q,B,z,u⟩:=ih (h.does (c a (by simp))) s (λb d=>c b (List.mem_cons_of_mem _ d)) (λb d=>o b (List.mem_cons_of_mem _ d));refine⟨q.trans m,A++B,by rw[Fl.run_cons,z,y,List.append_assoc],λg j=>?_⟩;rcases List.mem_append.1 j with g1|g1
  .exact t g g1
  .exact u g g1
theorem zpd (a:Bc)(b:List Bc):bcl (a::b)=a.cs++bcl b:=by simp[bcl]
theorem zrb (l:List Bc)(j i:Nat)(h:j<l.length)(b:i<3):(bcl l)[j*3+i]? = (l[j]).cs[i]?:=by
 induction l generalizing j with
 | nil=>cases h
 | cons x r ih=>
  cases j with
  | zero=>
   rw[zpd,Nat.zero_mul,Nat.zero_add,List.getElem?_append_left (by simp[Bc.cs];exact b)];rfl
  | succ j=>
   have h':j<r.length:=by simpa using h
   rw[zpd,List.getElem?_append_right (by simp[Bc.cs];omega)];have e:(j+1)*3+i-x.cs.length=j*3+i:=by simp[Bc.cs];omega
   rw[e,ih j h'];rfl
theorem zxF (l:List AV):∀u∈avs l,u.oneCell'=true:=by
 induction l with
 | nil=>intro u b;cases b
 | cons a l ih=>
  intro u b;rcases List.mem_append.1 b with h|h
  .simp[AV.cs]at h;rcases h with rfl|rfl|rfl|rfl<;>rfl
  .exact ih u h
variable {w:World}
theorem zsK {d:Addr}{cs:List AV}(y:zbq w (some d) cs):∀j u,(avs cs)[j]? = some u->w.cell? (d.add j)=some u:=by
 intro j u b;rcases y.cells with c|⟨B,l,e,c⟩
 .subst c;simp[avs]at b
 .cases e;have A:j<cs.length*4:=by
   rcases Nat.lt_or_ge j (cs.length*4)with g|g
   .exact g
   .rw[List.getElem?_eq_none (by rw[zg1];omega)]at b;cases b
  have f:j / 4<cs.length:=by omega
  have t:j=j / 4*4+j % 4:=by omega
  have s:j % 4<4:=by omega
  rw[zaP];obtain⟨m,o,p,r⟩:=c (j / 4) f;rw[t,zkr cs (j / 4) (j % 4) f s]at b;have z:l+j=l+j / 4*4+j % 4:=by omega
  rw[z];generalize j / 4=q at*;rcases(by omega:j % 4=0\/j % 4=1\/j % 4=2\/j % 4=3)with h|h|h|h<;>rw[h]at b|-<;>simp[AV.cs]at b<;>subst b
  .exact m
  .exact o
  .exact p
  .exact r
variable {w':World}{o:Nat}
theorem zdd {b:Nat}{cs:List Value}(h:w.rangeAt b o cs)(d:B_ w w'):w'.rangeAt b o cs:=λj v c=>(d.cell (p:=⟨b,o+j,none⟩) (bL_ (h j v c))).trans (h j v c)
theorem zde {b:Nat}{cs:List Value}(h:w.rangeAt b o cs):w.drew.rangeAt b o cs:=λj v c=>h j v c
theorem zex.vm {o:Om}(h:zex w o):∀i,i<4->zfX w (o.y i):=zsL h.e0 h.e1 h.e2 h.e3
theorem zjd.vw {o:Om}(h:zjd o):∀i,i<4->zlk (o.y i).v:=zsL h.v0 h.v1 h.v2 h.v3
theorem zdw {b:Nat}{l:List AV}(h:R_ w b ((avs l).toArray) 55)(d:∀a∈l,a.e=0/\a.t.size<=4000):zbq w (some ⟨b,0,none⟩) l:=by
 refine⟨.inr ⟨b,0,rfl,λj m=>?_⟩,λa g=>nT_ (d a g).2 (by decide)⟩;have c:∀t,t<4->w.cell? ⟨b,0+j*4+t,none⟩=(l.getD j .z).cs[t]?:=λt d=>by
  rw[<-zkr l j t m d];have f:j*4+t<(avs l).length:=by rw[zg1];omega
  rw[List.getElem?_eq_getElem f,Nat.zero_add];exact zb h (j*4+t) _ (by simp[f])
 exact⟨c 0 (by decide),c 1 (by decide),c 2 (by decide),c 3 (by decide)⟩
theorem zcP (r:Int)(l m:List AV):(Fl.z r).run ((l++m).map AV.ac)=((Fl.z r).run (l.map AV.ac)).run (m.map AV.ac):=by rw[List.map_append,Fl.run_append]
variable {sa:Q_}{v':Value}
theorem zbq.grew {v:Value}{l:List AV}(h:zbq w sa l)(g:zV w v w' v')(s:∀b d,sa=some ⟨b,d,none⟩->v.ownBlock≠some b):zbq w' sa l:=by
 refine⟨?_,h.text⟩;rcases h.cells with e|⟨b,d,e,q⟩
 .exact .inl e
 .refine .inr ⟨b,d,e,λj r=>?_⟩;obtain⟨f,m,o,p⟩:=q j r;have c:=g.grown.block b (bL_ f) (λk=>s b d e k.symm);exact⟨(cB_ c).trans f,(cB_ c).trans m,(cB_ c).trans o,(cB_ c).trans p⟩
theorem zxO (bs:L_)(b f:Q_)(n m c d:Nat)(w:World)(o:n=bs.length)(l:m=bs.length)(g:zg w b c bs)(j:zg w f d bs) :
  Calls prog 96 #[.slice b n c,.slice f m d] w λe w'=>e=.returned (.bool true)/\w=w':=by
 have p:=zd8 w b n c bs o g;have q:=zd8 w f m d bs l j;clear o l g j;go_in;go_wp2_with fail
 go_ret;exact⟨by simp,rfl⟩
variable {n base R:Nat}{ops:Array Oper}{Q:Exit->Act->World->Prop}{a:Act}{P:Program}
def zgp (w:World)(size:Nat)(v:Value)(Z:Value->Prop):Prop:=∀g n c,v=.slice (some ⟨g,0,none⟩) n c->∀j u,n*size<=j->w.cell? ⟨g,j,none⟩=some u->Z u
theorem zAI {z:X_}{Z:Value->Prop}(g:∀u∈z,Z u)(n:Nat):∀u∈(Builtin.zeroCells z n).toList,Z u:=by
 intro u b;have b:u∈Builtin.zeroCells z n:=by simpa using b
 rw[Builtin.zeroCells]at b;obtain⟨k,f,rfl⟩:=Array.mem_map.1 b;have c:k<n*z.size:=by simpa using f
 have d:0<z.size:=Nat.pos_of_ne_zero (λe=>by rw[e]at c;omega);rw[getElem!_pos z _ (Nat.mod_lt _ d)];exact g _ (Array.getElem_mem _)
theorem zAO (w:World)(base:Nat)(t ty e:TypeId)(i:TypeInfo)(z:Value)(size H:Nat)(B:P.underlying t=some (.slice e))(y:P.info? e=some i)(L:i.zero=some z)
  (ad:i.size=size) (X:i.bytes=H) (ak:z.cells.size=size) (ai:0<size) {Z:Value->Prop} (U:∀u∈z.cells,Z u)
  (v:Value) (n:Nat) (C:List Value) (A:w.ownsRow base e size v n C) (hs:zgp w size v Z)
  (a:Addr) (m c:Nat) (d:List Value) (f:d.length=m*size) (G:∀j u,d[j]? = some u->w.cell? (a.add j)=some u) (R:∀u∈d,u.oneCell'=true)
  (T:n+m<=maxLen) (J:(n+m)*H<=140737488355328)
  {O:Value} {w':World} (l:(Builtin.append_ #[t,t] ty #[v,.slice (some a) m c]).run P w=.ok O w'):zgp w' size O Z:=by
 subst ad X;have ah:n+m<=9223372036854775807:=by simp only[maxLen]at T;omega
 have M:∀(ys:List Value) (k N:Nat) (w0:World),ys.length=N*i.size->zgp (w0.alloc (.cells (ys.toArray++Builtin.zeroCells z.cells k) e)) i.size (.slice (some ⟨w0.heap.size,0,none⟩) N (N+k)) Z:=by
  intro ys k N w0 hy g q c' b j u E o;simp only[Value.slice.injEq,Option.some.injEq,Addr.mk.injEq]at b;obtain⟨⟨rfl,_⟩,rfl,_⟩:=b;rw[cell_of_row _ _ j _ e (0,0) (hN_ w0 _)]at o;rw[Array.getElem?_append_right (by simpa using by omega)]at o;exact zAI U k u (by
   rw[Array.getElem?_eq_some_iff]at o;obtain⟨h,e⟩:=o;rw[<-e];exact Array.getElem_mem_toList h)
 rcases A.2 with⟨rfl,rfl⟩|⟨g,p,s,rfl,ae,D,ag,af,Y,aj⟩
 .by_cases hm:m=0
  .subst hm;have hn:d=[]:=eN_ (by simpa using f);subst hn;simp[Builtin.append_,run_underlying B,sizeOf,typeInfo,y,Builtin.lenOf,Builtin.firstCells,loadCells,loadCellsFrom]at l;obtain⟨rfl,rfl⟩:=l;intro g q c' b;cases b
  have r:=run_append_nil (P:=P) w t ty e i z B y L a m c d f G (by omega) (by omega) (by have V:=J;simp only[Nat.zero_add]at V;omega);rw[r]at l;cases l;intro g q c' b;have F:=M d (grownCap w m 0 e-m) m w.drew (by rw[f]) g q (m+(grownCap w m 0 e-m)) (by
   simp only[Value.slice.injEq,and_true]at b|-;exact⟨b.1,b.2.1⟩)
  exact F
 .by_cases hroom:n+m<=p
  .have aa:n*i.size+d.length<=s.size:=by rw[f,Y,<-Nat.add_mul];exact Nat.mul_le_mul_right _ hroom
   have r:=run_append_room (P:=P) w t ty e i B y g n p s D a m c d f G R hroom aa;rw[r]at l;cases l;intro I q c' b j u E o;simp only[Value.slice.injEq,Option.some.injEq,Addr.mk.injEq]at b;obtain⟨⟨rfl,_⟩,rfl,_⟩:=b;rw[cell_of_row _ _ j _ e (0,0) (setRow_heap w g s _ e _ D)]at o;refine hs g n p rfl j u (nT_ (Nat.mul_le_mul_right _ (Nat.le_add_right n m)) E) ?_;rw[cell_of_row _ _ j _ e (0,0) D];rw[<-o];rw[Nat.add_mul]at E;have ab:(s.toList.take (n*i.size)++d).length=n*i.size+m*i.size:=by
    rw[lP_,lT9_,f,Array.length_toList];omega
   rw[<-Array.getElem?_toList,List.getElem?_toArray,List.getElem?_append_right (by omega),ab,List.getElem?_drop]
   congr 1
   omega
  .have ac:∀j u,C[j]? = some u->w.cell? ((⟨g,0,none⟩:Addr).add j)=some u:=A.cells (g:=g) rfl;have r:=run_append_grow (P:=P) w t ty e i z B y L ⟨g,0,none⟩ n p C A.1 ac a m c d f G (by omega) (by omega) (growslice_fits (by omega) J);rw[r]at l;cases l;intro I q c' b;have F:=M (C++d) (grownCap w (n+m) p e-(n+m)) (n+m) w.drew (by rw[lP_,A.1,f,Nat.add_mul]) I q (n+m+(grownCap w (n+m) p e-(n+m))) (by
    simp only[Value.slice.injEq,and_true]at b|-;exact⟨b.1,b.2.1⟩)
   simpa using F
def zAJ (w:World)(size:Nat)(v:Value)(n:Nat)(w':World):Prop:=∀g,v.ownBlock=some g->∀j u,j<n*size->w.cell? ⟨g,j,none⟩=some u->w'.cell? ⟨g,j,none⟩=some u
theorem zAS (w:World)(base:Nat)(t ty e:TypeId)(i:TypeInfo)(z:Value)(size A:Nat)(E:P.underlying t=some (.slice e))(C:P.info? e=some i)(U:i.zero=some z)
  (T:i.size=size) (I:i.bytes=A)
  (v:Value) (n:Nat) (y:List Value) (r:w.ownsRow base e size v n y)
  (a:Addr) (m c:Nat) (b:List Value) (q:b.length=m*size) (D:∀j u,b[j]? = some u->w.cell? (a.add j)=some u) (G:∀u∈b,u.oneCell'=true)
  (H:n+m<=maxLen) (J:(n+m)*A<=140737488355328)
  {V:Value} {w':World} (l:(Builtin.append_ #[t,t] ty #[v,.slice (some a) m c]).run P w=.ok V w'):zAJ w size v n w':=by
 subst T I;have aa:n+m<=9223372036854775807:=by simp only[maxLen]at H;omega
 intro F B j u N f;rcases r.2 with⟨rfl,rfl⟩|⟨g,o,d,rfl,X,p,Z,Y,L,ab⟩
 .cases B
 .obtain rfl:g=F:=Option.some.inj B;by_cases hroom:n+m<=o
  .have M:n*i.size+b.length<=d.size:=by rw[q,L,<-Nat.add_mul];exact Nat.mul_le_mul_right _ hroom
   have s:=run_append_room (P:=P) w t ty e i E C g n o d p a m c b q D G hroom M;rw[s]at l;cases l;rw[cell_of_row _ _ j _ e (0,0) p,<-Array.getElem?_toList]at f;rw[cell_of_row _ _ j _ e (0,0) (setRow_heap w g d _ e _ p),<-Array.getElem?_toList,List.append_assoc];rw[List.getElem?_append_left (by
    have:n*i.size<=d.size:=by omega
    rw[lT9_,Array.length_toList];omega),List.getElem?_take,if_pos N]
   exact f
  .have R:∀j u,y[j]? = some u->w.cell? ((⟨g,0,none⟩:Addr).add j)=some u:=r.cells (g:=g) rfl;have s:=run_append_grow (P:=P) w t ty e i z E C U ⟨g,0,none⟩ n o y r.1 R a m c b q D (by omega) (by omega) (growslice_fits (by omega) J);rw[s]at l;cases l;have O:=World.block_lt_of_cell? _ _ f;rw[cB_ (w:=w) (((bR_ w.drew.heap.size w.drew).alloc (nR_ _) _).block g O)];exact f
theorem zzK (w:World){L:Array Oper}{rest:List Oper}{o:Oper}{a:Act}{Q:Exit->Act->World->Prop}(Y:o.guard=none)(s x:Operand)(t:TypeId)
  (ho:o.op=.call { callee:=.builtin .append,args:=#[s,x],argTypes:=#[t,t] })
  (base:Nat) (e:TypeId) (i:TypeInfo) (z:Value) (size g:Nat) (G:P.underlying t=some (.slice e)) (A:P.info? e=some i) (H:i.zero=some z)
  (F:i.size=size) (r:i.bytes=g) (J:z.cells.size=size) (I:0<size) {Z:Value->Prop} (V:∀u∈z.cells,Z u)
  (v:Value) (n:Nat) (l:List Value) (hs:a.eval s=v) (D:w.ownsRow base e size v n l) (aa:zgp w size v Z)
  (f:Addr) (m c:Nat) (b:List Value) (hx:a.eval x=.slice (some f) m c) (B:b.length=m*size) (C:∀j u,b[j]? = some u->w.cell? (f.add j)=some u) (p:∀u∈b,u.oneCell'=true)
  (q:n+m<=maxLen) (y:(n+m)*g<=140737488355328) (X:base<=w.heap.size)
  (h:∀d w',w'.ownsRow base e size d (n+m) (l++b)->zV w v w' d->zgp w' size d Z->zAJ w size v n w'->wpList P L Q rest (a.put o.dst d) w'):wpList P L Q (o::rest) a w:=
 wpList_plain Y λ_ U=>by
  obtain⟨d,w',E,M,N,_,O⟩:=run_append_own_at (P:=P) w base t o.type e i z size g G A H F r J I v n l D f m c b B C p q y X
  have R:=zAO (P:=P) w base t o.type e i z size g G A H F r J I V v n l D aa f m c b B C p q y E
  have T:=zAS (P:=P) w base t o.type e i z size g G A H F r v n l D f m c b B C p q y E
  unfold Oper.wp execOp
  simp only[ho,resolve,invoke,builtin,Sem.run_bind,Sem.run_pure,Result.andThen_ok,List.map_toArray,List.map_cons,List.map_nil,hs,hx,E]
  exact U _ _ (h d w' M (zV.of N O) R T)
def ZA (u:Value):Prop:=u=I_ 0\/u=.string ⟨#[]⟩
theorem zAW:∀i z,prog.info? 55=some i->i.zero=some z->∀u∈z.cells,ZA u:=by
 intro i z f g u b;obtain⟨j,c,d,_⟩:=info_parts zwM;rw[f]at c;obtain rfl:=Option.some.inj c;rw[g]at d;obtain rfl:=Option.some.inj d;have b:u∈#[Value.int .i64 0,I_ 0,I_ 0,.string ⟨#[]⟩]:=b
 simp at b
 rcases b with e|e<;>subst e
 .exact .inl rfl
 .exact .inr rfl
theorem zfL {rest:List Oper}{o:Oper}(p:o.guard=none)(s x:Operand)
  (q:o.op=.call { callee:=.builtin .append,args:=#[s,x],argTypes:=#[24,24] })
  (base:Nat) (v:Value) (n:Nat) (l:List AV) (r:a.eval s=v) (j:w.ownsRow base 55 4 v n (avs l)) (t:zgp w 4 v ZA) (d:Q_) (m f:Nat) (b:List AV) (u:a.eval x=.slice d m f) (E:m=b.length) (A:zbq w d b) (F:d=none->m=0/\f=0)
  (I:n+m<=3000000000000) (D:base<=w.heap.size)
  (h:∀c w',w'.ownsRow base 55 4 c (n+m) (avs (l++b))->zV w v w' c->zgp w' 4 c ZA->zAJ w 4 v n w'->wpList prog ops Q rest (a.put o.dst c) w'):wpList prog ops Q (o::rest) a w:=by
 obtain⟨i,g,y,G,H⟩:=info_parts zwM;cases d with
 | none=>
  obtain⟨B,C⟩:=F rfl;subst B C;obtain rfl:b=[]:=eN_ E.symm;exact wpList_append_own_none p s x 24 q base 55 i 4 underlying24 g v n (avs l) r j u (h v w (by simpa using j) (zV.of (World.grownBy.refl _ _) (.inl rfl)) t (λ_ _ _ _ _ k=>k))
 | some ad=>
  exact zzK w p s x 24 q base 55 i _ 4 40 underlying24 g y G H rfl (by decide) (zAW i _ g y) v n (avs l) r j t ad m f (avs b) u (by rw[zg1];omega) (zsK A) (zxF b) (by unfold maxLen;omega) (by omega) D (λc w' z=>h c w' (by rw[zl5];exact z))
structure zdc (R K:Nat)(w w':World):Prop where
 size:w.heap.size<=w'.heap.size
 far:∀b,b<w.heap.size->b≠R->w'.heap[b]? = w.heap[b]?
 typ:∃cur,R_ w R cur 55
 low:∀j u,j<K->w.cell? ⟨R,j,none⟩=some u->w'.cell? ⟨R,j,none⟩=some u
 high:∀j u,K<=j->w.cell? ⟨R,j,none⟩=some u->ZA u
theorem zAT {v:Value}{l:List AV}(p:w.ownsRow base 55 4 v n (avs l))(r:0<n)(q:zgp w 4 v ZA)(G:zV w v w' v')(m:zAJ w 4 v n w'):∃R,zdc R (n*4) w w':=by
 rcases p.2 with⟨_,e⟩|⟨g,c,d,rfl,_,j,_⟩
 .omega
 .exact⟨g,G.grown.size,λb f o=>G.grown.block b f (λe=>o (Option.some.inj e)),⟨d,j⟩,m g rfl,q g n c rfl⟩
theorem zdc.cell {K:Nat}(h:zdc R K w w'){b j:Nat}{u:Value}(d:b≠R)(c:w.cell? ⟨b,j,none⟩=some u):w'.cell? ⟨b,j,none⟩=some u:=(cB_ (h.far b (bL_ c) d)).trans c
theorem zdc.keep {K:Nat}(h:zdc R K w w'){b j:Nat}{u:Value}(c:w.cell? ⟨b,j,none⟩=some u)(d:b=R->j<K):w'.cell? ⟨b,j,none⟩=some u:=by
 by_cases e:b=R
 .have:=d e;subst e;exact h.low j u this c
 .exact h.cell e c
theorem zdc.odd {K:Nat}(h:zdc R K w w'){b j:Nat}{u:Value}(c:w.cell? ⟨b,j,none⟩=some u)(d:¬ZA u):w'.cell? ⟨b,j,none⟩=some u:=
 h.keep c (λe=>by subst e;exact Nat.lt_of_not_le λk=>d (h.high j u k c))
theorem zdc.bytes {K:Nat}(h:zdc R K w w'){c:Q_}{bs:L_}(b:za5 w c bs):za5 w' c bs:=by
 rcases b with b|⟨g,l,e,d⟩
 .exact .inl b
 .exact .inr ⟨g,l,e,λj f=>h.odd (d j f) (λe=>by rcases e with e|e<;>cases e)⟩
theorem zdc.slice {K:Nat}(h:zdc R K w w'){d:Q_}{c:Nat}{bs:L_}(b:zg w d c bs):zg w' d c bs:=⟨b.le,b.max,b.some,b.nil,h.bytes b.bytes⟩
theorem zdc.strs {K:Nat}(h:zdc R K w w'){f:Q_}{ss:Z_}(d:zas w f ss)(l:∀s∈ss,1<=s.size):zas w' f ss:=by
 refine⟨?_,d.size⟩;rcases d.cells with m|⟨p,q,e,o⟩
 .exact .inl m
 .refine .inr ⟨p,q,e,λj c=>h.odd (o j c) (λe=>?_)⟩;rcases e with e|e
  .cases e
  .have g:ss.getD j ByteArray.empty=⟨#[]⟩:=by simpa using e
   have b:=l (ss.getD j ByteArray.empty) (by simp[c]);rw[g]at b;exact absurd b (by decide)
theorem zdc.ints {K:Nat}(h:zdc R K w w'){l:Q_}{vl:L_}(p:zax w l vl)(q:zep vl=0):zax w' l vl:=by
 refine⟨?_⟩;rcases p.cells with m|⟨r,s,e,f⟩
 .exact .inl m
 .obtain⟨u,d⟩:=zAl q;refine .inr ⟨r,s,e,λj c=>h.keep (f j c) (λe=>?_)⟩;subst e;refine Nat.lt_of_not_le λk=>?_;have z:∀i,i<vl.length->j<=i->vl.getD i 0=0:=λi o y=>by
   rcases h.high _ _ (by omega) (f i o)with g|g
   .simpa using g
   .cases g
  rcases Nat.eq_zero_or_pos j with e0|e0
  .have b:=(d 1 (by omega)).2 (by omega);rw[z 1 (by omega) (by omega),z 0 (by omega) (by omega)]at b;omega
  .have b:=(d j c).2 e0;have t:=(d (j-1) (by omega)).1;rw[z j c (nR_ _)]at b;omega
theorem zdc.list {K:Nat}(h:zdc R K w w'){f:Q_}{c:Nat}{d:List zi}(b:zx w f c d):zx w' f c d:=by
 refine⟨b.le,b.max,b.small,b.some,⟨?_,λp o=>h.slice (b.parts.each p o)⟩⟩;rcases b.parts.cells with g|⟨q,r,e,l⟩
 .exact .inl g
 .exact .inr ⟨q,r,e,λj m=>h.odd (l j m) (λe=>by rcases e with e|e<;>cases e)⟩
theorem zdc.ct {K:Nat}(h:zdc R K w w'){c:Ct}(b:za7 w c)(g:c.v.f=0):za7 w' c:=
 ⟨⟨h.list b.hat.lb,h.list b.hat.lp,λd f e=>nL_ (b.hat.rb d f e) h.size,λd f e=>nL_ (b.hat.rp d f e) h.size⟩,h.ints b.ints (CV.voters g),b.vle⟩
theorem zdc.bc {K:Nat}(h:zdc R K w w'){b:Bc}(c:zcN w b)(d:b.v.f=0):zcN w' b:=
 ⟨h.strs c.strs (λs f=>((zjR d).2.2.2 s f).1),c.le,c.max,c.nil,λg j e=>nL_ (c.lt g j e) h.size⟩
theorem zdc.signs {K:Nat}(h:zdc R K w w'){m:Q_}{p:Nat}{f:List Sg}(b:zdj w m p f):zdj w' m p f:=by
 refine⟨⟨b.tab.le,b.tab.max,b.tab.small,b.tab.some,⟨?_,λs l=>⟨h.slice (b.tab.slots.each s l).1,(b.tab.slots.each s l).2⟩⟩⟩⟩;rcases b.tab.slots.cells with y|⟨o,q,e,z⟩
 .exact .inl y
 .refine .inr ⟨o,q,e,λj A=>?_⟩;obtain⟨r,t,u,d⟩:=z j A;have c:o=R->q+j*4+3<K:=λe=>by
   subst e;refine Nat.lt_of_not_le λk=>?_;rcases h.high _ _ k d with g|g<;>cases g
  exact⟨h.keep r (λe=>by have:=c e;omega),h.keep t (λe=>by have:=c e;omega),h.keep u (λe=>by have:=c e;omega),h.keep d c⟩
theorem zdc.owns {K:Nat}(h:zdc R K w w'){B n s:Nat}{e:TypeId}{v:Value}{d:List Value}(b:w.ownsRow B e s v n d)(g:e≠55):w'.ownsRow B e s v n d:=by
 obtain⟨l,j⟩:=h.typ;exact zu b (λq c=>h.far q (b.lt q c).2 (λf=>zkq b (c.trans (congrArg some f)) j g))
theorem zdc.vm {K:Nat}(h:zdc R K w w'){v:Vm}(d:zfX w v)(f:zlk v.v):zfX w' v:=by
 refine⟨h.owns d.rc (by decide),λc o=>h.ct (d.ec c o) (znZ f.dag c o),h.owns d.rb (by decide),λb m=>h.bc (d.eb b m) (f.shf _ (List.mem_map.2 ⟨b,m,rfl⟩)),h.owns d.rt (by decide),λs g=>h.slice (d.et s g),⟨d.tx.le,d.tx.max,d.tx.nil,h.strs d.tx.strs (λs g=>?_)⟩⟩;obtain⟨nx,p⟩:=f.txs;have j:=(zjP p).2.2.2;simp only[zen,Bool.and_eq_true,List.all_eq_true]at j;have l:=j.1 s g;simp only[zbM,decide_eq_true_eq]at l;exact l.1
theorem zex.beside {K:Nat}{o:Om}(h:zex w o)(b:zjd o)(p:zdc R K w w'):zex w' o:=
 ⟨p.owns h.nd (by decide),p.vm h.e0 b.v0,p.vm h.e1 b.v1,p.vm h.e2 b.v2,p.vm h.e3 b.v3,p.signs h.sg,p.owns h.co (by decide)⟩
def zAB (N:Nat)(v:Value)(m:List AV)(w:World):Prop:=w.ownsRow N 55 4 v m.length (avs m)
theorem zAB.below {N:Nat}{v:Value}{m:List AV}(h:zAB N v m w)(b:B_ w w'):zAB N v m w':=zw h b
variable {B:Nat}{xs:List Value}
theorem zAP (l m:List AV)(c:Q_)(o g:Nat)(d:Q_)(p j:Nat)(w:World)(B:o=l.length)(E:p=m.length)(A:zbq w c l)(C:zbq w d m)(u:c=none->l.length=0/\g=0)(y:d=none->m.length=0/\j=0)(L:l.length+m.length<=100000) :
  Calls prog 6 #[.slice c o g,.slice d p j] w λe w'=>∃v,e=.returned v/\w'.ownsRow w.heap.size 55 4 v (l++m).length (avs (l++m))/\zgp w' 4 v ZA/\B_ w w':=by
 subst B E;have t:Hid ((l++m).length=l.length+m.length):=lP_;go_in;go_upto_region 1 with fail
 go_wp2_with (at_builtin;refine zfL rfl _ _ rfl w.heap.size _ 0 [] rfl (oN_ _ _ _ _) (λ_ _ _ e=>by cases e) c l.length g l rfl rfl A u (by omega) (nR_ _) ?_)
 intro I M f r G _;have b:=Below.grown (bR_ w.heap.size w) r.grown (nR_ _) (λq e=>by cases e)
 (try rw[List.nil_append,Nat.zero_add]at f)
 have D:=C.below b;go_wp2_with (at_builtin;refine zfL rfl _ _ rfl w.heap.size I l.length l rfl f G d m.length j m rfl rfl D y (by omega) b.size ?_)
 intro J w2 F s H _;have z:=Below.grown b s.grown b.size (λq e=>(f.lt q e).1);go_wp2_with fail
 go_ret;exact⟨J,rfl,by rw[t.out];exact F,H,z⟩
theorem zgp.below {s:Nat}{v:Value}{Z:Value->Prop}{e:TypeId}(h:zgp w s v Z)(m:w.ownsRow B e s v n xs)(b:B_ w w'):zgp w' s v Z:=λg k c e j u f d=>by
 have l:=(m.lt g (by rw[e];rfl)).2
 exact h g k c e j u f (by rw[cB_ (w:=w') (w':=w) (b.block g l).symm];exact d)
structure zAC (N:Nat)(v:Value)(m:List AV)(w:World):Prop where
 own:zAB N v m w
 sp:zgp w 4 v ZA
theorem zAC.below {N:Nat}{v:Value}{m:List AV}(h:zAC N v m w)(b:B_ w w'):zAC N v m w':=⟨h.own.below b,h.sp.below h.own b⟩
theorem zww (b ys:L_)(f g:Q_)(n m c d:Nat)(w:World)(p:n=b.length)(o:m=ys.length)(j:zg w f c b)(l:zg w g d ys)(q:∀x∈b,0<=x/\x<=255)(r:∀x∈ys,0<=x/\x<=255) :
  Calls prog 96 #[.slice f n c,.slice g m d] w λe w'=>e=.returned (.bool (decide (b=ys)))/\w=w':=by
 have t:=zd8 w f n c b p j;have u:=zd8 w g m d ys o l;have s:Hid (((zai b).toList == (zai ys).toList)=decide (b=ys)):=by
  show _=_;by_cases h:b=ys
  .simp[h]
  .rw[dF_ h,beq_eq_false_iff_ne];exact λe=>h (ziD q r (zhf e))
 clear p o j l q r;generalize zai b=A at*;generalize zai ys=B at*;go_in;go_wp2_with fail
 go_ret;exact⟨zN (by rw[<-s.out]),rfl⟩
def za0 (ps:List zi):List (L_):=ps.map (·.bs)
theorem zju (b f:List zi)(I J:Q_)(n m c d:Nat)(w:World)(hn:n=b.length)(hm:m=f.length)(hx:n<=1000)(hy:m<=1000)(O:zx w I c b)(R:zx w J d f)(F:∀p∈b,∀x∈p.bs,0<=x/\x<=255)(G:∀p∈f,∀x∈p.bs,0<=x/\x<=255) :
  Calls prog 126 #[.slice I n c,.slice J m d] w λe w'=>e=.returned (.bool (decide (za0 b=za0 f)))/\B_ w w':=by
 subst hn hm;by_cases hl:b.length=f.length
 .have A:Hid (b.length=f.length):=hl;have Z:Hid _:=F;have HV:Hid _:=G;rw[<-hl];clear F G hl;go_in;go_wp2_with fail
  go_loopw [5] (λj wr=>∃k:Nat,k<=b.length/\j=I_ k/\Hid (za0 (b.take k)=za0 (f.take k))/\B_ w wr) (λj _=>b.length-(intOf j).toNat)
  case atStart=>exact⟨0,nZ_ _,rfl,by show _=_;simp,bR_ _ _⟩
  case round=>
   obtain⟨k,hk,rfl,E,g⟩:=hrel;by_cases hlt:k<b.length
   .have t:k<f.length:=by have:=A.out;omega
    obtain⟨l,o,rfl,C⟩:∃l o,I=some ⟨l,o,none⟩/\∀j (h:j<b.length),w.cell? ⟨l,o+j,none⟩=some (.slice (b[j]).sa (b[j]).bs.length (b[j]).cap):=by
     rcases O.parts.cells with h|h
     .subst h;simp at hlt
     .exact h
    obtain⟨r,s,rfl,D⟩:∃r s,J=some ⟨r,s,none⟩/\∀j (h:j<f.length),w.cell? ⟨r,s+j,none⟩=some (.slice (f[j]).sa (f[j]).bs.length (f[j]).cap):=by
     rcases R.parts.cells with h|h
     .subst h;simp at t
     .exact h
    have ka:=(g.cell (p:=⟨l,o+k,none⟩) (bL_ (C k hlt))).trans (C k hlt);have kb:=(g.cell (p:=⟨r,s+k,none⟩) (bL_ (D k t))).trans (D k t);have ae:=(O.parts.each b[k] (gM_ hlt)).below g;have af:=(R.parts.each f[k] (gM_ t)).below g;have X:=Z.out b[k] (gM_ hlt);have Y:=HV.out f[k] (gM_ t);have ad:(k:Int)<b.length:=by omega
    have h0:(0:Int)<=k:=by omega
    clear C D;have U:Hid (za0 (b.take (k+1))=za0 (b.take k)++[(b[k]).bs]):=by show _=_;rw[za0,tS_ hlt,List.map_append];rfl
    have V:Hid (za0 (f.take (k+1))=za0 (f.take k)++[(f[k]).bs]):=by show _=_;rw[za0,tS_ t,List.map_append];rfl
    generalize b[k]=p at*;generalize f[k]=q at*;have N:∀u,B_ wr u->Calls prog 96 #[.slice p.sa p.bs.length p.cap,.slice q.sa q.bs.length q.cap] u λe w'=>e=.returned (.bool (decide (p.bs=q.bs)))/\u=w':=λu T=>zww p.bs q.bs p.sa q.sa _ _ p.cap q.cap u rfl rfl (ae.below T) (af.below T) X Y;have y:Hid _:=N;clear N X Y;by_cases he:p.bs=q.bs;have H:Hid (p.bs=q.bs):=he;rw[dT_ he]at y
    rotate_left
    have H:Hid (¬p.bs=q.bs):=he;rw[dF_ he]at y
    rotate_left
    all_goals
     clear he;go_wp2_with fail
     go_region_held3 (λw'=>w'.cell? ⟨l,o+k,none⟩=some (.slice p.sa p.bs.length p.cap)/\w'.cell? ⟨r,s+k,none⟩=some (.slice q.sa q.bs.length q.cap)) (go_keep) ((go_at_call 96;refine(y.out _ ?_).mono ?_;exact(bR_ _ _).drew;rintro e w8⟨rfl,rfl⟩))
    .all_goals
      go_wp2_with fail
      go_roundw
      case rel=>
       have M:∃B:Nat,B<=b.length/\(Value.int .i64 ((k:Int)+1))=I_ B/\Hid (za0 (b.take B)=za0 (f.take B))/\B_ w wr.drew:=⟨k+1,by omega,by go_num,by show _=_;rw[U.out,V.out,E.out,H.out],g.drew⟩
       first|exact M|((repeat apply Exists.intro);exact⟨M,rfl⟩)
      case measure=>simp[intOf];omega
    .all_goals
      go_wp2_with fail
      go_ret;refine⟨zN (dF_ λe=>H.out ?_).symm,g.drew⟩;have z:=U.out;have h2:=V.out;have L:za0 (b.take (k+1))=za0 (f.take (k+1)):=by
       have e':(za0 b).take (k+1)=(za0 f).take (k+1):=by rw[e]
       simpa[za0,List.map_take]using e'
      rw[z,h2,E.out]at L;have h4:=List.append_cancel_left L
      simpa using h4
   .obtain rfl:k=b.length:=by omega
    have ad:¬(b.length:Int)<b.length:=by omega
    have aa:Hid (za0 b=za0 f):=by
     have z:=E.out;rw[tL_ (nR_ _),tL_ (by have:=A.out;omega)]at z;exact z
    go_wp2_with fail
    go_ret;exact⟨zN (dT_ aa.out).symm,g⟩
 .have ac:¬(b.length:Int)=f.length:=by omega
  have A:Hid (¬za0 b=za0 f):=λe=>hl (by have:=congrArg List.length e;simpa[za0]using this);have ag:((b.length:Int) == (f.length:Int))=false:=beq_eq_false_iff_ne.2 ac;clear F G;go_in;go_wp2_with fail
  go_ret;exact⟨zN (dF_ A.out).symm,bR_ _ _⟩
structure zuS (w:World)(ba:Q_)(bn bc:Nat)(bl:List zi)(pa:Q_)(pn pc:Nat)(pl:List zi):Prop where
 eb:bn=bl.length
 ep:pn=pl.length
 b3:bn<=1000
 p4:pn<=1000
 bat:zx w ba bc bl
 par:zx w pa pc pl
 bu:∀p∈bl,∀x∈p.bs,0<=x/\x<=255
 pu:∀p∈pl,∀x∈p.bs,0<=x/\x<=255
theorem zmK (au rd c l:Int)(B:Q_)(F D:Nat)(bl:List zi)(q:Q_)(u s:Nat)(pl:List zi)(C:Q_)(G E:Nat)(d:List zi)(r:Q_)(A t:Nat)(m:List zi)(w:World)(f:zuS w B F D bl q u s pl)(g:zuS w C G E d r A t m) :
  Calls prog 93 #[.agg #[I_ au,I_ rd,.slice B F D,.slice q u s],.agg #[I_ c,I_ l,.slice C G E,.slice r A t]] w λe w'=>e=.returned (.bool (decide (au=c/\rd=l/\za0 bl=za0 d/\za0 pl=za0 m)))/\B_ w w':=by
 have H:B_ w ((w.alloc (.cells #[I_ au,I_ rd,.slice B F D,.slice q u s] 48)).alloc (.cells #[I_ c,I_ l,.slice C G E,.slice r A t] 48)):=((bR_ _ _).alloc (nR_ _) _).alloc (by simp) _;have J:∀b,B_ w b->Calls prog 126 #[.slice B F D,.slice C G E] b λe w'=>e=.returned (.bool (decide (za0 bl=za0 d)))/\B_ b w':=λb h=>zju bl d B C F G D E b f.eb g.eb f.b3 g.b3 (f.bat.below h) (g.bat.below h) f.bu g.bu;have L:∀b,B_ w b->Calls prog 126 #[.slice q u s,.slice r A t] b λe w'=>e=.returned (.bool (decide (za0 pl=za0 m)))/\B_ b w':=λb h=>zju pl m q r u A s t b f.ep g.ep f.p4 g.p4 (f.par.below h) (g.par.below h) f.pu g.pu;have I:Hid _:=J;have N:Hid _:=L;clear J L f g;have o:Hid (decide (au=c/\rd=l/\za0 bl=za0 d/\za0 pl=za0 m)=(decide (au=c/\rd=l)&&decide (za0 bl=za0 d)&&decide (za0 pl=za0 m))):=by
  show _=_;by_cases h1:au=c<;>by_cases h2:rd=l<;>by_cases h3:za0 bl=za0 d<;>simp[h1,h2,h3]
 generalize decide (za0 bl=za0 d)=x at*;generalize decide (za0 pl=za0 m)=y at*;generalize decide (au=c/\rd=l/\za0 bl=za0 d/\za0 pl=za0 m)=z at*;by_cases h1:au=c
 .subst h1;by_cases h2:rd=l
  .subst h2;have p:Hid (z=(x&&y)):=by have:=o.out;show _=_;simpa using this
   clear o;cases x
   all_goals
    go_in;go_wp2_with fail
    refine(I.out _ H).mono ?_;rintro e T⟨rfl,j⟩
   .go_wp2_with fail
    go_ret;exact⟨zN (by rw[p.out];rfl),zS (zS j)⟩
   .have M:=zbK j;have R:=zbK (zS j);rw[zG]at M;replace j:=zS (zS j);have U:=zb R 3 (.slice q u s) rfl;have V:=zb M 3 (.slice r A t) rfl;go_wp2_with fail
    refine(N.out _ j).mono ?_;rintro e w2⟨rfl,O⟩;go_wp2_with fail
    go_ret;exact⟨zN (by rw[p.out];simp),j.trans (O.mono j.size)⟩
  .have p:Hid (z=false):=by have:=o.out;show _=_;simpa[h2]using this
   clear o;have Y:(rd == l)=false:=by simpa using h2
   go_in;go_wp2_with fail
   go_ret;exact⟨zN p.out.symm,H⟩
 .have p:Hid (z=false):=by have:=o.out;show _=_;simpa[h1]using this
  clear o;have X:(au == c)=false:=by simpa using h1
  go_in;go_wp2_with fail
  go_ret;exact⟨zN p.out.symm,H⟩
variable {qs:List zi}
structure zg2 (ps qs:List zi):Prop where
 same:zbm ps qs
 u8:∀p∈qs,∀x∈p.bs,0<=x/\x<=255
 le:qs.length<=1000
theorem zg2.length {b:List zi}(h:zg2 b qs):b.length=qs.length:=h.same.length
theorem zg2.u8' {b:List zi}(h:zg2 b qs):∀p∈b,∀x∈p.bs,0<=x/\x<=255:=by
 intro p j x d;have c:p.bs∈b.map (·.bs):=List.mem_map_of_mem j;have g:b.map (·.bs)=qs.map (·.bs):=h.same;rw[g]at c;obtain⟨q,l,e⟩:=List.mem_map.1 c;have f:q.bs=p.bs:=e;rw[<-f]at d;exact h.u8 q l x d
theorem zmL (au rd:Int)(o:Q_)(p:Nat)(d:List zi)(q:Q_)(r:Nat)(f:List zi)(g:Q_)(j:Nat)(bl:List zi)(l:Q_)(m:Nat)(pl:List zi)(w:World)(b:zg2 d bl)(c:zg2 f pl)(s:zx w o p d)(t:zx w q r f)(u:zx w g j bl)(y:zx w l m pl) :
  Calls prog 93 #[.agg #[I_ au,I_ rd,.slice o bl.length p,.slice q pl.length r],.agg #[I_ au,I_ rd,.slice g bl.length j,.slice l pl.length m]] w λe w'=>e=.returned (.bool true)/\B_ w w':=by
 have h:=zmK au rd au rd o bl.length p d q pl.length r f g bl.length j bl l pl.length m pl w ⟨b.length.symm,c.length.symm,b.le,c.le,s,t,b.u8',c.u8'⟩ ⟨rfl,rfl,b.le,c.le,u,y,b.u8,c.u8⟩;have z:decide (au=au/\rd=rd/\za0 d=za0 bl/\za0 f=za0 pl)=true:=dT_ ⟨rfl,rfl,b.same,c.same⟩;rw[z]at h;exact h
theorem zpx (vl:L_)(o p:Q_)(c d:Nat)(w:World)(C:vl.length<=9000000000000000000)(u:zax w o vl)(y:zax w p vl) :
  Calls prog 94 #[.slice o vl.length c,.slice p vl.length d] w λe w'=>e=.returned (.bool true)/\B_ w w':=by
 go_in;go_wp2_with fail
 go_loopw [5] (λj wr=>∃k:Nat,k<=vl.length/\j=I_ k/\B_ w wr) (λj _=>vl.length-(intOf j).toNat)
 case atStart=>exact⟨0,nZ_ _,rfl,bR_ _ _⟩
 case round=>
  obtain⟨k,B,rfl,b⟩:=hrel;by_cases hlt2:k<vl.length
  .obtain⟨f,g,rfl,r⟩:∃f g,o=some ⟨f,g,none⟩/\∀j,j<vl.length->wr.cell? ⟨f,g+j,none⟩=some (I_ (vl.getD j 0)):=by
    rcases(u.below b).cells with h|h
    .subst h;simp at hlt2
    .exact h
   obtain⟨l,m,rfl,s⟩:∃l m,p=some ⟨l,m,none⟩/\∀j,j<vl.length->wr.cell? ⟨l,m+j,none⟩=some (I_ (vl.getD j 0)):=by
    rcases(y.below b).cells with h|h
    .subst h;simp at hlt2
    .exact h
   have D:=r k hlt2;have E:=s k hlt2;have z:(k:Int)<vl.length:=by omega
   have A:(0:Int)<=k:=by omega
   clear r s;generalize vl.getD k 0=x at*;go_wp2_with fail
   go_region
   all_goals
    go_wp2_with fail
    go_roundw
    case rel=>
     have q:∃t:Nat,t<=vl.length/\(Value.int .i64 ((k:Int)+1))=I_ t/\B_ w wr.drew:=⟨k+1,by omega,by go_num,b.drew⟩
     first|exact q|((repeat apply Exists.intro);exact⟨q,rfl⟩)
    case measure=>simp[intOf];omega
  .obtain rfl:k=vl.length:=by omega
   have z:¬(vl.length:Int)<vl.length:=by omega
   go_wp2_with fail
   go_ret;exact⟨rfl,b⟩
theorem zpy (au rd:Int)(l:Q_)(m:Nat)(u:List zi)(o:Q_)(p:Nat)(y:List zi)(q:Q_)(r:Nat)(zl:L_)(b:Q_)(c:Nat)(bl:List zi)(d:Q_)(f:Nat)(pl:List zi)(g:Q_)(j:Nat)(w:World)(z:zg2 u bl)(A:zg2 y pl)(T:zl.length<=9000000000000000000)(I:zx w l m u)(J:zx w o p y)(L:zax w q zl)(M:zx w b c bl)(N:zx w d f pl)(O:zax w g zl) :
  Calls prog 58 #[.agg #[I_ au,I_ rd,.slice l u.length m,.slice o y.length p,.slice q zl.length r],.agg #[I_ au,I_ rd,.slice b bl.length c,.slice d pl.length f,.slice g zl.length j]] w λe w'=>e=.returned (.bool true)/\B_ w w':=by
 rw[z.length,A.length];refine kA_ ?A0 ?_;exact #[I_ au,I_ rd,.slice b bl.length c,.slice d pl.length f,.slice g zl.length j];refine kO_ ?B0 ?_;exact Obj.cells #[I_ au,I_ rd,.slice l bl.length m,.slice o pl.length p,.slice q zl.length r] 61;have s:B_ w ((w.alloc ?B0).alloc (.cells ?A0 61)):=((bR_ _ _).alloc (nR_ _) _).alloc (by rw[zG];omega) _;have D:=hX_ w ?B0 (.cells ?A0 61);have E:((w.alloc ?B0).alloc (.cells ?A0 61)).heap[w.heap.size+1]? = some (.cells ?A0 61 (0,0)):=by
  have:=hN_ (w.alloc ?B0) (.cells ?A0 61);rw[zG]at this;exact this
 have F:Hid _:=z;have G:Hid _:=A;clear z A;go_in;go_wp2_with fail
 generalize (w.alloc ?B0).alloc (.cells ?A0 61)=H at s D E|-;refine(zmL au rd l m u o p y b c bl d f pl H F.out G.out (I.below s) (J.below s) (M.below s) (N.below s)).mono ?_;rintro _ X⟨rfl,B⟩;dsimp only;have U:=zk B D;have V:=zk B E;have Y:=zb U 4 _ rfl;have Z:=zb V 4 _ rfl;have t:=zm s B;go_wp2_with fail
 refine(zpx zl q g r j X T (L.below t) (O.below t)).mono ?_;rintro _ w2⟨rfl,R⟩;dsimp only;go_wp2_with fail
 go_ret;exact⟨rfl,t.trans (R.mono t.size)⟩
theorem znT (b:Z_)(t u:Q_)(n m c d:Nat)(w:World)(F:n=b.length)(E:m=b.length)(C:n<=maxLen)(A:zas w t b)(B:zas w u b) :
  Calls prog 95 #[.slice t n c,.slice u m d] w λe w'=>e=.returned (.bool true)/\B_ w w':=by
 subst F E;unfold maxLen at C;go_in;go_wp2_with fail
 go_loopw [5] (λj wr=>∃k:Nat,k<=b.length/\j=I_ k/\B_ w wr) (λj _=>b.length-(intOf j).toNat)
 case atStart=>exact⟨0,nZ_ _,rfl,bR_ _ _⟩
 case round=>
  obtain⟨k,H,rfl,q⟩:=hrel;by_cases hlt:k<b.length
  .obtain⟨f,g,rfl,r⟩:∃f g,t=some ⟨f,g,none⟩/\∀j,j<b.length->w.cell? ⟨f,g+j,none⟩=some (.string (b.getD j ByteArray.empty)):=by
    rcases A.cells with h|h
    .rw[h]at hlt;simp at hlt
    .exact h
   obtain⟨l,o,rfl,s⟩:∃l o,u=some ⟨l,o,none⟩/\∀j,j<b.length->w.cell? ⟨l,o+j,none⟩=some (.string (b.getD j ByteArray.empty)):=by
    rcases B.cells with h|h
    .rw[h]at hlt;simp at hlt
    .exact h
   have I:=(q.cell (p:=⟨f,g+k,none⟩) (bL_ (r k hlt))).trans (r k hlt);have J:=(q.cell (p:=⟨l,o+k,none⟩) (bL_ (s k hlt))).trans (s k hlt);have D:(k:Int)<b.length:=by omega
   have G:(0:Int)<=k:=by omega
   clear r s;generalize b.getD k ByteArray.empty=x at*;go_wp2_with fail
   go_region_held3 (λw'=>w'.cell? ⟨f,g+k,none⟩=some (.string x)/\w'.cell? ⟨l,o+k,none⟩=some (.string x)) (go_keep) (fail)
   all_goals
    go_wp2_with fail
    go_roundw
    case rel=>
     have y:∃z:Nat,z<=b.length/\(Value.int .i64 ((k:Int)+1))=I_ z/\B_ w wr.drew:=⟨k+1,by omega,by go_num,q.drew⟩
     first|exact y|((repeat apply Exists.intro);exact⟨y,rfl⟩)
    case measure=>simp[intOf];omega
  .obtain rfl:k=b.length:=by omega
   have D:¬(b.length:Int)<b.length:=by omega
   go_wp2_with fail
   go_ret;exact⟨rfl,q⟩
theorem znU (au f:Int)(b:Z_)(g j:Q_)(n m c d:Nat)(w:World)(q:n=b.length)(p:m=b.length)(o:n<=maxLen)(s:zas w g b)(t:zas w j b) :
  Calls prog 59 #[.agg #[I_ au,I_ f,.slice g n c],.agg #[I_ au,I_ f,.slice j m d]] w λe w'=>e=.returned (.bool true)/\B_ w w':=by
 have l:B_ w ((w.alloc (.cells #[I_ au,I_ f,.slice g n c] 50)).alloc (.cells #[I_ au,I_ f,.slice j m d] 50)):=((bR_ _ _).alloc (nR_ _) _).alloc (by simp) _;have r:=znT b g j n m c d _ q p o (s.below l) (t.below l);clear q p o;go_in;go_wp2_with fail
 refine r.mono ?_;rintro _ z⟨rfl,u⟩;dsimp only;go_wp2_with fail
 go_ret;exact⟨rfl,zS (zS u)⟩
theorem zpz (au rd:Int)(bs:L_)(b f:Q_)(n m c d:Nat)(w:World)(p:n=bs.length)(o:m=bs.length)(j:zg w b c bs)(l:zg w f d bs) :
  Calls prog 60 #[.agg #[I_ au,I_ rd,.slice b n c],.agg #[I_ au,I_ rd,.slice f m d]] w λe w'=>e=.returned (.bool true)/\B_ w w':=by
 have g:B_ w ((w.alloc (.cells #[I_ au,I_ rd,.slice b n c] 58)).alloc (.cells #[I_ au,I_ rd,.slice f m d] 58)):=((bR_ _ _).alloc (nR_ _) _).alloc (by simp) _;have h:=zxO bs b f n m c d _ p o (j.below g) (l.below g);clear p o j l;go_in;go_wp2_with fail
 refine h.mono ?_;rintro e q⟨rfl,rfl⟩;dsimp only;go_wp2_with fail
 go_ret;exact⟨rfl,g⟩
variable {bl:List zi}
theorem zrf (b:List Sl)(j i:Nat)(h:j<b.length)(c:i<3):(slv b)[j*3+i]? = (b[j]).cs[i]?:=by
 induction b generalizing j with
 | nil=>cases h
 | cons x r ih=>
  cases j with
  | zero=>simp only[slv,Nat.zero_mul,Nat.zero_add,List.getElem_cons_zero];rw[List.getElem?_append_left (by simp[Sl.cs];exact c)]
  | succ j=>
   have h':j<r.length:=by simpa using h
   simp only[slv,List.getElem_cons_succ];rw[List.getElem?_append_right (by simp[Sl.cs];omega),<-ih j h']
   congr 1
   simp[Sl.cs];omega
theorem zpA {c:List zi}(j:zT c=zT bl)(d:bl.length<=1000)(g:∀b∈zT bl,∀x∈b,0<=x/\x<=255):zg2 c bl:=
 ⟨j,λp f x l=>g p.bs (List.mem_map.2 ⟨p,f,rfl⟩) x l,d⟩
theorem zuT (c d:Ct)(w:World)(f:c.v=d.v)(N:d.v.f=0)(D:∀b∈d.v.bl++d.v.pl,∀x∈b,0<=x/\x<=255)(J:za7 w c)(L:za7 w d) :
  Calls prog 29 #[.agg #[I_ c.au,I_ c.rd,.slice c.ba c.bl.length c.bc,.slice c.pa c.pl.length c.pc,.slice c.va c.vl.length c.vc],.agg #[I_ d.au,I_ d.rd,.slice d.ba d.bl.length d.bc,.slice d.pa d.pl.length d.pc,.slice d.va d.vl.length d.vc]] w λe w'=>e=.returned (.bool true)/\Below w.heap.size w w':=by
 have H:Hid (c.v=d.v):=f;clear f;refine kA_ ?A0 ?_;exact #[I_ c.au,I_ c.rd,.slice c.ba c.bl.length c.bc,.slice c.pa c.pl.length c.pc,.slice c.va c.vl.length c.vc];refine kA_ ?B0 ?_;exact #[I_ d.au,I_ d.rd,.slice d.ba d.bl.length d.bc,.slice d.pa d.pl.length d.pc,.slice d.va d.vl.length d.vc];have l:Below w.heap.size w ((w.alloc (.cells ?A0 61)).alloc (.cells ?B0 61)):=((bR_ _ _).alloc (nR_ _) _).alloc (by simp) _;have g:=hX_ w (.cells ?A0 61) (.cells ?B0 61);have j:=hY_ w (.cells ?A0 61) (.cells ?B0 61);go_in;go_upto_region 1 with fail
 generalize (w.alloc (.cells ?A0 61)).alloc (.cells ?B0 61)=m at l g j|-;have f:=H.out;have z:c.au=d.au:=congrArg CV.au f;have A:c.rd=d.rd:=congrArg CV.rd f;have B:zT c.bl=zT d.bl:=congrArg CV.bl f;have C:zT c.pl=zT d.pl:=congrArg CV.pl f;have o:c.vl=d.vl:=congrArg CV.vl f;obtain⟨E,F,O,_,_⟩:=zow N;have u:=zpA B E (λb t=>D b (List.mem_append.2 (.inl t)));have y:=zpA C F (λb t=>D b (List.mem_append.2 (.inr t)));have p:=J.below l;have q:=L.below l;have s:=p.ints;rw[o]at s;have r:=zpy c.au c.rd c.ba c.bc c.bl c.pa c.pc c.pl c.va c.vc d.vl d.ba d.bc d.bl d.pa d.pc d.pl d.va d.vc m u y (by omega) p.hat.lb p.hat.lp s q.hat.lb q.hat.lp q.ints;rw[<-o]at r;have G:Calls prog 58 #[.agg ?A0,.agg ?B0] m λe w'=>e=.returned (.bool true)/\Below m.heap.size m w':=by
  rw[<-z,<-A,<-o];exact r
 clear r z A B C o u y s p q E F O f;have R:=zb g 0 _ rfl;have T:=zb g 1 _ rfl;have U:=zb g 2 _ rfl;have V:=zb g 3 _ rfl;have X:=zb g 4 _ rfl;have Y:=zb j 0 _ rfl;have Z:=zb j 1 _ rfl;have b2:=zb j 2 _ rfl;have b3:=zb j 3 _ rfl;have b4:=zb j 4 _ rfl;go_wp2_with fail
 refine G.mono ?_;rintro _ w1⟨rfl,I⟩;dsimp only;go_wp2_with fail
 go_ret;exact⟨rfl,l.trans (I.mono l.size)⟩
theorem zsM (c d:Bc)(w:World)(b:c.v=d.v)(s:zcN w c)(l:zcN w d) :
  Calls prog 30 #[.agg #[I_ c.v.au,I_ c.v.nu,.slice c.ta c.v.ss.length c.tc],.agg #[I_ d.v.au,I_ d.v.nu,.slice d.ta d.v.ss.length d.tc]] w λe w'=>e=.returned (.bool true)/\Below w.heap.size w w':=by
 have p:Hid (c.v=d.v):=b;clear b;refine kO_ ?A0 ?_;exact Obj.cells #[I_ c.v.au,I_ c.v.nu,.slice c.ta c.v.ss.length c.tc] 50;refine kO_ ?B0 ?_;exact Obj.cells #[I_ d.v.au,I_ d.v.nu,.slice d.ta d.v.ss.length d.tc] 50;have f:Below w.heap.size w ((w.alloc ?A0).alloc ?B0):=((bR_ _ _).alloc (nR_ _) _).alloc (by simp) _;have g:=hX_ w ?A0 ?B0;have j:=hY_ w ?A0 ?B0;go_in;go_upto_region 1 with fail
 generalize (w.alloc ?A0).alloc ?B0=q at f g j|-;have b:=p.out;have m:=(s.below f).strs;rw[b]at m;have o:=znU d.v.au d.v.nu d.v.ss c.ta d.ta _ _ c.tc d.tc q rfl rfl (nT_ l.le l.max) m (l.below f).strs;rw[b]at g|-;clear m b;have u:=zb g 0 _ rfl;have A:=zb j 0 _ rfl;have y:=zb g 1 _ rfl;have B:=zb j 1 _ rfl;have z:=zb g 2 _ rfl;have C:=zb j 2 _ rfl;go_wp2_with fail
 refine o.mono ?_;rintro _ D⟨rfl,r⟩;dsimp only;go_wp2_with fail
 go_ret;exact⟨rfl,f.trans (r.mono f.size)⟩
theorem zuU (c d:Sl)(w:World)(b:c.v=d.v)(q:zg w c.p.sa c.p.cap c.p.bs)(r:zg w d.p.sa d.p.cap d.p.bs) :
  Calls prog 31 #[.agg #[I_ c.au,I_ c.rd,.slice c.p.sa c.p.bs.length c.p.cap],.agg #[I_ d.au,I_ d.rd,.slice d.p.sa d.p.bs.length d.p.cap]] w λe w'=>e=.returned (.bool true)/\Below w.heap.size w w':=by
 have u:Hid (c.v=d.v):=b;clear b;refine kO_ ?A0 ?_;exact Obj.cells #[I_ c.au,I_ c.rd,.slice c.p.sa c.p.bs.length c.p.cap] 58;refine kO_ ?B0 ?_;exact Obj.cells #[I_ d.au,I_ d.rd,.slice d.p.sa d.p.bs.length d.p.cap] 58;have f:Below w.heap.size w ((w.alloc ?A0).alloc ?B0):=((bR_ _ _).alloc (nR_ _) _).alloc (by simp) _;have g:=hX_ w ?A0 ?B0;have j:=hY_ w ?A0 ?B0;go_in;go_upto_region 1 with fail
 generalize (w.alloc ?A0).alloc ?B0=y at f g j|-;have b:=u.out;have o:c.au=d.au:=congrArg (λs:SV=>s.1) b;have p:c.rd=d.rd:=congrArg (λs:SV=>s.2.1) b;have l:c.p.bs=d.p.bs:=congrArg (λs:SV=>s.2.2) b;have m:=q.below f;rw[l]at m;have t:=zpz d.au d.rd d.p.bs c.p.sa d.p.sa _ _ c.p.cap d.p.cap y rfl rfl m (r.below f);rw[o,p,l]at g|-;clear m b o p l q r;have B:=zb g 0 _ rfl;have E:=zb j 0 _ rfl;have C:=zb g 1 _ rfl;have F:=zb j 1 _ rfl;have D:=zb g 2 _ rfl;have G:=zb j 2 _ rfl;go_wp2_with fail
 refine t.mono ?_;rintro _ H⟨rfl,z⟩;dsimp only;go_wp2_with fail
 go_ret;exact⟨rfl,f.trans (z.mono f.size)⟩
theorem zyO:(prog.info? 61).map (·.size)=some 5:=by kernel_rfl
theorem zyP:(prog.info? 50).map (·.size)=some 3:=by kernel_rfl
theorem zyQ:(prog.info? 58).map (·.size)=some 3:=by kernel_rfl
structure zcx (p q:Vw):Prop where
 rd:p.rd=q.rd
 cs:p.cs=q.cs
 bs:p.bs=q.bs
 vt:p.vt=q.vt
theorem zpB {α β:Type}{f:α->β}{l m:List α}(h:l.map f=m.map f)(k:Nat)(b:k<l.length)(c:k<m.length):f l[k]=f m[k]:=by
 have:=congrArg (λx:List β=>x[k]?) h
 simpa[b,c]using this
theorem zdC (p q:Vm)(w:World)(hp:zfX w p)(hq:zfX w q)(ho:zlk q.v)(hs:zcx p.v q.v) :
  Calls prog 16 #[.agg #[.bool p.up,I_ p.rd,.slice p.ca p.ls.length p.cc,.slice p.ba p.bl.length p.bc,.slice p.ta p.tab.length p.tc,.slice p.pa p.txs.length p.pc],.agg #[.bool q.up,I_ q.rd,.slice q.ca q.ls.length q.cc,.slice q.ba q.bl.length q.bc,.slice q.ta q.tab.length q.tc,.slice q.pa q.txs.length q.pc]] w λe w'=>e=.returned (.bool true)/\Below w.heap.size w w':=by
 have er:p.rd=q.rd:=hs.rd;have l1:p.ls.length=q.ls.length:=by have:=congrArg List.length hs.cs;simpa[Vm.v,zI]using this
 have l2:p.bl.length=q.bl.length:=by have:=congrArg List.length hs.bs;simpa[Vm.v]using this
 have l3:p.tab.length=q.tab.length:=by have:=congrArg List.length hs.vt;simpa[Vm.v,vs]using this
 have b1:q.ls.length<=400:=zlE ho.dag;have b2:q.bl.length<=800:=by have:=ho.sh;simpa[Vm.v]using this
 have b3:q.tab.length<=400000:=by have:=ho.tab;simpa[Vm.v,vs]using this
 have HS:Hid _:=hs;have HO:Hid _:=ho;have ER:Hid (p.rd=q.rd):=er;have L1:Hid (p.ls.length=q.ls.length):=l1;have L2:Hid (p.bl.length=q.bl.length):=l2;have L3:Hid (p.tab.length=q.tab.length):=l3;clear er l1 l2 l3;refine kO_ ?A0 ?_;exact Obj.cells #[.bool p.up,I_ p.rd,.slice p.ca p.ls.length p.cc,.slice p.ba p.bl.length p.bc,.slice p.ta p.tab.length p.tc,.slice p.pa p.txs.length p.pc] 40;refine kO_ ?B0 ?_;exact Obj.cells #[.bool q.up,I_ q.rd,.slice q.ca q.ls.length q.cc,.slice q.ba q.bl.length q.bc,.slice q.ta q.tab.length q.tc,.slice q.pa q.txs.length q.pc] 40;have hA:Below w.heap.size w ((w.alloc ?A0).alloc ?B0):=((bR_ _ _).alloc (nR_ _) _).alloc (by simp) _;have q0:=hX_ w ?A0 ?B0;have q1:=hY_ w ?A0 ?B0;go_in;go_upto_region 1 with fail
 generalize (w.alloc ?A0).alloc ?B0=W0 at hA q0 q1|-;generalize w.heap.size+1=Q at q1|-;generalize ag:w.heap.size=P at q0|-;have HP:Hid (w.heap.size=P):=ag;clear ag hs ho;have ax:=hp.below hA;have ay:=hq.below hA;clear hp hq;have p1:=zb q0 1 _ rfl;have p2:=zb q0 2 _ rfl;have p3:=zb q0 3 _ rfl;have p4:=zb q0 4 _ rfl;have s1:=zb q1 1 _ rfl;have s2:=zb q1 2 _ rfl;have s3:=zb q1 3 _ rfl;have s4:=zb q1 4 _ rfl;rw[ER.out]at p1;rw[L1.out]at p2;rw[L2.out]at p3;rw[L3.out]at p4;clear q0 q1;generalize ak:q.ls.length=U at p2 s2 b1 L1|-;generalize al:q.bl.length=X at p3 s3 b2 L2|-;generalize am:q.tab.length=Y at p4 s4 b3 L3|-;have N1:Hid _:=ak;have N2:Hid _:=al;have N3:Hid _:=am;clear ak al am;go_wp2_with fail
 have an:=ax;have ao:=ay;have az:=p2;have aC:=p3;have aF:=p4;have aI:=s2;have aL:=s3;have aO:=s4;go_loopw [5] (λj wr=>∃k:Nat,k<=U/\j=I_ k/\Below W0.heap.size W0 wr) (λj _=>U-(intOf j).toNat)
 case atStart=>exact⟨0,nZ_ _,rfl,bR_ _ _⟩
 case round=>
  obtain⟨k,hk,rfl,g⟩:=hrel;have o:=an.below g;have r:=ao.below g;have z:=zr g az;have A:=zr g aC;have B:=zr g aF;have E:=zr g aI;have F:=zr g aL;have G:=zr g aO;by_cases hlt:k<U
  .have af:(k:Int)<U:=by omega
   have N:k<p.ls.length:=by rw[L1.out];exact hlt
   have J:k<q.ls.length:=by rw[N1.out];exact hlt
   have L:Hid _:=(λ(V:World) (hV:Below wr.heap.size wr V)=>zuT (p.ls[k]) (q.ls[k]) V (zpB (f:=Ct.v) HS.out.cs k N J) (znZ HO.out.dag _ (gM_ J)) (HO.out.du8 _ (List.mem_map.2 ⟨_,gM_ J,rfl⟩)) ((o.ec _ (gM_ N)).below hV) ((r.ec _ (gM_ J)).below hV));have Z:=o.rc;rw[L1.out]at Z;have aa:=r.rc;rw[N1.out]at aa;obtain⟨s,ad,O⟩:=zei Z hlt (d:=(p.ls[k]).cs) rfl (λt T=>zfx p.ls k t N T);obtain⟨u,ae,R⟩:=zei aa hlt (d:=(q.ls[k]).cs) rfl (λt T=>zfx q.ls k t J T);rw[ad]at z;rw[ae]at E;generalize p.ls[k]=c at L O;generalize q.ls[k]=d at L R;have y:=dB_ wr;have C:=dC_ z;have H:=dC_ E;have D:=zde O;have I:=zde R;go_upto_region 6 with fail
   refine wR_ (S:=λw'=>w'.cell? ⟨P,2,none⟩=some (.slice (some ⟨s,0,none⟩) U p.cc)/\w'.cell? ⟨Q,2,none⟩=some (.slice (some ⟨u,0,none⟩) U q.cc)/\w'.rangeAt s (k*5) c.cs/\w'.rangeAt u (k*5) d.cs) (by kernel_rfl) ⟨C,H,D,I⟩ (λl=>?_);generalize wr.drew=M at y C H D I l|-;refine tks_ 4 [(0,47,(P_ P 2)),(1,48,.slice (some ⟨s,0,none⟩) U p.cc),(2,49,I_ (k:Int)),(3,50,(P_ s (k*5)))] l ?_;simp only[tkf_,zf];refine kA_ ?C0 ?_;exact #[I_ c.au,I_ c.rd,.slice c.ba c.bl.length c.bc,.slice c.pa c.pl.length c.pc,.slice c.va c.vl.length c.vc];refine tQ_ 4 51 (.agg ?C0) rfl rfl (yieldsIf_load_mid (by rfl) 61 _ rfl s (k*5) rfl c.cs _ (λw0 h=>h.2.2.1) underlying61 rfl zyO) l ?_;simp only[zf];refine tks_ 4 [(5,52,(P_ Q 2)),(6,53,.slice (some ⟨u,0,none⟩) U q.cc),(7,54,I_ (k:Int)),(8,55,(P_ u (k*5)))] l ?_;simp only[tkf_,zf];refine kA_ ?D0 ?_;exact #[I_ d.au,I_ d.rd,.slice d.ba d.bl.length d.bc,.slice d.pa d.pl.length d.pc,.slice d.va d.vl.length d.vc];refine tQ_ 9 56 (.agg ?D0) rfl rfl (yieldsIf_load_mid (by rfl) 61 _ rfl u (k*5) rfl d.cs _ (λw0 h=>h.2.2.2) underlying61 rfl zyO) l ?_;simp only[zf];refine zE 10 rfl (λK9 hK=>?_);refine zj rfl 57 rfl 29 [.tmp 51,.tmp 56] #[61,61] rfl [.agg ?C0,.agg ?D0] rfl (eO_ func29) (λv w'=>v=.bool true/\Below M.heap.size M w') ((L.out M y).mono (λe w2 h=>⟨_,h.1,rfl,h.2⟩)) ?_;rintro v V1⟨rfl,m⟩;have ac:=zm y m;refine hK.out _ _ ⟨zr m C,zr m H,zdd D m,zdd I m⟩ (λl=>?_);simp only[zf];refine zU 11 58 (.bool false) rfl rfl l ?_;simp only[zf];refine wD_ (by kernel_rfl) ?_ _;have ab:=zm g ac;clear C H D I l y m o r Z aa O R z A B E F G;go_wp2_with fail
   go_roundw
   case rel=>exact⟨k+1,by omega,by go_num,ab⟩
   case measure=>simp[intOf];omega
  .obtain rfl:U=k:=by omega
   have af:¬((U:Nat):Int)<(U:Nat):=by omega
   obtain⟨W1,ah⟩:∃W,W=wr:=⟨_,rfl⟩;rw[<-ah]at g o r z A B E F G|-;clear ah;have ab:=zm hA g;have ap:=o;have aq:=r;have aA:=z;have aD:=A;have aG:=B;have aJ:=E;have aM:=F;have aP:=G;clear g o r z A B E F G hlt hk;go_wp2_with fail
   go_loopw [6] (λj wr=>∃k:Nat,k<=X/\j=I_ k/\Below W1.heap.size W1 wr) (λj _=>X-(intOf j).toNat)
   case atStart=>exact⟨0,nZ_ _,rfl,bR_ _ _⟩
   case round=>
    obtain⟨k,hk,rfl,g⟩:=hrel;have o:=ap.below g;have r:=aq.below g;have z:=zr g aA;have A:=zr g aD;have B:=zr g aG;have E:=zr g aJ;have F:=zr g aM;have G:=zr g aP;by_cases hlt:k<X
    .have af:(k:Int)<X:=by omega
     have N:k<p.bl.length:=by rw[L2.out];exact hlt
     have J:k<q.bl.length:=by rw[N2.out];exact hlt
     have L:Hid _:=(λ(V:World) (hV:Below wr.heap.size wr V)=>zsM (p.bl[k]) (q.bl[k]) V (zpB (f:=λb:Bc=>b.v) HS.out.bs k N J) ((o.eb _ (gM_ N)).below hV) ((r.eb _ (gM_ J)).below hV));have Z:=o.rb;rw[L2.out]at Z;have aa:=r.rb;rw[N2.out]at aa;obtain⟨s,ad,O⟩:=zei Z hlt (d:=(p.bl[k]).cs) rfl (λt T=>zrb p.bl k t N T);obtain⟨u,ae,R⟩:=zei aa hlt (d:=(q.bl[k]).cs) rfl (λt T=>zrb q.bl k t J T);rw[ad]at A;rw[ae]at F;generalize p.bl[k]=c at L O;generalize q.bl[k]=d at L R;have y:=dB_ wr;have C:=dC_ A;have H:=dC_ F;have D:=zde O;have I:=zde R;go_upto_region 11 with fail
     refine wR_ (S:=λw'=>w'.cell? ⟨P,3,none⟩=some (.slice (some ⟨s,0,none⟩) X p.bc)/\w'.cell? ⟨Q,3,none⟩=some (.slice (some ⟨u,0,none⟩) X q.bc)/\w'.rangeAt s (k*3) c.cs/\w'.rangeAt u (k*3) d.cs) (by kernel_rfl) ⟨C,H,D,I⟩ (λl=>?_);generalize wr.drew=M at y C H D I l|-;refine tks_ 4 [(0,66,(P_ P 3)),(1,67,.slice (some ⟨s,0,none⟩) X p.bc),(2,68,I_ (k:Int)),(3,69,(P_ s (k*3)))] l ?_;simp only[tkf_,zf];refine kA_ ?E0 ?_;exact #[I_ c.v.au,I_ c.v.nu,.slice c.ta c.v.ss.length c.tc];refine tQ_ 4 70 (.agg ?E0) rfl rfl (yieldsIf_load_mid (by rfl) 50 _ rfl s (k*3) rfl c.cs _ (λw0 h=>h.2.2.1) underlying50 rfl zyP) l ?_;simp only[zf];refine tks_ 4 [(5,71,(P_ Q 3)),(6,72,.slice (some ⟨u,0,none⟩) X q.bc),(7,73,I_ (k:Int)),(8,74,(P_ u (k*3)))] l ?_;simp only[tkf_,zf];refine kA_ ?F0 ?_;exact #[I_ d.v.au,I_ d.v.nu,.slice d.ta d.v.ss.length d.tc];refine tQ_ 9 75 (.agg ?F0) rfl rfl (yieldsIf_load_mid (by rfl) 50 _ rfl u (k*3) rfl d.cs _ (λw0 h=>h.2.2.2) underlying50 rfl zyP) l ?_;simp only[zf];refine zE 10 rfl (λK9 hK=>?_);refine zj rfl 76 rfl 30 [.tmp 70,.tmp 75] #[50,50] rfl [.agg ?E0,.agg ?F0] rfl (eO_ func30) (λv w'=>v=.bool true/\Below M.heap.size M w') ((L.out M y).mono (λe w2 h=>⟨_,h.1,rfl,h.2⟩)) ?_;rintro v V1⟨rfl,m⟩;have ac:=zm y m;refine hK.out _ _ ⟨zr m C,zr m H,zdd D m,zdd I m⟩ (λl=>?_);simp only[zf];refine zU 11 77 (.bool false) rfl rfl l ?_;simp only[zf];refine wD_ (by kernel_rfl) ?_ _;have ab:=zm g ac;clear C H D I l y m o r Z aa O R z A B E F G;go_wp2_with fail
     go_roundw
     case rel=>exact⟨k+1,by omega,by go_num,ab⟩
     case measure=>simp[intOf];omega
    .obtain rfl:X=k:=by omega
     have af:¬((X:Nat):Int)<(X:Nat):=by omega
     obtain⟨W2,ai⟩:∃W,W=wr:=⟨_,rfl⟩;rw[<-ai]at g o r z A B E F G|-;clear ai;have av:=zm ab g;have ar:=o;have au:=r;have aB:=z;have aE:=A;have aH:=B;have aK:=E;have aN:=F;have aQ:=G;clear g o r z A B E F G hlt hk;go_wp2_with fail
     go_loopw [7] (λj wr=>∃k:Nat,k<=Y/\j=I_ k/\Below W2.heap.size W2 wr) (λj _=>Y-(intOf j).toNat)
     case atStart=>exact⟨0,nZ_ _,rfl,bR_ _ _⟩
     case round=>
      obtain⟨k,hk,rfl,g⟩:=hrel;have o:=ar.below g;have r:=au.below g;have z:=zr g aB;have A:=zr g aE;have B:=zr g aH;have E:=zr g aK;have F:=zr g aN;have G:=zr g aQ;by_cases hlt:k<Y
      .have af:(k:Int)<Y:=by omega
       have N:k<p.tab.length:=by rw[L3.out];exact hlt
       have J:k<q.tab.length:=by rw[N3.out];exact hlt
       have L:Hid _:=(λ(V:World) (hV:Below wr.heap.size wr V)=>zuU (p.tab[k]) (q.tab[k]) V (zpB (f:=Sl.v) HS.out.vt k N J) ((o.et _ (gM_ N)).below hV) ((r.et _ (gM_ J)).below hV));have Z:=o.rt;rw[L3.out]at Z;have aa:=r.rt;rw[N3.out]at aa;obtain⟨s,ad,O⟩:=zei Z hlt (d:=(p.tab[k]).cs) rfl (λt T=>zrf p.tab k t N T);obtain⟨u,ae,R⟩:=zei aa hlt (d:=(q.tab[k]).cs) rfl (λt T=>zrf q.tab k t J T);rw[ad]at B;rw[ae]at G;generalize p.tab[k]=c at L O;generalize q.tab[k]=d at L R;have y:=dB_ wr;have C:=dC_ B;have H:=dC_ G;have D:=zde O;have I:=zde R;go_upto_region 16 with fail
       refine wR_ (S:=λw'=>w'.cell? ⟨P,4,none⟩=some (.slice (some ⟨s,0,none⟩) Y p.tc)/\w'.cell? ⟨Q,4,none⟩=some (.slice (some ⟨u,0,none⟩) Y q.tc)/\w'.rangeAt s (k*3) c.cs/\w'.rangeAt u (k*3) d.cs) (by kernel_rfl) ⟨C,H,D,I⟩ (λl=>?_);generalize wr.drew=M at y C H D I l|-;refine tks_ 4 [(0,85,(P_ P 4)),(1,86,.slice (some ⟨s,0,none⟩) Y p.tc),(2,87,I_ (k:Int)),(3,88,(P_ s (k*3)))] l ?_;simp only[tkf_,zf];refine kA_ ?G0 ?_;exact #[I_ c.au,I_ c.rd,.slice c.p.sa c.p.bs.length c.p.cap];refine tQ_ 4 89 (.agg ?G0) rfl rfl (yieldsIf_load_mid (by rfl) 58 _ rfl s (k*3) rfl c.cs _ (λw0 h=>h.2.2.1) underlying58 rfl zyQ) l ?_;simp only[zf];refine tks_ 4 [(5,90,(P_ Q 4)),(6,91,.slice (some ⟨u,0,none⟩) Y q.tc),(7,92,I_ (k:Int)),(8,93,(P_ u (k*3)))] l ?_;simp only[tkf_,zf];refine kA_ ?H0 ?_;exact #[I_ d.au,I_ d.rd,.slice d.p.sa d.p.bs.length d.p.cap];refine tQ_ 9 94 (.agg ?H0) rfl rfl (yieldsIf_load_mid (by rfl) 58 _ rfl u (k*3) rfl d.cs _ (λw0 h=>h.2.2.2) underlying58 rfl zyQ) l ?_;simp only[zf];refine zE 10 rfl (λK9 hK=>?_);refine zj rfl 95 rfl 31 [.tmp 89,.tmp 94] #[58,58] rfl [.agg ?G0,.agg ?H0] rfl (eO_ func31) (λv w'=>v=.bool true/\Below M.heap.size M w') ((L.out M y).mono (λe w2 h=>⟨_,h.1,rfl,h.2⟩)) ?_;rintro v V1⟨rfl,m⟩;have ac:=zm y m;refine hK.out _ _ ⟨zr m C,zr m H,zdd D m,zdd I m⟩ (λl=>?_);simp only[zf];refine zU 11 96 (.bool false) rfl rfl l ?_;simp only[zf];refine wD_ (by kernel_rfl) ?_ _;have ab:=zm g ac;clear C H D I l y m o r Z aa O R z A B E F G;go_wp2_with fail
       go_roundw
       case rel=>exact⟨k+1,by omega,by go_num,ab⟩
       case measure=>simp[intOf];omega
      .obtain rfl:Y=k:=by omega
       have af:¬((Y:Nat):Int)<(Y:Nat):=by omega
       obtain⟨W3,aj⟩:∃W,W=wr:=⟨_,rfl⟩;rw[<-aj]at g o r z A B E F G|-;clear aj;have aw:=zm av g;clear g o r hlt hk;go_wp2_with fail
       go_ret;exact⟨rfl,aw⟩
end Go.Proofs.YthnkppcncbjdiaaGreatDoor
