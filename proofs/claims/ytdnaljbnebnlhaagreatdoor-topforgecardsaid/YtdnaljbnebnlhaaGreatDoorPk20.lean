import Derived.Test.YtdnaljbnebnlhaaGreatDoorPk19
set_option maxRecDepth 100000
set_option maxHeartbeats 4000000
namespace Go.Proofs.YtdnaljbnebnlhaaGreatDoor
open Go.RowKit Tryz
variable {k:Nat}{ms:List MV}{w0:World}
theorem zrZ :∀(ms ys:List MV) (r:List Int) (k:Nat),(∀x∈ms,(∃W,MAt W x)/\zaT x)->(∀y∈ys,MAt w0 y/\zaT y)->(zam ms).take k=zam ys++r->zcS r->zhN ys ms/\(∀j,j<=ms.length->(zam (ms.take j)).length<=k->j<=ys.length)/\(zam ys).length<=k:=by
 intro ms
 induction ms with
 | nil=>
  intro ys r k _ _ h _;have d:ys=[]:=by
   cases ys with
   | nil=>rfl
   | cons y l=>
    have:=congrArg List.length h;have B:=zfW y;simp[zam]at this;omega
  subst d;exact⟨zhN.nil _,(λj b _=>by simpa using b),nZ_ _⟩
 | cons x l ih=>
  intro ys r k m d h o;obtain⟨⟨w,p⟩,q⟩:=m x (by simp);by_cases hk:k<x.onTape.length
  .have F:ys=[]:=by
    cases ys with
    | nil=>rfl
    | cons y t=>
     exfalso
     rw[zeg,zeg,List.take_append_of_le_length (by omega),List.append_assoc]at h;have B:=zfW y;have C:=congrArg List.length h;rw[lT9_,lP_]at C;obtain⟨u,A,L,M⟩:=zet (bs:=y.onTape++(zam t++r)) (x:=y) rfl;obtain⟨N,O,R,T⟩:=zet (bs:=x.onTape) (x:=x) (r:=[]) (by simp);have g:∀j,j<2->(x.onTape.take k).getD j 0=x.onTape.getD j 0:=by
      intro j b;simp only[List.getD];rw[List.getElem?_take_of_lt (by omega)]
     rw[<-h,g 0 (by omega)]at u;rw[<-h,g 1 (by omega)]at A;have c:y.bytes.length=x.bytes.length:=by omega
     have U:y.onTape.length=2+y.bytes.length:=by simp[MV.onTape];omega
     have V:x.onTape.length=2+x.bytes.length:=by simp[MV.onTape];omega
     omega
   subst F;refine⟨zhN.nil _,?_,nZ_ _⟩;intro j b c;cases j with
   | zero=>exact nZ_ _
   | succ j=>
    rw[List.take_succ_cons,zeg,lP_]at c;omega
  .rw[zeg,List.take_append,tL_ (by omega)]at h;cases ys with
   | nil=>
    exact absurd h.symm (o w x _ p q)
   | cons y t=>
    obtain⟨D,E⟩:=d y (by simp);rw[zeg,List.append_assoc]at h;obtain⟨Y,I,s,J⟩:=zqc p D q E h.symm;obtain⟨G,H,X⟩:=ih t r (k-x.onTape.length) (λz f=>m z (by simp[f])) (λz f=>d z (by simp[f])) J.symm o;refine⟨G.cons I s,?_,?_⟩
    .intro j b c;cases j with
     | zero=>exact nZ_ _
     | succ j=>
      rw[List.take_succ_cons,zeg,lP_]at c;have:=H j (by simpa using b) (by omega)
      simpa using this
    .rw[zeg,lP_,s];omega
theorem zvK (d:∀x∈ms,(∃W,MAt W x)/\zaT x)(l:∀x∈ms,U8M x.bl x.pl x.cbl x.cpl x.ds):zZ (zam ms):=by
 intro z b;obtain⟨x,c,b⟩:=List.mem_flatMap.1 b;have f:=zyj (d x c).2.check (l x c);obtain⟨⟨W,j⟩,g⟩:=d x c;have m:=(g.len j.dn).2;rcases List.mem_append.1 b with b|b
 .simp at b
  rcases b with rfl|rfl<;>omega
 .exact f z b
theorem zr0 (l:List MC)(k j:Nat)(c:j<=l.length)(f:(zae (l.take j)).length<=k)(b:j<l.length->k<(zae (l.take (j+1))).length):zeo k l=l.take j:=by
 induction l generalizing k j with
 | nil=>simp[zeo]
 | cons m l ih=>
  cases j with
  | zero=>
   have:=b (by simp);rw[zeo,if_neg]
   .rfl
   .simp[zae]at this;omega
  | succ j=>
   have e:(zae ((m::l).take (j+1))).length=m.onTape.length+(zae (l.take j)).length:=by simp[zae]
   rw[zeo,if_pos (by omega),List.take_succ_cons,ih (k-m.onTape.length) j (by simpa using c) (by omega) (λg=>?_)];have:=b (by simpa using g);have d:(zae ((m::l).take (j+1+1))).length=m.onTape.length+(zae (l.take (j+1))).length:=by simp[zae]
   omega
theorem zxn {ys:List MV}{r:List Int}(m:∀x∈ms,(∃W,MAt W x)/\zaT x)(f:∀y∈ys,MAt w0 y/\zaT y)(h:(zam ms).take k=zam ys++r)(p:zcS r):ys.map MV.c=zeo k (ms.map MV.c)/\(∀y∈ys,∃x∈ms,x.c=y.c):=by
 obtain⟨b,o,l⟩:=zrZ ms ys r k m f h p;have s:ys.map MV.c=(ms.map MV.c).take ys.length:=by
  apply List.ext_getElem
  .simp[b.le]
  .intro i j u;have d:i<ys.length:=by simpa using j
   have c:i<ms.length:=by have:=b.le;omega
   simp[b.same i d c]
 refine⟨?_,λy f=>?_⟩
 .rw[s];refine(zr0 _ k ys.length (by simpa using b.le) ?_ (λg=>?_)).symm
  .rw[<-List.map_take,<-zes,<-b.tape];exact l
  .rcases Nat.lt_or_ge k (zae ((ms.map MV.c).take (ys.length+1))).length with q|q
   .exact q
   .rw[<-List.map_take,<-zes]at q;have:=o (ys.length+1) (by
     have t:ys.length<ms.length:=by simpa using g
     omega) q
    omega
 .obtain⟨i,d,rfl⟩:=List.getElem_of_mem f;have c:i<ms.length:=by have:=b.le;omega
  exact⟨ms[i],gM_ c,b.same i d c⟩
theorem zxo (k:Kn)(m:MC):(k.rcl m).tab.length<=k.tab.length+1:=by
 unfold Kn.rcl
 split
 .split<;>simp
 .split
  .split
   .show(if(zaf k.tab m.h).2.2=0 then(zaf k.tab m.h).1 else k.tab).length<=_
    split
    .rename_i h
     rcases zgf h with⟨g,_⟩|⟨g,_,_⟩
     .rw[g];omega
     .rw[g];simp
    .omega
   .omega
  .split
   .simp
   .split
    .split<;>simp
    .omega
theorem zqd (l:List MC)(n:Nd):(l.foldl Nd.recall n).k.tab.length<=n.k.tab.length+l.length:=by
 induction l generalizing n with
 | nil=>exact nR_ _
 | cons m l ih=>
  have c:=ih (n.recall m);have b:=zxo n.k m;simp only[List.foldl_cons,List.length_cons];have d:(n.recall m).k.tab.length<=n.k.tab.length+1:=b;omega
theorem zt3 (c:Int)(l:List BW)(h:∀b∈l,b.f=0):1<=zd2 c l/\zd2 c l<=1048577:=by
 have o:∀(l:List BW) (g:Int),(∀b∈l,b.f=0)->0<=g/\g<=1048576->0<=l.foldl (λg b=>if b.au=c then max g b.nu else g) g/\l.foldl (λg b=>if b.au=c then max g b.nu else g) g<=1048576:=by
  intro l
  induction l with
  | nil=>intro g _ f;exact f
  | cons b l ih=>
   intro g j f;refine ih _ (λx m=>j x (List.mem_cons_of_mem _ m)) ?_;have d:=j b (by simp);unfold BW.f zbk at d
   split at d
   .cases d
   .rename_i q
    simp only[not_or,Decidable.not_not]at q;show 0<=(if b.au=c then max g b.nu else g)/\(if b.au=c then max g b.nu else g)<=1048576;by_cases e:b.au=c
    .rw[if_pos e];omega
    .rw[if_neg e];exact f
 have:=o l 0 h ⟨by decide,by decide⟩;unfold zd2;omega
theorem zis (au c:Int)(d:Option Addr)(n g:Nat)(ss:List ByteArray)(w:World)(l:n=ss.length)(E:zas w d ss)(D:zbk au c ss=0)(O:0<=au/\au<4)(X:0<=c/\c<=1048576)(U:ss.length<=4)(H:∀s∈ss,s.size<=20)(Z:∀m y,d=some ⟨m,y,none⟩->m<w.heap.size)(N:zbJ w) :
  Calls prog 134 #[.agg #[I_ au,I_ c,.slice d n g]] w λe w'=>∃b,e=.returned (.tuple #[.slice (some ⟨b,0,none⟩) 32 32,I_ 0])/\w.heap.size<=b/\B_ w w'/\zg w' (some ⟨b,0,none⟩) 32 (zhV 1 (zbY au c ss)):=by
 have L:=zC w (.cells #[I_ au,I_ c,.slice d n g] 58);have r:=zil au c d n g ss _ l (by rw[l];unfold maxLen;omega) (E.below L);rw[D]at r;have ab:=zmm ss H;have J:Hid (n=ss.length):=l;clear l D;go_in;go_wp2_with fail
 refine r.mono ?_;rintro e z⟨rfl,f⟩;have u:=zbK f;replace f:=zS f;have c0:=zb u 0 (I_ au) rfl;have c1:=zb u 1 (I_ c) rfl;have c2:=zb u 2 (.slice d n g) rfl;have F:=f.size;clear r;go_wp2_with fail
 refine(zhE z.heap.size (O_) 0 [] au c d n g ss z O X J.out U H (E.below f) (λm y e=>⟨nL_ (Z m y e) F,λh=>by cases h⟩) (oN_ _ _ _ _) (nR_ _) (by decide)).mono ?_;rintro e w2⟨v2,rfl,t,A⟩;have R:B_ z w2:=A.below (nR_ _) (λq e=>by cases e);rw[Nat.zero_add,List.nil_append]at t;obtain⟨o,p,hv,G,hx⟩:=zeG t;subst hv;have j:=f.trans (R.mono F);have HX:Hid _:=G;have aa:(zbY au c ss).length<=100:=by simp[zbY,rd3];omega
 have M:=zC w2 (.cells #[.slice o (zbY au c ss).length p] 51);clear G t A;generalize C:zbY au c ss=B at*;have I:Hid _:=C;clear C;go_wp2_with fail
 refine(zmW 1 [⟨o,p,B⟩] _ _ _ _ rfl (zog w2 o _ p B rfl hx) (by simp[psz];omega) ((N.below j).below M)).mono ?_;rintro e w3⟨b,rfl,V,T,Y⟩;go_wp2_with fail
 go_ret2;refine⟨b,rfl,?_,?_,?_⟩
 .rw[zG]at V;have:=j.size;omega
 .exact j.trans ((zS T).mono j.size)
 .rw[zhV,I.out,<-zlt 1 o p B];exact Y
variable {w:World}{cap:Nat}{ops:Array Oper}{Q:Exit->Act->World->Prop}{a:Act}
theorem zyl (b ys:List ByteArray):sv (b++ys)=sv b++sv ys:=by simp[sv]
theorem zt4 {f:Addr}{cs:List ByteArray}(l:zbu w (some f) cap cs):∀j u,(sv cs)[j]? = some u->w.cell? (f.add j)=some u:=by
 intro j u b;rcases l.strs.cells with c|⟨m,o,e,c⟩
 .subst c;simp[sv]at b
 .cases e;have d:j<cs.length:=by
   rcases Nat.lt_or_ge j cs.length with g|g
   .exact g
   .rw[List.getElem?_eq_none (by rw[zjB];exact g)]at b;cases b
  rw[zaP,c j d];simp[sv,d]at b;simp[d,b]
theorem zfd {rest:List Oper}{o:Oper}(j:o.guard=none)(s x:Operand)
  (q:o.op=.call { callee:=.builtin .append,args:=#[s,x],argTypes:=#[45,45] })
  (base:Nat) (v:Value) (n:Nat) (bs:List ByteArray) (r:a.eval s=v) (d:w.ownsRow base 9 1 v n (sv bs))
  (g:Option Addr) (m c:Nat) (cs:List ByteArray) (t:a.eval x=.slice g m c) (p:m=cs.length) (f:zbu w g c cs)
  (A:(n+m)*16<=140737488355328) (z:base<=w.heap.size)
  (h:∀b w',w'.ownsRow base 9 1 b (n+m) (sv (bs++cs))->w.grownBy w' v.ownBlock->wpList prog ops Q rest (a.put o.dst b) w'):wpList prog ops Q (o::rest) a w:=by
 obtain⟨i,l,B,C,D⟩:=info_parts zkf;cases g with
 | none=>
  obtain rfl:=f.nil rfl;obtain rfl:cs=[]:=eN_ (by have:=f.le;omega);subst p;exact wpList_append_own_none j s x 45 q base 9 i 1 underlying45 l v n (sv bs) r d t (h v w (by simpa using d) (World.grownBy.refl _ _))
 | some ad=>
  refine wpList_append_own w j s x 45 q base 9 i (.string ByteArray.empty) 1 16 underlying45 l B C D rfl (by decide) v n (sv bs) r d ad m c (sv cs) t (by rw[zjB,p];omega) (zt4 f) (zs7 cs) (by unfold maxLen;omega) A z (λb w' u y _=>h b w' (by rw[zyl];exact u) y)
variable {w':World}{sa:Option Addr}{ss:List ByteArray}{G:Nat->Prop}
theorem zoV (ss:List ByteArray)(l:Option Addr)(n b:Nat)(w:World)(y:n=ss.length)(C:ss.length<=1000)(c:zbu w l b ss) :
  Calls prog 191 #[.slice l n b] w λe w'=>∃d rc,e=.returned (.slice d ss.length rc)/\zbu w' d rc ss/\(∀f m,d=some ⟨f,m,none⟩->w.heap.size<=f/\f<w'.heap.size)/\B_ w w':=by
 subst y;cases l with
 | none=>
  have p:ss=[]:=by
   rcases c.strs.cells with h|⟨_,_,h,_⟩
   .exact h
   .cases h
  subst p;have r:∀w:World,(binOp .eql 45 (.slice none 0 b) (O_)).run prog w=.ok (.bool true) w:=λ_=>rfl;go_in;go_wp2_with fail
  go_ret;exact⟨none,0,rfl,⟨nR_ _,by decide,λ_=>rfl,⟨.inl rfl,λs c=>by cases c⟩⟩,(λ_ _ e=>by cases e),bR_ _ _⟩
 | some ad=>
  have r:∀w:World,(binOp .eql 45 (.slice (some ad) ss.length b) (O_)).run prog w=.ok (.bool false) w:=λ_=>rfl;have g:=zC w (.cells #[] 9);have z:=c.below g;go_in;go_wp2_with (at_builtin;refine zfd rfl _ _ rfl w.heap.size _ 0 [] rfl (World.ownsRow_made _ _ 0 (nR_ _) (by decide) rfl) (some ad) ss.length b ss rfl rfl z (by omega) g.size ?_;intro D E j t)
  rw[List.nil_append,Nat.zero_add]at j;obtain⟨d,rc,A,_,o,B⟩:=zjo j c.strs.size;have u:=j.lt;subst A;go_ret;refine⟨d,rc,rfl,o,(λf m e=>u f (by rw[e];rfl)),?_⟩;exact Below.grown g t g.size (λq e=>(World.ownsRow.lt (World.ownsRow_made (e:=9) (size:=1) w #[] 0 (nR_ _) (by decide) rfl) q e).1)
theorem zr1 (g:∀k,G k->w'.heap[k]? = w.heap[k]?)(h:zas w sa ss)(d:∀b c,sa=some ⟨b,c,none⟩->G b):zas w' sa ss:=by
 refine⟨?_,h.size⟩;rcases h.cells with h|⟨b,c,e,h⟩
 .exact .inl h
 .exact .inr ⟨b,c,e,λj f=>(cB_ (g b (d b c e))).trans (h j f)⟩
theorem zh5 {b:BW}(h:b.f=0):(0<=b.au/\b.au<4)/\(0<=b.nu/\b.nu<=1048576)/\b.ss.length<=4/\(∀s∈b.ss,s.size<=20):=by
 unfold BW.f zbk at h
 split at h
 .simp at h
 .rename_i f
  split at h
  .simp at h
  .split at h
   .rename_i g c
    refine⟨by omega,by omega,by omega,λs d=>?_⟩;have:=List.all_eq_true.1 c s d;simp[zbM]at this;omega
   .simp at h
theorem zt5 (l:List Sh){b:BW}(d:b.f=0):zbG (shw l) b=(!zb1 (shw l) b.d&&decide ((l.length:Int)<800)):=by
 have c:decide ((l.length:Int)<800)=decide (l.length<800):=decide_eq_decide.2 (by omega);rw[c,zbG,zb6,d]
 rfl
structure zzb (w w':World)(e:Ending)(sh:List BW)(b:BW):Prop where
 out:∃s:Sh,e=.returned (.tuple #[.agg #[I_ s.b.v.au,I_ s.b.v.nu,.slice s.b.ta s.b.v.ss.length s.b.tc,.slice s.d.sa s.d.bs.length s.d.cap],.bool (zbG sh b)])/\s.b.v=b/\zd3 w' s/\(∀sb so,s.b.ta=some ⟨sb,so,none⟩->w.heap.size<=sb)/\(∀sb so,s.d.sa=some ⟨sb,so,none⟩->w.heap.size<=sb)
 below:B_ w w'
theorem zlO (x:NM)(b:Bc)(w:World)(U:Nat->Bool)(F o:Nat)(T:TypeId)(fc:Array Value)(h:zo w U F o T fc x)(q:zcN w b)(E:b.v.f=0) :
  Calls prog 156 #[P_ F o,.agg #[I_ b.v.au,I_ b.v.nu,.slice b.ta b.v.ss.length b.tc]] w λe w'=>zzb w w' e (shw x.sh) b.v:=by
 obtain⟨f1,f2,f3,f4⟩:=zh5 E;refine kO_ ?B0 ?_;exact Obj.cells #[I_ b.v.au,I_ b.v.nu,.slice b.ta b.v.ss.length b.tc] 58;refine kO_ ?C0 ?_;exact Obj.cells #[I_ 0,I_ 0,O_,O_] 161;have u:B_ w ((w.alloc ?B0).alloc ?C0):=((bR_ _ _).alloc (nR_ _) _).alloc (by simp) _;have r:=hX_ w ?B0 ?C0;have H:=hY_ w ?B0 ?C0;go_in;go_upto_region 1 with fail
 generalize ((w.alloc ?B0).alloc ?C0)=W0 at u r H|-;have h0:=h.below u;have V:=zis b.v.au b.v.nu b.ta _ b.tc b.v.ss W0 rfl (q.strs.below u) E f1 f2 f3 f4 (λl m e=>nL_ (q.lt l m e) u.size) (h0.tabs.sub (zK _ _));have c0:=zb r 0 _ rfl;have c1:=zb r 1 _ rfl;have c2:=zb r 2 _ rfl;go_wp2_with fail
 refine V.mono ?_;rintro e w1⟨g,y,hg,M,hS⟩;subst y;dsimp only;clear V c0 c1 c2;have aa:=zm u M;have h1:=h.below aa;have ac:=zk M r;have ad:=zk M H;have HG:Hid (w.heap.size+2<=g):=by show _<=_;have:=ze H;omega
 have ai:Hid (b.v.d=zhV 1 (zbY b.v.au b.v.nu b.v.ss)):=rfl;have I:Hid (zg w1 (some ⟨g,0,none⟩) 32 b.v.d):=hS;have Y:Hid (b.v.d.length=32):=zhW _ _;have L:=zgX x b.v.d (some ⟨g,0,none⟩) 32 32 w1 U F o T fc h1 Y.out.symm I.out;clear hS hg;have Z:Hid _:=zt5 x.sh E;generalize zb1 (shw x.sh) b.v.d=bb at L Z;go_wp2_with fail
 refine L.mono ?_;rintro _ w2⟨rfl,C⟩;dsimp only;clear L;have A:=zm aa C;have h2:=h.below A;have O:=zk C ac;have ae:=zk C ad;have k4:=h2.cell 4 _ rfl;have d2:=zb O 2 _ rfl;have ab:zbu w2 b.ta b.tc b.v.ss:=zbu.below ⟨q.le,q.max,q.nil,q.strs⟩ A;have R:=zoV b.v.ss b.ta _ b.tc w2 rfl (by omega) ab;clear ab;have af:Hid (zg w2 (some ⟨g,0,none⟩) 32 b.v.d):=I.out.below C;have ah:Hid (zcN w b):=q;clear f1 f2 f3 f4 E q ac ad r H h1 h0 I;have aj:w.heap.size<w2.heap.size:=ze O;have ak:w.heap.size+1<w2.heap.size:=ze ae;cases bb;refine kV_ ?A0 ?_;exact Value.slice (some ⟨g,0,none⟩) 32 32
 all_goals
  go_wp2_with fail
  refine R.mono ?_;rintro e s⟨c,d,y,B,N,D⟩;subst y;dsimp only;have ag:=zm A D;have G:=zk D O;have f:=zk D ae;have m0:=zb G 0 _ rfl;have m1:=zb G 1 _ rfl;have m2:=zb G 2 _ rfl;have n2:=zd G 2;have r0:=zb f 0 _ rfl;have r1:=zb f 1 _ rfl;have r2:=zb f 2 _ rfl;have r3:=zb f 3 _ rfl;have s0:=zd f 0;have s1:=zd f 1;have s2:=zd f 2;have s3:=zd f 3;clear R;go_wp2_with fail
  have t:((((s.setCell ⟨w.heap.size,2,none⟩ (.slice c b.v.ss.length d)).setCell ⟨w.heap.size+1,0,none⟩ (I_ b.v.au)).setCell ⟨w.heap.size+1,1,none⟩ (I_ b.v.nu)).setCell ⟨w.heap.size+1,2,none⟩ (.slice c b.v.ss.length d)).setCell ⟨w.heap.size+1,3,none⟩ ?A0 |>.heap[w.heap.size+1]? = some (.cells #[I_ b.v.au,I_ b.v.nu,.slice c b.v.ss.length d,?A0] 161 (0,0)):=by
   simpa using hS_ _ _ 3 _ _ ?A0 (hS_ _ _ 2 _ _ (.slice c b.v.ss.length d) (hS_ _ _ 1 _ _ (I_ b.v.nu) (hS_ _ _ 0 _ _ (I_ b.v.au) (zh (b:=w.heap.size) (j:=2) (v:=.slice c b.v.ss.length d) f (by omega)))))
  have XB:=((((ag.setCell (p:=⟨w.heap.size,2,none⟩) (nR_ _) (.slice c b.v.ss.length d)).setCell (p:=⟨w.heap.size+1,0,none⟩) (by simp) (I_ b.v.au)).setCell (p:=⟨w.heap.size+1,1,none⟩) (by simp) (I_ b.v.nu)).setCell (p:=⟨w.heap.size+1,2,none⟩) (by simp) (.slice c b.v.ss.length d)).setCell (p:=⟨w.heap.size+1,3,none⟩) (by simp) ?A0;have J:∀k,k≠w.heap.size/\k≠w.heap.size+1->(((((s.setCell ⟨w.heap.size,2,none⟩ (.slice c b.v.ss.length d)).setCell ⟨w.heap.size+1,0,none⟩ (I_ b.v.au)).setCell ⟨w.heap.size+1,1,none⟩ (I_ b.v.nu)).setCell ⟨w.heap.size+1,2,none⟩ (.slice c b.v.ss.length d)).setCell ⟨w.heap.size+1,3,none⟩ ?A0).heap[k]? = s.heap[k]?:=λk z=>by
   rw[hO_ _ ⟨w.heap.size+1,3,none⟩ k _ z.2,hO_ _ ⟨w.heap.size+1,2,none⟩ k _ z.2,hO_ _ ⟨w.heap.size+1,1,none⟩ k _ z.2,hO_ _ ⟨w.heap.size+1,0,none⟩ k _ z.2,hO_ _ ⟨w.heap.size,2,none⟩ k _ z.1]
  have XS:s.heap.size<=(((((s.setCell ⟨w.heap.size,2,none⟩ (.slice c b.v.ss.length d)).setCell ⟨w.heap.size+1,0,none⟩ (I_ b.v.au)).setCell ⟨w.heap.size+1,1,none⟩ (I_ b.v.nu)).setCell ⟨w.heap.size+1,2,none⟩ (.slice c b.v.ss.length d)).setCell ⟨w.heap.size+1,3,none⟩ ?A0).heap.size:=by simp
  generalize ((((s.setCell ⟨w.heap.size,2,none⟩ (.slice c b.v.ss.length d)).setCell ⟨w.heap.size+1,0,none⟩ (I_ b.v.au)).setCell ⟨w.heap.size+1,1,none⟩ (I_ b.v.nu)).setCell ⟨w.heap.size+1,2,none⟩ (.slice c b.v.ss.length d)).setCell ⟨w.heap.size+1,3,none⟩ ?A0=X at t XB J XS|-;have e0:=zb t 0 _ rfl;have e1:=zb t 1 _ rfl;have e2:=zb t 2 _ rfl;have e3:=zb t 3 _ rfl;have al:=HG.out;have am:=A.size;refine bP_ (v:=.tuple #[.agg #[I_ b.v.au,I_ b.v.nu,.slice c b.v.ss.length d,?A0],.bool (zbG (shw x.sh) b.v)]) (by simp[results,results156,go_sem,e0,e1,e2,e3,Z.out]) rfl ⟨⟨⟨⟨b.v,c,d⟩,⟨some ⟨g,0,none⟩,32,b.v.d⟩⟩,?_,rfl,⟨⟨?_,B.le,B.max,B.nil,?_⟩,?_,rfl⟩,?_,?_⟩,XB⟩
  .rw[Y.out]
  .exact zr1 J B.strs (λl m e=>by have:=(N l m e).1;omega)
  .intro l m e;exact nL_ (N l m e).2 XS
  .exact zcp J (af.out.below D) (λl m e _=>by cases e;omega)
  .intro l m e;have:=(N l m e).1;omega
  .intro l m e;cases e;omega
def Nd.wrt (n:Nd)(m:MC):Nd:=if n.room m then { n with recs:=n.recs++[m] } else n
theorem zjq (x:MV)(bs:List Int)(d:Option Addr)(n c:Nat)(sy:Int)(w:World)(l:n=bs.length)(m:zg w d c bs)(b:MAt w x)(f:zaT x)(g:0<=sy/\sy<=bs.length)(r:bs.length<=400000) :
  Calls prog 182 #[.agg #[.slice d n c,.int .i64 sy],.agg (mrow_ x.m)] w λe w'=>(bs.length+x.onTape.length<=400000/\zdM w w' e (bs++x.onTape) sy 0)\/(¬bs.length+x.onTape.length<=400000/\zdM w w' e [] 0 6):=by
 by_cases hl:bs.length+x.onTape.length<=400000
 .exact(zrJ x bs d n c sy w l m b f g (by rw[zlH]at hl;omega)).mono (λ_ _ h=>.inl ⟨hl,h⟩)
 .obtain⟨s,t⟩:=f.len b.dn;have p:∀W:World,B_ w W->Calls prog 213 #[.agg (mrow_ x.m)] W λe w'=>∃v,e=.returned (.tuple #[v,.int .i64 0])/\w'.ownsRow W.heap.size 5 1 v x.bytes.length (ub x.bytes)/\B_ W w':=λW j=>by
   have h:=zoD x.m x.ss x.bl x.pl x.cbl x.cpl x.ds x.vl W (b.at'.below j) (b.dig.below j) b.dn;have o:zcO x.m (zP x.m (zD x.m x.ss x.bl x.pl x.cbl x.cpl x.vl))=0:=f.rec0;rw[o]at h;exact h
  have h:=zmr x.m bs d n c sy 0 x.bytes w l m (by omega) (λh=>absurd rfl h) (λ_=>by omega) (by omega) p;have q:zgJ bs.length sy 0 x.bytes.length=6:=by
   rw[zlH]at hl;rw[zgJ,if_pos (zcr.2 ⟨by omega,g.1,g.2⟩),if_neg (by simp),if_pos (by omega)]
  rw[q,ziU,if_neg (by decide),ziV,if_neg (by decide)]at h;exact h.mono (λ_ _ h=>.inr ⟨hl,h⟩)
theorem zgZ (x:NM)(m:MV)(w:World)(U:Nat->Bool)(F o:Nat)(T:TypeId)(fc:Array Value)(h:zo w U F o T fc x)(hM:MAt (zq U w) m)(hI:zaT m)(hu:U8M m.bl m.pl m.cbl m.cpl m.ds) :
  Calls prog 140 #[.pointer (some ⟨F,o,none⟩),.agg (mrow_ m.m)] w λe w'=>e=.returned (.bool (x.v.room m.c))/\zal w U F o T fc x w' (x.v.wrt m.c):=by
 have hA:=zC w (.cells (mrow_ m.m) 66);have q0:=hN_ w (.cells (mrow_ m.m) 66);have aw:Hid ((zam x.ms).length=(zae x.v.recs).length):=by show _=_;rw[zes];rfl
 have ar:Hid ((zam x.ms).length<=400000/\x.syn<=(zam x.ms).length):=by show _/\_;rw[aw.out];exact⟨h.inv.tape,h.inv.syn⟩
 have HR:Hid (x.v.room m.c=decide ((zam x.ms).length+m.onTape.length<=400000)):=by show _=_;rw[Nd.room,aw.out,<-zoO]
 go_in;go_upto_region 1 with fail
 generalize w.alloc (.cells (mrow_ m.m) 66)=W0 at hA q0|-;have h0:=h.below hA;have az:=h0.cell 15 _ rfl;have aA:=h0.cell 16 _ rfl;have aD:w.heap.size<W0.heap.size:=ze q0;generalize hB:w.heap.size=B at q0|-;have HB:Hid (w.heap.size=B):=hB;clear hB aD;go_cut [5,6] (λu5 u6 wx=>∃(c:Nat) (bs:List Int) (b:Option Addr) (rc:Nat) (q sy:Int),u5=.pointer (some ⟨c,0,none⟩)/\u6=.int .i64 q/\B_ w wx/\w.heap.size<=c/\R_ wx c #[.slice b bs.length rc,.int .i64 sy] 114/\Hid (zg wx b rc bs/\(∀d f,b=some ⟨d,f,none⟩->w.heap.size<=d)/\((q=0/\(zam x.ms).length+m.onTape.length<=400000/\bs=zam x.ms++m.onTape/\sy=x.syn)\/(q=6/\¬(zam x.ms).length+m.onTape.length<=400000))))
 case first=>
  have J:B_ w W0.drew:=hA.drew;have an:=dC_ az;have ap:=dC_ aA;have al:=dQ_ q0;refine wR_ (S:=λw'=>w'.cell? ⟨F,o+15,none⟩=some (.slice x.ba (zam x.ms).length x.bc)/\w'.cell? ⟨F,o+16,none⟩=some (.int .i64 x.syn)/\R_ w' B (mrow_ m.m) 66) (by kernel_rfl) ⟨an,ap,al⟩ (λr=>?_);generalize W0.drew=u at J an ap al r|-;refine tks_ 4 [(0,8,.pointer (some ⟨F,o,none⟩)),(1,9,.pointer (some ⟨F,o,none⟩)),(2,10,.pointer (some ⟨F,o+15,none⟩)),(3,11,.agg #[.slice x.ba (zam x.ms).length x.bc,.int .i64 x.syn])] r ?_;simp only[tkf_,zf];refine tQ_ 4 12 (.agg (mrow_ m.m)) rfl rfl (Or.inl ⟨by rfl,λw0 aC=>zL 66 _ rfl B rfl 66 (mrow_ m.m) (0,0) _ aC.2.2 underlying66 rfl sMsg'⟩) r ?_;simp only[zf];refine wpAnyH_ready (rs:=[5,9]) (by kernel_rfl) (by simp) (AllReadyH.cons rfl (λK9 E=>?_) (AllReadyH.cons rfl (λK9 E=>?_) AllReadyH.nil))
  .skip
   refine zj rfl 13 rfl 182 [.tmp 11,.tmp 12] #[114,66] rfl [.agg #[.slice x.ba (zam x.ms).length x.bc,.int .i64 x.syn],.agg (mrow_ m.m)] rfl (eO_ func182) (λv w'=>(∃(bs:List Int) (b:Option Addr) (rc:Nat) (q sy:Int),v=.tuple #[.agg #[.slice b bs.length rc,.int .i64 sy],.int .i64 q]/\zg w' b rc bs/\(∀d f,b=some ⟨d,f,none⟩->u.heap.size<=d/\d<w'.heap.size)/\((q=0/\(zam x.ms).length+m.onTape.length<=400000/\bs=zam x.ms++m.onTape/\sy=x.syn)\/(q=6/\¬(zam x.ms).length+m.onTape.length<=400000)))/\B_ u w') ((zjq m (zam x.ms) x.ba _ x.bc x.syn u rfl ((h.below J).tap.sub (zK _ _)) ((hM.sub (zK _ _)).below J) hI ⟨by omega,by have:=ar.out.2;omega⟩ ar.out.1).mono (λe w' k=>by
   rcases k with⟨C,b,rc,D,A,L,M⟩|⟨C,b,rc,D,A,L,M⟩
   .exact⟨_,D,⟨_,b,rc,0,_,rfl,A,L,.inl ⟨rfl,C,rfl,rfl⟩⟩,M⟩
   .exact⟨_,D,⟨_,b,rc,6,_,rfl,A,L,.inr ⟨rfl,C⟩⟩,M⟩)) ?_
   rintro v t⟨⟨bs,b,rc,q,sy,rfl,ab,ai,ay⟩,hbc⟩;have I:=zm J hbc;have V:=zr hbc an;have Y:=zr hbc ap;have O:=zk hbc al;refine E.out _ _ ⟨V,Y,O⟩ (λr=>?_);simp only[zf];refine tks_ 3 [(6,7,.tuple #[.agg #[.slice b bs.length rc,.int .i64 sy],.int .i64 q]),(7,14,.agg #[.slice b bs.length rc,.int .i64 sy]),(8,15,.int .i64 q)] r ?_;simp only[tkf_,zf];refine zE 9 rfl (λK9 E=>?_);refine zy rfl 5 rfl (.pointer (some ⟨t.heap.size,0,none⟩)) (t.alloc (.cells #[.slice none 0 0,.int .i64 0] 114)) (by go_simp) ?_;have z:=zC t (.cells #[.slice none 0 0,.int .i64 0] 114);have s:=hN_ t (.cells #[.slice none 0 0,.int .i64 0] 114);have au:=zm I z;have G:w.heap.size<=t.heap.size:=I.size;have ae:=zr z V;have X:F≠t.heap.size:=Nat.ne_of_lt (bL_ V);have af:=zr z Y;have Z:F≠t.heap.size:=Nat.ne_of_lt (bL_ Y);have ad:=zk z O;have R:B≠t.heap.size:=Nat.ne_of_lt (ze O);have ab:=ab.below z;have ac:∀d f,b=some ⟨d,f,none⟩->t.heap.size≠d:=λd f e=>by have:=(ai d f e).2;omega
   refine E.out _ _ ⟨ae,af,ad⟩ (λr=>?_);simp only[zf];have aa:t.heap.size<(t.alloc (.cells #[.slice none 0 0,.int .i64 0] 114)).heap.size:=by simp
   generalize t.alloc (.cells #[.slice none 0 0,.int .i64 0] 114)=H at z s au aa ae af ad ab r|-;clear z;generalize t.heap.size=c at s G aa X Z R ac|-;have aH:=zb s 0 _ rfl;have aF:=zd s 0;have aI:=zb s 1 _ rfl;have aG:=zd s 1;refine zE 10 rfl (λK9 E=>?_);refine zX rfl rfl ((H.setCell ⟨c,0,none⟩ (.slice b bs.length rc)).setCell ⟨c,1,none⟩ (.int .i64 sy)) (by go_simp) ?_;have ak:((H.setCell ⟨c,0,none⟩ (.slice b bs.length rc)).setCell ⟨c,1,none⟩ (.int .i64 sy)).heap[c]? = some (.cells #[.slice b bs.length rc,.int .i64 sy] 114 (0,0)):=by simpa using(hS_ _ _ 1 _ _ (.int .i64 sy) (hS_ _ _ 0 _ _ (.slice b bs.length rc) s))
   have ah:=((au.setCell (p:=⟨c,0,none⟩) G (.slice b bs.length rc)).setCell (p:=⟨c,1,none⟩) G (.int .i64 sy));have ao:=(zar (k:=1) (v:=.int .i64 sy) (zar (k:=0) (v:=.slice b bs.length rc) ae X) X);have aq:=(zar (k:=1) (v:=.int .i64 sy) (zar (k:=0) (v:=.slice b bs.length rc) af Z) Z);have am:=(zh (j:=1) (v:=.int .i64 sy) (zh (j:=0) (v:=.slice b bs.length rc) ad R) R);have ag:zg ((H.setCell ⟨c,0,none⟩ (.slice b bs.length rc)).setCell ⟨c,1,none⟩ (.int .i64 sy)) b rc bs:=(ab.setCellT c 0 _ ac).setCellT c 1 _ ac;have ax:∀d f,b=some ⟨d,f,none⟩->w.heap.size<=d:=λd f e=>by have:=(ai d f e).1;have:=J.size;have:=I.size;omega
   refine E.out _ _ ⟨ao,aq,am⟩ (λr=>?_);generalize ((H.setCell ⟨c,0,none⟩ (.slice b bs.length rc)).setCell ⟨c,1,none⟩ (.int .i64 sy))=VE at ak ah ao aq am ag r|-;refine zU 11 6 (.int .i64 q) rfl rfl r ?_;simp only[zf];clear r;refine wD_ (by kernel_rfl) ?_ _;go_wp2_with fail
   go_meet
   case rel=>exact⟨c,bs,b,rc,q,sy,rfl,rfl,ah,G,ak,⟨ag,ax,ay⟩⟩
  .skip
   refine zy rfl 5 rfl (.pointer (some ⟨u.heap.size,0,none⟩)) (u.alloc (.cells #[.slice none 0 0,.int .i64 0] 114)) (by go_simp) ?_;have z:=zC u (.cells #[.slice none 0 0,.int .i64 0] 114);have s:=hN_ u (.cells #[.slice none 0 0,.int .i64 0] 114);have I:=zm J z;have G:w.heap.size<=u.heap.size:=J.size;have V:=zr z an;have X:F≠u.heap.size:=Nat.ne_of_lt (bL_ an);have Y:=zr z ap;have Z:F≠u.heap.size:=Nat.ne_of_lt (bL_ ap);have O:=zk z al;have R:B≠u.heap.size:=Nat.ne_of_lt (ze al);refine E.out _ _ ⟨V,Y,O⟩ (λr=>?_);simp only[zf];have aa:u.heap.size<(u.alloc (.cells #[.slice none 0 0,.int .i64 0] 114)).heap.size:=by simp
   generalize u.alloc (.cells #[.slice none 0 0,.int .i64 0] 114)=t at z s I aa V Y O r|-;clear z;generalize u.heap.size=c at s G aa X Z R|-;refine zE 5 rfl (λK9 E=>?_);have aN:=aa;refine zj rfl 13 rfl 182 [.tmp 11,.tmp 12] #[114,66] rfl [.agg #[.slice x.ba (zam x.ms).length x.bc,.int .i64 x.syn],.agg (mrow_ m.m)] rfl (eO_ func182) (λv w'=>(∃(bs:List Int) (b:Option Addr) (rc:Nat) (q sy:Int),v=.tuple #[.agg #[.slice b bs.length rc,.int .i64 sy],.int .i64 q]/\zg w' b rc bs/\(∀d f,b=some ⟨d,f,none⟩->t.heap.size<=d/\d<w'.heap.size)/\((q=0/\(zam x.ms).length+m.onTape.length<=400000/\bs=zam x.ms++m.onTape/\sy=x.syn)\/(q=6/\¬(zam x.ms).length+m.onTape.length<=400000)))/\B_ t w') ((zjq m (zam x.ms) x.ba _ x.bc x.syn t rfl ((h.below I).tap.sub (zK _ _)) ((hM.sub (zK _ _)).below I) hI ⟨by omega,by have:=ar.out.2;omega⟩ ar.out.1).mono (λe w' k=>by
   rcases k with⟨C,b,rc,D,A,L,M⟩|⟨C,b,rc,D,A,L,M⟩
   .exact⟨_,D,⟨_,b,rc,0,_,rfl,A,L,.inl ⟨rfl,C,rfl,rfl⟩⟩,M⟩
   .exact⟨_,D,⟨_,b,rc,6,_,rfl,A,L,.inr ⟨rfl,C⟩⟩,M⟩)) ?_
   rintro v H⟨⟨bs,b,rc,q,sy,rfl,ab,ai,ay⟩,hbc⟩;have au:=zm I hbc;have ae:=zr hbc V;have af:=zr hbc Y;have ad:=zk hbc O;have s:=zk hbc s;refine E.out _ _ ⟨ae,af,ad⟩ (λr=>?_);simp only[zf];refine tks_ 3 [(6,7,.tuple #[.agg #[.slice b bs.length rc,.int .i64 sy],.int .i64 q]),(7,14,.agg #[.slice b bs.length rc,.int .i64 sy]),(8,15,.int .i64 q)] r ?_;simp only[tkf_,zf];have ac:∀d f,b=some ⟨d,f,none⟩->c≠d:=λd f e=>by have:=(ai d f e).1;omega
   have aH:=zb s 0 _ rfl;have aF:=zd s 0;have aI:=zb s 1 _ rfl;have aG:=zd s 1;refine zE 10 rfl (λK9 E=>?_);refine zX rfl rfl ((H.setCell ⟨c,0,none⟩ (.slice b bs.length rc)).setCell ⟨c,1,none⟩ (.int .i64 sy)) (by go_simp) ?_;have ak:((H.setCell ⟨c,0,none⟩ (.slice b bs.length rc)).setCell ⟨c,1,none⟩ (.int .i64 sy)).heap[c]? = some (.cells #[.slice b bs.length rc,.int .i64 sy] 114 (0,0)):=by simpa using(hS_ _ _ 1 _ _ (.int .i64 sy) (hS_ _ _ 0 _ _ (.slice b bs.length rc) s))
   have ah:=((au.setCell (p:=⟨c,0,none⟩) G (.slice b bs.length rc)).setCell (p:=⟨c,1,none⟩) G (.int .i64 sy));have ao:=(zar (k:=1) (v:=.int .i64 sy) (zar (k:=0) (v:=.slice b bs.length rc) ae X) X);have aq:=(zar (k:=1) (v:=.int .i64 sy) (zar (k:=0) (v:=.slice b bs.length rc) af Z) Z);have am:=(zh (j:=1) (v:=.int .i64 sy) (zh (j:=0) (v:=.slice b bs.length rc) ad R) R);have ag:zg ((H.setCell ⟨c,0,none⟩ (.slice b bs.length rc)).setCell ⟨c,1,none⟩ (.int .i64 sy)) b rc bs:=(ab.setCellT c 0 _ ac).setCellT c 1 _ ac;have ax:∀d f,b=some ⟨d,f,none⟩->w.heap.size<=d:=λd f e=>by have:=(ai d f e).1;have:=J.size;have:=I.size;omega
   refine E.out _ _ ⟨ao,aq,am⟩ (λr=>?_);generalize ((H.setCell ⟨c,0,none⟩ (.slice b bs.length rc)).setCell ⟨c,1,none⟩ (.int .i64 sy))=VE at ak ah ao aq am ag r|-;refine zU 11 6 (.int .i64 q) rfl rfl r ?_;simp only[zf];clear r;refine wD_ (by kernel_rfl) ?_ _;go_wp2_with fail
   go_meet
   case rel=>exact⟨c,bs,b,rc,q,sy,rfl,rfl,ah,G,ak,⟨ag,ax,ay⟩⟩
 case rest=>
  obtain⟨c,bs,b,rc,q,sy,rfl,rfl,av,G,qn,hX⟩:=hcut;have h1:=h.below av;apply_assumption;clear az aA q0 HB h0 hA;by_cases hroom:(zam x.ms).length+m.onTape.length<=400000
  .obtain⟨C,D,A⟩:=hX.out;obtain⟨rfl,-,rfl,rfl⟩:q=0/\(zam x.ms).length+m.onTape.length<=400000/\bs=zam x.ms++m.onTape/\sy=x.syn:=by
    rcases A with g|g
    .exact g
    .exact absurd hroom g.2
   have HX:Hid (zg wc b rc (zam x.ms++m.onTape)/\∀d f,b=some ⟨d,f,none⟩->w.heap.size<=d):=⟨C,D⟩;have HO:Hid _:=hroom;clear C D A hX hroom;have e0:=zb qn 0 _ rfl;have e1:=zb qn 1 _ rfl;have aJ:=h1.cell 15 _ rfl;have aK:=h1.cell 16 _ rfl;have aL:=h1.free (o+15);have aM:=h1.free (o+16);have HL:Hid ((zam x.ms++m.onTape).length=(zam (x.ms++[m])).length):=by show _=_;rw[zfQ]
   generalize hN:(zam x.ms++m.onTape).length=N at e0;rw[hN]at HL;clear hN;go_wp2_with fail
   go_ret;have aj:x.v.room m.c=true:=by rw[HR.out];exact dT_ HO.out
   refine⟨by rw[aj];rfl,?_⟩;have hw:x.v.wrt m.c={ x.v with recs:=x.v.recs++[m.c] }:=if_pos aj;rw[hw,HL.out];have aE:=h.put_tape (w2:=wc) (a':=b) (c':=rc) (l':=x.ms++[m]) (sy:=x.syn) av ?_ ?_ ?_
   .obtain⟨U',aB,x',y1,y2,y3⟩:=aE;exact⟨U',aB,x',y1,y2,by rw[y3];simp[NM.v]⟩
   .rw[zfQ];exact zci HX.out.1 (λd f e _=>h.bnd.new (HX.out.2 d f e))
   .intro y hy;rcases List.mem_append.1 hy with g|g
    .exact h.ems y g
    .obtain rfl:y=m:=by simpa using g
     exact⟨⟨_,hM⟩,hI,hu⟩
   .have:=HO.out;have hT:=aw.out;have hv:=h.inv.syn;refine h.inv.tape_ (l:=(x.ms++[m]).map MV.c) ?_ ?_
    .rw[<-zes,zfQ,lP_];exact this
    .rw[<-zes,zfQ,lP_,hT];exact nT_ hv (Nat.le_add_right _ _)
  .obtain⟨C,D,A⟩:=hX.out;obtain⟨rfl,-⟩:q=6/\¬(zam x.ms).length+m.onTape.length<=400000:=by
    rcases A with g|g
    .exact absurd g.2.1 hroom
    .exact g
   have HO:Hid _:=hroom;clear C D A hX hroom;go_wp2_with fail
   go_ret;have aj:x.v.room m.c=false:=by rw[HR.out];exact dF_ HO.out
   refine⟨by rw[aj];rfl,?_⟩;have hw:x.v.wrt m.c=x.v:=by rw[Nd.wrt,aj];rfl
   rw[hw];exact zal.quiet h av
theorem zt6:(prog.info? 161).map (λi=>(i.zero,i.size,i.bytes))=some (some (.agg #[.int .i64 0,.int .i64 0,.slice none 0 0,.slice none 0 0]),4,64):=by kernel_rfl
theorem sSh:(prog.info? 161).map (·.size)=some 4:=by kernel_rfl
theorem zlP (s:Sh):∀u∈s.cs,u.oneCell'=true:=by
 intro u b;simp[Sh.cs]at b;rcases b with rfl|rfl|rfl|rfl<;>rfl
theorem zzc (n:Nd)(m:MC):(n.wrt m).k=n.k:=by rw[Nd.wrt];split<;>rfl
theorem NM.v_sh (x:NM)(a:Option Addr)(c:Nat)(s:Sh):({ x with sa:=a,sc:=c,sh:=x.sh++[s] }:NM).v={ x.v with k:={ x.v.k with sh:=x.v.k.sh++[s.b.v] } }:=by simp[NM.v,shw]
theorem zt7 {n:Nd}{b:BW}(d:zbG n.k.sh b=true)(c:n.room (zed b)=true):n.hearB b={ n.wrt (zed b)with k:={ n.k with sh:=n.k.sh++[b] } }:=by
 rw[Nd.hearB,d,c,Nd.wrt,c];rfl
theorem znj {n:Nd}{b:BW}(h:zbG n.k.sh b=false\/n.room (zed b)=false):n.hearB b=n:=by
 rw[Nd.hearB];rcases h with h|h<;>simp[h]
theorem zlQ {l:List BW}{b:BW}(h:zbG l b=true):l.length<800:=by
 simp only[zbG,Bool.and_eq_true,decide_eq_true_eq]at h;exact h.2
theorem za3.sh_ {n:Nd}(h:za3 n){b:BW}(j:n.k.sh.length<800)(f:b.f=0):za3 { n with k:={ n.k with sh:=n.k.sh++[b] } }:=
 ⟨h.nu,h.pool,by simp;omega,λc d=>by
  rcases List.mem_append.1 d with g|g
  .exact h.shf c g
  .obtain rfl:c=b:=by simpa using g
   exact f,h.dag,h.own,h.ovl,h.vot,h.tape,h.syn,h.wai,h.trn,h.tab,h.u8t,h.u8s,h.ou8,h.du8⟩
theorem zlR (x:NM)(b:Bc)(w:World)(U:Nat->Bool)(F o:Nat)(T:TypeId)(R:Array Value)(h:zo w U F o T R x)(V:zcN (zq U w) b)(hf:b.v.f=0) :
  Calls prog 126 #[.pointer (some ⟨F,o,none⟩),.agg #[.int .i64 b.v.au,.int .i64 b.v.nu,.slice b.ta b.v.ss.length b.tc]] w λe w'=>(∃v,e=.returned v)/\zal w U F o T R x w' (x.v.hearB b.v):=by
 have Y:=zC w (.cells #[.int .i64 b.v.au,.int .i64 b.v.nu,.slice b.ta b.v.ss.length b.tc] 58);have X:=hN_ w (.cells #[.int .i64 b.v.au,.int .i64 b.v.nu,.slice b.ta b.v.ss.length b.tc] 58);go_in;go_upto_region 1 with fail
 generalize w.alloc (.cells #[.int .i64 b.v.au,.int .i64 b.v.nu,.slice b.ta b.v.ss.length b.tc] 58)=W0 at Y X|-;have h0:=h.below Y;have ax:=V.sub (zK U w);have a0:=zb X 0 _ rfl;have a1:=zb X 1 _ rfl;have a2:=zb X 2 _ rfl;go_wp2_with fail
 refine(zlO x b W0 U F o T R h0 (ax.below Y) hf).mono ?_;rintro e N⟨⟨⟨⟨v9,f,l⟩,d⟩,he,hsv,hSA,hs1,hs2⟩,hb1⟩
 simp only at hsv
 subst hsv;subst he;dsimp only at hs1 hs2|-;have ah:=zm Y hb1;have az:=zk hb1 X;have aN:=Y.size;have hS:∀W:World,B_ N W->zd3 (zq U W) ⟨⟨b.v,f,l⟩,d⟩:=λW hW=>(hSA.hid (U:=U) (λsb so e=>h.bnd.new (by have:=hs1 sb so e;omega)) (λsb so e=>h.bnd.new (by have:=hs2 sb so e;omega))).sub (zao.below U hW).sub;have HS:Hid _:=hS;clear hSA hs1 hs2 a0 a1 a2 ax hS;have Z:=zC N (.cells #[.int .i64 b.v.au,.int .i64 b.v.nu,.slice f b.v.ss.length l,.slice d.sa d.bs.length d.cap] 161);have q2:=hN_ N (.cells #[.int .i64 b.v.au,.int .i64 b.v.nu,.slice f b.v.ss.length l,.slice d.sa d.bs.length d.cap] 161);go_upto_region 2 with fail
 generalize N.alloc (.cells #[.int .i64 b.v.au,.int .i64 b.v.nu,.slice f b.v.ss.length l,.slice d.sa d.bs.length d.cap] 161)=W2 at Z q2|-;have ai:=zm ah Z;have h2:=h.below ai;have af:=zk Z az;have ap:Hid (zd3 (zq U W2) ⟨⟨b.v,f,l⟩,d⟩):=HS.out W2 Z;have ak:Hid (U N.heap.size=false):=h.bnd.new ah.size;have aK:Hid (w.heap.size<=N.heap.size):=ah.size;generalize N.heap.size=A at q2 ak aK|-;clear HS X az Z hb1 aN h0;generalize hT:zbG (shw x.sh) b.v=tb;have HT:Hid _:=hT;clear hT;cases tb with
 | false=>
  go_wp2_with fail
  go_end0;exact⟨⟨_,rfl⟩,by rw[znj (.inl HT.out)];exact zal.quiet h ai⟩
 | true=>
  have m0:=zb af 0 _ rfl;have m1:=zb af 1 _ rfl;have m2:=zb af 2 _ rfl;go_wp2_with fail
  refine(zmy b W2).mono ?_;rintro _ w3⟨rfl,ae⟩;dsimp only;have aj:=zm ai ae;have h3:=h.below aj;have q3:=zk ae q2;have aq:Hid (zd3 (zq U w3) ⟨⟨b.v,f,l⟩,d⟩):=ap.out.sub (zao.below U ae).sub;clear m0 m1 m2 af q2 ap h2;go_wp2_with fail
  refine(zgZ x (zfr b) w3 U F o T R h3 (ztM (V.sub (zao.below U aj).sub) (zkN hf)) (zqV hf) (ztQ b)).mono ?_;rintro _ w4⟨rfl,O,av,c,J,n4,v4⟩;dsimp only;have aw:=(NTo.below (F:=F) (o:=o) U R x aj).trans n4;have q4:=n4.box h3 q3 ak.out;have ar:Hid (O A=false):=n4.hides (ze q3) ak.out;have aG:Hid (zd3 (zq O w4) ⟨⟨b.v,f,l⟩,d⟩):=aq.out.sub (n4.sub h3);have al:(zfr b).c=zed b.v:=rfl;rw[al]at v4;rw[al];generalize hR:x.v.room (zed b.v)=rm;have HR:Hid _:=hR;have HV:Hid _:=v4;clear hR v4 al q3 aq ae h3;cases rm with
  | false=>
   go_wp2_with fail
   go_end0;refine⟨⟨_,rfl⟩,?_⟩;rw[znj (.inr HR.out)];exact⟨O,av,c,J,aw,by rw[HV.out,Nd.wrt,HR.out];rfl⟩
  | true=>
   have aB:∀P:Prop,¬(O A=true/\P):=λP k=>by have:=k.1;rw[ar.out]at this;cases this
   have aA:A≠F:=λe=>by have:=ar.out;rw[e,J.fu]at this;cases this
   have aI:c.sh.length<800:=by
    have e1:=congrArg (λn=>n.k.sh.length) HV.out;have e2:=zlQ HT.out;simp only[Nd.wrt]at e1;have e3:(shw c.sh).length=(shw x.sh).length:=by
     rw[HR.out]at e1;exact e1
    rw[zb6,zb6]at e3;rw[zb6]at e2;omega
   have HB:Hid (A=A):=rfl;have au:∀(D B:World) (y:Option Addr) (z:Nat),B_ w4 D->B.ownsRow 0 161 4 (.slice y (c.sh++[(⟨⟨b.v,f,l⟩,d⟩:Sh)]).length z) (c.sh++[(⟨⟨b.v,f,l⟩,d⟩:Sh)]).length (shv (c.sh++[(⟨⟨b.v,f,l⟩,d⟩:Sh)]))->zV D (.slice c.sa c.sh.length c.sc) B (.slice y (c.sh++[(⟨⟨b.v,f,l⟩,d⟩:Sh)]).length z)->(∃v,Ending.returned (.tuple #[])=.returned v)/\zal w U F o T R x (B.setCell ⟨F,o+4,none⟩ (.slice y (c.sh.length+1) z)) (x.v.hearB b.v):=by
    intro D B y z V ho G;refine⟨⟨_,rfl⟩,?_⟩;rw[zt7 HT.out HR.out];have h1:=J.below V;have aL:(c.sh++[(⟨⟨b.v,f,l⟩,d⟩:Sh)]).length=c.sh.length+1:=by simp
    have ay:=h1.more_sh G ho (λs hs=>?_) ?_
    .rw[aL]at ay;refine zal.after (aw.trans (NTo.below O av c V)) ?_;obtain⟨U',aH,x',k1,k2,k3⟩:=ay;refine⟨U',aH,x',k1,k2,?_⟩;rw[k3,NM.v_sh,HV.out,zzc]
    .have k:=h1.grew_sub G (λq e=>.inr (.inr (.inr (.inl e))));rcases List.mem_append.1 hs with g|g
     .exact(h1.esh s g).sub k
     .obtain rfl:s=⟨⟨b.v,f,l⟩,d⟩:=by simpa using g
      exact(aG.out.sub (zao.below O V).sub).sub k
    .rw[NM.v_sh];exact J.inv.sh_ (b:=b.v) (by show(shw c.sh).length<800;rw[zb6];exact aI) hf
   go_upto_region 3 with fail
   obtain⟨ti,aC,aD,aE,aF⟩:=info_parts zt6;have ad:=dB_ w4;have ag:=dQ_ q4;refine wR_ (S:=λw'=>R_ w' A #[.int .i64 b.v.au,.int .i64 b.v.nu,.slice f b.v.ss.length l,.slice d.sa d.bs.length d.cap] 161) (by kernel_rfl) ag (λm=>?_);generalize w4.drew=r at ad ag m|-;have aM:=J.below ad;refine tks_ 4 [(0,19,.pointer (some ⟨F,o,none⟩)),(1,20,.pointer (some ⟨F,o,none⟩)),(2,21,.pointer (some ⟨F,o,none⟩)),(3,22,.pointer (some ⟨F,o+4,none⟩))] m ?_;simp only[tkf_,zf];refine tQ_ 5 24 (.agg #[.int .i64 b.v.au,.int .i64 b.v.nu,.slice f b.v.ss.length l,.slice d.sa d.bs.length d.cap]) rfl rfl (Or.inl ⟨by rfl,λw0 aJ=>zL 161 _ rfl A rfl 161 #[.int .i64 b.v.au,.int .i64 b.v.nu,.slice f b.v.ss.length l,.slice d.sa d.bs.length d.cap] (0,0) _ aJ underlying161 rfl sSh⟩) m ?_;simp only[zf];refine wpAnyH_ready (rs:=[4,6]) (by kernel_rfl) (by simp) (AllReadyH.cons rfl (λH p=>?_) (AllReadyH.cons rfl (λH p=>?_) AllReadyH.nil));have an:=aM.cell 4 _ rfl;refine zy rfl 23 rfl (.slice c.sa c.sh.length c.sc) r (by go_simp) ?_;refine p.out _ _ m (λm=>?_);simp only[zf];clear an;refine zE 6 rfl (λH p=>?_)
   all_goals
    refine zy rfl 25 rfl (.slice (some ⟨r.heap.size,0,none⟩) 1 1) (r.alloc (.cells #[.int .i64 b.v.au,.int .i64 b.v.nu,.slice f b.v.ss.length l,.slice d.sa d.bs.length d.cap] 161)) (by go_simp) ?_;have C:=zC r (.cells #[.int .i64 b.v.au,.int .i64 b.v.nu,.slice f b.v.ss.length l,.slice d.sa d.bs.length d.cap] 161);have L:=zm ad C;have I:=hN_ r (.cells #[.int .i64 b.v.au,.int .i64 b.v.nu,.slice f b.v.ss.length l,.slice d.sa d.bs.length d.cap] 161);have M:=zk C ag;refine p.out _ _ M (λm=>?_);simp only[zf];generalize r.alloc (.cells #[.int .i64 b.v.au,.int .i64 b.v.nu,.slice f b.v.ss.length l,.slice d.sa d.bs.length d.cap] 161)=D at C L I M m|-;clear C;generalize r.heap.size=A at I|-;have t:=J.below L
   rotate_left
   refine zE 4 rfl (λH p=>?_);have an:=t.cell 4 _ rfl;refine zy rfl 23 rfl (.slice c.sa c.sh.length c.sc) D (by go_simp) ?_;refine p.out _ _ m (λm=>?_);simp only[zf];clear an
   rotate_left
   all_goals
    refine zE 7 rfl (λH p=>?_);refine zaz rfl 26 rfl (.tmp 23) (.tmp 25) 111 rfl 0 161 ti (.agg #[.int .i64 0,.int .i64 0,.slice none 0 0,.slice none 0 0]) 4 64 underlying111 aC aD aE aF rfl (by decide) (.slice c.sa c.sh.length c.sc) c.sh.length (shv c.sh) rfl t.rsh ⟨A,0,none⟩ 1 1 (Sh.cs ⟨⟨b.v,f,l⟩,d⟩) rfl rfl (λj u hu=>by rw[zaP,Nat.zero_add];exact zb I j u (by rw[<-Array.getElem?_toList];exact hu)) (zlP _) (by unfold maxLen;omega) (by omega) (nZ_ _) ?_;intro v3 B ab E;obtain⟨y,z,am⟩:=zH ab;subst am;have ac:=E.row M (λe=>aB _ (t.su _ (.inr (.inr (.inr (.inl (zp e)))))));have aa:=E.row t.blk (λe=>(t.su _ (.inr (.inr (.inr (.inl (zp e)))))).2 rfl);refine p.out _ _ ac (λm=>?_);simp only[zf];refine tks_ 2 [(8,27,.pointer (some ⟨F,o,none⟩)),(9,28,.pointer (some ⟨F,o+4,none⟩))] m ?_;simp only[tkf_,zf];refine zE 10 rfl (λH p=>?_);have aO:=zb aa (o+4) _ (t.cel 4 (by decide));have aP:=zd aa (o+4);refine zX rfl rfl (B.setCell ⟨F,o+4,none⟩ (.slice y (c.sh.length+1) z)) (by go_simp) ?_;have ao:=zh (b:=F) (j:=o+4) (v:=.slice y (c.sh.length+1) z) ac (λe=>aA e);refine p.out _ _ ao (λm=>?_);refine wD_ (by kernel_rfl) ?_ _;go_wp2_with fail
    go_end0;exact au D B y z L (by rw[zi0];simpa using ab) (by simpa using E)
def zwI (w w':World)(e:Ending)(l:List CV)(rd:Int)(pl:List zi):Prop:=
 (zdz l rd (bss pl)=9/\e=.returned (.tuple #[O_,I_ 9]))\/(zdz l rd (bss pl)≠9/\∃ma mc ms,e=.returned (.tuple #[.slice ma (List.length ms) mc,I_ 0])/\bss ms=zmj l (bss pl)/\zx w' ma mc ms/\za1 w.heap.size ma ms)
theorem zkO (c:List Ct)(s:Nat)(X:Option Addr)(I:Nat)(da:Option Addr)(dc:Nat)(ds:List zi)(au rd:Int)(R:Option Addr)(U T:Nat)(pl:List zi)(M:Option Addr)(pc:Nat)(w:World)(hs:zee w s c X I da dc ds)(aO:pl.length<=4)(aP:1<=rd/\rd<=1048576)(A:zbT w M pl)(aC:∀p∈pl,p.bs.length<=140737488355328) :
  Calls prog 194 #[P_ s 0,.agg #[I_ au,I_ rd,.slice R U T,.slice M pl.length pc]] w λe w'=>zwI w w' e (zI c) rd pl/\B_ w w':=by
 refine kO_ ?A0 ?_;exact Obj.cells #[I_ au,I_ rd,.slice R U T,.slice M pl.length pc] 61;have B:=zC w ?A0;have r1:=hN_ w ?A0;obtain⟨i,hi,aG,aH,aI⟩:=info_parts zhc;have aQ:=hs.at'.small;have aJ:=hs.at'.cle;have aK:=hs.at'.cmax;go_in;go_wp2_with fail
 generalize w.alloc ?A0=g at B r1|-;have aA:w.heap.size<g.heap.size:=ze r1;go_loopw [13,6] (λj v wr=>∃(m:Nat) (ms:List zi),m<=pl.length/\j=I_ m/\bss ms=zdL (zI c) (bss pl) m/\z8 wr g.heap.size v ms/\zb5 (zI c) rd (bss pl) m≠9/\wr.ownsRow g.heap.size 51 1 v ms.length (pv ms)/\B_ g wr) (λj _ _=>pl.length-(intOf j).toNat)
 case atStart=>exact⟨0,[],nZ_ _,rfl,rfl,(λp A=>by cases A),by rw[zb5];decide,oN_ _ _ _ _,bR_ _ _⟩
 case round=>
  obtain⟨m,ms,hm,rfl,C,aa,L,ho,ab⟩:=hrel;have ae:=zm B ab;have s1:=(ab.block _ aA).trans r1;have d1:=zb s1 1 (I_ rd) rfl;have ah:=hs.below ae;have az:=ah.box;have b0:=zb az 0 (.slice X c.length I) rfl;have ao:=A.below ae;have aN:ms.length<=m:=by
   have:=congrArg List.length C;rw[zcQ]at this;rw[this];exact zot _ _ _
  by_cases hlt:m<pl.length
  .rcases ao.cells with ac|⟨pb,po,rfl,ac⟩
   .subst ac;simp at hlt
   have ck:=ac m hlt;have hx:=ao.each (pl[m]) (gM_ hlt);have aF:=aC (pl[m]) (gM_ hlt);have aM:(m:Int)<pl.length:=by omega
   have z:=zw5 pl m hlt;have al:m<(bss pl).length:=by rw[zcQ];exact hlt
   have Hn:Hid (pOf (zI c) (pl[m]).bs<0->zb5 (zI c) rd (bss pl) (m+1)≠9/\zdL (zI c) (bss pl) (m+1)=bss ms++[(pl[m]).bs]):=by
    show _->_;intro h;refine⟨?_,?_⟩
    .rw[zlD _ _ _ m L (by rw[z];exact h)];decide
    .rw[zdL,z,if_pos h,C]
   have H:Hid (¬pOf (zI c) (pl[m]).bs<0->(zaM (zI c) (pOf (zI c) (pl[m]).bs).toNat).rd≠rd-1->zdz (zI c) rd (bss pl)=9):=by
    show _->_->_;intro Y h2;exact zpW _ _ _ m (by rw[z];exact Y) (by rw[z];exact h2) al
   have F:Hid (¬pOf (zI c) (pl[m]).bs<0->(zaM (zI c) (pOf (zI c) (pl[m]).bs).toNat).rd=rd-1->zb5 (zI c) rd (bss pl) (m+1)≠9/\bss ms=zdL (zI c) (bss pl) (m+1)):=by
    show _->_->_;intro Y h2;refine⟨?_,?_⟩
    .rw[zos _ _ _ m (by rw[z];exact Y) (by rw[z];exact h2)];exact L
    .rw[zdL,z,if_neg Y,C]
   have hB:=zrC (zI c) (pl[m]).bs;rw[zbv]at hB;have ai:∀k:Nat,k<c.length->∃f d,X=some ⟨f,d,none⟩/\wr.cell? ⟨f,d+k*5+1,none⟩=some (I_ (zaM (zI c) k).rd):=λk hk=>by
    obtain⟨f,d,e,_,V,_⟩:=ah.at'.certs.at k hk;exact⟨f,d,e,by rw[zk4 c k hk];exact V⟩
   have ad:Hid _:=ai;clear L z ac al ai C;generalize pl[m]=p at*;go_wp2_with fail
   refine(zmw c s X I da dc ds p.bs p.sa _ p.cap wr ah rfl hx).mono ?_;rintro _ O⟨rfl,l⟩;dsimp only;have af:=zm ab l;have am:=zw ho l;have t1:=zr l d1;have t0:=zr l b0;have av:z8 O g.heap.size _ ms:=aa.same l.size (λp A b d e=>l.block b ((aa p A).2 b d e).2.1);generalize pOf (zI c) p.bs=r at*;by_cases hr:r<0
   .obtain⟨D,E⟩:=Hn.out hr;have HX:Hid _:=D;have HY:Hid _:=E;clear Hn H F ad D E;obtain rfl:r=-1:=by omega
    go_wp2_with fail
    refine(zeH p.bs p.sa _ p.cap O rfl (hx.below l) aF).mono ?_;rintro e w2⟨N,rc,he,aD,ap,ag⟩;subst he;dsimp only;have Z:=zm af ag;have an:=zw am ag;go_wp2_with (at_builtin;refine wpList_append_own_at _ rfl _ _ 59 rfl g.heap.size 51 i (O_) 1 24 underlying59 hi aG aH aI rfl (by decide) _ ms.length _ rfl (oA_ an _) ⟨w2.heap.size,0,none⟩ 1 1 [.slice N p.bs.length rc] rfl rfl (zag _ _ _) (by intro u hu;simp at hu;subst hu;rfl) (by unfold maxLen;omega) (by omega) (zB Z.size _) ?_;intro v1 w3 aB ak _ ax)
    have G:=zV.of ak ax;have ay:=zm l ag;have aw:=aa.more_at (q:=⟨N,rc,p.bs⟩) ab.size ho ay (λf d e=>⟨nT_ l.size (ap f d e).1,(ap f d e).2⟩) aD G;have ar:=Below.grown (Z.alloc Z.size _) ak (zB Z.size _) (λq e=>(an.lt q e).1);go_roundw
    case rel=>
     have J:∃(o:Nat) (t:List zi),o<=pl.length/\(Value.int .i64 ((m:Int)+1))=I_ o/\bss t=zdL (zI c) (bss pl) o/\z8 w3 g.heap.size v1 t/\zb5 (zI c) rd (bss pl) o≠9/\w3.ownsRow g.heap.size 51 1 v1 t.length (pv t)/\B_ g w3:=
      ⟨m+1,ms++[⟨N,rc,p.bs⟩],by omega,by go_num,by rw[HY.out];simp[bss],aw,HX.out,by simpa[pv,zi.val]using aB,ar⟩
     first|exact J|((repeat apply Exists.intro);exact⟨J,rfl⟩)
    case measure=>simp[intOf];omega
   .obtain⟨k,rfl⟩:∃k:Nat,r=k:=⟨r.toNat,by omega⟩;obtain⟨f,d,rfl,V⟩:=ad.out k (by omega);replace V:=zr l V;simp only[Int.toNat_natCast]at H F;clear Hn ad;generalize (zaM (zI c) k).rd=y at*;have aq:IntKind.i64.wrap (rd-1)=rd-1:=by rw[IntKind.wrap_i64];omega
    have aL:(k:Int)<c.length:=by omega
    by_cases hy:y=rd-1
    .obtain⟨D,E⟩:=F.out (by omega) hy;have HX:Hid _:=D;have HY:Hid _:=E;subst hy;clear F H D E;have aE:(rd-1 != IntKind.i64.wrap (rd-1))=false:=by rw[aq];simp
     go_wp2_with fail
     go_region_held3 (λw'=>w'.cell? ⟨s,0,none⟩=some (.slice (some ⟨f,d,none⟩) c.length I)/\w'.cell? ⟨w.heap.size,1,none⟩=some (I_ rd)/\w'.cell? ⟨f,d+k*5+1,none⟩=some (I_ (rd-1))) (go_keep) (fail)
     all_goals
      go_wp2_with fail
      go_roundw
      case rel=>
       have J:∃(o:Nat) (t:List zi),o<=pl.length/\(Value.int .i64 ((m:Int)+1))=I_ o/\bss t=zdL (zI c) (bss pl) o/\z8 O.drew g.heap.size u6 t/\zb5 (zI c) rd (bss pl) o≠9/\O.drew.ownsRow g.heap.size 51 1 u6 t.length (pv t)/\B_ g O.drew:=
        ⟨m+1,ms,by omega,by go_num,HY.out,av.same (nR_ _) (λp A b d e=>rfl),HX.out,am.drew,af.drew⟩
       first|exact J|((repeat apply Exists.intro);exact⟨J,rfl⟩)
      case measure=>simp[intOf];omega
    .have He:Hid (zdz (zI c) rd (bss pl)=9):=H.out (by omega) hy;clear F H;have aE:(y != IntKind.i64.wrap (rd-1))=true:=by rw[aq];simpa using hy
     go_wp2_with fail
     go_region_held3 (λw'=>w'.cell? ⟨s,0,none⟩=some (.slice (some ⟨f,d,none⟩) c.length I)/\w'.cell? ⟨w.heap.size,1,none⟩=some (I_ rd)/\w'.cell? ⟨f,d+k*5+1,none⟩=some (I_ y)) (go_keep) (fail)
     all_goals
      go_wp2_with fail
      go_ret2;exact⟨.inl ⟨He.out,rfl⟩,(B.trans (af.mono B.size)).drew⟩
  .obtain rfl:m=pl.length:=by omega
   have HF:Hid (zdz (zI c) rd (bss pl)≠9):=by
    show zb5 _ _ _ _≠9;rw[zcQ];exact L
   have HM:Hid (bss ms=zmj (zI c) (bss pl)):=by
    show bss ms=zdL _ _ _;rw[zcQ];exact C
   clear L C;obtain⟨N,rc,hv,hl,hL,aj⟩:=zcI ho aa;subst hv;go_wp2_with fail
   go_ret2;exact⟨.inr ⟨HF.out,N,rc,ms,rfl,HM.out,hL (by omega),⟨λf d e=>nT_ B.size (aj.row f d e),λp A f d e=>nT_ B.size (aj.each p A f d e)⟩⟩,ae⟩
theorem znk (b:List Ct)(s:Nat)(A:Option Addr)(B:Nat)(E:Option Addr)(F:Nat)(ds:List zi)(c:Ct)(w:World)(u:zee w s b A B E F ds)(N:za7 w c) :
  Calls prog 171 #[P_ s 0,.agg (crow_ c)] w λe w'=>e=.returned (I_ (za8 (zI b) c.v))/\B_ w w':=by
 have G:=(bR_ w.heap.size w).alloc (nR_ _) (.cells (crow_ c) 64);have R:=hN_ w (.cells (crow_ c) 64);have r:Hid (za8 (zI b) c.v=if c.v.f≠0 then c.v.f else if zfc (zI b) c.au c.rd (bss c.pl)≠0 then zfc (zI b) c.au c.rd (bss c.pl)else if 400<=b.length then 6 else 0):=by
  show _=_;rw[za8,zbv];rfl
 have ac:=u.at'.small;go_in;go_wp2_with fail
 generalize w.alloc (.cells (crow_ c) 64)=V at G R|-;have m:=N.below G;have z:=zgG c.au c.rd c.ba c.bc c.bl c.pa c.pc c.pl c.va c.vc c.vl V m.hat.lb m.hat.lp m.ints m.vle;rw[Ct.f_v]at z;refine z.mono ?_;rintro _ w1⟨rfl,L⟩;dsimp only;clear z m;have H:=zm G L;have I:=zk L R;by_cases hx:c.v.f=0
 .have f:Hid (za8 (zI b) c.v=if zfc (zI b) c.au c.rd (bss c.pl)≠0 then zfc (zI b) c.au c.rd (bss c.pl)else if 400<=b.length then 6 else 0):=by
   show _=_;rw[r.out,if_neg (λh=>h hx)]
  obtain⟨y1,y2,y3,y4,y5,T⟩:=zbi (zfO (vl:=c.vl) (by rw[Ct.f_v];exact hx));have U:Hid (∀p∈c.pl,p.bs.length<=140737488355328):=by
   show ∀p,_;exact λp hp=>by rw[T p hp];decide
  rw[hx];clear hx r y1 y3 y5 T;have C:=zb I 0 _ rfl;have D:=zb I 1 _ rfl;go_wp2_with fail
  refine(zmx b s A B E F ds c.au c.rd w1 (u.below H)).mono ?_;rintro _ w2⟨rfl,M⟩;dsimp only;have t:=zm H M;have y:=zk M I;clear C D;by_cases hh:0<=cOf (zI b) c.au c.rd
  .have d:Hid (za8 (zI b) c.v=7):=by
    show _=_;have Z:zfc (zI b) c.au c.rd (bss c.pl)=7:=by rw[zfc,if_pos hh]
    rw[f.out,Z];rfl
   rw[dT_ hh];clear hh f;go_wp2_with fail
   go_ret;exact⟨zt d.out.symm,t⟩
  .have g:Hid (zfc (zI b) c.au c.rd (bss c.pl)=zdz (zI b) c.rd (bss c.pl)):=by
    show _=_;rw[zfc,if_neg hh]
   rw[dF_ hh];clear hh;have C:=zb y 0 _ rfl;have D:=zb y 1 _ rfl;have X:=zb y 2 _ rfl;have Y:=zb y 3 _ rfl;go_wp2_with fail
   refine(zkO b s A B E F ds c.au c.rd c.ba c.bl.length c.bc c.pl c.pa c.pc w2 (u.below t) y4 y2 (N.below t).hat.lp.parts U.out).mono ?_;rintro e w3⟨hM,ab⟩;have q:=zm t ab;have b0:=zb (u.below q).box 0 _ rfl;clear C D X Y;rcases hM with⟨o,j⟩|⟨o,ma,mc,ms,j,J,-,-⟩
   .have d:Hid (za8 (zI b) c.v=9):=by
     show _=_;rw[f.out,g.out,o];rfl
    clear o f g;subst j;dsimp only;go_wp2_with fail
    go_ret;exact⟨zt d.out.symm,q⟩
   .have O:ms.length=(zmj (zI b) (bss c.pl)).length:=by rw[<-J,zcQ]
    have l:Hid (zdz (zI b) c.rd (bss c.pl)=if ms.length=0 then 0 else 8):=by
     show _=_;rw[O];exact zm6 _ _ _ _ o
    clear o J O;subst j;dsimp only;by_cases hz:ms.length=0
    .rw[hz];by_cases h4:400<=b.length;have d:Hid (za8 (zI b) c.v=6):=by
      show _=_;rw[f.out,g.out,l.out,if_pos hz,if_neg (by simp),if_pos h4]
     have aa:(400:Int)<=b.length:=by omega
     rotate_left
     have d:Hid (za8 (zI b) c.v=0):=by
      show _=_;rw[f.out,g.out,l.out,if_pos hz,if_neg (by simp),if_neg h4]
     have aa:¬(400:Int)<=b.length:=by omega
     rotate_left
     all_goals
      clear l f g;go_wp2_with fail
      go_ret;exact⟨zt d.out.symm,q⟩
    .have d:Hid (za8 (zI b) c.v=8):=by
      show _=_;rw[f.out,g.out,l.out,if_neg hz];rfl
     have ae:(0:Int)<ms.length:=by omega
     clear l f g;go_wp2_with fail
     go_ret;exact⟨zt d.out.symm,q⟩
 .have d:Hid (za8 (zI b) c.v=c.v.f):=by
   show _=_;rw[r.out,if_pos hx]
  have ad:(c.v.f != 0)=true:=by simpa using hx
  clear r;generalize c.v.f=x at*;go_wp2_with fail
  go_ret;exact⟨zt d.out.symm,H⟩
theorem zhq (b:List zi)(A:Option Addr)(n M:Nat)(w:World)(Y:n=b.length)(ai:b.length<=1000)(aa:∀p∈b,p.bs.length<=140737488355328)(y:zbT w A b) :
  Calls prog 220 #[.slice A n M] w λe w'=>∃d rc c,e=.returned (.slice d b.length rc)/\zbm c b/\zx w' d rc c/\B_ w w'/\za1 w.heap.size d c/\(∀f g,d=some ⟨f,g,none⟩->f<w'.heap.size):=by
 subst Y;obtain⟨i,X,af,ag,ah⟩:=info_parts zhc;go_in;go_wp2_with fail
 go_loopw [8,3] (λj v wr=>∃(k:Nat) (c:List zi),k<=b.length/\j=I_ k/\zbm c (b.take k)/\wr.ownsRow w.heap.size 51 1 v k (pv c)/\z8 wr w.heap.size v c/\B_ w wr) (λj _ _=>b.length-(intOf j).toNat)
 case atStart=>exact⟨0,[],nZ_ _,rfl,by simp[zbm],oN_ _ _ _ _,(λp y=>by cases y),bR_ _ _⟩
 case round=>
  obtain⟨k,c,hk,rfl,m,r,D,o⟩:=hrel;by_cases hlt:k<b.length
  .have I:=y.below o;obtain⟨f,g,rfl,E⟩:∃f g,A=some ⟨f,g,none⟩/\∀j (h:j<b.length),wr.cell? ⟨f,g+j,none⟩=some (.slice (b[j]).sa (b[j]).bs.length (b[j]).cap):=by
    rcases I.cells with h|h
    .rw[h]at hlt;simp at hlt
    .exact h
   have ck:=E k hlt;have hx:=I.each (b[k]) (gM_ hlt);have ae:=aa (b[k]) (gM_ hlt);have ad:Hid (b.take (k+1)=b.take k++[b[k]]):=tS_ hlt;have aj:(k:Int)<b.length:=by omega
   clear E;generalize b[k]=p at*;go_wp2_with fail
   refine(zeH p.bs p.sa _ p.cap wr rfl hx ae).mono ?_;rintro e w2⟨d,rc,U,ac,ab,t⟩;subst U;dsimp only;have H:=zw r t;have l:=zm o t;go_wp2_with (at_builtin;refine wpList_append_own_at _ rfl _ _ 59 rfl w.heap.size 51 i (O_) 1 24 underlying59 X af ag ah rfl (by decide) _ k _ rfl (oA_ H _) ⟨w2.heap.size,0,none⟩ 1 1 [.slice d p.bs.length rc] rfl rfl (zag _ _ _) (by intro u J;simp at J;subst J;rfl) (by unfold maxLen;omega) (by omega) (zB l.size _) ?_;intro L B Z F _ T)
   have G:=zV.of F T;have R:=D.more_at (q:=⟨d,rc,p.bs⟩) o.size r t ab ac G;have N:=Below.grown (l.alloc l.size _) F (zB l.size _) (λq e=>(H.lt q e).1);go_wp2_with fail
   go_roundw
   case rel=>
    have C:∃(s:Nat) (z:List zi),s<=b.length/\(Value.int .i64 ((k:Int)+1))=I_ s/\zbm z (b.take s)/\B.ownsRow w.heap.size 51 1 L s (pv z)/\z8 B w.heap.size L z/\B_ w B:=
     ⟨k+1,c++[⟨d,rc,p.bs⟩],by omega,by go_num,by rw[ad.out];simp only[zbm,List.map_append]at m|-;rw[m];rfl,by simpa[pv,zi.val]using Z,R,N⟩
    first|exact C|((repeat apply Exists.intro);exact⟨C,rfl⟩)
   case measure=>simp[intOf];omega
  .obtain rfl:k=b.length:=by omega
   rw[tL_ (nR_ _)]at m;obtain⟨d,rc,hv,hl,O,V⟩:=zcI r D;subst hv;go_wp2_with fail
   go_ret;exact⟨d,rc,c,rfl,m,O (by omega),o,V,λf g e=>by subst e;exact(r.lt f rfl).2⟩
theorem zvL:(prog.info? 3).map (λi=>(i.zero,i.size,i.bytes))=some (some (I_ 0),1,8):=by kernel_rfl
theorem znL (vl:List Int)(p:Option Addr)(n g:Nat)(w:World)(G:n=vl.length)(O:vl.length<=1000)(r:zax w p vl) :
  Calls prog 221 #[.slice p n g] w λe w'=>∃d rc,e=.returned (.slice d vl.length rc)/\zax w' d vl/\(∀b f,d=some ⟨b,f,none⟩->w.heap.size<=b/\b<w'.heap.size)/\B_ w w':=by
 subst G;obtain⟨i,E,I,J,L⟩:=info_parts zvL;cases p with
 | none=>
  have z:vl=[]:=by
   rcases r.cells with h|⟨_,_,h,_⟩
   .exact h
   .cases h
  subst z;have C:∀w:World,(binOp .eql 62 (.slice none 0 g) (O_)).run prog w=.ok (.bool true) w:=λ_=>rfl;go_in;go_wp2_with fail
  go_ret;exact⟨none,0,rfl,⟨.inl rfl⟩,(λ_ _ e=>by cases e),bR_ _ _⟩
 | some ad=>
  have C:∀w:World,(binOp .eql 62 (.slice (some ad) vl.length g) (O_)).run prog w=.ok (.bool false) w:=λ_=>rfl;have l:=zC w (.cells #[] 3);have B:∀j u,(iv vl)[j]? = some u->(w.alloc (.cells #[] 3)).cell? (ad.add j)=some u:=λj u m=>by
   have c:j<vl.length:=by
    rcases Nat.lt_or_ge j vl.length with h|h
    .exact h
    .rw[List.getElem?_eq_none (by rw[zmS];exact h)]at m;cases m
   rcases(r.below l).cells with h|⟨b,f,e,A⟩
   .rw[h]at c;simp at c
   .cases e;have s:=A j c;simp only[iv,List.getElem?_map,List.getElem?_eq_getElem c,Option.map_some,Option.some.injEq]at m;subst m;have t:(⟨b,f,none⟩:Addr).add j=⟨b,f+j,none⟩:=by
     simp only[Addr.add]
     split
     .rename_i h
      subst h
      rfl
     .rfl
    rw[t,s];simp[List.getD,c]
  go_in;go_wp2_with (at_builtin;refine wpList_append_own_at _ rfl _ _ 62 rfl w.heap.size 3 i (I_ 0) 1 8 underlying62 E I J L rfl (by decide) _ 0 [] rfl (World.ownsRow_made _ _ 0 (nR_ _) (by decide) rfl) ad vl.length g (iv vl) rfl (by simp[iv]) B (zs5 vl) (by unfold maxLen;omega) (by omega) l.size ?_;intro R T o D _ M)
  rw[List.nil_append,Nat.zero_add]at o;obtain⟨d,rc,H,_,y,N⟩:=zeW o;have F:=o.lt;subst H;go_ret;refine⟨d,rc,rfl,y,(λb f e=>F b (by rw[e];rfl)),?_⟩;exact Below.grown l D l.size (λq e=>(World.ownsRow.lt (World.ownsRow_made (e:=3) (size:=1) w #[] 0 (nR_ _) (by decide) rfl) q e).1)
end Go.Proofs.YtdnaljbnebnlhaaGreatDoor
