import Derived.Test.YtpnpikpmdfipfaaGreatDoorPk9
set_option maxRecDepth 100000
set_option maxHeartbeats 4000000
namespace Go.Proofs.YtpnpikpmdfipfaaGreatDoor
open Go.RowKit Tryz
variable {k:Nat}{ms:List MV}{w0:World}
theorem zrZ :∀(ms ys:List MV) (r:L_) (k:Nat),(∀x∈ms,(∃W,MAt W x)/\zaT x)->(∀y∈ys,MAt w0 y/\zaT y)->(zv ms).take k=zv ys++r->zcS r->zhN ys ms/\(∀j,j<=ms.length->(zv (ms.take j)).length<=k->j<=ys.length)/\(zv ys).length<=k:=by
 intro ms
 induction ms with
 | nil=>
  intro ys r k _ _ h _;have d:ys=[]:=by
   cases ys with
   | nil=>rfl
   | cons y l=>
    have:=cA_ List.length h;have B:=zfW y;simp[zv]at this;omega
  subst d;exact⟨zhN.nil _,(λj b _=>by simpa using b),nZ_ _⟩
 | cons x l ih=>
  intro ys r k m d h o;obtain⟨⟨w,p⟩,q⟩:=m x (by simp);by_cases hk:k<x.onTape.length;have F:ys=[]:=by
   cases ys with
   | nil=>rfl
   | cons y t=>
    exfalso
    rw[zeg,zeg,List.take_append_of_le_length (by omega),List.append_assoc]at h;have B:=zfW y;have C:=cA_ List.length h;rw[lT9_,lP_]at C;obtain⟨u,A,L,M⟩:=zet (bs:=y.onTape++(zv t++r)) (x:=y) rfl;obtain⟨N,O,R,T⟩:=zet (bs:=x.onTape) (x:=x) (r:=[]) (by simp);have g:∀j,j<2->(x.onTape.take k).getD j 0=x.onTape.getD j 0:=by
     intro j b;simp only[List.getD];rw[List.getElem?_take_of_lt (by omega)]
    rw[<-h,g 0 (by omega)]at u;rw[<-h,g 1 (by omega)]at A;have c:y.bytes.length=x.bytes.length:=by omega
    have U:y.onTape.length=2+y.bytes.length:=by simp[MV.onTape];omega
    have V:x.onTape.length=2+x.bytes.length:=by simp[MV.onTape];omega
    omega
  subst F;refine⟨zhN.nil _,?_,nZ_ _⟩;intro j b c;cases j with
  | zero=>exact nZ_ _
  | succ j=>
   rw[List.take_succ_cons,zeg,lP_]at c;omega
  rw[zeg,List.take_append,tL_ (by omega)]at h;cases ys with
  | nil=>
   exact absurd h.symm (o w x _ p q)
  | cons y t=>
   obtain⟨D,E⟩:=d y (by simp);rw[zeg,List.append_assoc]at h;obtain⟨Y,I,s,J⟩:=zqc p D q E h.symm;obtain⟨G,H,X⟩:=ih t r (k-x.onTape.length) (λz f=>m z (by simp[f])) (λz f=>d z (by simp[f])) J.symm o;refine⟨G.cons I s,?_,?_⟩;intro j b c;cases j with
   | zero=>exact nZ_ _
   | succ j=>
    rw[List.take_succ_cons,zeg,lP_]at c;have:=H j (by simpa using b) (by omega)
    simpa using this
   rw[zeg,lP_,s];omega
theorem zvK (d:∀x∈ms,(∃W,MAt W x)/\zaT x)(l:∀x∈ms,U8M x.bl x.pl x.cbl x.cpl x.ds):zZ (zv ms):=by
 intro z b;obtain⟨x,c,b⟩:=List.mem_flatMap.1 b;have f:=zyj (d x c).2.check (l x c);obtain⟨⟨W,j⟩,g⟩:=d x c;have m:=(g.len j.dn).2;rcases mA_.1 b with b|b
 simp at b
 rcases b with rfl|rfl<;>omega;exact f z b
theorem zr0 (l:List MC)(k j:Nat)(c:j<=l.length)(f:(zae (l.take j)).length<=k)(b:j<l.length->k<(zae (l.take (j+1))).length):zeo k l=l.take j:=by
 induction l generalizing k j with
 | nil=>simp[zeo]
 | cons m l ih=>
  cases j with
  | zero=>
   have:=b (by simp);rw[zeo,iN_]
   rfl
   simp[zae]at this;omega
  | succ j=>
   have e:(zae ((m::l).take (j+1))).length=m.onTape.length+(zae (l.take j)).length:=by simp[zae]
   rw[zeo,iP_ (by omega),List.take_succ_cons,ih (k-m.onTape.length) j (by simpa using c) (by omega) (λg=>?_)];have:=b (by simpa using g);have d:(zae ((m::l).take (j+1+1))).length=m.onTape.length+(zae (l.take (j+1))).length:=by simp[zae]
   omega
theorem zxn {ys:List MV}{r:L_}(m:∀x∈ms,(∃W,MAt W x)/\zaT x)(f:∀y∈ys,MAt w0 y/\zaT y)(h:(zv ms).take k=zv ys++r)(p:zcS r):ys.map MV.c=zeo k (ms.map MV.c)/\(∀y∈ys,∃x∈ms,x.c=y.c):=by
 obtain⟨b,o,l⟩:=zrZ ms ys r k m f h p;have s:ys.map MV.c=(ms.map MV.c).take ys.length:=by
  apply List.ext_getElem
  simp[b.le];intro i j u;have d:i<ys.length:=by simpa using j
  have c:i<ms.length:=by have:=b.le;omega
  simp[b.same i d c]
 refine⟨?_,λy f=>?_⟩;rw[s];refine(zr0 _ k ys.length (by simpa using b.le) ?_ (λg=>?_)).symm;rw[<-List.map_take,<-zes,<-b.tape];exact l;rcases lG_ k (zae ((ms.map MV.c).take (ys.length+1))).length with q|q;exact q;rw[<-List.map_take,<-zes]at q;have:=o (ys.length+1) (by
  have t:ys.length<ms.length:=by simpa using g
  omega) q
 omega;obtain⟨i,d,rfl⟩:=List.getElem_of_mem f;have c:i<ms.length:=by have:=b.le;omega
 exact⟨ms[i],gM_ c,b.same i d c⟩
theorem zxo (k:Kn)(m:MC):(k.rcl m).tab.length<=k.tab.length+1:=by
 unfold Kn.rcl
 split
 split<;>simp
 split
 split
 show(if(zaf k.tab m.h).2.2=0 then(zaf k.tab m.h).1 else k.tab).length<=_
 split
 rename_i h
 rcases zgf h with⟨g,_⟩|⟨g,_,_⟩;rw[g];omega;rw[g];simp;omega;omega
 split
 simp
 split
 split<;>simp
 omega
theorem zqd (l:List MC)(n:Nd):(l.foldl Nd.recall n).k.tab.length<=n.k.tab.length+l.length:=by
 induction l generalizing n with
 | nil=>exact nR_ _
 | cons m l ih=>
  have c:=ih (n.recall m);have b:=zxo n.k m;simp only[List.foldl_cons,List.length_cons];have d:(n.recall m).k.tab.length<=n.k.tab.length+1:=b;omega
theorem zt3 (c:Int)(l:List BW)(h:∀b∈l,b.f=0):1<=zd2 c l/\zd2 c l<=1048577:=by
 have o:∀(l:List BW) (g:Int),(∀b∈l,b.f=0)->0<=g/\g<=1048576->0<=l.foldl (λg b=>if b.au=c then max g b.nu else g) g/\l.foldl (λg b=>if b.au=c then max g b.nu else g) g<=1048576:=by
  intro l
  induction l with
  | nil=>intro g _ f;exact f
  | cons b l ih=>
   intro g j f;refine ih _ (λx m=>j x (mC_ _ m)) ?_;have d:=j b (by simp);unfold BW.f zbk at d
   split at d
   cases d
   rename_i q
   simp only[not_or,Decidable.not_not]at q;show 0<=(if b.au=c then max g b.nu else g)/\(if b.au=c then max g b.nu else g)<=1048576;by_cases e:b.au=c;rw[iP_ e];omega;rw[iN_ e];exact f
 have:=o l 0 h ⟨by decide,by decide⟩;unfold zd2;omega
theorem zis (au c:Int)(d:Q_)(n g:Nat)(ss:Z_)(w:World)(l:n=ss.length)(E:zas w d ss)(D:zbk au c ss=0)(O:0<=au/\au<4)(X:0<=c/\c<=1048576)(U:ss.length<=4)(H:∀s∈ss,s.size<=20)(Z:∀m y,d=some (p_ m y)->m<w.heap.size)(N:za2 w) :
  Calls prog 68 #[.agg #[I_ au,I_ c,.slice d n g]] w λe w'=>∃b,e=.returned (.tuple #[.slice (some (p_ b 0)) 32 32,I_ 0])/\w.heap.size<=b/\B_ w w'/\zg w' (some (p_ b 0)) 32 (zhV 1 (zbY au c ss)):=by
 have L:=zC w (.cells #[I_ au,I_ c,.slice d n g] 86);have r:=zil au c d n g ss _ l (by rw[l];unfold maxLen;omega) (E.below L);rw[D]at r;have ab:=zmm ss H;have J:Hid (n=ss.length):=l;clear l D;go_in;go_wp2_with fail
 refine r.mono ?_;rintro e z⟨rfl,f⟩;have u:=zbK f;replace f:=zS f;have c0:=zb u 0 (I_ au) rfl;have c1:=zb u 1 (I_ c) rfl;have c2:=zb u 2 (.slice d n g) rfl;have F:=f.size;clear r;go_wp2_with fail
 refine(zhE z.heap.size (O_) 0 [] au c d n g ss z O X J.out U H (E.below f) (λm y e=>⟨nL_ (Z m y e) F,λh=>by cases h⟩) (oN_ _ _ _ _) (nR_ _) (by decide)).mono ?_;rintro e w2⟨v2,rfl,t,A⟩;have R:=A.below (nR_ _) (λq e=>by cases e);rw[zA_,List.nil_append]at t;obtain⟨o,p,hv,G,hx⟩:=zeG t;subst hv;have j:=f.trans (R.mono F);have HX:Hid _:=G;have aa:(zbY au c ss).length<=100:=by simp[zbY,rd3];omega
 have M:=zC w2 (.cells #[.slice o (zbY au c ss).length p] 61);clear G t A;generalize C:zbY au c ss=B at*;have I:Hid _:=C;clear C;go_wp2_with fail
 refine(zmW 1 [⟨o,p,B⟩] _ _ _ _ rfl (zog w2 o _ p B rfl hx) (by simp[psz];omega) ((N.below j).below M)).mono ?_;rintro e w3⟨b,rfl,V,T,Y⟩;go_wp2_with fail
 go_ret2;refine⟨b,rfl,?_,?_,?_⟩;rw[zG]at V;have:=j.size;omega;exact j.trans ((zS T).mono j.size);rw[zhV,I.out,<-zlt 1 o p B];exact Y
variable {w:World}{cap:Nat}{ops:Array Oper}{Q:Exit->Act->World->Prop}{a:Act}
theorem zyl (b ys:Z_):sv (b++ys)=sv b++sv ys:=by simp[sv]
theorem zt4 {f:Addr}{cs:Z_}(l:zbu w (some f) cap cs):∀j u,(sv cs)[j]? = some u->w.cell? (f.add j)=some u:=by
 intro j u b;rcases l.strs.cells with c|⟨m,o,e,c⟩;subst c;simp[sv]at b;cases e;have d:j<cs.length:=by
  rcases lG_ j cs.length with g|g;exact g;rw[List.getElem?_eq_none (by rw[zjB];exact g)]at b;cases b
 rw[zaP,c j d];simp[sv,d]at b;simp[d,b]
theorem zfd {rest:List Oper}{o:Oper}(j:o.guard=none)(s x:Operand)
  (q:o.op=.call { callee:=.builtin .append,args:=#[s,x],argTypes:=#[39,39] })
  (base:Nat) (v:Value) (n:Nat) (bs:Z_) (r:a.eval s=v) (d:w.ownsRow base 9 1 v n (sv bs))
  (g:Q_) (m c:Nat) (cs:Z_) (t:a.eval x=.slice g m c) (p:m=cs.length) (f:zbu w g c cs)
  (A:(n+m)*16<=140737488355328) (z:base<=w.heap.size)
  (h:∀b w',w'.ownsRow base 9 1 b (n+m) (sv (bs++cs))->w.grownBy w' v.ownBlock->wpList prog ops Q rest (a.put o.dst b) w'):wpList prog ops Q (o::rest) a w:=by
 obtain⟨i,l,B,C,D⟩:=info_parts zkf;cases g with
 | none=>
  obtain rfl:=f.nil rfl;obtain rfl:cs=[]:=eN_ (by have:=f.le;omega);subst p;exact wpList_append_own_none j s x 39 q base 9 i 1 underlying39 l v n (sv bs) r d t (h v w (by simpa using d) (World.grownBy.refl _ _))
 | some ad=>
  refine wpList_append_own w j s x 39 q base 9 i (.string ByteArray.empty) 1 16 underlying39 l B C D rfl (by decide) v n (sv bs) r d ad m c (sv cs) t (by rw[zjB,p];omega) (zt4 f) (zs7 cs) (by unfold maxLen;omega) A z (λb w' u y _=>h b w' (by rw[zyl];exact u) y)
variable {w':World}{sa:Q_}{ss:Z_}{G:Nat->Prop}
theorem zoV (ss:Z_)(l:Q_)(n b:Nat)(w:World)(y:n=ss.length)(C:ss.length<=1000)(c:zbu w l b ss) :
  Calls prog 140 #[.slice l n b] w λe w'=>∃d rc,e=.returned (.slice d ss.length rc)/\zbu w' d rc ss/\(∀f m,d=some (p_ f m)->w.heap.size<=f/\f<w'.heap.size)/\B_ w w':=by
 subst y;cases l with
 | none=>
  have p:ss=[]:=by
   rcases c.strs.cells with h|⟨_,_,h,_⟩;exact h;cases h
  subst p;have r:∀w:World,(binOp .eql 39 (.slice none 0 b) (O_)).run prog w=.ok (.bool true) w:=λ_=>rfl;go_in;go_wp2_with fail
  go_ret;exact⟨none,0,rfl,⟨nR_ _,by decide,λ_=>rfl,⟨.inl rfl,λs c=>by cases c⟩⟩,(λ_ _ e=>by cases e),bR_ _ _⟩
 | some ad=>
  have r:∀w:World,(binOp .eql 39 (.slice (some ad) ss.length b) (O_)).run prog w=.ok (.bool false) w:=λ_=>rfl;have g:=zC w (.cells #[] 9);have z:=c.below g;go_in;go_wp2_with (at_builtin;refine zfd rfl _ _ rfl w.heap.size _ 0 [] rfl (World.ownsRow_made _ _ 0 (nR_ _) (by decide) rfl) (some ad) ss.length b ss rfl rfl z (by omega) g.size ?_;intro D E j t)
  rw[List.nil_append,zA_]at j;obtain⟨d,rc,A,_,o,B⟩:=zjo j c.strs.size;have u:=j.lt;subst A;go_ret;refine⟨d,rc,rfl,o,(λf m e=>u f (by rw[e];rfl)),?_⟩;exact Below.grown g t g.size (λq e=>(World.ownsRow.lt (World.ownsRow_made (e:=9) (size:=1) w #[] 0 (nR_ _) (by decide) rfl) q e).1)
theorem zr1 (g:∀k,G k->w'.heap[k]? = w.heap[k]?)(h:zas w sa ss)(d:∀b c,sa=some (p_ b c)->G b):zas w' sa ss:=by
 refine⟨?_,h.size⟩;rcases h.cells with h|⟨b,c,e,h⟩;exact .inl h;exact .inr ⟨b,c,e,λj f=>(cB_ (g b (d b c e))).trans (h j f)⟩
theorem zh5 {b:BW}(h:b.f=0):(0<=b.au/\b.au<4)/\(0<=b.nu/\b.nu<=1048576)/\b.ss.length<=4/\(∀s∈b.ss,s.size<=20):=by
 unfold BW.f zbk at h
 split at h
 simp at h
 rename_i f
 split at h
 simp at h
 split at h
 rename_i g c
 refine⟨by omega,by omega,by omega,λs d=>?_⟩;have:=List.all_eq_true.1 c s d;simp[zbM]at this;omega
 simp at h
theorem zt5 (l:List Sh){b:BW}(d:b.f=0):zbG (shw l) b=(!zb1 (shw l) b.d&&decide ((l.length:Int)<800)):=by
 have c:decide ((l.length:Int)<800)=decide (l.length<800):=decide_eq_decide.2 (by omega);rw[c,zbG,zb6,d]
 rfl
structure zzb (w w':World)(e:Ending)(sh:List BW)(b:BW):Prop where
 out:∃s:Sh,e=.returned (.tuple #[.agg #[I_ s.b.v.au,I_ s.b.v.nu,.slice s.b.ta s.b.v.ss.length s.b.tc,.slice s.d.sa s.d.bs.length s.d.cap],.bool (zbG sh b)])/\s.b.v=b/\zd3 w' s/\(∀sb so,s.b.ta=some (p_ sb so)->w.heap.size<=sb)/\(∀sb so,s.d.sa=some (p_ sb so)->w.heap.size<=sb)
 below:B_ w w'
theorem zlO (x:NM)(b:Bc)(w:World)(U:Nat->Bool)(F o:Nat)(T:TypeId)(fc:X_)(h:zo w U F o T fc x)(q:zcN w b)(E:b.v.f=0) :
  Calls prog 90 #[P_ F o,.agg #[I_ b.v.au,I_ b.v.nu,.slice b.ta b.v.ss.length b.tc]] w λe w'=>zzb w w' e (shw x.sh) b.v:=by
 obtain⟨f1,f2,f3,f4⟩:=zh5 E;refine kO_ ?B0 ?_;exact Obj.cells #[I_ b.v.au,I_ b.v.nu,.slice b.ta b.v.ss.length b.tc] 86;refine kO_ ?C0 ?_;exact Obj.cells #[I_ 0,I_ 0,O_,O_] 102;have u:B_ w ((w.alloc ?B0).alloc ?C0):=((bR_ _ _).alloc (nR_ _) _).alloc (by simp) _;have r:=hX_ w ?B0 ?C0;have H:=hY_ w ?B0 ?C0;go_in;go_upto_region 1 with fail
 generalize ((w.alloc ?B0).alloc ?C0)=W0 at u r H|-;have h0:=h.below u;have V:=zis b.v.au b.v.nu b.ta _ b.tc b.v.ss W0 rfl (q.strs.below u) E f1 f2 f3 f4 (λl m e=>nL_ (q.lt l m e) u.size) (h0.tabs.sub (zK _ _));have c0:=zb r 0 _ rfl;have c1:=zb r 1 _ rfl;have c2:=zb r 2 _ rfl;go_wp2_with fail
 refine V.mono ?_;rintro e w1⟨g,y,hg,M,hS⟩;subst y;dsimp only;clear V c0 c1 c2;have aa:=zm u M;have h1:=h.below aa;have ac:=zk M r;have ad:=zk M H;have HG:Hid (w.heap.size+2<=g):=by show _<=_;have:=ze H;omega
 have ai:Hid (b.v.d=zhV 1 (zbY b.v.au b.v.nu b.v.ss)):=rfl;have I:Hid (zg w1 (some (p_ g 0)) 32 b.v.d):=hS;have Y:Hid (b.v.d.length=32):=zhW _ _;have L:=zgX x b.v.d (some (p_ g 0)) 32 32 w1 U F o T fc h1 Y.out.symm I.out;clear hS hg;have Z:Hid _:=zt5 x.sh E;generalize zb1 (shw x.sh) b.v.d=bb at L Z;go_wp2_with fail
 refine L.mono ?_;rintro _ w2⟨rfl,C⟩;dsimp only;clear L;have A:=zm aa C;have h2:=h.below A;have O:=zk C ac;have ae:=zk C ad;have k4:=h2.cell 4 _ rfl;have d2:=zb O 2 _ rfl;have ab:=zbu.below ⟨q.le,q.max,q.nil,q.strs⟩ A;have R:=zoV b.v.ss b.ta _ b.tc w2 rfl (by omega) ab;clear ab;have af:Hid (zg w2 (some (p_ g 0)) 32 b.v.d):=I.out.below C;have ah:Hid (zcN w b):=q;clear f1 f2 f3 f4 E q ac ad r H h1 h0 I;have aj:=ze O;have ak:=ze ae;cases bb;refine kV_ ?A0 ?_;exact Value.slice (some (p_ g 0)) 32 32
 all_goals
  go_wp2_with fail
  refine R.mono ?_;rintro e s⟨c,d,y,B,N,D⟩;subst y;dsimp only;have ag:=zm A D;have G:=zk D O;have f:=zk D ae;have m0:=zb G 0 _ rfl;have m1:=zb G 1 _ rfl;have m2:=zb G 2 _ rfl;have n2:=zd G 2;have r0:=zb f 0 _ rfl;have r1:=zb f 1 _ rfl;have r2:=zb f 2 _ rfl;have r3:=zb f 3 _ rfl;have s0:=zd f 0;have s1:=zd f 1;have s2:=zd f 2;have s3:=zd f 3;clear R;go_wp2_with fail
  have t:((((s.setCell (p_ w.heap.size 2) (.slice c b.v.ss.length d)).setCell (p_ (w.heap.size+1) 0) (I_ b.v.au)).setCell (p_ (w.heap.size+1) 1) (I_ b.v.nu)).setCell (p_ (w.heap.size+1) 2) (.slice c b.v.ss.length d)).setCell (p_ (w.heap.size+1) 3) ?A0 |>.heap[w.heap.size+1]? = some (.cells #[I_ b.v.au,I_ b.v.nu,.slice c b.v.ss.length d,?A0] 102 (0,0)):=by
   simpa using hS_ _ _ 3 _ _ ?A0 (hS_ _ _ 2 _ _ (.slice c b.v.ss.length d) (hS_ _ _ 1 _ _ (I_ b.v.nu) (hS_ _ _ 0 _ _ (I_ b.v.au) (zh (b:=w.heap.size) (j:=2) (v:=.slice c b.v.ss.length d) f (by omega)))))
  have XB:=((((ag.setCell (p:=p_ w.heap.size 2) (nR_ _) (.slice c b.v.ss.length d)).setCell (p:=p_ (w.heap.size+1) 0) (by simp) (I_ b.v.au)).setCell (p:=p_ (w.heap.size+1) 1) (by simp) (I_ b.v.nu)).setCell (p:=p_ (w.heap.size+1) 2) (by simp) (.slice c b.v.ss.length d)).setCell (p:=p_ (w.heap.size+1) 3) (by simp) ?A0;have J:∀k,k≠w.heap.size/\k≠w.heap.size+1->(((((s.setCell (p_ w.heap.size 2) (.slice c b.v.ss.length d)).setCell (p_ (w.heap.size+1) 0) (I_ b.v.au)).setCell (p_ (w.heap.size+1) 1) (I_ b.v.nu)).setCell (p_ (w.heap.size+1) 2) (.slice c b.v.ss.length d)).setCell (p_ (w.heap.size+1) 3) ?A0).heap[k]? = s.heap[k]?:=λk z=>by
   rw[hO_ _ (p_ (w.heap.size+1) 3) k _ z.2,hO_ _ (p_ (w.heap.size+1) 2) k _ z.2,hO_ _ (p_ (w.heap.size+1) 1) k _ z.2,hO_ _ (p_ (w.heap.size+1) 0) k _ z.2,hO_ _ (p_ w.heap.size 2) k _ z.1]
  have XS:s.heap.size<=(((((s.setCell (p_ w.heap.size 2) (.slice c b.v.ss.length d)).setCell (p_ (w.heap.size+1) 0) (I_ b.v.au)).setCell (p_ (w.heap.size+1) 1) (I_ b.v.nu)).setCell (p_ (w.heap.size+1) 2) (.slice c b.v.ss.length d)).setCell (p_ (w.heap.size+1) 3) ?A0).heap.size:=by simp
  generalize ((((s.setCell (p_ w.heap.size 2) (.slice c b.v.ss.length d)).setCell (p_ (w.heap.size+1) 0) (I_ b.v.au)).setCell (p_ (w.heap.size+1) 1) (I_ b.v.nu)).setCell (p_ (w.heap.size+1) 2) (.slice c b.v.ss.length d)).setCell (p_ (w.heap.size+1) 3) ?A0=X at t XB J XS|-;have e0:=zb t 0 _ rfl;have e1:=zb t 1 _ rfl;have e2:=zb t 2 _ rfl;have e3:=zb t 3 _ rfl;have al:=HG.out;have am:=A.size;refine bP_ (v:=.tuple #[.agg #[I_ b.v.au,I_ b.v.nu,.slice c b.v.ss.length d,?A0],.bool (zbG (shw x.sh) b.v)]) (by simp[results,results90,go_sem,e0,e1,e2,e3,Z.out]) rfl ⟨⟨⟨⟨b.v,c,d⟩,⟨some (p_ g 0),32,b.v.d⟩⟩,?_,rfl,⟨⟨?_,B.le,B.max,B.nil,?_⟩,?_,rfl⟩,?_,?_⟩,XB⟩
  .rw[Y.out]
  .exact zr1 J B.strs (λl m e=>by have:=(N l m e).1;omega)
  .intro l m e;exact nL_ (N l m e).2 XS
  .exact zcp J (af.out.below D) (λl m e _=>by cases e;omega)
  .intro l m e;have:=(N l m e).1;omega
  .intro l m e;cases e;omega
def Nd.wrt (n:Nd)(m:MC):Nd:=if n.room m then { n with recs:=n.recs++[m] } else n
theorem zjq (x:MV)(bs:L_)(d:Q_)(n c:Nat)(sy:Int)(w:World)(l:n=bs.length)(m:zg w d c bs)(b:MAt w x)(f:zaT x)(g:0<=sy/\sy<=bs.length)(r:bs.length<=400000) :
  Calls prog 128 #[.agg #[.slice d n c,.int .i64 sy],.agg (mrow_ x.m)] w λe w'=>(bs.length+x.onTape.length<=400000/\zdM w w' e (bs++x.onTape) sy 0)\/(¬bs.length+x.onTape.length<=400000/\zdM w w' e [] 0 6):=by
 by_cases hl:bs.length+x.onTape.length<=400000;exact(zrJ x bs d n c sy w l m b f g (by rw[zlH]at hl;omega)).mono (λ_ _ h=>.inl ⟨hl,h⟩);obtain⟨s,t⟩:=f.len b.dn;have p:∀W:World,B_ w W->Calls prog 170 #[.agg (mrow_ x.m)] W λe w'=>∃v,e=.returned (.tuple #[v,.int .i64 0])/\w'.ownsRow W.heap.size 5 1 v x.bytes.length (ub x.bytes)/\B_ W w':=λW j=>by
  have h:=zoD x.m x.ss x.bl x.pl x.cbl x.cpl x.ds x.vl W (b.at'.below j) (b.dig.below j) b.dn;have o:zcO x.m (zP x.m (zD x.m x.ss x.bl x.pl x.cbl x.cpl x.vl))=0:=f.rec0;rw[o]at h;exact h
 have h:=zmr x.m bs d n c sy 0 x.bytes w l m (by omega) (λh=>absurd rfl h) (λ_=>by omega) (by omega) p;have q:zgJ bs.length sy 0 x.bytes.length=6:=by
  rw[zlH]at hl;rw[zgJ,iP_ (zcr.2 ⟨by omega,g.1,g.2⟩),iN_ (by simp),iP_ (by omega)]
 rw[q,ziU,iN_ (by decide),ziV,iN_ (by decide)]at h;exact h.mono (λ_ _ h=>.inr ⟨hl,h⟩)
theorem zgZ (x:NM)(m:MV)(w:World)(U:Nat->Bool)(F o:Nat)(T:TypeId)(fc:X_)(h:zo w U F o T fc x)(hM:MAt (zq U w) m)(hI:zaT m)(hu:U8M m.bl m.pl m.cbl m.cpl m.ds) :
  Calls prog 74 #[.pointer (some (p_ F o)),.agg (mrow_ m.m)] w λe w'=>e=.returned (.bool (x.v.room m.c))/\zal w U F o T fc x w' (x.v.wrt m.c):=by
 have hA:=zC w (.cells (mrow_ m.m) 90);have q0:=hN_ w (.cells (mrow_ m.m) 90);have aw:Hid ((zv x.ms).length=(zae x.v.recs).length):=by show _=_;rw[zes];rfl
 have ar:Hid ((zv x.ms).length<=400000/\x.syn<=(zv x.ms).length):=by show _/\_;rw[aw.out];exact⟨h.inv.tape,h.inv.syn⟩
 have HR:Hid (x.v.room m.c=decide ((zv x.ms).length+m.onTape.length<=400000)):=by show _=_;rw[Nd.room,aw.out,<-zoO]
 go_in;go_upto_region 1 with fail
 generalize w.alloc (.cells (mrow_ m.m) 90)=W0 at hA q0|-;have h0:=h.below hA;have az:=h0.cell 15 _ rfl;have aA:=h0.cell 16 _ rfl;have aD:=ze q0;generalize hB:w.heap.size=B at q0|-;have HB:Hid (w.heap.size=B):=hB;clear hB aD;go_cut [5,6] (λu5 u6 wx=>∃(c:Nat) (bs:L_) (b:Q_) (rc:Nat) (q sy:Int),u5=.pointer (some (p_ c 0))/\u6=.int .i64 q/\B_ w wx/\w.heap.size<=c/\R_ wx c #[.slice b bs.length rc,.int .i64 sy] 66/\Hid (zg wx b rc bs/\(∀d f,b=some (p_ d f)->w.heap.size<=d)/\((q=0/\(zv x.ms).length+m.onTape.length<=400000/\bs=zv x.ms++m.onTape/\sy=x.syn)\/(q=6/\¬(zv x.ms).length+m.onTape.length<=400000))))
 case first=>
  have J:=hA.drew;have an:=dC_ az;have ap:=dC_ aA;have al:=dQ_ q0;refine wR_ (S:=λw'=>C_ w' F (o+15) (.slice x.ba (zv x.ms).length x.bc)/\C_ w' F (o+16) (.int .i64 x.syn)/\R_ w' B (mrow_ m.m) 90) (by kernel_rfl) ⟨an,ap,al⟩ (λr=>?_);generalize W0.drew=u at J an ap al r|-;refine tks_ 4 [(0,8,.pointer (some (p_ F o))),(1,9,.pointer (some (p_ F o))),(2,10,.pointer (some (p_ F (o+15)))),(3,11,.agg #[.slice x.ba (zv x.ms).length x.bc,.int .i64 x.syn])] r ?_;simp only[tkf_,zf];refine tQ_ 4 12 (.agg (mrow_ m.m)) rfl rfl (Or.inl ⟨by rfl,λw0 aC=>zL 90 _ rfl B rfl 90 (mrow_ m.m) (0,0) _ aC.2.2 underlying90 rfl sMsg'⟩) r ?_;simp only[zf];refine rY_ (rs:=[5,9]) (by kernel_rfl) (by simp) (rA_ rfl (λK9 E=>?_) (rA_ rfl (λK9 E=>?_) rN_))
  .skip
   refine zj rfl 13 rfl 128 [.tmp 11,.tmp 12] #[66,90] rfl [.agg #[.slice x.ba (zv x.ms).length x.bc,.int .i64 x.syn],.agg (mrow_ m.m)] rfl (eO_ func128) (λv w'=>(∃(bs:L_) (b:Q_) (rc:Nat) (q sy:Int),v=.tuple #[.agg #[.slice b bs.length rc,.int .i64 sy],.int .i64 q]/\zg w' b rc bs/\(∀d f,b=some (p_ d f)->u.heap.size<=d/\d<w'.heap.size)/\((q=0/\(zv x.ms).length+m.onTape.length<=400000/\bs=zv x.ms++m.onTape/\sy=x.syn)\/(q=6/\¬(zv x.ms).length+m.onTape.length<=400000)))/\B_ u w') ((zjq m (zv x.ms) x.ba _ x.bc x.syn u rfl ((h.below J).tap.sub (zK _ _)) ((hM.sub (zK _ _)).below J) hI ⟨by omega,by have:=ar.out.2;omega⟩ ar.out.1).mono (λe w' k=>by
   rcases k with⟨C,b,rc,D,A,L,M⟩|⟨C,b,rc,D,A,L,M⟩;exact⟨_,D,⟨_,b,rc,0,_,rfl,A,L,.inl ⟨rfl,C,rfl,rfl⟩⟩,M⟩;exact⟨_,D,⟨_,b,rc,6,_,rfl,A,L,.inr ⟨rfl,C⟩⟩,M⟩)) ?_
   rintro v t⟨⟨bs,b,rc,q,sy,rfl,ab,ai,ay⟩,hbc⟩;have I:=zm J hbc;have V:=zr hbc an;have Y:=zr hbc ap;have O:=zk hbc al;refine E.out _ _ ⟨V,Y,O⟩ (λr=>?_);simp only[zf];refine tks_ 3 [(6,7,.tuple #[.agg #[.slice b bs.length rc,.int .i64 sy],.int .i64 q]),(7,14,.agg #[.slice b bs.length rc,.int .i64 sy]),(8,15,.int .i64 q)] r ?_;simp only[tkf_,zf];refine zE 9 rfl (λK9 E=>?_);refine zy rfl 5 rfl (.pointer (some (p_ t.heap.size 0))) (t.alloc (.cells #[.slice none 0 0,.int .i64 0] 66)) (by go_simp) ?_;have z:=zC t (.cells #[.slice none 0 0,.int .i64 0] 66);have s:=hN_ t (.cells #[.slice none 0 0,.int .i64 0] 66);have au:=zm I z;have G:=I.size;have ae:=zr z V;have X:F≠t.heap.size:=Nat.ne_of_lt (bL_ V);have af:=zr z Y;have Z:F≠t.heap.size:=Nat.ne_of_lt (bL_ Y);have ad:=zk z O;have R:=Nat.ne_of_lt (ze O);have ab:=ab.below z;have ac:∀d f,b=some (p_ d f)->t.heap.size≠d:=λd f e=>by have:=(ai d f e).2;omega
   refine E.out _ _ ⟨ae,af,ad⟩ (λr=>?_);simp only[zf];have aa:t.heap.size<(t.alloc (.cells #[.slice none 0 0,.int .i64 0] 66)).heap.size:=by simp
   generalize t.alloc (.cells #[.slice none 0 0,.int .i64 0] 66)=H at z s au aa ae af ad ab r|-;clear z;generalize t.heap.size=c at s G aa X Z R ac|-;have aH:=zb s 0 _ rfl;have aF:=zd s 0;have aI:=zb s 1 _ rfl;have aG:=zd s 1;refine zE 10 rfl (λK9 E=>?_);refine zX rfl rfl ((H.setCell (p_ c 0) (.slice b bs.length rc)).setCell (p_ c 1) (.int .i64 sy)) (by go_simp) ?_;have ak:((H.setCell (p_ c 0) (.slice b bs.length rc)).setCell (p_ c 1) (.int .i64 sy)).heap[c]? = some (.cells #[.slice b bs.length rc,.int .i64 sy] 66 (0,0)):=by simpa using(hS_ _ _ 1 _ _ (.int .i64 sy) (hS_ _ _ 0 _ _ (.slice b bs.length rc) s))
   have ah:=((au.setCell (p:=p_ c 0) G (.slice b bs.length rc)).setCell (p:=p_ c 1) G (.int .i64 sy));have ao:=(zar (k:=1) (v:=.int .i64 sy) (zar (k:=0) (v:=.slice b bs.length rc) ae X) X);have aq:=(zar (k:=1) (v:=.int .i64 sy) (zar (k:=0) (v:=.slice b bs.length rc) af Z) Z);have am:=(zh (j:=1) (v:=.int .i64 sy) (zh (j:=0) (v:=.slice b bs.length rc) ad R) R);have ag:zg ((H.setCell (p_ c 0) (.slice b bs.length rc)).setCell (p_ c 1) (.int .i64 sy)) b rc bs:=(ab.setCellT c 0 _ ac).setCellT c 1 _ ac;have ax:∀d f,b=some (p_ d f)->w.heap.size<=d:=λd f e=>by have:=(ai d f e).1;have:=J.size;have:=I.size;omega
   refine E.out _ _ ⟨ao,aq,am⟩ (λr=>?_);generalize ((H.setCell (p_ c 0) (.slice b bs.length rc)).setCell (p_ c 1) (.int .i64 sy))=VE at ak ah ao aq am ag r|-;refine zU 11 6 (.int .i64 q) rfl rfl r ?_;simp only[zf];clear r;refine wD_ (by kernel_rfl) ?_ _;go_wp2_with fail
   go_meet
   case rel=>exact⟨c,bs,b,rc,q,sy,rfl,rfl,ah,G,ak,⟨ag,ax,ay⟩⟩
  skip
  refine zy rfl 5 rfl (.pointer (some (p_ u.heap.size 0))) (u.alloc (.cells #[.slice none 0 0,.int .i64 0] 66)) (by go_simp) ?_;have z:=zC u (.cells #[.slice none 0 0,.int .i64 0] 66);have s:=hN_ u (.cells #[.slice none 0 0,.int .i64 0] 66);have I:=zm J z;have G:=J.size;have V:=zr z an;have X:F≠u.heap.size:=Nat.ne_of_lt (bL_ an);have Y:=zr z ap;have Z:F≠u.heap.size:=Nat.ne_of_lt (bL_ ap);have O:=zk z al;have R:=Nat.ne_of_lt (ze al);refine E.out _ _ ⟨V,Y,O⟩ (λr=>?_);simp only[zf];have aa:u.heap.size<(u.alloc (.cells #[.slice none 0 0,.int .i64 0] 66)).heap.size:=by simp
  generalize u.alloc (.cells #[.slice none 0 0,.int .i64 0] 66)=t at z s I aa V Y O r|-;clear z;generalize u.heap.size=c at s G aa X Z R|-;refine zE 5 rfl (λK9 E=>?_);have aN:=aa;refine zj rfl 13 rfl 128 [.tmp 11,.tmp 12] #[66,90] rfl [.agg #[.slice x.ba (zv x.ms).length x.bc,.int .i64 x.syn],.agg (mrow_ m.m)] rfl (eO_ func128) (λv w'=>(∃(bs:L_) (b:Q_) (rc:Nat) (q sy:Int),v=.tuple #[.agg #[.slice b bs.length rc,.int .i64 sy],.int .i64 q]/\zg w' b rc bs/\(∀d f,b=some (p_ d f)->t.heap.size<=d/\d<w'.heap.size)/\((q=0/\(zv x.ms).length+m.onTape.length<=400000/\bs=zv x.ms++m.onTape/\sy=x.syn)\/(q=6/\¬(zv x.ms).length+m.onTape.length<=400000)))/\B_ t w') ((zjq m (zv x.ms) x.ba _ x.bc x.syn t rfl ((h.below I).tap.sub (zK _ _)) ((hM.sub (zK _ _)).below I) hI ⟨by omega,by have:=ar.out.2;omega⟩ ar.out.1).mono (λe w' k=>by
  rcases k with⟨C,b,rc,D,A,L,M⟩|⟨C,b,rc,D,A,L,M⟩;exact⟨_,D,⟨_,b,rc,0,_,rfl,A,L,.inl ⟨rfl,C,rfl,rfl⟩⟩,M⟩;exact⟨_,D,⟨_,b,rc,6,_,rfl,A,L,.inr ⟨rfl,C⟩⟩,M⟩)) ?_
  rintro v H⟨⟨bs,b,rc,q,sy,rfl,ab,ai,ay⟩,hbc⟩;have au:=zm I hbc;have ae:=zr hbc V;have af:=zr hbc Y;have ad:=zk hbc O;have s:=zk hbc s;refine E.out _ _ ⟨ae,af,ad⟩ (λr=>?_);simp only[zf];refine tks_ 3 [(6,7,.tuple #[.agg #[.slice b bs.length rc,.int .i64 sy],.int .i64 q]),(7,14,.agg #[.slice b bs.length rc,.int .i64 sy]),(8,15,.int .i64 q)] r ?_;simp only[tkf_,zf];have ac:∀d f,b=some (p_ d f)->c≠d:=λd f e=>by have:=(ai d f e).1;omega
  have aH:=zb s 0 _ rfl;have aF:=zd s 0;have aI:=zb s 1 _ rfl;have aG:=zd s 1;refine zE 10 rfl (λK9 E=>?_);refine zX rfl rfl ((H.setCell (p_ c 0) (.slice b bs.length rc)).setCell (p_ c 1) (.int .i64 sy)) (by go_simp) ?_;have ak:((H.setCell (p_ c 0) (.slice b bs.length rc)).setCell (p_ c 1) (.int .i64 sy)).heap[c]? = some (.cells #[.slice b bs.length rc,.int .i64 sy] 66 (0,0)):=by simpa using(hS_ _ _ 1 _ _ (.int .i64 sy) (hS_ _ _ 0 _ _ (.slice b bs.length rc) s))
  have ah:=((au.setCell (p:=p_ c 0) G (.slice b bs.length rc)).setCell (p:=p_ c 1) G (.int .i64 sy));have ao:=(zar (k:=1) (v:=.int .i64 sy) (zar (k:=0) (v:=.slice b bs.length rc) ae X) X);have aq:=(zar (k:=1) (v:=.int .i64 sy) (zar (k:=0) (v:=.slice b bs.length rc) af Z) Z);have am:=(zh (j:=1) (v:=.int .i64 sy) (zh (j:=0) (v:=.slice b bs.length rc) ad R) R);have ag:zg ((H.setCell (p_ c 0) (.slice b bs.length rc)).setCell (p_ c 1) (.int .i64 sy)) b rc bs:=(ab.setCellT c 0 _ ac).setCellT c 1 _ ac;have ax:∀d f,b=some (p_ d f)->w.heap.size<=d:=λd f e=>by have:=(ai d f e).1;have:=J.size;have:=I.size;omega
  refine E.out _ _ ⟨ao,aq,am⟩ (λr=>?_);generalize ((H.setCell (p_ c 0) (.slice b bs.length rc)).setCell (p_ c 1) (.int .i64 sy))=VE at ak ah ao aq am ag r|-;refine zU 11 6 (.int .i64 q) rfl rfl r ?_;simp only[zf];clear r;refine wD_ (by kernel_rfl) ?_ _;go_wp2_with fail
  go_meet
  case rel=>exact⟨c,bs,b,rc,q,sy,rfl,rfl,ah,G,ak,⟨ag,ax,ay⟩⟩
 case rest=>
  obtain⟨c,bs,b,rc,q,sy,rfl,rfl,av,G,qn,hX⟩:=hcut;have h1:=h.below av;apply_assumption;clear az aA q0 HB h0 hA;by_cases hroom:(zv x.ms).length+m.onTape.length<=400000
  .obtain⟨C,D,A⟩:=hX.out;obtain⟨rfl,-,rfl,rfl⟩:q=0/\(zv x.ms).length+m.onTape.length<=400000/\bs=zv x.ms++m.onTape/\sy=x.syn:=by
    rcases A with g|g;exact g;exact absurd hroom g.2
   have HX:Hid (zg wc b rc (zv x.ms++m.onTape)/\∀d f,b=some (p_ d f)->w.heap.size<=d):=⟨C,D⟩;have HO:Hid _:=hroom;clear C D A hX hroom;have e0:=zb qn 0 _ rfl;have e1:=zb qn 1 _ rfl;have aJ:=h1.cell 15 _ rfl;have aK:=h1.cell 16 _ rfl;have aL:=h1.free (o+15);have aM:=h1.free (o+16);have HL:Hid ((zv x.ms++m.onTape).length=(zv (x.ms++[m])).length):=by show _=_;rw[zfQ]
   generalize hN:(zv x.ms++m.onTape).length=N at e0;rw[hN]at HL;clear hN;go_wp2_with fail
   go_ret;have aj:x.v.room m.c=true:=by rw[HR.out];exact dT_ HO.out
   refine⟨by rw[aj];rfl,?_⟩;have hw:x.v.wrt m.c={ x.v with recs:=x.v.recs++[m.c] }:=iP_ aj;rw[hw,HL.out];have aE:=h.put_tape (w2:=wc) (a':=b) (c':=rc) (l':=x.ms++[m]) (sy:=x.syn) av ?_ ?_ ?_;obtain⟨U',aB,x',y1,y2,y3⟩:=aE;exact⟨U',aB,x',y1,y2,by rw[y3];simp[NM.v]⟩;rw[zfQ];exact zci HX.out.1 (λd f e _=>h.bnd.new (HX.out.2 d f e));intro y hy;rcases mA_.1 hy with g|g;exact h.ems y g;obtain rfl:y=m:=by simpa using g
   exact⟨⟨_,hM⟩,hI,hu⟩;have:=HO.out;have hT:=aw.out;have hv:=h.inv.syn;refine h.inv.tape_ (l:=(x.ms++[m]).map MV.c) ?_ ?_;rw[<-zes,zfQ,lP_];exact this;rw[<-zes,zfQ,lP_,hT];exact nT_ hv (Nat.le_add_right _ _)
  obtain⟨C,D,A⟩:=hX.out;obtain⟨rfl,-⟩:q=6/\¬(zv x.ms).length+m.onTape.length<=400000:=by
   rcases A with g|g;exact absurd g.2.1 hroom;exact g
  have HO:Hid _:=hroom;clear C D A hX hroom;go_wp2_with fail
  go_ret;have aj:x.v.room m.c=false:=by rw[HR.out];exact dF_ HO.out
  refine⟨by rw[aj];rfl,?_⟩;have hw:x.v.wrt m.c=x.v:=by rw[Nd.wrt,aj];rfl
  rw[hw];exact zal.quiet h av
theorem zt6:(prog.info? 102).map (λi=>(i.zero,i.size,i.bytes))=some (some (.agg #[.int .i64 0,.int .i64 0,.slice none 0 0,.slice none 0 0]),4,64):=by kernel_rfl
theorem sSh:(prog.info? 102).map (·.size)=some 4:=by kernel_rfl
theorem zlP (s:Sh):∀u∈s.cs,u.oneCell'=true:=by
 intro u b;simp[Sh.cs]at b;rcases b with rfl|rfl|rfl|rfl<;>rfl
theorem zzc (n:Nd)(m:MC):(n.wrt m).k=n.k:=by rw[Nd.wrt];split<;>rfl
theorem NM.v_sh (x:NM)(a:Q_)(c:Nat)(s:Sh):({ x with sa:=a,sc:=c,sh:=x.sh++[s] }:NM).v={ x.v with k:={ x.v.k with sh:=x.v.k.sh++[s.b.v] } }:=by simp[NM.v,shw]
theorem zt7 {n:Nd}{b:BW}(d:zbG n.k.sh b=true)(c:n.room (zed b)=true):n.hearB b={ n.wrt (zed b)with k:={ n.k with sh:=n.k.sh++[b] } }:=by
 rw[Nd.hearB,d,c,Nd.wrt,c];rfl
theorem znj {n:Nd}{b:BW}(h:zbG n.k.sh b=false\/n.room (zed b)=false):n.hearB b=n:=by
 rw[Nd.hearB];rcases h with h|h<;>simp[h]
theorem zlQ {l:List BW}{b:BW}(h:zbG l b=true):l.length<800:=by
 simp only[zbG,Bool.and_eq_true,dE_]at h;exact h.2
theorem za3.sh_ {n:Nd}(h:za3 n){b:BW}(j:n.k.sh.length<800)(f:b.f=0):za3 { n with k:={ n.k with sh:=n.k.sh++[b] } }:=
 ⟨h.nu,h.pool,by simp;omega,λc d=>by
  rcases mA_.1 d with g|g
  .exact h.shf c g
  .obtain rfl:c=b:=by simpa using g
   exact f,h.dag,h.own,h.ovl,h.vot,h.tape,h.syn,h.wai,h.trn,h.tab,h.u8t,h.u8s,h.ou8,h.du8⟩
theorem zlR (x:NM)(b:Bc)(w:World)(U:Nat->Bool)(F o:Nat)(T:TypeId)(R:X_)(h:zo w U F o T R x)(V:zcN (zq U w) b)(hf:b.v.f=0) :
  Calls prog 54 #[.pointer (some (p_ F o)),.agg #[.int .i64 b.v.au,.int .i64 b.v.nu,.slice b.ta b.v.ss.length b.tc]] w λe w'=>(∃v,e=.returned v)/\zal w U F o T R x w' (x.v.hearB b.v):=by
 have Y:=zC w (.cells #[.int .i64 b.v.au,.int .i64 b.v.nu,.slice b.ta b.v.ss.length b.tc] 86);have X:=hN_ w (.cells #[.int .i64 b.v.au,.int .i64 b.v.nu,.slice b.ta b.v.ss.length b.tc] 86);go_in;go_upto_region 1 with fail
 generalize w.alloc (.cells #[.int .i64 b.v.au,.int .i64 b.v.nu,.slice b.ta b.v.ss.length b.tc] 86)=W0 at Y X|-;have h0:=h.below Y;have ax:=V.sub (zK U w);have a0:=zb X 0 _ rfl;have a1:=zb X 1 _ rfl;have a2:=zb X 2 _ rfl;go_wp2_with fail
 refine(zlO x b W0 U F o T R h0 (ax.below Y) hf).mono ?_;rintro e N⟨⟨⟨⟨v9,f,l⟩,d⟩,he,hsv,hSA,hs1,hs2⟩,hb1⟩
 simp only at hsv
 subst hsv;subst he;dsimp only at hs1 hs2|-;have ah:=zm Y hb1;have az:=zk hb1 X;have aN:=Y.size;have hS:∀W:World,B_ N W->zd3 (zq U W) ⟨⟨b.v,f,l⟩,d⟩:=λW hW=>(hSA.hid (U:=U) (λsb so e=>h.bnd.new (by have:=hs1 sb so e;omega)) (λsb so e=>h.bnd.new (by have:=hs2 sb so e;omega))).sub (zao.below U hW).sub;have HS:Hid _:=hS;clear hSA hs1 hs2 a0 a1 a2 ax hS;have Z:=zC N (.cells #[.int .i64 b.v.au,.int .i64 b.v.nu,.slice f b.v.ss.length l,.slice d.sa d.bs.length d.cap] 102);have q2:=hN_ N (.cells #[.int .i64 b.v.au,.int .i64 b.v.nu,.slice f b.v.ss.length l,.slice d.sa d.bs.length d.cap] 102);go_upto_region 2 with fail
 generalize N.alloc (.cells #[.int .i64 b.v.au,.int .i64 b.v.nu,.slice f b.v.ss.length l,.slice d.sa d.bs.length d.cap] 102)=W2 at Z q2|-;have ai:=zm ah Z;have h2:=h.below ai;have af:=zk Z az;have ap:Hid (zd3 (zq U W2) ⟨⟨b.v,f,l⟩,d⟩):=HS.out W2 Z;have ak:Hid (U N.heap.size=false):=h.bnd.new ah.size;have aK:Hid (w.heap.size<=N.heap.size):=ah.size;generalize N.heap.size=A at q2 ak aK|-;clear HS X az Z hb1 aN h0;generalize hT:zbG (shw x.sh) b.v=tb;have HT:Hid _:=hT;clear hT;cases tb with
 | false=>
  go_wp2_with fail
  go_end0;exact⟨⟨_,rfl⟩,by rw[znj (.inl HT.out)];exact zal.quiet h ai⟩
 | true=>
  have m0:=zb af 0 _ rfl;have m1:=zb af 1 _ rfl;have m2:=zb af 2 _ rfl;go_wp2_with fail
  refine(zmy b W2).mono ?_;rintro _ w3⟨rfl,ae⟩;dsimp only;have aj:=zm ai ae;have h3:=h.below aj;have q3:=zk ae q2;have aq:Hid (zd3 (zq U w3) ⟨⟨b.v,f,l⟩,d⟩):=ap.out.sub (zao.below U ae).sub;clear m0 m1 m2 af q2 ap h2;go_wp2_with fail
  refine(zgZ x (zfr b) w3 U F o T R h3 (ztM (V.sub (zao.below U aj).sub) (zkN hf)) (zqV hf) (ztQ b)).mono ?_;rintro _ w4⟨rfl,O,av,c,J,n4,v4⟩;dsimp only;have aw:=(zl.below (F:=F) (o:=o) U R x aj).trans n4;have q4:=n4.box h3 q3 ak.out;have ar:Hid (O A=false):=n4.hides (ze q3) ak.out;have aG:Hid (zd3 (zq O w4) ⟨⟨b.v,f,l⟩,d⟩):=aq.out.sub (n4.sub h3);have al:(zfr b).c=zed b.v:=rfl;rw[al]at v4;rw[al];generalize hR:x.v.room (zed b.v)=rm;have HR:Hid _:=hR;have HV:Hid _:=v4;clear hR v4 al q3 aq ae h3;cases rm with
  | false=>
   go_wp2_with fail
   go_end0;refine⟨⟨_,rfl⟩,?_⟩;rw[znj (.inr HR.out)];exact⟨O,av,c,J,aw,by rw[HV.out,Nd.wrt,HR.out];rfl⟩
  | true=>
   have aB:∀P:Prop,¬(O A=true/\P):=λP k=>by have:=k.1;rw[ar.out]at this;cases this
   have aA:A≠F:=λe=>by have:=ar.out;rw[e,J.fu]at this;cases this
   have aI:c.sh.length<800:=by
    have e1:=cA_ (λn=>n.k.sh.length) HV.out;have e2:=zlQ HT.out;simp only[Nd.wrt]at e1;have e3:(shw c.sh).length=(shw x.sh).length:=by
     rw[HR.out]at e1;exact e1
    rw[zb6,zb6]at e3;rw[zb6]at e2;omega
   have HB:Hid (A=A):=rfl;have au:∀(D B:World) (y:Q_) (z:Nat),B_ w4 D->B.ownsRow 0 102 4 (.slice y (c.sh++[(⟨⟨b.v,f,l⟩,d⟩:Sh)]).length z) (c.sh++[(⟨⟨b.v,f,l⟩,d⟩:Sh)]).length (shv (c.sh++[(⟨⟨b.v,f,l⟩,d⟩:Sh)]))->zV D (.slice c.sa c.sh.length c.sc) B (.slice y (c.sh++[(⟨⟨b.v,f,l⟩,d⟩:Sh)]).length z)->(∃v,Ending.returned (.tuple #[])=.returned v)/\zal w U F o T R x (B.setCell (p_ F (o+4)) (.slice y (c.sh.length+1) z)) (x.v.hearB b.v):=by
    intro D B y z V ho G;refine⟨⟨_,rfl⟩,?_⟩;rw[zt7 HT.out HR.out];have h1:=J.below V;have aL:(c.sh++[(⟨⟨b.v,f,l⟩,d⟩:Sh)]).length=c.sh.length+1:=by simp
    have ay:=h1.more_sh G ho (λs hs=>?_) ?_;rw[aL]at ay;refine zal.after (aw.trans (zl.below O av c V)) ?_;obtain⟨U',aH,x',k1,k2,k3⟩:=ay;refine⟨U',aH,x',k1,k2,?_⟩;rw[k3,NM.v_sh,HV.out,zzc];have k:=h1.grew_sub G (λq e=>.inr (.inr (.inr (.inl e))));rcases mA_.1 hs with g|g;exact(h1.esh s g).sub k;obtain rfl:s=⟨⟨b.v,f,l⟩,d⟩:=by simpa using g
    exact(aG.out.sub (zao.below O V).sub).sub k;rw[NM.v_sh];exact J.inv.sh_ (b:=b.v) (by show(shw c.sh).length<800;rw[zb6];exact aI) hf
   go_upto_region 3 with fail
   obtain⟨ti,aC,aD,aE,aF⟩:=info_parts zt6;have ad:=dB_ w4;have ag:=dQ_ q4;refine wR_ (S:=λw'=>R_ w' A #[.int .i64 b.v.au,.int .i64 b.v.nu,.slice f b.v.ss.length l,.slice d.sa d.bs.length d.cap] 102) (by kernel_rfl) ag (λm=>?_);generalize w4.drew=r at ad ag m|-;have aM:=J.below ad;refine tks_ 4 [(0,19,.pointer (some (p_ F o))),(1,20,.pointer (some (p_ F o))),(2,21,.pointer (some (p_ F o))),(3,22,.pointer (some (p_ F (o+4))))] m ?_;simp only[tkf_,zf];refine tQ_ 5 24 (.agg #[.int .i64 b.v.au,.int .i64 b.v.nu,.slice f b.v.ss.length l,.slice d.sa d.bs.length d.cap]) rfl rfl (Or.inl ⟨by rfl,λw0 aJ=>zL 102 _ rfl A rfl 102 #[.int .i64 b.v.au,.int .i64 b.v.nu,.slice f b.v.ss.length l,.slice d.sa d.bs.length d.cap] (0,0) _ aJ underlying102 rfl sSh⟩) m ?_;simp only[zf];refine rY_ (rs:=[4,6]) (by kernel_rfl) (by simp) (rA_ rfl (λH p=>?_) (rA_ rfl (λH p=>?_) rN_));have an:=aM.cell 4 _ rfl;refine zy rfl 23 rfl (.slice c.sa c.sh.length c.sc) r (by go_simp) ?_;refine p.out _ _ m (λm=>?_);simp only[zf];clear an;refine zE 6 rfl (λH p=>?_)
   all_goals
    refine zy rfl 25 rfl (.slice (some (p_ r.heap.size 0)) 1 1) (r.alloc (.cells #[.int .i64 b.v.au,.int .i64 b.v.nu,.slice f b.v.ss.length l,.slice d.sa d.bs.length d.cap] 102)) (by go_simp) ?_;have C:=zC r (.cells #[.int .i64 b.v.au,.int .i64 b.v.nu,.slice f b.v.ss.length l,.slice d.sa d.bs.length d.cap] 102);have L:=zm ad C;have I:=hN_ r (.cells #[.int .i64 b.v.au,.int .i64 b.v.nu,.slice f b.v.ss.length l,.slice d.sa d.bs.length d.cap] 102);have M:=zk C ag;refine p.out _ _ M (λm=>?_);simp only[zf];generalize r.alloc (.cells #[.int .i64 b.v.au,.int .i64 b.v.nu,.slice f b.v.ss.length l,.slice d.sa d.bs.length d.cap] 102)=D at C L I M m|-;clear C;generalize r.heap.size=A at I|-;have t:=J.below L
   rotate_left
   refine zE 4 rfl (λH p=>?_);have an:=t.cell 4 _ rfl;refine zy rfl 23 rfl (.slice c.sa c.sh.length c.sc) D (by go_simp) ?_;refine p.out _ _ m (λm=>?_);simp only[zf];clear an
   rotate_left
   all_goals
    refine zE 7 rfl (λH p=>?_);refine zaz rfl 26 rfl (.tmp 23) (.tmp 25) 56 rfl 0 102 ti (.agg #[.int .i64 0,.int .i64 0,.slice none 0 0,.slice none 0 0]) 4 64 underlying56 aC aD aE aF rfl (by decide) (.slice c.sa c.sh.length c.sc) c.sh.length (shv c.sh) rfl t.rsh (p_ A 0) 1 1 (Sh.cs ⟨⟨b.v,f,l⟩,d⟩) rfl rfl (λj u hu=>by rw[zaP,zA_];exact zb I j u (by rw[<-Array.getElem?_toList];exact hu)) (zlP _) (by unfold maxLen;omega) (by omega) (nZ_ _) ?_;intro v3 B ab E;obtain⟨y,z,am⟩:=zH ab;subst am;have ac:=E.row M (λe=>aB _ (t.su _ (.inr (.inr (.inr (.inl (zp e)))))));have aa:=E.row t.blk (λe=>(t.su _ (.inr (.inr (.inr (.inl (zp e)))))).2 rfl);refine p.out _ _ ac (λm=>?_);simp only[zf];refine tks_ 2 [(8,27,.pointer (some (p_ F o))),(9,28,.pointer (some (p_ F (o+4))))] m ?_;simp only[tkf_,zf];refine zE 10 rfl (λH p=>?_);have aO:=zb aa (o+4) _ (t.cel 4 (by decide));have aP:=zd aa (o+4);refine zX rfl rfl (B.setCell (p_ F (o+4)) (.slice y (c.sh.length+1) z)) (by go_simp) ?_;have ao:=zh (b:=F) (j:=o+4) (v:=.slice y (c.sh.length+1) z) ac (λe=>aA e);refine p.out _ _ ao (λm=>?_);refine wD_ (by kernel_rfl) ?_ _;go_wp2_with fail
    go_end0;exact au D B y z L (by rw[zi0];simpa using ab) (by simpa using E)
def zwI (w w':World)(e:Ending)(l:List CV)(rd:Int)(pl:List zi):Prop:=
 (zdz l rd (zT pl)=9/\e=.returned (.tuple #[O_,I_ 9]))\/(zdz l rd (zT pl)≠9/\∃ma mc ms,e=.returned (.tuple #[.slice ma (List.length ms) mc,I_ 0])/\zT ms=zmj l (zT pl)/\zx w' ma mc ms/\za1 w.heap.size ma ms)
theorem zkO (c:List Ct)(s:Nat)(X:Q_)(I:Nat)(da:Q_)(dc:Nat)(ds:List zi)(au rd:Int)(R:Q_)(U T:Nat)(pl:List zi)(M:Q_)(pc:Nat)(w:World)(hs:zee w s c X I da dc ds)(aO:pl.length<=4)(aP:1<=rd/\rd<=1048576)(A:zbT w M pl)(aC:∀p∈pl,p.bs.length<=140737488355328) :
  Calls prog 142 #[P_ s 0,.agg #[I_ au,I_ rd,.slice R U T,.slice M pl.length pc]] w λe w'=>zwI w w' e (zI c) rd pl/\B_ w w':=by
 refine kO_ ?A0 ?_;exact Obj.cells #[I_ au,I_ rd,.slice R U T,.slice M pl.length pc] 60;have B:=zC w ?A0;have r1:=hN_ w ?A0;obtain⟨i,hi,aG,aH,aI⟩:=info_parts zhc;have aQ:=hs.at'.small;have aJ:=hs.at'.cle;have aK:=hs.at'.cmax;go_in;go_wp2_with fail
 generalize w.alloc ?A0=g at B r1|-;have aA:=ze r1;go_loopw [13,6] (λj v wr=>∃(m:Nat) (ms:List zi),m<=pl.length/\j=I_ m/\zT ms=zdL (zI c) (zT pl) m/\z8 wr g.heap.size v ms/\zb5 (zI c) rd (zT pl) m≠9/\wr.ownsRow g.heap.size 61 1 v ms.length (pv ms)/\B_ g wr) (λj _ _=>pl.length-(intOf j).toNat)
 case atStart=>exact⟨0,[],nZ_ _,rfl,rfl,(λp A=>by cases A),by rw[zb5];decide,oN_ _ _ _ _,bR_ _ _⟩
 case round=>
  obtain⟨m,ms,hm,rfl,C,aa,L,ho,ab⟩:=hrel;have ae:=zm B ab;have s1:=(ab.block _ aA).trans r1;have d1:=zb s1 1 (I_ rd) rfl;have ah:=hs.below ae;have az:=ah.box;have b0:=zb az 0 (.slice X c.length I) rfl;have ao:=A.below ae;have aN:ms.length<=m:=by
   have:=cA_ List.length C;rw[zcQ]at this;rw[this];exact zot _ _ _
  by_cases hlt:m<pl.length
  .rcases ao.cells with ac|⟨pb,po,rfl,ac⟩;subst ac;simp at hlt;have ck:=ac m hlt;have hx:=ao.each (pl[m]) (gM_ hlt);have aF:=aC (pl[m]) (gM_ hlt);have aM:(m:Int)<pl.length:=by omega
   have z:=zw5 pl m hlt;have al:m<(zT pl).length:=by rw[zcQ];exact hlt
   have Hn:Hid (pOf (zI c) (pl[m]).bs<0->zb5 (zI c) rd (zT pl) (m+1)≠9/\zdL (zI c) (zT pl) (m+1)=zT ms++[(pl[m]).bs]):=by
    show _->_;intro h;refine⟨?_,?_⟩;rw[zlD _ _ _ m L (by rw[z];exact h)];decide;rw[zdL,z,iP_ h,C]
   have H:Hid (¬pOf (zI c) (pl[m]).bs<0->(zaM (zI c) (pOf (zI c) (pl[m]).bs).toNat).rd≠rd-1->zdz (zI c) rd (zT pl)=9):=by
    show _->_->_;intro Y h2;exact zpW _ _ _ m (by rw[z];exact Y) (by rw[z];exact h2) al
   have F:Hid (¬pOf (zI c) (pl[m]).bs<0->(zaM (zI c) (pOf (zI c) (pl[m]).bs).toNat).rd=rd-1->zb5 (zI c) rd (zT pl) (m+1)≠9/\zT ms=zdL (zI c) (zT pl) (m+1)):=by
    show _->_->_;intro Y h2;refine⟨?_,?_⟩;rw[zos _ _ _ m (by rw[z];exact Y) (by rw[z];exact h2)];exact L;rw[zdL,z,iN_ Y,C]
   have hB:=zrC (zI c) (pl[m]).bs;rw[zbv]at hB;have ai:∀k:Nat,k<c.length->∃f d,X=some (p_ f d)/\wr.cell? (p_ f (d+k*5+1))=some (I_ (zaM (zI c) k).rd):=λk hk=>by
    obtain⟨f,d,e,_,V,_⟩:=ah.at'.certs.at k hk;exact⟨f,d,e,by rw[zk4 c k hk];exact V⟩
   have ad:Hid _:=ai;clear L z ac al ai C;generalize pl[m]=p at*;go_wp2_with fail
   refine(zmw c s X I da dc ds p.bs p.sa _ p.cap wr ah rfl hx).mono ?_;rintro _ O⟨rfl,l⟩;dsimp only;have af:=zm ab l;have am:=zw ho l;have t1:=zr l d1;have t0:=zr l b0;have av:z8 O g.heap.size _ ms:=aa.same l.size (λp A b d e=>l.block b ((aa p A).2 b d e).2.1);generalize pOf (zI c) p.bs=r at*;by_cases hr:r<0
   .obtain⟨D,E⟩:=Hn.out hr;have HX:Hid _:=D;have HY:Hid _:=E;clear Hn H F ad D E;obtain rfl:r=-1:=by omega
    go_wp2_with fail
    refine(zeH p.bs p.sa _ p.cap O rfl (hx.below l) aF).mono ?_;rintro e w2⟨N,rc,he,aD,ap,ag⟩;subst he;dsimp only;have Z:=zm af ag;have an:=zw am ag;go_wp2_with (at_builtin;refine wpList_append_own_at _ rfl _ _ 58 rfl g.heap.size 61 i (O_) 1 24 underlying58 hi aG aH aI rfl (by decide) _ ms.length _ rfl (oA_ an _) (p_ w2.heap.size 0) 1 1 [.slice N p.bs.length rc] rfl rfl (zag _ _ _) (by intro u hu;simp at hu;subst hu;rfl) (by unfold maxLen;omega) (by omega) (zB Z.size _) ?_;intro v1 w3 aB ak _ ax)
    have G:=zV.of ak ax;have ay:=zm l ag;have aw:=aa.more_at (q:=⟨N,rc,p.bs⟩) ab.size ho ay (λf d e=>⟨nT_ l.size (ap f d e).1,(ap f d e).2⟩) aD G;have ar:=Below.grown (Z.alloc Z.size _) ak (zB Z.size _) (λq e=>(an.lt q e).1);go_roundw
    case rel=>
     have J:∃(o:Nat) (t:List zi),o<=pl.length/\(Value.int .i64 ((m:Int)+1))=I_ o/\zT t=zdL (zI c) (zT pl) o/\z8 w3 g.heap.size v1 t/\zb5 (zI c) rd (zT pl) o≠9/\w3.ownsRow g.heap.size 61 1 v1 t.length (pv t)/\B_ g w3:=
      ⟨m+1,ms++[⟨N,rc,p.bs⟩],by omega,by go_num,by rw[HY.out];simp[zT],aw,HX.out,by simpa[pv,zi.val]using aB,ar⟩
     first|exact J|((repeat apply Exists.intro);exact⟨J,rfl⟩)
    case measure=>simp[intOf];omega
   obtain⟨k,rfl⟩:∃k:Nat,r=k:=⟨r.toNat,by omega⟩;obtain⟨f,d,rfl,V⟩:=ad.out k (by omega);replace V:=zr l V;simp only[Int.toNat_natCast]at H F;clear Hn ad;generalize (zaM (zI c) k).rd=y at*;have aq:IntKind.i64.wrap (rd-1)=rd-1:=by rw[IntKind.wrap_i64];omega
   have aL:(k:Int)<c.length:=by omega
   by_cases hy:y=rd-1
   .obtain⟨D,E⟩:=F.out (by omega) hy;have HX:Hid _:=D;have HY:Hid _:=E;subst hy;clear F H D E;have aE:(rd-1 != IntKind.i64.wrap (rd-1))=false:=by rw[aq];simp
    go_wp2_with fail
    go_region_held3 (λw'=>w'.cell? (p_ s 0)=some (.slice (some (p_ f d)) c.length I)/\w'.cell? (p_ w.heap.size 1)=some (I_ rd)/\w'.cell? (p_ f (d+k*5+1))=some (I_ (rd-1))) (go_keep) (fail)
    all_goals
     go_wp2_with fail
     go_roundw
     case rel=>
      have J:∃(o:Nat) (t:List zi),o<=pl.length/\(Value.int .i64 ((m:Int)+1))=I_ o/\zT t=zdL (zI c) (zT pl) o/\z8 O.drew g.heap.size u6 t/\zb5 (zI c) rd (zT pl) o≠9/\O.drew.ownsRow g.heap.size 61 1 u6 t.length (pv t)/\B_ g O.drew:=
       ⟨m+1,ms,by omega,by go_num,HY.out,av.same (nR_ _) (λp A b d e=>rfl),HX.out,am.drew,af.drew⟩
      first|exact J|((repeat apply Exists.intro);exact⟨J,rfl⟩)
     case measure=>simp[intOf];omega
   have He:Hid (zdz (zI c) rd (zT pl)=9):=H.out (by omega) hy;clear F H;have aE:(y != IntKind.i64.wrap (rd-1))=true:=by rw[aq];simpa using hy
   go_wp2_with fail
   go_region_held3 (λw'=>w'.cell? (p_ s 0)=some (.slice (some (p_ f d)) c.length I)/\w'.cell? (p_ w.heap.size 1)=some (I_ rd)/\w'.cell? (p_ f (d+k*5+1))=some (I_ y)) (go_keep) (fail)
   all_goals
    go_wp2_with fail
    go_ret2;exact⟨.inl ⟨He.out,rfl⟩,(B.trans (af.mono B.size)).drew⟩
  obtain rfl:m=pl.length:=by omega
  have HF:Hid (zdz (zI c) rd (zT pl)≠9):=by
   show zb5 _ _ _ _≠9;rw[zcQ];exact L
  have HM:Hid (zT ms=zmj (zI c) (zT pl)):=by
   show zT ms=zdL _ _ _;rw[zcQ];exact C
  clear L C;obtain⟨N,rc,hv,hl,hL,aj⟩:=zcI ho aa;subst hv;go_wp2_with fail
  go_ret2;exact⟨.inr ⟨HF.out,N,rc,ms,rfl,HM.out,hL (by omega),⟨λf d e=>nT_ B.size (aj.row f d e),λp A f d e=>nT_ B.size (aj.each p A f d e)⟩⟩,ae⟩
theorem znk (b:List Ct)(s:Nat)(A:Q_)(B:Nat)(E:Q_)(F:Nat)(ds:List zi)(c:Ct)(w:World)(u:zee w s b A B E F ds)(N:za7 w c) :
  Calls prog 101 #[P_ s 0,.agg (crow_ c)] w λe w'=>e=.returned (I_ (za8 (zI b) c.v))/\B_ w w':=by
 have G:=(bR_ w.heap.size w).alloc (nR_ _) (.cells (crow_ c) 88);have R:=hN_ w (.cells (crow_ c) 88);have r:Hid (za8 (zI b) c.v=if c.v.f≠0 then c.v.f else if zfc (zI b) c.au c.rd (zT c.pl)≠0 then zfc (zI b) c.au c.rd (zT c.pl)else if 400<=b.length then 6 else 0):=by
  show _=_;rw[za8,zbv];rfl
 have ac:=u.at'.small;go_in;go_wp2_with fail
 generalize w.alloc (.cells (crow_ c) 88)=V at G R|-;have m:=N.below G;have z:=zgG c.au c.rd c.ba c.bc c.bl c.pa c.pc c.pl c.va c.vc c.vl V m.hat.lb m.hat.lp m.ints m.vle;rw[Ct.f_v]at z;refine z.mono ?_;rintro _ w1⟨rfl,L⟩;dsimp only;clear z m;have H:=zm G L;have I:=zk L R;by_cases hx:c.v.f=0
 .have f:Hid (za8 (zI b) c.v=if zfc (zI b) c.au c.rd (zT c.pl)≠0 then zfc (zI b) c.au c.rd (zT c.pl)else if 400<=b.length then 6 else 0):=by
   show _=_;rw[r.out,iN_ (λh=>h hx)]
  obtain⟨y1,y2,y3,y4,y5,T⟩:=zbi (zfO (vl:=c.vl) (by rw[Ct.f_v];exact hx));have U:Hid (∀p∈c.pl,p.bs.length<=140737488355328):=by
   show ∀p,_;exact λp hp=>by rw[T p hp];decide
  rw[hx];clear hx r y1 y3 y5 T;have C:=zb I 0 _ rfl;have D:=zb I 1 _ rfl;go_wp2_with fail
  refine(zmx b s A B E F ds c.au c.rd w1 (u.below H)).mono ?_;rintro _ w2⟨rfl,M⟩;dsimp only;have t:=zm H M;have y:=zk M I;clear C D;by_cases hh:0<=cOf (zI b) c.au c.rd
  .have d:Hid (za8 (zI b) c.v=7):=by
    show _=_;have Z:zfc (zI b) c.au c.rd (zT c.pl)=7:=by rw[zfc,iP_ hh]
    rw[f.out,Z];rfl
   rw[dT_ hh];clear hh f;go_wp2_with fail
   go_ret;exact⟨zt d.out.symm,t⟩
  have g:Hid (zfc (zI b) c.au c.rd (zT c.pl)=zdz (zI b) c.rd (zT c.pl)):=by
   show _=_;rw[zfc,iN_ hh]
  rw[dF_ hh];clear hh;have C:=zb y 0 _ rfl;have D:=zb y 1 _ rfl;have X:=zb y 2 _ rfl;have Y:=zb y 3 _ rfl;go_wp2_with fail
  refine(zkO b s A B E F ds c.au c.rd c.ba c.bl.length c.bc c.pl c.pa c.pc w2 (u.below t) y4 y2 (N.below t).hat.lp.parts U.out).mono ?_;rintro e w3⟨hM,ab⟩;have q:=zm t ab;have b0:=zb (u.below q).box 0 _ rfl;clear C D X Y;rcases hM with⟨o,j⟩|⟨o,ma,mc,ms,j,J,-,-⟩
  .have d:Hid (za8 (zI b) c.v=9):=by
    show _=_;rw[f.out,g.out,o];rfl
   clear o f g;subst j;dsimp only;go_wp2_with fail
   go_ret;exact⟨zt d.out.symm,q⟩
  have O:ms.length=(zmj (zI b) (zT c.pl)).length:=by rw[<-J,zcQ]
  have l:Hid (zdz (zI b) c.rd (zT c.pl)=if ms.length=0 then 0 else 8):=by
   show _=_;rw[O];exact zm6 _ _ _ _ o
  clear o J O;subst j;dsimp only;by_cases hz:ms.length=0
  .rw[hz];by_cases h4:400<=b.length;have d:Hid (za8 (zI b) c.v=6):=by
    show _=_;rw[f.out,g.out,l.out,iP_ hz,iN_ (by simp),iP_ h4]
   have aa:(400:Int)<=b.length:=by omega
   rotate_left
   have d:Hid (za8 (zI b) c.v=0):=by
    show _=_;rw[f.out,g.out,l.out,iP_ hz,iN_ (by simp),iN_ h4]
   have aa:¬(400:Int)<=b.length:=by omega
   rotate_left
   all_goals
    clear l f g;go_wp2_with fail
    go_ret;exact⟨zt d.out.symm,q⟩
  have d:Hid (za8 (zI b) c.v=8):=by
   show _=_;rw[f.out,g.out,l.out,iN_ hz];rfl
  have ae:(0:Int)<ms.length:=by omega
  clear l f g;go_wp2_with fail
  go_ret;exact⟨zt d.out.symm,q⟩
 have d:Hid (za8 (zI b) c.v=c.v.f):=by
  show _=_;rw[r.out,iP_ hx]
 have ad:(c.v.f != 0)=true:=by simpa using hx
 clear r;generalize c.v.f=x at*;go_wp2_with fail
 go_ret;exact⟨zt d.out.symm,H⟩
theorem zhq (b:List zi)(A:Q_)(n M:Nat)(w:World)(Y:n=b.length)(ai:b.length<=1000)(aa:∀p∈b,p.bs.length<=140737488355328)(y:zbT w A b) :
  Calls prog 179 #[.slice A n M] w λe w'=>∃d rc c,e=.returned (.slice d b.length rc)/\zbm c b/\zx w' d rc c/\B_ w w'/\za1 w.heap.size d c/\(∀f g,d=some (p_ f g)->f<w'.heap.size):=by
 subst Y;obtain⟨i,X,af,ag,ah⟩:=info_parts zhc;go_in;go_wp2_with fail
 go_loopw [8,3] (λj v wr=>∃(k:Nat) (c:List zi),k<=b.length/\j=I_ k/\zbm c (b.take k)/\wr.ownsRow w.heap.size 61 1 v k (pv c)/\z8 wr w.heap.size v c/\B_ w wr) (λj _ _=>b.length-(intOf j).toNat)
 case atStart=>exact⟨0,[],nZ_ _,rfl,by simp[zbm],oN_ _ _ _ _,(λp y=>by cases y),bR_ _ _⟩
 case round=>
  obtain⟨k,c,hk,rfl,m,r,D,o⟩:=hrel;by_cases hlt:k<b.length
  .have I:=y.below o;obtain⟨f,g,rfl,E⟩:∃f g,A=some (p_ f g)/\∀j (h:j<b.length),C_ wr f (g+j) (.slice (b[j]).sa (b[j]).bs.length (b[j]).cap):=by
    rcases I.cells with h|h;rw[h]at hlt;simp at hlt;exact h
   have ck:=E k hlt;have hx:=I.each (b[k]) (gM_ hlt);have ae:=aa (b[k]) (gM_ hlt);have ad:Hid (b.take (k+1)=b.take k++[b[k]]):=tS_ hlt;have aj:(k:Int)<b.length:=by omega
   clear E;generalize b[k]=p at*;go_wp2_with fail
   refine(zeH p.bs p.sa _ p.cap wr rfl hx ae).mono ?_;rintro e w2⟨d,rc,U,ac,ab,t⟩;subst U;dsimp only;have H:=zw r t;have l:=zm o t;go_wp2_with (at_builtin;refine wpList_append_own_at _ rfl _ _ 58 rfl w.heap.size 61 i (O_) 1 24 underlying58 X af ag ah rfl (by decide) _ k _ rfl (oA_ H _) (p_ w2.heap.size 0) 1 1 [.slice d p.bs.length rc] rfl rfl (zag _ _ _) (by intro u J;simp at J;subst J;rfl) (by unfold maxLen;omega) (by omega) (zB l.size _) ?_;intro L B Z F _ T)
   have G:=zV.of F T;have R:=D.more_at (q:=⟨d,rc,p.bs⟩) o.size r t ab ac G;have N:=Below.grown (l.alloc l.size _) F (zB l.size _) (λq e=>(H.lt q e).1);go_wp2_with fail
   go_roundw
   case rel=>
    have C:∃(s:Nat) (z:List zi),s<=b.length/\(Value.int .i64 ((k:Int)+1))=I_ s/\zbm z (b.take s)/\B.ownsRow w.heap.size 61 1 L s (pv z)/\z8 B w.heap.size L z/\B_ w B:=
     ⟨k+1,c++[⟨d,rc,p.bs⟩],by omega,by go_num,by rw[ad.out];simp only[zbm,List.map_append]at m|-;rw[m];rfl,by simpa[pv,zi.val]using Z,R,N⟩
    first|exact C|((repeat apply Exists.intro);exact⟨C,rfl⟩)
   case measure=>simp[intOf];omega
  obtain rfl:k=b.length:=by omega
  rw[tL_ (nR_ _)]at m;obtain⟨d,rc,hv,hl,O,V⟩:=zcI r D;subst hv;go_wp2_with fail
  go_ret;exact⟨d,rc,c,rfl,m,O (by omega),o,V,λf g e=>by subst e;exact(r.lt f rfl).2⟩
theorem zvL:(prog.info? 3).map (λi=>(i.zero,i.size,i.bytes))=some (some (I_ 0),1,8):=by kernel_rfl
theorem znL (vl:L_)(p:Q_)(n g:Nat)(w:World)(G:n=vl.length)(O:vl.length<=1000)(r:zax w p vl) :
  Calls prog 180 #[.slice p n g] w λe w'=>∃d rc,e=.returned (.slice d vl.length rc)/\zax w' d vl/\(∀b f,d=some (p_ b f)->w.heap.size<=b/\b<w'.heap.size)/\B_ w w':=by
 subst G;obtain⟨i,E,I,J,L⟩:=info_parts zvL;cases p with
 | none=>
  have z:vl=[]:=by
   rcases r.cells with h|⟨_,_,h,_⟩;exact h;cases h
  subst z;have C:∀w:World,(binOp .eql 64 (.slice none 0 g) (O_)).run prog w=.ok (.bool true) w:=λ_=>rfl;go_in;go_wp2_with fail
  go_ret;exact⟨none,0,rfl,⟨.inl rfl⟩,(λ_ _ e=>by cases e),bR_ _ _⟩
 | some ad=>
  have C:∀w:World,(binOp .eql 64 (.slice (some ad) vl.length g) (O_)).run prog w=.ok (.bool false) w:=λ_=>rfl;have l:=zC w (.cells #[] 3);have B:∀j u,(iv vl)[j]? = some u->(w.alloc (.cells #[] 3)).cell? (ad.add j)=some u:=λj u m=>by
   have c:j<vl.length:=by
    rcases lG_ j vl.length with h|h;exact h;rw[List.getElem?_eq_none (by rw[zmS];exact h)]at m;cases m
   rcases(r.below l).cells with h|⟨b,f,e,A⟩;rw[h]at c;simp at c;cases e;have s:=A j c;simp only[iv,List.getElem?_map,List.getElem?_eq_getElem c,Option.map_some,Option.some.injEq]at m;subst m;have t:(p_ b f:Addr).add j=(p_ b (f+j)):=by
    simp only[Addr.add]
    split
    rename_i h
    subst h
    rfl
    rfl
   rw[t,s];simp[List.getD,c]
  go_in;go_wp2_with (at_builtin;refine wpList_append_own_at _ rfl _ _ 64 rfl w.heap.size 3 i (I_ 0) 1 8 underlying64 E I J L rfl (by decide) _ 0 [] rfl (World.ownsRow_made _ _ 0 (nR_ _) (by decide) rfl) ad vl.length g (iv vl) rfl (by simp[iv]) B (zs5 vl) (by unfold maxLen;omega) (by omega) l.size ?_;intro R T o D _ M)
  rw[List.nil_append,zA_]at o;obtain⟨d,rc,H,_,y,N⟩:=zeW o;have F:=o.lt;subst H;go_ret;refine⟨d,rc,rfl,y,(λb f e=>F b (by rw[e];rfl)),?_⟩;exact Below.grown l D l.size (λq e=>(World.ownsRow.lt (World.ownsRow_made (e:=3) (size:=1) w #[] 0 (nR_ _) (by decide) rfl) q e).1)
theorem znM (c:Ct)(w:World)(N:za7 w c)(h1:c.bl.length<=1000)(h2:c.pl.length<=1000)(h3:c.vl.length<=1000)(h4:∀p∈c.bl,p.bs.length<=140737488355328)(h5:∀p∈c.pl,p.bs.length<=140737488355328) :
  Calls prog 141 #[.agg #[.int .i64 c.au,.int .i64 c.rd,.slice c.ba c.bl.length c.bc,.slice c.pa c.pl.length c.pc,.slice c.va c.vl.length c.vc]] w λe w'=>∃k:Ct,e=.returned (.agg #[.int .i64 k.au,.int .i64 k.rd,.slice k.ba k.bl.length k.bc,.slice k.pa k.pl.length k.pc,.slice k.va k.vl.length k.vc])/\k.v=c.v/\za7 w' k/\(∀b,zfq k b->w.heap.size<=b)/\Below w.heap.size w w':=by
 have HB:Hid (∀p∈c.bl,p.bs.length<=140737488355328):=h4;have HP:Hid (∀p∈c.pl,p.bs.length<=140737488355328):=h5;clear h4 h5;have R:Below w.heap.size w ((w.alloc (.cells #[.int .i64 c.au,.int .i64 c.rd,.slice c.ba c.bl.length c.bc,.slice c.pa c.pl.length c.pc,.slice c.va c.vl.length c.vc] 88)).alloc (.cells #[.int .i64 0,.int .i64 0,.slice none 0 0,.slice none 0 0,.slice none 0 0] 88)):=((bR_ _ _).alloc (nR_ _) _).alloc (by rw[zG];omega) _;have Y:=hX_ w (.cells #[.int .i64 c.au,.int .i64 c.rd,.slice c.ba c.bl.length c.bc,.slice c.pa c.pl.length c.pc,.slice c.va c.vl.length c.vc] 88) (.cells #[.int .i64 0,.int .i64 0,.slice none 0 0,.slice none 0 0,.slice none 0 0] 88);have Z:((w.alloc (.cells #[.int .i64 c.au,.int .i64 c.rd,.slice c.ba c.bl.length c.bc,.slice c.pa c.pl.length c.pc,.slice c.va c.vl.length c.vc] 88)).alloc (.cells #[.int .i64 0,.int .i64 0,.slice none 0 0,.slice none 0 0,.slice none 0 0] 88)).heap[w.heap.size+1]? = some (.cells #[.int .i64 0,.int .i64 0,.slice none 0 0,.slice none 0 0,.slice none 0 0] 88 (0,0)):=by
  have:=hN_ (w.alloc (.cells #[.int .i64 c.au,.int .i64 c.rd,.slice c.ba c.bl.length c.bc,.slice c.pa c.pl.length c.pc,.slice c.va c.vl.length c.vc] 88)) (.cells #[.int .i64 0,.int .i64 0,.slice none 0 0,.slice none 0 0,.slice none 0 0] 88);rw[zG]at this;exact this
 go_in;go_wp2_with fail
 generalize (w.alloc (.cells #[.int .i64 c.au,.int .i64 c.rd,.slice c.ba c.bl.length c.bc,.slice c.pa c.pl.length c.pc,.slice c.va c.vl.length c.vc] 88)).alloc (.cells #[.int .i64 0,.int .i64 0,.slice none 0 0,.slice none 0 0,.slice none 0 0] 88)=C at R Y Z|-;have q:=ze Z;have E:=ze Y;have c0:=N.below R;refine(zhq c.bl c.ba _ c.bc C rfl h1 HB.out c0.hat.lb.parts).mono ?_;rintro e w1⟨l,o,xs,G,ac,y,M,r,ao⟩;subst G;dsimp only;have I:=(M.block _ E).trans Y;have r1:=(M.block _ q).trans Z;have e2:=zb I 2 _ rfl;have f2:=zd I 2;have O:=zb I 3 _ rfl;have ai:=zm R M;have s0:=hS_ _ _ 2 _ _ (.slice l c.bl.length o) I;have s1:=zh (b:=w.heap.size) (j:=2) (v:=.slice l c.bl.length o) r1 (Nat.succ_ne_self _);have U:=ai.setCell (p:=p_ w.heap.size 2) (nR_ _) (.slice l c.bl.length o);have y:=y.setCell r w.heap.size 2 (.slice l c.bl.length o) E;have X:C.heap.size<=(w1.setCell (p_ w.heap.size 2) (.slice l c.bl.length o)).heap.size:=by simpa using M.size
 have ae:∀f d,l=some (p_ f d)->f<(w1.setCell (p_ w.heap.size 2) (.slice l c.bl.length o)).heap.size:=λf d e=>by simpa using ao f d e
 go_wp2_with fail
 generalize w1.setCell (p_ w.heap.size 2) (.slice l c.bl.length o)=X1 at s0 s1 U y X ae|-;have aa:X1.heap[w.heap.size]? = some (.cells #[.int .i64 c.au,.int .i64 c.rd,.slice l c.bl.length o,.slice c.pa c.pl.length c.pc,.slice c.va c.vl.length c.vc] 88 (0,0)):=by simpa using s0
 clear s0 e2 f2 O I r1;have c1:=N.below U;refine(zhq c.pl c.pa _ c.pc X1 rfl h2 HP.out c1.hat.lp.parts).mono ?_;rintro e w2⟨g,m,ys,G,ad,L,D,ab,ap⟩;subst G;dsimp only;have J:=(D.block _ (ze aa)).trans aa;have t1:=zk D s1;have O:=zb J 3 _ rfl;have f3:=zd J 3;have e4:=zb J 4 _ rfl;have aj:=zm U D;have u0:=hS_ _ _ 3 _ _ (.slice g c.pl.length m) J;have u1:=zh (b:=w.heap.size) (j:=3) (v:=.slice g c.pl.length m) t1 (Nat.succ_ne_self _);have V:=aj.setCell (p:=p_ w.heap.size 3) (nR_ _) (.slice g c.pl.length m);have t:za1 C.heap.size g ys:=⟨λf d e=>nT_ X (ab.row f d e),λp A f d e=>nT_ X (ab.each p A f d e)⟩;have y:=(y.below D).setCell r w.heap.size 3 (.slice g c.pl.length m) E;have L:=L.setCell t w.heap.size 3 (.slice g c.pl.length m) E;have ar:C.heap.size<=(w2.setCell (p_ w.heap.size 3) (.slice g c.pl.length m)).heap.size:=by have:=D.size;simp;omega
 have af:∀f d,l=some (p_ f d)->f<(w2.setCell (p_ w.heap.size 3) (.slice g c.pl.length m)).heap.size:=λf d e=>by have:=ae f d e;have:=D.size;simp;omega
 have ag:∀f d,g=some (p_ f d)->f<(w2.setCell (p_ w.heap.size 3) (.slice g c.pl.length m)).heap.size:=λf d e=>by simpa using ap f d e
 go_wp2_with fail
 generalize w2.setCell (p_ w.heap.size 3) (.slice g c.pl.length m)=X2 at u0 u1 V y L ar af ag|-;have ah:X2.heap[w.heap.size]? = some (.cells #[.int .i64 c.au,.int .i64 c.rd,.slice l c.bl.length o,.slice g c.pl.length m,.slice c.va c.vl.length c.vc] 88 (0,0)):=by simpa using u0
 clear u0 O f3 e4 J t1 aa s1;have c2:=N.below V;refine(znL c.vl c.va _ c.vc X2 rfl h3 c2.ints).mono ?_;rintro e w3⟨u,B,G,hZ,T,z⟩;subst G;dsimp only;have F:=(z.block _ (ze ah)).trans ah;have s:=zk z u1;have g0:=zb F 0 _ rfl;have g1:=zb F 1 _ rfl;have g2:=zb F 2 _ rfl;have g3:=zb F 3 _ rfl;have g4:=zb F 4 _ rfl;have av:=zd F 4;have d0:=zb s 0 _ rfl;have d1:=zb s 1 _ rfl;have d2:=zb s 2 _ rfl;have d3:=zb s 3 _ rfl;have d4:=zb s 4 _ rfl;have f0:=zd s 0;have f1:=zd s 1;have f2:=zd s 2;have f3:=zd s 3;have f4:=zd s 4;have aw:w.heap.size≠w.heap.size+1:=by omega
 have ak:=zm V z;have am:=(y.below z).setCell r w.heap.size 4 (.slice u c.vl.length B) E;have an:=(L.below z).setCell t w.heap.size 4 (.slice u c.vl.length B) E;have au:∀f d,u=some (p_ f d)->w.heap.size≠f:=λf d e=>by have:=(T f d e).1;omega
 have H:∀f d,u=some (p_ f d)->w.heap.size+1≠f:=λf d e=>by have:=(T f d e).1;omega
 have aq:=hZ.setCell w.heap.size 4 (.slice u c.vl.length B) au;have al:=ak.setCell (p:=p_ w.heap.size 4) (nR_ _) (.slice u c.vl.length B);have E1:Hid (xs.length=c.bl.length):=ac.length;have E2:Hid (ys.length=c.pl.length):=ad.length;have HV:Hid ((⟨c.au,c.rd,l,o,xs,g,m,ys,u,B,c.vl⟩:Ct).v=c.v):=by
  show Ct.v _=_;simp only[Ct.v];rw[zor ac,zor ad]
 go_wp2_with fail
 refine bodyPost_ret (v:=.agg #[.int .i64 c.au,.int .i64 c.rd,.slice l c.bl.length o,.slice g c.pl.length m,.slice u c.vl.length B]) (by simp[results,results141,go_sem,d0,d1,d2,d3,d4]) rfl ⟨⟨c.au,c.rd,l,o,xs,g,m,ys,u,B,c.vl⟩,by rw[E1.out,E2.out],HV.out,⟨⟨?_,?_,?_,?_⟩,?_,N.vle⟩,?_,?_⟩;exact((((am.setCell r _ _ _ q).setCell r _ _ _ q).setCell r _ _ _ q).setCell r _ _ _ q).setCell r _ _ _ q;exact((((an.setCell t _ _ _ q).setCell t _ _ _ q).setCell t _ _ _ q).setCell t _ _ _ q).setCell t _ _ _ q;intro f d e;have:=af f d e;have:=z.size
 simp;omega
 intro f d e;have:=ag f d e;have:=z.size
 simp;omega
 exact((((aq.setCell _ _ _ H).setCell _ _ _ H).setCell _ _ _ H).setCell _ _ _ H).setCell _ _ _ H;rintro b (⟨d,e⟩|⟨d,e⟩|⟨p,A,_,d,e⟩|⟨_,d,e⟩);have:=r.row b d e;omega;have:=t.row b d e;omega;rcases mA_.1 A with A|A;have:=r.each p A b d e;omega;have:=t.each p A b d e;omega;have:=(T b d e).1;omega;exact((((al.setCell (lS_ _) _).setCell (lS_ _) _).setCell (lS_ _) _).setCell (lS_ _) _).setCell (lS_ _) _
structure zym (w w':World)(e:Ending)(s:Nat)(vc vd:Value)(ls:List Ct)(ds:List zi)(c:CV):Prop where
 told:e=.returned (I_ (za8 (zI ls) c))
 own:(za8 (zI ls) c≠0/\B_ w w')\/(za8 (zI ls) c=0/\∃(vc' vd':Value) (x:Ct) (p:zi),x.v=c/\p.bs=c.d/\Stk w' 0 s vc' vd' (ls++[x]) (ds++[p])/\Below 0 w w'/\(∀b,b<w.heap.size->b≠s->vc.ownBlock≠some b->vd.ownBlock≠some b->w'.heap[b]? = w.heap[b]?)/\(∀b,vc'.ownBlock=some b->vc.ownBlock=some b\/w.heap.size<=b)/\(∀b,vd'.ownBlock=some b->vd.ownBlock=some b\/w.heap.size<=b)/\(∀b,zfq x b->w.heap.size<=b)/\(∀sb so,p.sa=some (p_ sb so)->w.heap.size<=sb))
theorem zlS (d:List Ct)(ds:List zi)(vc vd:Value)(s:Nat)(c:Ct)(w:World)(B:Stk w 0 s vc vd d ds)(ag:zT ds=(zI d).map CV.d)(a1:d.length<=400)(hc:za7 w c)(hT:za2 w) :
  Calls prog 92 #[P_ s 0,.agg (crow_ c)] w λe w'=>zym w w' e s vc vd d ds c.v:=by
 have hB:0<=w.heap.size:=nZ_ _;obtain⟨m,o,y,z,e1,f,av⟩:=B.at ag a1;subst e1 f;obtain⟨i,hi,a5,a7,a9⟩:=info_parts zoI;obtain⟨i',aX,a6,a8,ba⟩:=info_parts zhc;have aM:Hid _:=ag;have aj:Hid (ds.length=d.length):=av.at'.len;have R:=(bR_ w.heap.size w).alloc (nR_ _) (.cells (crow_ c) 88);have r0:=hN_ w (.cells (crow_ c) 88);go_in;go_wp2_with fail
 generalize w.alloc (.cells (crow_ c) 88)=W0 at R r0|-;refine(znk d s m o y z ds c W0 (av.below R) (hc.below R)).mono ?_;rintro _ w1⟨rfl,aw⟩;dsimp only;have D:=zm R aw;have H:=zk aw r0;by_cases hx:za8 (zI d) c.v=0
 .have J:Hid _:=hx;obtain⟨f1,f2,f3⟩:=zg5 hx;rw[zbv]at f3;have ar:=zfO (vl:=c.vl) (by rw[Ct.f_v];exact f1);have ai:=zea (hc.below D).hat ar (hT.below D);obtain⟨m1,m2,m3,m4,m5⟩:=zow f1;have aI:Hid (∀W:World,B_ w W->_):=λW hW=>znM c W (hc.below hW) m1 m2 (by omega) m4 m5;rw[hx];clear hx f1 f2 ar m1 m2 m3 m4 m5 ag;have d0:=zb H 0 _ rfl;have d1:=zb H 1 _ rfl;have d2:=zb H 2 _ rfl;have d3:=zb H 3 _ rfl;go_wp2_with fail
  refine ai.mono ?_;rintro e w2⟨b,E,aW,ax,aE⟩;subst E;dsimp only;clear ai d0 d1 d2 d3;have j:=zm D ax;have I:=zk ax H;have T:=B.below j;have aa:=nT_ hB j.size;have ae:=zgg aE (by intro h;have C:=zbD c.au c.rd c.bl c.pl;rw[h]at C;simp at C) b 0 rfl;have bg:=ze B.box;have aR:=nT_ D.size aW;have aJ:Hid ((zaE c.au c.rd c.bl c.pl).length=32):=zbD _ _ _ _;have ak:Hid (zaE c.au c.rd c.bl c.pl=c.v.d):=c.d_v;have ay:=T.box;have k0:=zb ay 0 _ rfl;have bb:=dC_ k0;have e0:=zb I 0 _ rfl;have e1:=zb I 1 _ rfl;have f:=zb I 2 _ rfl;have e3:=zb I 3 _ rfl;have e4:=zb I 4 _ rfl;have aS:=zc2 T.rc ay (by decide);have aO:Hid _:=eO_ func141;go_wp2_with fail
  go_region_law (first
   | (refine zdF rfl 141 _ _ rfl [.agg (crow_ c)] rfl aO.out (λu w9=>∃x:Ct,u=.agg (crow_ x)/\x.v=c.v/\za7 w9 x/\(∀b,zfq x b->w2.heap.size<=b)/\B_ w2 w9) ((aI.out w2.drew j.drew).mono (λe w9 ⟨x,E,h1,h2,h3,h4⟩=>⟨_,E,x,rfl,h1,h2,h3,zbE h4⟩)) ?_;rintro u w4⟨x,rfl,aH,aG,ah,ad⟩;have af:=T.below ad;have M:=af.box;have m0:=zb M 0 _ rfl;have bc:(w4.alloc (.cells (crow_ x) 88)).cell? (p_ s 0)=some (.slice m d.length o):=zb (zR M) 0 _ rfl;have a4:0<=w4.heap.size:=nT_ aa ad.size)
   | (refine zcc rfl _ _ 36 rfl 0 88 i (.agg #[I_ 0,I_ 0,O_,O_,O_]) 5 88 underlying36 hi a5 a7 a9 rfl (by decide) (.slice m d.length o) d.length (ctv d) rfl (oA_ af.rc _) (p_ w4.heap.size 0) 1 1 [I_ x.au,I_ x.rd,.slice x.ba x.bl.length x.bc,.slice x.pa x.pl.length x.pc,.slice x.va x.vl.length x.vc] rfl rfl (zag _ _ _) (by intro u G;simp at G;rcases G with rfl|rfl|rfl|rfl|rfl<;>rfl) (by unfold maxLen;omega) (by omega) (zB a4 _) ?_;intro v6 X aA G6;have x2:=G6.row (zR M) aS;have bd:=zb x2 0 _ rfl;have be:=zd x2 0;obtain⟨r,t,a2⟩:=zH aA;subst a2))
  all_goals
   obtain⟨F,A,ac,ab⟩:=T.moreC aa ad aG ah G6 aA;have aF:zg (X.setCell (p_ s 0) (.slice r (d.length+1) t)) (some (p_ b 0)) 32 (zaE c.au c.rd c.bl c.pl):=zfU aE (λq V _ e=>by
    cases e;exact ac b ae (by omega) (λf=>by have:=(B.rc.lt b f).2;omega))
   have au:Hid (∀l V,some (p_ b 0:Addr)=some (p_ l V)->0<=l/\l<(X.setCell (p_ s 0) (.slice r (d.length+1) t)).heap.size/\l≠s/\(Value.slice r (d.length+1) t).ownBlock≠some l/\(Value.slice y d.length z).ownBlock≠some l):=by
    show ∀l,_;intro l V e;cases e;exact⟨by omega,nL_ ae A.size,by omega,λf=>by have:=(B.rc.lt b (ab b ae f)).2;omega,λf=>by have:=(B.rd.lt b f).2;omega⟩
   have ao:Hid (x.v=c.v):=aH;have am:Hid (∀q,q<w2.heap.size->q≠s->(Value.slice m d.length o).ownBlock≠some q->(X.setCell (p_ s 0) (.slice r (d.length+1) t)).heap[q]? = w2.heap[q]?):=ac;have aK:Hid (∀q,q<w2.heap.size->(Value.slice r (d.length+1) t).ownBlock=some q->(Value.slice m d.length o).ownBlock=some q):=ab;have aN:Hid (∀q,zfq x q->w.heap.size<=q):=λq U=>nT_ j.size (ah q U);clear bd be x2 ac ab aH ah aG m0 bc M af k0 bb e0 e1 f e3 e4;go_upto_region 8 with fail
   generalize X.setCell (p_ s 0) (.slice r (d.length+1) t)=L at F A aF au am|-;have ap:=nT_ aa A.size;have b7:=F.box;have n1:=zb b7 1 _ rfl;have aT:=zc2 F.rd b7 (by decide);have aU:=aj.out;go_wp2_with (at_builtin;refine wpList_append_own_at _ rfl _ _ 58 rfl 0 61 i' (O_) 1 24 underlying58 aX a6 a8 ba rfl (by decide) _ ds.length (pv ds) rfl (oA_ F.rd _) (p_ L.heap.size 0) 1 1 [.slice (some (p_ b 0)) 32 32] rfl rfl (zag _ _ _) (by intro u G;simp at G;subst G;rfl) (by unfold maxLen;omega) (by omega) (zB ap _) ?_;intro v8 Y aB aV _ aP;have Z:=zV.of aV aP;have x8:=Z.row (zR b7) aT;have bi:=zb x8 1 _ rfl;have bj:=zd x8 1;obtain⟨N,O,a3⟩:=zH aB;subst a3)
   obtain⟨az,aQ⟩:=F.moreD (p:=⟨some (p_ b 0),32,zaE c.au c.rd c.bl c.pl⟩) ap (bR_ _ _) aF au.out Z (by simpa[zi.val,aJ.out]using aB);have bf:Hid (zT (ds++[(⟨some (p_ b 0),32,zaE c.au c.rd c.bl c.pl⟩:zi)])=(zI (d++[x])).map CV.d):=by
    show _=_;have C:=aM.out;simp only[zT,zI,List.map_append,List.map_cons,List.map_nil]at C|-;rw[C,ak.out,ao.out]
   have aq:=((j.mono hB).trans A).trans aQ;have G9:zV (L.alloc (.cells #[.slice (some (p_ b 0)) 32 32] 61)) (.slice y d.length z) Y (.slice N (ds.length+1) O):=Z;have al:Hid (∀q,q<w.heap.size->q≠s->(Value.slice m d.length o).ownBlock≠some q->(Value.slice y d.length z).ownBlock≠some q->(Y.setCell (p_ s 1) (.slice N (ds.length+1) O)).heap[q]? = w.heap[q]?):=by
    show ∀q,_;intro q U aD aZ a0;have aC:=nL_ U j.size;have aY:=nL_ aC A.size;rw[hO_ Y (p_ s 1) q _ aD,G9.grown.block q (by rw[zG];omega) (λe=>a0 e.symm),heap_alloc_old _ _ aY,am.out q aC aD aZ];exact j.block q U
   have aL:Hid (∀q,(Value.slice r (d.length+1) t).ownBlock=some q->(Value.slice m d.length o).ownBlock=some q\/w.heap.size<=q):=λq e=>by
    rcases lG_ q w2.heap.size with g|g
    .exact .inl (aK.out q g e)
    .exact .inr (nT_ j.size g)
   have an:Hid (∀q,(Value.slice N (ds.length+1) O).ownBlock=some q->(Value.slice y d.length z).ownBlock=some q\/w.heap.size<=q):=λq e=>by
    rcases G9.fresh q e with g|g
    .exact .inl g
    .have:=j.size;have:=A.size;rw[zG]at g;exact .inr (by omega)
   clear aU;rw[aj.out]at az aq al an;clear G9;go_wp2_with fail
   go_ret;exact⟨zt J.out.symm,.inr ⟨J.out,_,_,x,⟨some (p_ b 0),32,zaE c.au c.rd c.bl c.pl⟩,ao.out,ak.out,az,aq,al.out,aL.out,an.out,aN.out,λl V e=>by cases e;exact aR⟩⟩
 have J:Hid _:=hx;have bh:(za8 (zI d) c.v != 0)=true:=by simpa using hx
 have HS:Hid (za8 (zI d) c.v=za8 (zI d) c.v):=rfl;generalize hE:za8 (zI d) c.v=x at*;have HE:Hid _:=hE;clear hE hx;go_wp2_with fail
 go_ret;exact⟨zt HE.out.symm,.inl ⟨by rw[HE.out];exact J.out,D⟩⟩
variable {U:Nat->Bool}{F o:Nat}{fc:X_}{T:TypeId}{x:NM}{bs:L_}
theorem zoW (h:zg (zq U w) sa cap bs)(f:bs≠[]){b j:Nat}(e:sa=some (p_ b j)):U b=false/\b<w.heap.size:=by
 rcases h.bytes with g|⟨l,m,c,g⟩;exact absurd g f;rw[e]at c;cases c;have d:=zhJ (g 0 (zdA f));exact⟨d.1,World.block_lt_of_cell? _ _ d.2⟩
theorem zyn (c:CV):c.d≠[]:=λh=>by have:=c.d_length;rw[h]at this;cases this
theorem zo.dsd (h:zo w U F o T fc x)(p:zi)(d:p∈x.ds):p.bs≠[]:=by
 have b:p.bs∈zT x.ds:=mM_.2 ⟨p,d,rfl⟩;rw[h.stk.same]at b;obtain⟨c,_,e⟩:=mM_.1 b;rw[<-e];exact zyn c
theorem zo.stkIn (h:zo w U F o T fc x):Stk w 0 x.s x.vc x.vd x.ls x.ds:=by
 have k:=zK U w;have f:=λb e=>(h.su b e).1;refine⟨h.stk.box,nZ_ _,h.stk.rc,h.stk.rd,λc l=>⟨(h.stk.ec c l).sub k,λb m=>⟨nZ_ _,λe=>?_⟩⟩,λp g=>⟨(h.stk.ed p g).sub k,λq s e=>?_⟩,λc l b m=>⟨λe=>?_,λe=>?_⟩,λp g q s e=>?_⟩;have:=h.stk.ic c l b m;rw[f b (.inr (.inl e))]at this;cases this;obtain⟨d,r⟩:=zoW (h.stk.ed p g) (h.dsd p g) e;exact⟨nZ_ _,r,λj=>by rw[f q (.inr (.inr (.inl j)))]at d;cases d⟩;have:=h.stk.ic c l b m;rw[f b (.inl e)]at this;cases this;have:=h.stk.ic c l b m;rw[f b (.inr (.inr (.inl e)))]at this;cases this;obtain⟨d,_⟩:=zoW (h.stk.ed p g) (h.dsd p g) e;refine⟨λj=>?_,λj=>?_⟩;rw[f q (.inl j)]at d;cases d;rw[f q (.inr (.inl j))]at d;cases d
theorem zvM {l:List CV}{c:CV}(h:zbV l=0)(j:za8 l c=0):zbV (l++[c])=0:=by
 refine zvz (λk o=>?_);obtain⟨p,m⟩:=zgw h;rcases lG_ k l.length with g|g;have b:(l++[c]).take k=l.take k:=List.take_append_of_le_length (by omega);have d:zaM (l++[c]) k=zaM l k:=by simp[zaM,List.getD,List.getElem?_append_left g]
 rw[b,d];have f:=m k g;simp only[zgH,Bool.or_eq_false_iff,decide_eq_false_iff_not,Decidable.not_not]at f;rw[za8,iN_ (by rw[f.1];decide),iN_ (by rw[f.2];decide),iN_ (by rw[lT9_];omega)];have e:k=l.length:=by simp at o;omega
 subst e;have b:(l++[c]).take l.length=l:=by simp
 have d:zaM (l++[c]) l.length=c:=by simp[zaM,List.getD]
 rw[b,d];exact j
theorem za3.dag_ {n:Nd}(h:za3 n){c:CV}(f:za8 n.k.dag c=0)(l:∀b∈c.bl++c.pl,∀x∈b,0<=x/\x<=255):za3 { n with k:={ n.k with dag:=n.k.dag++[c] } }:=
 ⟨h.nu,h.pool,h.sh,h.shf,zvM h.dag f,h.own,h.ovl,h.vot,h.tape,h.syn,h.wai,h.trn,h.tab,h.u8t,h.u8s,h.ou8,λd j=>by
  rcases mA_.1 j with g|g
  .exact h.du8 d g
  .obtain rfl:d=c:=by simpa using g
   exact l⟩
theorem NM.v_dag (x:NM)(vc vd:Value)(c:Ct)(p:zi):({ x with vc:=vc,vd:=vd,ls:=x.ls++[c],ds:=x.ds++[p] }:NM).v={ x.v with k:={ x.v.k with dag:=x.v.k.dag++[c.v] } }:=by simp[NM.v,zI]
theorem zo.inserts {e:Ending}{c:CV}(h:zo w U F o T fc x)(hI:zym w w' e x.s x.vc x.vd x.ls x.ds c)(d:∀b∈c.bl++c.pl,∀x∈b,0<=x/\x<=255) :
  zal w U F o T fc x w' (if za8 x.v.k.dag c=0 then { x.v with k:={ x.v.k with dag:=x.v.k.dag++[c] } } else x.v):=by
 rcases hI.own with⟨M,r⟩|⟨M,G,H,y,p,O,hp,f,j,B,ab,ac,hx,ag⟩;have A:¬za8 x.v.k.dag c=0:=M;rw[iN_ A];exact zal.quiet h r;have A:za8 x.v.k.dag c=0:=M;rw[iP_ A];have N:F≠x.s/\x.vc.ownBlock≠some F/\x.vd.ownBlock≠some F:=⟨λe=>(h.su F (.inl e)).2 rfl,λe=>(h.su F (.inr (.inl e))).2 rfl,λe=>(h.su F (.inr (.inr (.inl e)))).2 rfl⟩;have hF:=(B F (ze h.blk) N.1 N.2.1 N.2.2).trans h.blk;have ae:=λb e=>h.bnd b (h.su b e).1;have g:zao U (zaF (zaF U G.ownBlock) H.ownBlock) w w':=⟨j.os,j.tape,j.output,j.size,λb C d=>B b C (λe=>by rw[(h.su b (.inl e)).1]at d;cases d) (λe=>by rw[(h.su b (.inr (.inl e))).1]at d;cases d) (λe=>by rw[(h.su b (.inr (.inr (.inl e)))).1]at d;cases d),λb C=>by
  cases d:U b with
  | true=>exact zaB (zaB d)
  | false=>
   refine zbw (zbw d (λe=>?_)) (λe=>?_)
   .rcases ab b e with q|q
    .rw[(h.su b (.inr (.inl q))).1]at d;cases d
    .omega
   .rcases ac b e with q|q
    .rw[(h.su b (.inr (.inr (.inl q)))).1]at d;cases d
    .omega⟩
 have l:=g.sub;have E:∀{t:TypeId} {X n:Nat} {v:Value} {Y:List Value},w.ownsRow 0 t X v n Y->(∀q,v.ownBlock=some q->x.S q)->t≠84->t≠88->t≠61->w'.ownsRow 0 t X v n Y:=λ{t X n v Y} ho z t1 t2 t3=>zu ho (λq e=>B q (ae q (z q e)) (λeq=>zc2 ho h.stk.box t1 (by rw[e,eq])) (λL=>zcu h.stk.rc ho (Ne.symm t2) q L e) (λL=>zcu h.stk.rd ho (Ne.symm t3) q L e));have aa:∀c∈x.ls++[y],∀b,zfq c b->zaF (zaF U G.ownBlock) H.ownBlock b=false:=λc u b r=>by
  have I:=(f.ac c u).2 b r;have J:=f.sc c u b r;refine zbw (zbw ?_ I.2) J.2;rcases mA_.1 u with q|q;exact h.stk.ic c q b r;obtain rfl:c=y:=by simpa using q
  exact h.bnd.new (hx b r)
 have ad:∀b,({ x with vc:=G,vd:=H,ls:=x.ls++[y],ds:=x.ds++[p] }:NM).S b->x.S b\/w.heap.size<=b:=by
  intro b e;rcases e with e|e|e|e|e|e|e;exact .inl (.inl e);rcases ab b e with q|q;exact .inl (.inr (.inl q));exact .inr q;rcases ac b e with q|q;exact .inl (.inr (.inr (.inl q)));exact .inr q;exact .inl (.inr (.inr (.inr (.inl e))));exact .inl (.inr (.inr (.inr (.inr (.inl e)))));exact .inl (.inr (.inr (.inr (.inr (.inr (.inl e))))));exact .inl (.inr (.inr (.inr (.inr (.inr (.inr e))))))
 have ah:zT (x.ds++[p])=(zI (x.ls++[y])).map CV.d:=by
  have Z:=h.stk.same;simp only[zT,zI,List.map_append,List.map_cons,List.map_nil]at Z|-;rw[Z,hp,O]
 refine⟨_,fc,{ x with vc:=G,vd:=H,ls:=x.ls++[y],ds:=x.ds++[p] },⟨hF,h.siz,h.cel,zaB (zaB h.fu),?_,?_,h.tabs.sub l,h.etx.sub l,E h.rsh (λq e=>.inr (.inr (.inr (.inl (zp e))))) (by decide) (by decide) (by decide),λs m=>(h.esh s m).sub l,E h.rtb (λq e=>.inr (.inr (.inr (.inr (.inl (zp e)))))) (by decide) (by decide) (by decide),λs m=>(h.etb s m).sub l,
  ⟨f.box,f.rc,f.rd,?_,?_,ah,aa⟩,h.hdr.sub l,h.slt.sub l,E h.rvo (λq e=>.inr (.inr (.inr (.inr (.inr (.inl (zp e))))))) (by decide) (by decide) (by decide),h.tap.sub l,h.ems,E h.rwa (λq e=>.inr (.inr (.inr (.inr (.inr (.inr (zp e))))))) (by decide) (by decide) (by decide),λm e=>(h.ewa m e).sub l,?_⟩,⟨j.os,j.tape,j.output,j.size,λb C z hf=>B b C (λe=>z (.inl e)) (λe=>z (.inr (.inl e))) (λe=>z (.inr (.inr (.inl e)))),g.us,ad,rfl,λ_ _=>rfl⟩,?_⟩
 intro b e;rcases ad b e with q|q;exact⟨zaB (zaB (h.su b q).1),(h.su b q).2⟩;refine⟨?_,λef=>by have:=ze h.blk;omega⟩;rcases e with e|e|e|e|e|e|e;exact zaB (zaB (h.su b (.inl e)).1);exact zaB (zeM e);exact zeM e;exact zaB (zaB (h.su b (.inr (.inr (.inr (.inl e))))).1);exact zaB (zaB (h.su b (.inr (.inr (.inr (.inr (.inl e)))))).1);exact zaB (zaB (h.su b (.inr (.inr (.inr (.inr (.inr (.inl e))))))).1);exact zaB (zaB (h.su b (.inr (.inr (.inr (.inr (.inr (.inr e))))))).1);exact(h.bnd.grew j.size f.rc).grew (nR_ _) f.rd;exact λc u=>(f.ac c u).1.hid (aa c u);intro q D;refine zci (f.ad q D).1 (λR V e af=>?_);have I:=(f.ad q D).2 R V e;have J:=f.sd q D R V e;refine zbw (zbw ?_ J.2) I.2.2;rcases mA_.1 D with q1|q1;exact(zoW (h.stk.ed q q1) af e).1;obtain rfl:q=p:=by simpa using q1
 exact h.bnd.new (ag R V e);rw[NM.v_dag,O];exact h.inv.dag_ A d;rw[NM.v_dag,O]
def zla (f:FuncId)(first caps:X_)(P:L_->Bool)(ps:List zi)(w:World):Prop:=
 ∀p∈ps,∀W:World,B_ w W->Calls prog f (first++#[.slice p.sa p.bs.length p.cap]++caps) W λe w'=>e=.returned (.bool (P p.bs))/\B_ W w'
theorem zmC (f:FuncId)(first u:X_)(P:L_->Bool)(R:∀B w,(callFunc f B).run prog w=.ok (.enter f B) w)(vl:List zi)(A:Q_)(n H:Nat)(w:World)(d:n=vl.length)(T:vl.length<=9000000000000000000)(M:zbT w A vl)(C:zla f first u P vl w) :
  Calls prog 172 #[.slice A n H,.func (.func f) first u] w λe w'=>B_ w w'/\∃r:Int,e=.returned (I_ r)/\(((zT vl).any P=true/\0<=r)\/((zT vl).any P=false/\r=-1)):=by
 subst d;have G:Hid (zla f first u P vl w):=C;clear C;go_in;go_wp2_with fail
 go_loopw [8] (λi wr=>∃m:Nat,m<=vl.length/\i=I_ m/\(∀s∈vl.take m,P s.bs=false)/\B_ w wr) (λi _=>vl.length-(intOf i).toNat)
 case atStart=>exact⟨0,nZ_ _,rfl,(λs c=>by simp at c),bR_ _ _⟩
 case round=>
  obtain⟨m,V,rfl,g,l⟩:=hrel;by_cases hlt:m<vl.length
  .have F:=M.below l;obtain⟨y,z,rfl,E⟩:∃y z,A=some (p_ y z)/\∀j (h:j<vl.length),C_ wr y (z+j) (.slice (vl[j]).sa (vl[j]).bs.length (vl[j]).cap):=by
    rcases F.cells with h|h;rw[h]at hlt;simp at hlt;exact h
   have O:=E m hlt;have U:(m:Int)<vl.length:=by omega
   have q:Hid (P (vl[m]).bs=true->(zT vl).any P=true):=by
    show _->_;intro h;exact aT_.2 ⟨_,mM_.2 ⟨_,gM_ hlt,rfl⟩,h⟩
   have p:Hid (P (vl[m]).bs=false->∀s∈vl.take (m+1),P s.bs=false):=by
    show _->_;intro h s c;rw[zjN hlt]at c;rcases c with c|rfl;exact g s c;exact h
   have o:=G.out (vl[m]) (gM_ hlt) wr l;clear E g F;generalize vl[m]=t at*;go_wp2_with fail
   refine o.mono ?_;rintro _ X⟨rfl,J⟩;dsimp only;have D:=zm l J;cases hP:P t.bs with
   | true=>
    have N:Hid _:=q.out hP;clear q p hP o;go_wp2_with fail
    go_ret;exact⟨D,(m:Int),rfl,.inl ⟨N.out,by omega⟩⟩
   | false=>
    have d:Hid _:=p.out hP;clear q p hP o;go_wp2_with fail
    go_roundw
    case rel=>exact⟨m+1,by omega,by go_num,d.out,D⟩
    case measure=>simp[intOf];omega
  obtain rfl:m=vl.length:=by omega
  have d:Hid ((zT vl).any P=false):=by
   show _=_;rw[tL_ (nR_ _)]at g;rw[List.any_eq_false];intro b I;obtain⟨s,c,rfl⟩:=mM_.1 I;rw[g s c];simp
  clear g;go_wp2_with fail
  go_ret;exact⟨l,(-1:Int),rfl,.inr ⟨d.out,rfl⟩⟩
theorem zfe (f:FuncId)(first d:X_)(P:L_->Bool)(t:∀j w,(callFunc f j).run prog w=.ok (.enter f j) w)(vl:List zi)(g:Q_)(n l:Nat)(w:World)(y:n=vl.length)(u:vl.length<=9000000000000000000)(z:zbT w g vl)(m:zla f first d P vl w) :
  Calls prog 133 #[.slice g n l,.func (.func f) first d] w λe w'=>e=.returned (.bool ((zT vl).any P))/\B_ w w':=by
 subst y;have q:=zmC f first d P t vl g _ l w rfl u z m;clear m;go_in;go_wp2_with fail
 refine q.mono ?_;rintro e A⟨o,r,s,p⟩;subst s;dsimp only;rcases p with⟨b,p⟩|⟨b,rfl⟩
 all_goals
  have c:Hid _:=b;clear b;go_wp2_with fail
  go_ret;exact⟨zN (by rw[c.out]),o⟩
variable {rd:Int}{pl:List zi}
theorem zo.stkAt (h:zo w U F o T fc x):∃s t u y,zee w x.s x.ls s t u y x.ds:=by
 have G:x.ds.length=x.ls.length:=by have:=cA_ List.length h.stk.same;simpa[zT,zI]using this
 have C:=zlE h.inv.dag;obtain⟨s,t,A⟩:=zH h.stk.rc;obtain⟨u,y,B⟩:=zH h.stk.rd;have m:=h.stk.rc;have l:=h.stk.rd;have q:=h.stk.box;rw[A]at m q;rw[B]at l q;rw[G]at q;have k:=zK U w;refine⟨s,t,u,y,q,⟨?_,λc D=>(h.stk.ec c D).sub k,⟨?_,?_,by omega,?_,⟨?_,λp H=>(h.stk.ed p H).sub k⟩⟩,h.stk.same,C,?_,?_⟩⟩;refine⟨?_⟩;rcases m.2 with⟨_,b⟩|⟨g,d,f,e,_⟩;exact .inl (eN_ b);cases e;refine .inr ⟨g,0,rfl,λj z=>?_⟩;have e:∀i,i<5->w.cell? (p_ g (j*5+i))=(x.ls[j]).cs[i]?:=λi E=>by rw[World.ownsRow.cellAt m (j*5+i) (by omega),zfx x.ls j i z E]
 simp only[zA_];exact⟨e 0 (by omega),e 1 (by omega),e 2 (by omega),e 3 (by omega),e 4 (by omega)⟩;rcases l.2 with⟨e,b⟩|⟨g,d,f,e,r⟩;simp only[Value.slice.injEq]at e;omega;cases e;exact r.2.2.1;rcases l.2 with⟨e,b⟩|⟨g,d,f,e,r⟩;simp only[Value.slice.injEq]at e;rw[e.2.2];decide;cases e;exact nT_ r.2.2.2.1 (by decide);rcases l.2 with⟨e,b⟩|⟨g,d,f,e,r⟩;simp only[Value.slice.injEq]at e;exact .inl e.2.2;cases e;exact .inr ⟨g,0,rfl⟩;rcases l.2 with⟨_,b⟩|⟨g,d,f,e,_⟩;exact .inl (eN_ b);cases e;refine .inr ⟨g,0,rfl,λj z=>?_⟩;rw[zA_,World.ownsRow.cellAt l j (by omega)];simp[pv,z,zi.val];rcases m.2 with⟨e,b⟩|⟨g,d,f,e,r⟩;simp only[Value.slice.injEq]at e;omega;cases e;exact r.2.2.1;rcases m.2 with⟨e,b⟩|⟨g,d,f,e,r⟩;simp only[Value.slice.injEq]at e;rw[e.2.2];decide;cases e;exact nT_ r.2.2.2.1 (by decide)
theorem sHd:(prog.info? 60).map (·.size)=some 4:=by kernel_rfl
theorem zyo {e:Ending}{l:List CV}(k:zwI w w' e l rd pl/\B_ w w'):∃v,e=.returned v/\(∃(f:Q_) (m j:Nat) (b:Int),v=.tuple #[.slice f m j,I_ b]/\((b=0/\(m=0↔zdz l rd (zT pl)=0))\/(b=9/\zdz l rd (zT pl)≠0)))/\B_ w w':=by
 rcases k.1 with⟨c,d⟩|⟨c,f,j,ms,d,q,_,_⟩;exact⟨_,d,⟨none,0,0,9,rfl,.inr ⟨rfl,by rw[c];decide⟩⟩,k.2⟩;refine⟨_,d,⟨f,_,j,0,rfl,.inl ⟨rfl,?_⟩⟩,k.2⟩;have o:ms.length=(zmj l (zT pl)).length:=by rw[<-q,zcQ]
 have p:zdz l rd (zT pl)=if(zmj l (zT pl)).length=0 then 0 else 8:=zm6 l rd (zT pl) _ c;rw[p,o]
 constructor
 intro g;rw[iP_ g];intro g;by_cases g2:(zmj l (zT pl)).length=0;exact g2;rw[iN_ g2]at g;cases g
theorem zoX {b:Ct}(c:b.v.hf=0):b.pl.length<=4/\(1<=b.rd/\b.rd<=1048576)/\(∀p∈b.pl,p.bs.length=32)/\(∀p∈b.bl,p.bs.length=32):=by
 rw[<-Ct.hf_v]at c;obtain⟨_,d,_,f,g,j⟩:=zbi c;exact⟨f,d,j,g⟩
theorem zlT (x:NM)(b:Ct)(w:World)(U:Nat->Bool)(F o:Nat)(T:TypeId)(Z:X_)(h:zo w U F o T Z x)(C:HAt w b.ba b.bc b.bl b.pa b.pc b.pl)(hf:b.v.hf=0) :
  Calls prog 93 #[P_ F o,.agg (hrow_ b)] w λe w'=>e=.returned (.bool (x.v.k.knows b.v))/\B_ w w':=by
 have aj:∀(fn:Fn) (first X:X_) (w:World),(Instr.makeFunc fn first X).run prog w=.ok (.func fn first X) w:=λ_ _ _ _=>rfl;obtain⟨f1,f2,f3,f4⟩:=zoX hf;have q:=zC w (.cells (hrow_ b) 60);have G:=hN_ w (.cells (hrow_ b) 60);go_in;go_upto_region 1 with fail
 generalize w.alloc (.cells (hrow_ b) 60)=W0 at q G|-;have h0:=h.below q;have a2:=zb G 2 _ rfl;have aa:=C.lb.small;have H:=zfe 69 #[P_ F o] #[] (λd=>!zb1 (shw x.sh) d) (eO_ func69) b.bl b.ba _ b.bc W0 rfl aa (C.lb.below q).parts (λp L W hW=>zgX x p.bs p.sa _ p.cap W U F o T Z (h0.below hW) rfl (((C.lb.below q).parts.each p L).below hW));have u:Hid (x.v.k.knows b.v=(!(zT b.bl).any (λd=>!zb1 (shw x.sh) d)&&decide (zdz (zI x.ls) b.rd (zT b.pl)=0))):=by
  show _=_;have e:(zT b.bl).all (zb1 (shw x.sh))=!(zT b.bl).any (λd=>!zb1 (shw x.sh) d):=by rw[List.not_any_eq_all_not];simp
  rw[<-e];rfl
 clear aa;generalize (zT b.bl).any (λd=>!zb1 (shw x.sh) d)=r at H u;go_wp2_with fail
 refine H.mono ?_;rintro _ O⟨rfl,m⟩;dsimp only;clear H a2;have z:=zm q m;have M:=zk m G;cases r with
 | true=>
  go_wp2_with fail
  go_ret;exact⟨by rw[u.out];rfl,z⟩
 | false=>
  have h1:=h.below z;obtain⟨ca,cc,da,dc,ag⟩:=h1.stkAt;have V:=h1.cell 6 _ rfl;clear h0 G m q;generalize w.heap.size=B at M|-;go_upto_region 3 with fail
  go_cut [5,6] (λu5 u6 wx=>∃(j:Q_) (f l:Nat) (c:Int),u5=.slice j f l/\u6=I_ c/\B_ O wx/\Hid ((c=0/\(f=0↔zdz (zI x.ls) b.rd (zT b.pl)=0))\/(c=9/\zdz (zI x.ls) b.rd (zT b.pl)≠0)))
  case first=>
   have D:=dB_ O;have I:=dC_ V;have N:=dQ_ M;refine wR_ (S:=λw'=>C_ w' F (o+6) (P_ x.s 0)/\R_ w' B (hrow_ b) 60) (by kernel_rfl) ⟨I,N⟩ (λs=>?_);generalize O.drew=R at D I N s|-;refine tks_ 4 [(0,13,(P_ F o)),(1,14,(P_ F o)),(2,15,(P_ F (o+6))),(3,16,(P_ x.s 0))] s ?_;simp only[tkf_,zf];refine tQ_ 4 17 (.agg (hrow_ b)) rfl rfl (Or.inl ⟨by rfl,λw0 ac=>zL 60 _ rfl B rfl 60 (hrow_ b) (0,0) _ ac.2 underlying60 rfl sHd⟩) s ?_;simp only[zf];refine zE 5 rfl (λK9 hK=>?_);refine zj rfl 18 rfl 142 [.tmp 16,.tmp 17] #[57,60] rfl [P_ x.s 0,.agg (hrow_ b)] rfl (eO_ func142) (λv w'=>(∃(j:Q_) (f l:Nat) (c:Int),v=.tuple #[.slice j f l,I_ c]/\((c=0/\(f=0↔zdz (zI x.ls) b.rd (zT b.pl)=0))\/(c=9/\zdz (zI x.ls) b.rd (zT b.pl)≠0)))/\B_ R w') ((zkO x.ls x.s ca cc da dc x.ds b.au b.rd b.ba _ b.bc b.pl b.pa b.pc R (ag.below D) f1 f2 ((C.lp.parts.below (z.trans (D.mono z.size)))) (λp L=>by rw[f3 p L];decide)).mono (λe w' k=>zyo k)) ?_;rintro v V1⟨⟨j,f,l,c,rfl,af⟩,m⟩;have ad:=zm D m;have ab:=zr m I;have ah:=zk m N;refine hK.out _ _ ⟨ab,ah⟩ (λs=>?_);simp only[zf];refine tks_ 5 [(6,12,.tuple #[.slice j f l,I_ c]),(7,19,.slice j f l),(8,20,I_ c),(9,5,.slice j f l),(10,6,I_ c)] s ?_;simp only[tkf_,zf];clear s;refine wD_ (by kernel_rfl) ?_ _;go_wp2_with fail
   go_meet
   case rel=>exact⟨j,f,l,c,rfl,rfl,ad,af⟩
  case rest=>
   obtain⟨j,f,l,c,rfl,rfl,ae,E⟩:=hcut;apply_assumption;clear V M;have J:=zm z ae;have A:=E.out;by_cases e0:c=0
   .subst e0;have t:f=0↔zdz (zI x.ls) b.rd (zT b.pl)=0:=by
     rcases A with g|g;exact g.2;exact absurd g.1 (by decide)
    by_cases e1:f=0
    .subst e1;have y:Hid _:=t.1 rfl;clear t A E;go_wp2_with fail
     go_ret;exact⟨by rw[u.out,y.out];rfl,J⟩
    have y:Hid (¬zdz (zI x.ls) b.rd (zT b.pl)=0):=λg=>e1 (t.2 g);have ai:((f:Int) == 0)=false:=by simp;omega
    clear t A E e1;go_wp2_with fail
    go_ret;exact⟨by rw[u.out,dF_ y.out];rfl,J⟩
   have t:c=9/\zdz (zI x.ls) b.rd (zT b.pl)≠0:=by
    rcases A with g|g;exact absurd g.1 e0;exact g
   obtain⟨rfl,Y⟩:=t;have y:Hid (¬zdz (zI x.ls) b.rd (zT b.pl)=0):=Y;clear A E Y e0;go_wp2_with fail
   go_ret;exact⟨by rw[u.out,dF_ y.out];rfl,J⟩
theorem zjZ (f:Int)(d:List Sg)(g:Q_)(j:Nat)(c:Ct)(w:World)(U:zdj w g j d)(M:HAt w c.ba c.bc c.bl c.pa c.pc c.pl)(T:c.v.hf=0)(N:za2 w) :
  Calls prog 94 #[.agg (hrow_ c),.agg #[I_ f,.slice g d.length j]] w λe w'=>e=.returned (.bool (No.signed ⟨f,zA d⟩ c.au c.v.slot))/\B_ w w':=by
 refine kO_ ?B0 ?_;exact Obj.cells #[I_ f,.slice g d.length j] 53;have p:B_ w ((w.alloc (.cells (hrow_ c) 60)).alloc ?B0):=((bR_ _ _).alloc (nR_ _) _).alloc (by simp) _;have l:=hX_ w (.cells (hrow_ c) 60) ?B0;have A:=hY_ w (.cells (hrow_ c) 60) ?B0;have z:Hid (zaE c.au c.rd c.bl c.pl=c.v.d):=c.d_v;have O:Hid (zaN c.v.d):=by show zaN _;rw[<-z.out];exact zkk _ _ _ _
 have J:Hid (c.v.d.length=32):=c.v.d_length;go_in;go_upto_region 1 with fail
 generalize ((w.alloc (.cells (hrow_ c) 60)).alloc ?B0)=D at p l A|-;have F:=zb l 0 _ rfl;have G:=zb l 1 _ rfl;have H:=zb l 2 _ rfl;have I:=zb l 3 _ rfl;have r:=zi1 c.au c.rd c.ba c.bc c.bl c.pa c.pc c.pl D (M.below p) (by rw[Ct.hf_v];exact T) (N.below p);rw[z.out]at r;go_wp2_with fail
 refine r.mono ?_;rintro e y⟨b,u,ad,ae,V,t⟩;subst u;dsimp only;have L:=zm p t;have aa:=zk t l;have ac:=zk t A;clear r F G H I;refine kO_ ?A0 ?_;exact Obj.cells #[I_ c.au,I_ c.rd,.slice (some (p_ b 0)) 32 32] 63;have o:=zC y ?A0;have q:=hN_ y ?A0;go_upto_region 2 with fail
 generalize y.alloc ?A0=E at o q|-;have s:=zm L o;have ab:=zk o aa;have B:=zk o ac;have X:=zb ab 0 _ rfl;have Y:=zb B 0 _ rfl;have Z:=zb B 1 _ rfl;have s0:=zb q 0 _ rfl;have s1:=zb q 1 _ rfl;have s2:=zb q 2 _ rfl;have m:=zkM f d g j c.au ⟨c.au,c.rd,⟨some (p_ b 0),32,c.v.d⟩⟩ E (U.below s) (V.below o) O.out;dsimp only at m;rw[J.out]at m;have C:Hid (Sl.v ⟨c.au,c.rd,⟨some (p_ b 0),32,c.v.d⟩⟩=c.v.slot):=rfl;rw[C.out]at m;go_wp2_with fail
 refine m.mono ?_;rintro _ w3⟨rfl,R⟩;dsimp only;clear m X Y Z s0 s1 s2;go_wp2_with fail
 go_ret;exact⟨rfl,s.trans (R.mono s.size)⟩
theorem zyp:(prog.info? 53).map (·.size)=some 2:=by kernel_rfl
theorem sCt:(prog.info? 88).map (·.size)=some 5:=by kernel_rfl
theorem zt8 {c:Ct}(f:U8L c.bl)(j:U8L c.pl):∀b∈c.v.bl++c.v.pl,∀x∈b,0<=x/\x<=255:=by
 intro b l;rcases mA_.1 l with g|g;obtain⟨p,d,rfl⟩:=mM_.1 g;exact f p d;obtain⟨p,d,rfl⟩:=mM_.1 g;exact j p d
theorem znl (n:Nd)(o:No)(c:CV):n.proofs o c=(decide (za8 n.k.dag c=0)&&o.proven c&&n.room (zdh c)):=rfl
theorem zlU (x:NM)(c:Ct)(f:Int)(d:List Sg)(m:Q_)(p:Nat)(w:World)(U:Nat->Bool)(F o:Nat)(T:TypeId)(A:X_)(h:zo w U F o T A x)(hc:za7 (zq U w) c)(aw:U8L c.bl)(ax:U8L c.pl)(hg:zdj (zq U w) m p d) :
  Calls prog 57 #[P_ F o,.agg (crow_ c),.agg #[I_ f,.slice m d.length p]] w λe w'=>e=.returned (.bool (x.v.proofs ⟨f,zA d⟩ c.v))/\zal w U F o T A x w' (x.v.hearP ⟨f,zA d⟩ c.v):=by
 refine kA_ ?A0 ?_;exact #[I_ f,.slice m d.length p];refine kW_ ?C0 ?_;exact(w.alloc (.cells (crow_ c) 88)).alloc (.cells ?A0 53);have hA:B_ w ?C0:=((bR_ _ _).alloc (nR_ _) _).alloc (by simp) _;have Y:=hX_ w (.cells (crow_ c) 88) (.cells ?A0 53);have q1:=hY_ w (.cells (crow_ c) 88) (.cells ?A0 53);go_in;go_upto_region 1 with fail
 generalize ?C0=z at hA Y q1|-;have t:=h.below hA;have ag:=hc.sub (h.later hA);have aG:=hg.sub (h.later hA);have ac:Hid (U w.heap.size=false/\U (w.heap.size+1)=false):=⟨h.bnd.new (nR_ _),h.bnd.new (lS_ _)⟩;have af:=zl.below (F:=F) (o:=o) U A x hA;have c6:=t.cell 6 _ rfl;have aB:Hid _:=Y;obtain⟨ca,cc,da,dc,av⟩:=t.stkAt;generalize w.heap.size+1=B1 at q1 ac|-;generalize w.heap.size=y at Y aB ac|-;refine kV_ ?B0 ?_;exact Value.agg (crow_ c);have ae:Hid (∀W:World,B_ z W->Calls prog 101 #[P_ x.s 0,?B0] W λe w'=>e=.returned (I_ (za8 x.v.k.dag c.v))/\B_ W w'):=by
  show ∀W,_;intro W B;exact znk x.ls x.s ca cc da dc x.ds c W (av.below B) ((ag.sub (zK _ _)).below B)
 have aj:Hid (∀W:World,B_ z W->Calls prog 102 #[.agg ?A0,?B0] W λe w'=>e=.returned (.bool (No.proven ⟨f,zA d⟩ c.v))/\B_ W w'):=by
  show ∀W,_;intro W B;exact zqb f d m p c W ((aG.sub (zK _ _)).below B) ((ag.sub (zK _ _)).below B) ((t.below B).tabs.sub (zK _ _))
 have L:Hid _:=znl x.v ⟨f,zA d⟩ c.v;have ad:Hid (x.v.hearP ⟨f,zA d⟩ c.v=if x.v.proofs ⟨f,zA d⟩ c.v then x.v.log (zdh c.v) { x.v.k with dag:=x.v.k.dag++[c.v] } else x.v):=rfl;have ak:Hid (∀W:World,B_ z W->za8 x.v.k.dag c.v=0->Calls prog 74 #[P_ F o,.agg (mrow_ (zef c).m)] W λe w'=>e=.returned (.bool (x.v.room (zdh c.v)))/\zal W U F o T A x w' (x.v.wrt (zdh c.v))):=by
  show ∀W,_;intro W B h9;have aF:zap c.au c.rd c.bl c.pl c.vl=0:=by rw[Ct.f_v];exact(zg5 h9).1
  exact zgZ x (zef c) W U F o T A (t.below B) (ztP (ag.sub (t.later B))) (zqY aF) (ztT aw ax)
 generalize hE:za8 x.v.k.dag c.v=E at ae L ak;have HE:Hid _:=hE;generalize No.proven ⟨f,zA d⟩ c.v=pv at aj L;generalize hR:x.v.room (zdh c.v)=rm at L ak;have HR:Hid _:=hR;clear hE hR av;by_cases e0:E=0;subst e0;cases pv with
 | false=>
  go_cut [26] (λu J=>u=.bool true/\B_ z J)
  case first=>
   have l:=dB_ z;have G:=dQ_ Y;have H:=dQ_ q1;refine wR_ (S:=λw'=>R_ w' y (crow_ c) 88/\R_ w' B1 ?A0 53) (by kernel_rfl) ⟨G,H⟩ (λb=>?_);generalize z.drew=s at l G H b|-;refine tks_ 3 [(0,7,(P_ F o)),(1,8,(P_ F o)),(2,9,(P_ F (o+6)))] b ?_;simp only[tkf_,zf];refine tQ_ 4 11 ?B0 rfl rfl (Or.inl ⟨by rfl,λw0 q=>zL 88 _ rfl y rfl 88 (crow_ c) (0,0) _ q.1 underlying88 rfl sCt⟩) b ?_;simp only[zf];refine zE 3 rfl (λC g=>?_);have k6:=(t.below l).cell 6 _ rfl;refine zy rfl 10 rfl (P_ x.s 0) s (by go_simp) ?_;refine g.out _ _ b (λb=>?_);simp only[zf];refine zE 5 rfl (λC g=>?_);refine zj rfl 12 rfl 101 [.tmp 10,.tmp 11] #[57,88] rfl [P_ x.s 0,?B0] rfl (eO_ func101) (λv w'=>v=I_ 0/\B_ s w') ((ae.out s l).mono (λe w' k=>⟨_,k.1,rfl,k.2⟩)) ?_;rintro v M⟨rfl,r⟩;have R:=zm l r;have Z:=zk r G;have aa:=zk r H;refine g.out _ _ ⟨Z,aa⟩ (λb=>?_);simp only[zf];refine tks_ 2 [(6,13,.bool false),(7,14,.bool false)] b ?_;simp only[tkf_,zf];refine tQ_ 8 15 (.agg ?A0) rfl rfl (Or.inl ⟨by rfl,λw0 q=>zL 53 _ rfl B1 rfl 53 ?A0 (0,0) _ q.2 underlying53 rfl zyp⟩) b ?_;simp only[zf];refine tQ_ 9 16 ?B0 rfl rfl (Or.inl ⟨by rfl,λw0 q=>zL 88 _ rfl y rfl 88 (crow_ c) (0,0) _ q.1 underlying88 rfl sCt⟩) b ?_;simp only[zf];refine zE 10 rfl (λC g=>?_);refine zaJ (by rfl) 17 rfl 102 [.tmp 15,.tmp 16] #[53,88] rfl [.agg ?A0,?B0] rfl (eO_ func102) (λv w'=>v=.bool false/\B_ M w') ((aj.out M R).mono (λe w' k=>⟨_,k.1,rfl,k.2⟩)) ?_;rintro v V2⟨rfl,V⟩;have am:=zm R V;have ah:=zk V Z;have ai:=zk V aa;refine g.out _ _ ⟨ah,ai⟩ (λb=>?_);simp only[zf];refine tks_ 9 [(11,18,.bool (!false)),(12,19,.bool (!false)),(13,20,.bool (!false)),(14,21,undef),(15,22,undef),(16,23,undef),(17,24,undef),(18,25,undef),(19,26,.bool true)] b ?_;simp only[tkf_,zf];clear b;refine wD_ (by kernel_rfl) ?_ _;go_wp2_with fail
   go_meet
   case rel=>exact⟨rfl,am⟩
  case rest=>
   obtain⟨rfl,r⟩:=hcut;apply_assumption;clear c6;go_wp2_with fail
   go_ret;have D:x.v.proofs ⟨f,zA d⟩ c.v=false:=by rw[L.out];rfl
   exact⟨by rw[D];rfl,by rw[ad.out,D];exact⟨U,A,x,t.below r,af.trans (zl.below (F:=F) (o:=o) U A x r),rfl⟩⟩
 | true=>
  go_cut [26] (λu J=>u=.bool (!rm)/\∃(I:Nat->Bool) (N:X_) (j:NM),zo J I F o T N j/\zl U I z J F o A N x j/\Hid (j.v=x.v.wrt (zdh c.v))/\R_ J y (crow_ c) 88/\Hid (za7 (zq I J) c))
  case first=>
   have l:=dB_ z;have G:=dQ_ Y;have H:=dQ_ q1;refine wR_ (S:=λw'=>R_ w' y (crow_ c) 88/\R_ w' B1 ?A0 53) (by kernel_rfl) ⟨G,H⟩ (λb=>?_);generalize z.drew=s at l G H b|-;refine tks_ 3 [(0,7,(P_ F o)),(1,8,(P_ F o)),(2,9,(P_ F (o+6)))] b ?_;simp only[tkf_,zf];refine tQ_ 4 11 ?B0 rfl rfl (Or.inl ⟨by rfl,λw0 q=>zL 88 _ rfl y rfl 88 (crow_ c) (0,0) _ q.1 underlying88 rfl sCt⟩) b ?_;simp only[zf];refine zE 3 rfl (λC g=>?_);have k6:=(t.below l).cell 6 _ rfl;refine zy rfl 10 rfl (P_ x.s 0) s (by go_simp) ?_;refine g.out _ _ b (λb=>?_);simp only[zf];refine zE 5 rfl (λC g=>?_);refine zj rfl 12 rfl 101 [.tmp 10,.tmp 11] #[57,88] rfl [P_ x.s 0,?B0] rfl (eO_ func101) (λv w'=>v=I_ 0/\B_ s w') ((ae.out s l).mono (λe w' k=>⟨_,k.1,rfl,k.2⟩)) ?_;rintro v M⟨rfl,r⟩;have R:=zm l r;have Z:=zk r G;have aa:=zk r H;refine g.out _ _ ⟨Z,aa⟩ (λb=>?_);simp only[zf];refine tks_ 2 [(6,13,.bool false),(7,14,.bool false)] b ?_;simp only[tkf_,zf];refine tQ_ 8 15 (.agg ?A0) rfl rfl (Or.inl ⟨by rfl,λw0 q=>zL 53 _ rfl B1 rfl 53 ?A0 (0,0) _ q.2 underlying53 rfl zyp⟩) b ?_;simp only[zf];refine tQ_ 9 16 ?B0 rfl rfl (Or.inl ⟨by rfl,λw0 q=>zL 88 _ rfl y rfl 88 (crow_ c) (0,0) _ q.1 underlying88 rfl sCt⟩) b ?_;simp only[zf];refine zE 10 rfl (λC g=>?_);refine zaJ (by rfl) 17 rfl 102 [.tmp 15,.tmp 16] #[53,88] rfl [.agg ?A0,?B0] rfl (eO_ func102) (λv w'=>v=.bool true/\B_ M w') ((aj.out M R).mono (λe w' k=>⟨_,k.1,rfl,k.2⟩)) ?_;rintro v V2⟨rfl,V⟩;have am:=zm R V;have ah:=zk V Z;have ai:=zk V aa;refine g.out _ _ ⟨ah,ai⟩ (λb=>?_);simp only[zf];refine tks_ 4 [(11,18,.bool (!true)),(12,19,.bool (!true)),(13,20,.bool (!true)),(14,21,(P_ F o))] b ?_;simp only[tkf_,zf];refine tQ_ 15 22 ?B0 rfl rfl (Or.inl ⟨by rfl,λw0 q=>zL 88 _ rfl y rfl 88 (crow_ c) (0,0) _ q.1 underlying88 rfl sCt⟩) b ?_;simp only[zf];refine zE 16 rfl (λC g=>?_);refine zaJ (by rfl) 23 rfl 100 [.tmp 22] #[88] rfl [?B0] rfl (eO_ func100) (λv w'=>v=.agg (mrow_ (zef c).m)/\B_ V2 w') ((zmB c V2).mono (λe w' k=>⟨_,k.1,rfl,k.2⟩)) ?_;rintro v V3⟨rfl,an⟩;have ab:=zm am an;have az:=zk an ah;have aC:=zk an ai;refine g.out _ _ ⟨az,aC⟩ (λb=>?_);simp only[zf];refine zE 17 rfl (λC g=>?_);refine zaJ (by rfl) 24 rfl 74 [.tmp 21,.tmp 23] #[80,90] rfl [P_ F o,.agg (mrow_ (zef c).m)] rfl (eO_ func74) (λv w'=>v=.bool rm/\zal V3 U F o T A x w' (x.v.wrt (zdh c.v))) ((ak.out V3 ab rfl).mono (λe w' k=>⟨_,k.1,rfl,k.2⟩)) ?_;rintro v V4⟨rfl,U9,al,x9,h9,X,v9⟩;have aA:=X.box (t.below ab) az ac.out.1;have aJ:=X.box (t.below ab) aC ac.out.2;refine g.out _ _ ⟨aA,aJ⟩ (λb=>?_);simp only[zf];refine tks_ 2 [(18,25,.bool (!rm)),(19,26,.bool (!rm))] b ?_;simp only[tkf_,zf];clear b;refine wD_ (by kernel_rfl) ?_ _;go_wp2_with fail
   go_meet
   case rel=>exact⟨rfl,U9,al,x9,h9,(zl.below (F:=F) (o:=o) U A x ab).trans X,v9,aA,((ag.sub (t.later ab)).sub (X.sub (t.below ab)))⟩
  case rest=>
   obtain⟨rfl,I,N,j,O,n1,v1,ay,aq⟩:=hcut;apply_assumption;clear c6 Y q1;obtain⟨W1,ap⟩:∃W,W=wc:=⟨_,rfl⟩;rw[<-ap]at O n1 ay aq|-;clear ap;cases rm with
   | false=>
    go_wp2_with fail
    go_ret;have D:x.v.proofs ⟨f,zA d⟩ c.v=false:=by rw[L.out];rfl
    exact⟨by rw[D];rfl,by rw[ad.out,D];exact⟨I,N,j,O,af.trans n1,by rw[v1.out,Nd.wrt,HR.out];rfl⟩⟩
   | true=>
    have D:Hid (x.v.proofs ⟨f,zA d⟩ c.v=true):=by show _=_;rw[L.out];rfl
    have ar:Hid (j.v.k=x.v.k):=by show _=_;rw[v1.out,Nd.wrt,HR.out];rfl
    have au:Hid (za8 j.v.k.dag c.v=0):=by show _=_;rw[ar.out];exact HE.out
    have d6:=O.cell 6 _ rfl;have aD:Hid (∀W:World,B_ W1 W->Calls prog 92 #[P_ j.s 0,?B0] W λe w'=>e=.returned (I_ 0)/\zal W I F o T N j w' (x.v.log (zdh c.v) { x.v.k with dag:=x.v.k.dag++[c.v] })):=by
     show ∀W,_;intro W B;have h2:=O.below B;refine(zlS j.ls j.ds j.vc j.vd j.s c W h2.stkIn h2.stk.same (zlE h2.inv.dag) ((aq.out.sub (O.later B)).sub (zK _ _)) (h2.tabs.sub (zK _ _))).mono (λe w' k=>?_);have k2:=h2.inserts k (zt8 aw ax);rw[iP_ au.out]at k2;have aH:za8 (zI j.ls) c.v=0:=au.out;refine⟨by rw[k.told,aH],?_⟩;have e9:({ j.v with k:={ j.v.k with dag:=j.v.k.dag++[c.v] } }:Nd)=x.v.log (zdh c.v) { x.v.k with dag:=x.v.k.dag++[c.v] }:=by
      rw[ar.out,v1.out,Nd.wrt,HR.out];rfl
     rw[<-e9];exact k2
    go_upto_region 3 with fail
    have l:=dB_ W1;have ao:=dQ_ ay;refine wR_ (S:=λw'=>R_ w' y (crow_ c) 88) (by kernel_rfl) ao (λb=>?_);generalize W1.drew=s at l ao b|-;refine tks_ 3 [(0,27,(P_ F o)),(1,28,(P_ F o)),(2,29,(P_ F (o+6)))] b ?_;simp only[tkf_,zf];refine tQ_ 4 31 ?B0 rfl rfl (Or.inl ⟨by rfl,λw0 q=>zL 88 _ rfl y rfl 88 (crow_ c) (0,0) _ q underlying88 rfl sCt⟩) b ?_;simp only[zf];refine zE 3 rfl (λC g=>?_);have k6:=(O.below l).cell 6 _ rfl;refine zy rfl 30 rfl (P_ j.s 0) s (by go_simp) ?_;refine g.out _ _ b (λb=>?_);simp only[zf];refine zE 5 rfl (λC g=>?_);refine zj rfl 32 rfl 92 [.tmp 30,.tmp 31] #[57,88] rfl [P_ j.s 0,?B0] rfl (eO_ func92) (λv w'=>v=I_ 0/\zal s I F o T N j w' (x.v.log (zdh c.v) { x.v.k with dag:=x.v.k.dag++[c.v] })) ((aD.out s l).mono (λe w' k=>⟨_,k.1,rfl,k.2⟩)) ?_;rintro v M⟨rfl,U9,al,x9,h9,X,v9⟩;have aI:=X.box (O.below l) ao (n1.hides (ze aB.out) ac.out.1);refine g.out _ _ aI (λb=>?_);simp only[zf];refine tks_ 2 [(6,33,.bool true),(7,6,.bool true)] b ?_;simp only[tkf_,zf];clear b;refine wD_ (by kernel_rfl) ?_ _;go_wp2_with fail
    go_ret;exact⟨by rw[D.out];rfl,by rw[ad.out,D.out];exact⟨U9,al,x9,h9,((af.trans n1).trans (zl.below (F:=F) (o:=o) I N j l)).trans X,v9⟩⟩
 have aE:(E != 0)=true:=by simpa using e0
 have D:Hid (x.v.proofs ⟨f,zA d⟩ c.v=false):=by show _=_;rw[L.out,dF_ e0];rfl
 go_cut [26] (λu J=>u=.bool true/\B_ z J)
 case first=>
  have l:=dB_ z;have G:=dQ_ Y;have H:=dQ_ q1;refine wR_ (S:=λw'=>R_ w' y (crow_ c) 88/\R_ w' B1 ?A0 53) (by kernel_rfl) ⟨G,H⟩ (λb=>?_);generalize z.drew=s at l G H b|-;refine tks_ 3 [(0,7,(P_ F o)),(1,8,(P_ F o)),(2,9,(P_ F (o+6)))] b ?_;simp only[tkf_,zf];refine tQ_ 4 11 ?B0 rfl rfl (Or.inl ⟨by rfl,λw0 q=>zL 88 _ rfl y rfl 88 (crow_ c) (0,0) _ q.1 underlying88 rfl sCt⟩) b ?_;simp only[zf];refine zE 3 rfl (λC g=>?_);have k6:=(t.below l).cell 6 _ rfl;refine zy rfl 10 rfl (P_ x.s 0) s (by go_simp) ?_;refine g.out _ _ b (λb=>?_);simp only[zf];refine zE 5 rfl (λC g=>?_);refine zj rfl 12 rfl 101 [.tmp 10,.tmp 11] #[57,88] rfl [P_ x.s 0,?B0] rfl (eO_ func101) (λv w'=>v=I_ E/\B_ s w') ((ae.out s l).mono (λe w' k=>⟨_,k.1,rfl,k.2⟩)) ?_;rintro v M⟨rfl,r⟩;have R:=zm l r;have Z:=zk r G;have aa:=zk r H;refine g.out _ _ ⟨Z,aa⟩ (λb=>?_);simp only[zf];refine zU 6 13 (.bool (E != 0)) rfl rfl b ?_;simp only[zf];rw[aE];refine tks_ 13 [(7,14,.bool true),(8,15,undef),(9,16,undef),(10,17,undef),(11,18,undef),(12,19,.bool true),(13,20,.bool true),(14,21,undef),(15,22,undef),(16,23,undef),(17,24,undef),(18,25,undef),(19,26,.bool true)] b ?_;simp only[tkf_,zf];clear b;refine wD_ (by kernel_rfl) ?_ _;go_wp2_with fail
  go_meet
  case rel=>exact⟨rfl,R⟩
 case rest=>
  obtain⟨rfl,r⟩:=hcut;apply_assumption;clear c6;go_wp2_with fail
  go_ret;exact⟨by rw[D.out];rfl,by rw[ad.out,D.out];exact⟨U,A,x,t.below r,af.trans (zl.below (F:=F) (o:=o) U A x r),rfl⟩⟩
theorem zvN (b:List Sl)(Y:Q_)(n H:Nat)(au rd:Int)(bs:L_)(l:Q_)(dn t:Nat)(w:World)(hn:n=b.length)(am:dn=bs.length)(D:zeb w Y H b)(O:zdt (vs b)=0)(hd:zg w l t bs)(al:bs.length<=140737488355328) :
  Calls prog 127 #[.slice Y n H,.agg #[I_ au,I_ rd,.slice l dn t]] w λe w'=>∃z rc c,e=.returned (.tuple #[.slice z (List.length c) rc,I_ (za6 (vs b) (au,rd,bs)).2])/\vs c=(za6 (vs b) (au,rd,bs)).1/\zeb w' z rc c/\B_ w w'/\za1 w.heap.size z (ps c)/\w'.ownsRow w.heap.size 63 3 (.slice z (List.length c) rc) (List.length c) (slv c)/\z8 w' w.heap.size (.slice z (List.length c) rc) (ps c):=by
 subst hn am;have ax:=D.le;have az:=D.max;have ag:b.length<=400:=by have:=(zmY O).1;rw[zay]at this;exact this
 have R:=zy0 O;refine kV_ ?A0 ?_;exact Value.slice l bs.length t;refine kO_ ?B0 ?_;exact Obj.cells #[I_ au,I_ rd,?A0] 63;have hA:=(bR_ w.heap.size w).alloc (nR_ _) ?B0;have r0:=hN_ w ?B0;go_in;go_wp2_with fail
 generalize w.alloc ?B0=W0 at hA r0|-;refine(zoi b Y _ H au rd W0 (nR_ _) D.small (D.slots.below hA)).mono ?_;rintro e E⟨r,he,hF,af⟩;subst he;dsimp only;have d:=zm hA af;have M:=zk af r0;have d0:=zb M 0 (I_ au) rfl;have d1:=zb M 1 (I_ rd) rfl;have d2:=zb M 2 ?A0 rfl;have ah:=ze M;rcases hF.found with⟨m,L,rfl,B⟩|⟨rfl,B⟩
 .have ae:=D.slots.below d;obtain⟨f,g,rfl,hc⟩:∃f g,Y=some (p_ f g)/\∀j (h:j<b.length),E.cell? (p_ f (g+j*3))=some (I_ (b[j]).au)/\E.cell? (p_ f (g+j*3+1))=some (I_ (b[j]).rd)/\E.cell? (p_ f (g+j*3+2))=some (.slice (b[j]).p.sa (b[j]).p.bs.length (b[j]).p.cap):=by
   rcases ae.cells with h|h;rw[h]at L;simp at L;exact h
  obtain⟨_,_,c2⟩:=hc m L;have hx:=ae.each (b[m]) (gM_ L);have ay:(m:Int)<b.length:=by omega
  have hE:=zeI (b[m]).p.bs bs (b[m]).p.sa l _ _ (b[m]).p.cap t E.drew rfl rfl (hx.below ((bR_ _ _).drew)) ((hd.below d).below ((bR_ _ _).drew));rw[<-zay]at B;have hS:Hid (txL (b[m]).p.bs=txL bs->za6 (vs b) (au,rd,bs)=(vs b,0)):=by
   show _->_;intro h;exact ziG (s:=(au,rd,bs)) B (by rw[zhl b m L];exact h)
  have hT:Hid (¬txL (b[m]).p.bs=txL bs->za6 (vs b) (au,rd,bs)=([],7)):=by
   show _->_;intro h;exact zhY (s:=(au,rd,bs)) B (by rw[zhl b m L];exact h)
  have HC:Hid (∀W:World,B_ w W->Calls prog 168 #[.slice (some (p_ f g)) b.length H] W λe w'=>∃v c,e=.returned v/\vs c=vs b/\w'.ownsRow W.heap.size 63 3 v b.length (slv c)/\z8 w' W.heap.size v (ps c)/\B_ W w'):=by
   show ∀W,_;intro W T;exact zie b _ _ H W rfl ag R (D.slots.below T)
  clear hc B hF ae R O D;generalize b[m]=s at*;go_wp2_with fail
  go_region_held3 (λw'=>w'.cell? (p_ f (g+m*3+2))=some (.slice s.p.sa s.p.bs.length s.p.cap)/\w'.cell? (p_ w.heap.size 2)=some ?A0) (go_keep) ((go_at_call 143;refine hE.mono ?_;rintro e w9⟨rfl,rfl⟩))
  all_goals
   by_cases h:txL s.p.bs=txL bs
   .have A:=hS.out h;rw[dT_ h];clear hS hT h hE;go_wp2_with fail
    refine(HC.out _ (d.trans ((bR_ _ _).drew.mono d.size))).mono ?_;rintro e w3⟨v3,c,he,aa,J,I,C⟩;subst he;dsimp only;have ad:b.length=c.length:=by have:=cA_ List.length aa;rw[zay,zay]at this;exact this.symm
    obtain⟨z,rc,hv,hl,hL,ac⟩:=zkD J I;subst hv;rw[ad];go_wp2_with fail
    go_ret2;exact⟨z,rc,c,by rw[A];rfl,by rw[A];exact aa,hL (by omega),d.trans ((zbE C).mono d.size),ziI ac (by simpa using d.size),by rw[<-ad];exact zcf J (by simpa using d.size),λp y=>⟨(I p y).1,λf g e=>⟨nT_ d.size (by simpa using((I p y).2 f g e).1),((I p y).2 f g e).2.1,by rw[<-ad];exact((I p y).2 f g e).2.2⟩⟩⟩
   .have A:=hT.out h;rw[dF_ h];clear hS hT h hE;go_wp2_with fail
    go_ret2;exact⟨none,0,[],by rw[A];rfl,by rw[A];rfl,zkj _,d.drew,zjM _,oN_ _ _ _ _,(λp y=>by cases y)⟩
 rw[<-zay]at B;by_cases hfull:400<=b.length
 .have A:=ziH (s:=(au,rd,bs)) B (by rw[zay];exact hfull);have hI:(400:Int)<=b.length:=by omega
  clear B hF R O;go_wp2_with fail
  go_ret2;exact⟨none,0,[],by rw[A];rfl,by rw[A];rfl,zkj _,d,zjM _,oN_ _ _ _ _,(λp y=>by cases y)⟩
 have A:=zjL (s:=(au,rd,bs)) B (by rw[zay];exact hfull);have hI:¬(400:Int)<=b.length:=by omega
 have HC:Hid (∀W:World,B_ w W->Calls prog 168 #[.slice Y b.length H] W λe w'=>∃v c,e=.returned v/\vs c=vs b/\w'.ownsRow W.heap.size 63 3 v b.length (slv c)/\z8 w' W.heap.size v (ps c)/\B_ W w'):=by
  show ∀W,_;intro W T;exact zie b _ _ H W rfl ag R (D.slots.below T)
 have HD:Hid (∀W:World,B_ w W->Calls prog 169 #[.agg #[I_ au,I_ rd,?A0]] W λe w'=>∃z rc,e=.returned (.agg #[I_ au,I_ rd,.slice z bs.length rc])/\zg w' z rc bs/\(∀f g,z=some (p_ f g)->W.heap.size<=f/\f<w'.heap.size)/\B_ W w'):=by
  show ∀W,_;intro W T;exact zjk au rd bs l _ t W rfl (hd.below T) al
 obtain⟨i,hi,aq,ar,av⟩:=info_parts zk0;clear B hF R O D hd;go_wp2_with fail
 go_region_held3 (λw'=>w'.cell? (p_ w.heap.size 0)=some (I_ au)/\w'.cell? (p_ w.heap.size 1)=some (I_ rd)/\w'.cell? (p_ w.heap.size 2)=some ?A0) (go_keep) (first
  | (go_at_call 169;refine(HD.out _ (d.trans (C.mono d.size))).mono ?_;rintro e N⟨F,G,rfl,ap,ao,ab⟩;have V:=C.trans (ab.mono C.size);have X:=(V.block _ ah).trans M;have g0:N.cell? (p_ w.heap.size 0)=some (I_ au):=zb X 0 _ rfl;have g1:N.cell? (p_ w.heap.size 1)=some (I_ rd):=zb X 1 _ rfl;have g2:N.cell? (p_ w.heap.size 2)=some ?A0:=zb X 2 _ rfl)
  | (go_at_call 168;refine(HC.out _ (d.trans ((bR_ _ _).drew.mono d.size))).mono ?_;rintro e w3⟨v3,c,rfl,aa,J,I,C⟩;replace C:=zbE C;have q3:=(C.block _ ah).trans M;have f0:w3.cell? (p_ w.heap.size 0)=some (I_ au):=zb q3 0 _ rfl;have f1:w3.cell? (p_ w.heap.size 1)=some (I_ rd):=zb q3 1 _ rfl;have f2:w3.cell? (p_ w.heap.size 2)=some ?A0:=zb q3 2 _ rfl)
  | (refine zcc rfl _ _ 38 rfl E.heap.size 63 i (.agg #[I_ 0,I_ 0,O_]) 3 40 underlying38 hi aq ar av rfl (by decide) v3 b.length (slv c) rfl (oA_ (zw J ab) _) (p_ N.heap.size 0) 1 1 [I_ au,I_ rd,.slice F bs.length G] rfl rfl (zag N [I_ au,I_ rd,.slice F bs.length G] 63) (by intro u hu;simp at hu;rcases hu with rfl|rfl|rfl<;>rfl) (by unfold maxLen;omega) (by omega) (by rw[zG];have:=V.size;omega) ?_;intro v5 Z an G5;have q5:=(G5.grown.block w.heap.size (by rw[zG];have:=ze X;omega) (λe=>by have h9:E.heap.size<=w.heap.size:=(J.lt _ e.symm).1;omega)).trans (zR (o:=.cells #[I_ au,I_ rd,.slice F bs.length G] 63) X);have k0:Z.cell? (p_ w.heap.size 0)=some (I_ au):=zb q5 0 _ rfl;have k1:Z.cell? (p_ w.heap.size 1)=some (I_ rd):=zb q5 1 _ rfl;have k2:Z.cell? (p_ w.heap.size 2)=some ?A0:=zb q5 2 _ rfl))
 all_goals
  have aw:=zC N (.cells #[I_ au,I_ rd,.slice F bs.length G] 63);have ak:=I.more_at (q:=⟨F,G,bs⟩) C.size J ab ao ap G5;have aj:=Below.grown (V.alloc V.size _) G5.grown (zB V.size _) (λq e=>(J.lt q e).1);have ai:Z.ownsRow E.heap.size 63 3 v5 (b.length+1) (slv (c++[⟨au,rd,⟨F,G,bs⟩⟩])):=by rw[zki];exact an
  have U:z8 Z E.heap.size v5 (ps (c++[⟨au,rd,⟨F,G,bs⟩⟩])):=by simpa[ps]using ak
  obtain⟨z,rc,hv,hl,hL,ac⟩:=zkD ai U;subst hv;rw[hl];go_wp2_with fail
  go_ret2;exact⟨z,rc,c++[⟨au,rd,⟨F,G,bs⟩⟩],by rw[A];rfl,by rw[A,<-aa];simp[vs,Sl.v],hL (by omega),d.trans (aj.mono d.size),ziI ac d.size,by rw[<-hl];exact zcf ai d.size,λp y=>⟨(U p y).1,λf g e=>⟨nT_ d.size ((U p y).2 f g e).1,((U p y).2 f g e).2.1,by rw[<-hl];exact((U p y).2 f g e).2.2⟩⟩⟩
structure zit (w w':World)(e:Ending)(R:List SV×SV×Int):Prop where
 out:∃ra rc ks da dc xa xr ds er,e=.returned (.tuple #[.slice ra (List.length ks) rc,.agg #[I_ xa,I_ xr,.slice da (List.length ds) dc],I_ er])/\(vs ks,(xa,xr,ds),er)=R/\zeb w' ra rc ks/\zg w' da dc ds/\za1 w.heap.size ra (ps ks)/\(∀sb so,da=some (p_ sb so)->w.heap.size<=sb)/\B_ w w'/\w'.ownsRow w.heap.size 63 3 (.slice ra (List.length ks) rc) (List.length ks) (slv ks)/\z8 w' w.heap.size (.slice ra (List.length ks) rc) (ps ks)/\(∀sb so,da=some (p_ sb so)->(Value.slice ra (List.length ks) rc).ownBlock≠some sb)
theorem zit.bad {b:Int}{R:List SV×SV×Int}(c:([],(0,0,[]),b)=R)(d:B_ w w'):zit w w' (.returned (.tuple #[O_,.agg #[I_ 0,I_ 0,O_],I_ b])) R:=
 ⟨none,0,[],none,0,0,0,[],b,rfl,c,zkj _,zu2 _,zjM _,(λ_ _ e=>by cases e),d,oN_ _ _ _ _,(λp f=>by cases f),(λ_ _ e=>by cases e)⟩
theorem zgh (c:List Sl)(I:Q_)(G:Nat)(au rd:Int)(d:Q_)(f:Nat)(bl:List zi)(j:Q_)(l:Nat)(pl:List zi)(w:World)(ht:zeb w I G c)(h:HAt w d f bl j l pl)(hT:za2 w) :
  Calls prog 73 #[.slice I c.length G,.agg #[I_ au,I_ rd,.slice d bl.length f,.slice j pl.length l]] w λe w'=>zit w w' e (zcL (vs c) au rd bl pl):=by
 refine kA_ ?A0 ?_;exact #[I_ au,I_ rd,.slice d bl.length f,.slice j pl.length l];refine kO_ ?C0 ?_;exact Obj.cells #[I_ 0,I_ 0,O_] 63;refine kW_ ?E0 ?_;exact w.alloc (.cells ?A0 60);have y:B_ w ((?E0).alloc ?C0):=((bR_ _ _).alloc (nR_ _) _).alloc (by simp) _;have q0:=hX_ w (.cells ?A0 60) ?C0;refine kA_ ?F0 ?_;exact #[I_ 0,I_ 0,O_];have T:((?E0).alloc ?C0).heap[w.heap.size+1]? = some (.cells ?F0 63 (0,0)):=by
  have:=hN_ ?E0 ?C0;rw[zG]at this;exact this
 rcases zwY (vs c)with h0|h0
 rotate_left
 .have E:([],(0,0,[]),12)=zcL (vs c) au rd bl pl:=by rw[zcL,iP_ (by rw[h0];decide)]
  generalize zcL (vs c) au rd bl pl=R at*;go_in;go_wp2_with fail
  generalize (?E0).alloc ?C0=V at y q0 T|-;refine(zhm c I _ G V rfl (ht.below y)).mono ?_;rintro e w1⟨m,s⟩;rw[h0]at m;subst m;dsimp only;have r:=zk s T;have J:=zb r 0 _ rfl;have L:=zb r 1 _ rfl;have M:=zb r 2 _ rfl;have f0:=zd r 0;have f1:=zd r 1;have f2:=zd r 2;have F:=zm y s;go_wp2_with fail
  refine bP_ (v:=.tuple #[O_,.agg ?F0,I_ 12]) (by simp[results,results73,go_sem,J,L,M]) rfl (zit.bad E ?_);exact((F.setCell (lS_ _) _).setCell (lS_ _) _).setCell (lS_ _) _
 by_cases hF:zO au rd bl pl=0
 rotate_left
 .have E:([],(0,0,[]),zO au rd bl pl)=zcL (vs c) au rd bl pl:=by rw[zcL,iN_ (by rw[h0];decide),iP_ hF]
  generalize zcL (vs c) au rd bl pl=R at*;have HO:Hid (∀W:World,B_ w W->Calls prog 126 #[.agg ?A0] W λe w'=>e=.returned (.tuple #[.agg ?F0,I_ (zO au rd bl pl)])/\B_ W w'):=by
   show ∀W,_;intro W N;exact zrt au rd d f bl j l pl _ W (h.below N) rfl hF
  generalize zO au rd bl pl=ec at*;go_in;go_wp2_with fail
  generalize (?E0).alloc ?C0=V at y q0 T|-;refine(zhm c I _ G V rfl (ht.below y)).mono ?_;rintro e w1⟨m,s⟩;rw[h0]at m;subst m;dsimp only;have z:=zk s q0;have r:=zk s T;have F:=zm y s;have c0:=zb z 0 (I_ au) rfl;have c1:=zb z 1 (I_ rd) rfl;have c2:=zb z 2 (.slice d bl.length f) rfl;have c3:=zb z 3 (.slice j pl.length l) rfl;go_wp2_with fail
  refine(HO.out _ F).mono ?_;rintro _ w2⟨rfl,H⟩;dsimp only;have A:=zk H r;have Y:=ze A;have an:¬w.heap.size+1=w2.heap.size:=by omega
  have aA:¬w2.heap.size=w.heap.size+1:=by omega
  have ag:=zm F H;have J:=zb A 0 _ rfl;have L:=zb A 1 _ rfl;have M:=zb A 2 _ rfl;have f0:=zd A 0;have f1:=zd A 1;have f2:=zd A 2;have ap:(ec != 0)=true:=by simpa using hF
  go_wp2_with fail
  refine bP_ (v:=.tuple #[O_,.agg ?F0,I_ ec]) (by simp[results,results73,go_sem,J,L,M,World.cell?_alloc_lt,Y]) rfl (zit.bad E ?_);refine Below.alloc ?_ ?_ _;exact((ag.setCell (lS_ _) _).setCell (lS_ _) _).setCell (lS_ _) _
  simp;omega
 have E:zcL (vs c) au rd bl pl=if(za6 (vs c) (au,rd,zaE au rd bl pl)).2≠0 then([],(0,0,[]),(za6 (vs c) (au,rd,zaE au rd bl pl)).2)else((za6 (vs c) (au,rd,zaE au rd bl pl)).1,(au,rd,zaE au rd bl pl),0):=by
  rw[zcL,iN_ (by rw[h0];decide),iN_ (by rw[hF];decide)]
 have ah:=zbD au rd bl pl;have HO:Hid (∀W:World,B_ w W->Calls prog 126 #[.agg ?A0] W λe w'=>∃b,e=.returned (.tuple #[.agg #[I_ au,I_ rd,.slice (some (p_ b 0)) 32 32],I_ 0])/\W.heap.size<=b/\b<w'.heap.size/\zg w' (some (p_ b 0)) 32 (zaE au rd bl pl)/\B_ W w'):=by
  show ∀W,_;intro W N;exact ztj au rd d f bl j l pl W (h.below N) hF (hT.below N)
 have HW:Hid (∀(W:World) (b:Nat),B_ w W->zg W (some (p_ b 0)) 32 (zaE au rd bl pl)->Calls prog 127 #[.slice I c.length G,.agg #[I_ au,I_ rd,.slice (some (p_ b 0)) 32 32]] W λe w'=>∃t rc g,e=.returned (.tuple #[.slice t (List.length g) rc,I_ (za6 (vs c) (au,rd,zaE au rd bl pl)).2])/\vs g=(za6 (vs c) (au,rd,zaE au rd bl pl)).1/\zeb w' t rc g/\B_ W w'/\za1 W.heap.size t (ps g)/\w'.ownsRow W.heap.size 63 3 (.slice t (List.length g) rc) (List.length g) (slv g)/\z8 w' W.heap.size (.slice t (List.length g) rc) (ps g)):=by
  show ∀W b,_;intro W b N hs;exact zvN c I _ G au rd (zaE au rd bl pl) _ 32 32 W rfl ah.symm (ht.below N) h0 hs (by omega)
 have ao:Hid ((zaE au rd bl pl).length=32):=ah;clear hF ah;generalize zaE au rd bl pl=D at*;generalize za6 (vs c) (au,rd,D)=C at*;obtain⟨cl,ad⟩:=C;dsimp only at*;go_in;go_wp2_with fail
 generalize (?E0).alloc ?C0=V at y q0 T|-;refine(zhm c I _ G V rfl (ht.below y)).mono ?_;rintro e w1⟨m,s⟩;rw[h0]at m;subst m;dsimp only;have z:=zk s q0;have r:=zk s T;have F:=zm y s;have c0:=zb z 0 (I_ au) rfl;have c1:=zb z 1 (I_ rd) rfl;have c2:=zb z 2 (.slice d bl.length f) rfl;have c3:=zb z 3 (.slice j pl.length l) rfl;clear h0;go_wp2_with fail
 refine(HO.out _ F).mono ?_;rintro e w2⟨b,m,av,az,ax,H⟩;subst m;dsimp only;have A:=zk H r;have Y:=ze r;have ag:=zm F H;have ak:=zR (o:=.cells #[I_ au,I_ rd,.slice (some (p_ b 0)) 32 32] 63) A;refine kO_ ?D0 ?_;exact Obj.cells #[I_ au,I_ rd,.slice (some (p_ b 0)) 32 32] 63;have s2:=hN_ w2 ?D0;have X:=zC w2 ?D0;have O:=zm ag X;have aj:=ax.below X;have an:w2.heap.size≠w.heap.size+1:=by have:=H.size;omega
 have aB:=an.symm;go_wp2_with fail
 generalize w2.alloc ?D0=w3 at ak s2 X O aj|-;refine(HW.out w3 b O aj).mono ?_;rintro e w4⟨t,rc,g,m,aw,ar,aa,ab,ae,al⟩;subst m;dsimp only;have U:=(aa.block _ (ze ak)).trans ak;have t2:=zk aa s2;have am:=zm O aa;have J:=zb U 0 _ rfl;have L:=zb U 1 _ rfl;have M:=zb U 2 _ rfl;have f0:=zd U 0;have f1:=zd U 1;have f2:=zd U 2;have e0:=zb t2 0 (I_ au) rfl;have e1:=zb t2 1 (I_ rd) rfl;have e2:=zb t2 2 (.slice (some (p_ b 0)) 32 32) rfl;by_cases hc:ad=0;refine kW_ ?B0 ?_;exact((w4.setCell (p_ (w.heap.size+1) 0) (I_ au)).setCell (p_ (w.heap.size+1) 1) (I_ rd)).setCell (p_ (w.heap.size+1) 2) (.slice (some (p_ b 0)) 32 32)
 .subst hc;rw[iN_ (by decide)]at E;clear c0 c1 c2 c3;go_wp2_with fail
  refine kV_ ?G0 ?_;exact Value.slice (some (p_ b 0)) 32 32;go_region_held3 (λw'=>w'.cell? (p_ w2.heap.size 0)=some (I_ au)/\w'.cell? (p_ w2.heap.size 1)=some (I_ rd)/\w'.cell? (p_ w2.heap.size 2)=some ?G0) (go_keep) (fail)
  all_goals
   go_wp2_with fail
   have ai:w.heap.size+1<w3.heap.size:=by have:=H.size;have:=X.size;omega
   have ac:∀B u,(some (p_ b 0):Q_)=some (p_ B u)->w1.heap.size<=B:=λB u e=>by cases e;exact av
   have ay:=aj.below aa;have aq:=ao.out;refine bP_ (v:=.tuple #[.slice t g.length rc,.agg #[I_ au,I_ rd,?G0],I_ 0]) (by simp[results,results73,go_sem,J,L,M]) rfl ⟨t,rc,g,some (p_ b 0),32,au,rd,D,0,by rw[aq],by rw[E,aw],?_,?_,ziI ab O.size,(λB u e=>nT_ F.size (ac B u e)),?_,?_,?_,(λB u e e2=>by cases e;have:=(ae.lt _ e2).1;have:=X.size;omega)⟩
   .exact(((ar.setCell ab _ _ _ ai).setCell ab _ _ _ ai).setCell ab _ _ _ ai).below ((bR_ _ _).drew)
   .exact(zfu (zfu (zfu ay ac _ _ _ Y) ac _ _ _ Y) ac _ _ _ Y).below ((bR_ _ _).drew)
   .exact(((am.setCell (lS_ _) _).setCell (lS_ _) _).setCell (lS_ _) _).drew
   .have hq:(Value.slice t g.length rc).ownBlock≠some (w.heap.size+1):=λe=>by have:=(ae.lt _ e).1;omega
    exact zcf (zw (zaQ (zaQ (zaQ ae _ 0 (I_ au) hq) _ 1 (I_ rd) hq) _ 2 ?G0 hq) ((bR_ _ _).drew)) O.size
   .have af:z8 ((?B0).drew) w3.heap.size (.slice t g.length rc) (ps g):=al.same (by simp) (λp Z q u e=>by
     have h9:=((al p Z).2 q u e).1;have hn:q≠w.heap.size+1:=by omega
     show(?B0).heap[q]? = _;rw[hO_ _ (p_ (w.heap.size+1) 2) q _ hn,hO_ _ (p_ (w.heap.size+1) 1) q _ hn,hO_ _ (p_ (w.heap.size+1) 0) q _ hn])
    exact λp Z=>⟨(af p Z).1,λB u e=>⟨nT_ O.size ((af p Z).2 B u e).1,((af p Z).2 B u e).2⟩⟩
 rw[iP_ hc]at E;have ap:(ad != 0)=true:=by simpa using hc
 clear c0 c1 c2 c3;go_wp2_with fail
 refine bP_ (v:=.tuple #[O_,.agg ?F0,I_ ad]) (by simp[results,results73,go_sem,J,L,M]) rfl (zit.bad E.symm ?_);exact((am.setCell (lS_ _) _).setCell (lS_ _) _).setCell (lS_ _) _
end Go.Proofs.YtpnpikpmdfipfaaGreatDoor
