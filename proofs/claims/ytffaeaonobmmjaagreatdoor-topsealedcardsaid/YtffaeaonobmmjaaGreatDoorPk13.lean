import Derived.RangeFuncNested
import Derived.RangeFuncBound
import Derived.Shelf.SortM.Plain
import Derived.Shelf.SortM.SortNone
import Derived.Lib.SlKeysI
import Derived.Test.YtffaeaonobmmjaaGreatDoorPk11
import Derived.Lib.ConvBytes
import Derived.Test.YtffaeaonobmmjaaGreatDoorPk12
set_option maxRecDepth 100000
set_option maxHeartbeats 4000000
namespace Go.Proofs.YtffaeaonobmmjaaGreatDoor
open Go.RowKit Tryz
theorem zh7 (x:NM)(m:MV)(w:World)(U:Nat->Bool)(F o:Nat)(T:TypeId)(d:X_)(h:zo w U F o T d x)(G:GM (zq U w) m) :
  Calls prog 114 #[P_ F o,.agg (mrow_ m.m)] w λe w'=>(∃v,e=.returned v)/\zal w U F o T d x w' (x.v.sendAll m.c):=by
 have p:=zC w (.cells (mrow_ m.m) 68);have q:=hN_ w (.cells (mrow_ m.m) 68);go_in;go_upto_region 1 with fail
 generalize w.alloc (.cells (mrow_ m.m) 68)=t at p q|-;have u:=h.below p;have y:Hid (U w.heap.size=false):=h.bnd.new (nR_ _);have D:=zl.below (F:=F) (o:=o) U d x p;have z:Hid (w.heap.size<t.heap.size):=ze q;generalize w.heap.size=B at q y z|-;go_wp2_with fail
 go_loopw [5] (λj wr=>∃(k:Nat) (b:Nat->Bool) (f:X_) (c:NM),k<=4/\j=I_ k/\zo wr b F o T f c/\zl U b t wr F o d f x c/\Hid (c.v=x.v.sendTo m.c k)/\R_ wr B (mrow_ m.m) 68) (λj _=>4-(intOf j).toNat)
 case atStart=>exact⟨0,U,d,x,by decide,rfl,u,zl.refl _ _ _ _ _ _,rfl,q⟩
 case round=>
  obtain⟨k,b,f,c,J,rfl,l,g,r,s⟩:=hrel;by_cases hlt:k<4
  .have L:(k:Int)<4:=by omega
   have A:=(G.sub (zao.below U p).sub).sub (g.sub u);go_wp2_with (refine wL_ rfl 68 _ rfl B rfl 68 (mrow_ m.m) (0,0) _ s underlying68 rfl sMsg' ?_)
   refine(zeN c m k wr b F o T f l A ⟨by omega,by omega⟩).mono ?_;rintro e w2⟨⟨v,E⟩,U2,fc2,x2,h2,n2,v2⟩;subst E;dsimp only;have I:=n2.box l s (g.hides z.out y.out);have H:=g.trans n2;have C:Hid (x2.v=x.v.sendTo m.c (k+1)):=by show _=_;rw[v2,r.out];rfl
   clear v2 r s A g n2 l;go_wp2_with fail
   go_roundw
   case rel=>exact⟨k+1,U2,fc2,x2,by omega,by go_num,h2,H,C,I⟩
   case measure=>simp[intOf];omega
  obtain rfl:k=4:=by omega
  go_wp2_with fail
  go_end0;exact⟨⟨_,rfl⟩,b,f,c,l,D.trans g,r.out⟩
open Go.Shelf
variable {sa:Q_}
attribute [local go_sem] Oper.semAt_some
def ze4 (n0:Nat)(W:World)(sa:Q_)(zs:L_):Prop:=
 zs=[]\/∃sb so,sa=some (p_ sb so)/\sb<n0/\∀j,j<zs.length->W.cell? (p_ sb (so+j))=some (I_ (zs[j]?.getD 0))
theorem ze4.below {b:Nat}{A B:World}{g:L_}(h:ze4 b A sa g)(l:Below b A B):ze4 b B sa g:=by
 rcases h with h|⟨d,f,e,c,m⟩;exact .inl h;exact .inr ⟨d,f,e,c,λj o=>(l.cell (p:=p_ d (f+j)) c).trans (m j o)⟩
theorem zue (b:L_)(k:Nat)(h:k<b.length):b.take (k+1)=b.take k++[b[k]?.getD 0]:=by
 rw[tS_ h];simp[h]
theorem zvW (F:Fence)(n:Nat)(z:F.fn 183)(G:F.round=none)(O:1<=n)(l m j:Nat)(s:Q_)(t:Nat)(b:L_)(U:b.length<=4)(J o:L_->World->Prop)
  (B:∀c x W,J c W->c.length<b.length->YieldAt F (n-1) prog l #[I_ x] W λe d=>
   (e=.returned (.bool true)/\J (c++[x]) d/\Below j W d)\/(e=.returned (.bool false)/\o (c++[x]) d))
  (W:World) (M:C_ W m 0 (.slice s b.length t)) (C:ze4 j W s b) (u:J [] W) :
  CallsIn F n prog 183 #[.func (.yield l) #[] #[],(P_ m 0)] W λe d=>(∃v,e=.returned v)/\((∃ys,ys=b/\J ys d)\/(∃c,c <+: b/\o c d)):=by
 refine callsIn_of_wp func183 rfl z ?_ G;simp only[ntmps183,List.size_toArray,List.length_cons,List.length_nil,Nat.reduceAdd,Nat.reduceSub,Array.replicate_succ,Array.replicate_zero,List.push_toArray,List.append_toArray,List.nil_append,List.cons_append]
 gi_wp2
 gi_loopw [7] (λi wr=>∃k:Nat,k<=b.length/\i=I_ k/\J (b.take k) wr/\Below j W wr) (λi _=>b.length-(intOf i).toNat)
 case atStart=>exact⟨0,nZ_ _,rfl,by simpa using u,bR_ _ _⟩
 case round=>
  obtain⟨k,N,rfl,g,q⟩:=hrel;by_cases hlt:k<b.length
  .rcases C.below q with E|⟨V,X,rfl,R,p⟩;rw[E]at hlt;simp at hlt;have D:=p k hlt;have f:Hid (b.take (k+1)=b.take k++[b[k]?.getD 0]):=zue b k hlt;obtain⟨y,r⟩:∃y,y=b[k]?.getD 0:=⟨_,rfl⟩;rw[<-r]at D f;obtain⟨fn,Y,I,L,T,A⟩:=B _ y wr g (by rw[lT9_];omega);clear p r
   gi_wp2
   refine A.mono ?_;rintro e H (⟨rfl,hJ3,hk3⟩|⟨rfl,hJx3⟩)
   .gi_wp2
    go_roundw
    case rel=>exact⟨k+1,by omega,by simp,by rw[f.out];exact hJ3,q.trans hk3⟩
    case measure=>simp[intOf];omega
   gi_wp2
   refine bP_ (results_none rfl _ _ _) rfl ?_;exact⟨⟨_,rfl⟩,.inr ⟨_,by rw[<-f.out];exact List.take_prefix _ _,hJx3⟩⟩
  obtain rfl:k=b.length:=by omega
  rw[List.take_length]at g
  gi_wp2
  go_end0;exact⟨⟨_,rfl⟩,.inl ⟨_,rfl,g⟩⟩
theorem zo2 (a:Q_)(c b:Nat)(w:World) :
  Calls prog 147 #[.slice a c b] w λe w'=>e=.returned (.func (.func 183) #[] #[P_ w.heap.size 0])/\w'=w.alloc (.cells #[.slice a c b] 64):=by
 have d:∀(fn:Fn) (first b:X_) (w:World),(Instr.makeFunc fn first b).run prog w=.ok (.func fn first b) w:=λ_ _ _ _=>rfl;go_in;go_wp2_with fail
 go_ret;exact⟨rfl,rfl⟩
attribute [local go_sem] Oper.semAt_some
theorem zq6:(prog.info? 3).map (λi=>(i.zero,i.size,i.bytes))=some (some (I_ 0),1,8):=by kernel_rfl
theorem zr7 (n c:Nat)(u:1<=n)(f:Q_)(g:Nat)(b:L_)(z:b.length<=4)(d:Nat)(w:World)(q:c<w.heap.size)(y:d<=w.heap.size)(t:C_ w c 0 (.slice f b.length g))(r:ze4 d w f b) :
  SeqStopsK Fence.wide n prog 183 #[P_ c 0] (λx:Int=>#[Value.int .i64 x]) (Below d) (λys=>ys=b) (λA=>A <+: b) b.length w:=λl J m W j _ _ s o=>
 zvW Fence.wide n trivial rfl u l c d f g b z J m s W ((j.cell (p:=p_ c 0) q).trans t) (r.below (j.mono y)) o
theorem zvX (b:Nat)(q:Q_)(r:Nat)(g:L_)(M:g.length<=4)(w:World)(y:b<w.heap.size)(B:C_ w b 0 (.slice q g.length r))(A:ze4 w.heap.size w q g) :
  CallsIn Fence.wide 6 prog 213 #[O_,.func (.func 183) #[] #[P_ b 0]] w λe w'=>∃v,e=.returned v/\w'.ownsRow w.heap.size 3 1 v g.length (iv g)/\B_ w w':=by
 obtain⟨T,F,N,O,R⟩:=info_parts zq6;refine callsIn_of_wp_marks func213 rfl trivial ?_ rfl;simp only[ntmps213,List.size_toArray,List.length_cons,List.length_nil,Nat.reduceAdd,Nat.reduceSub,Array.replicate_succ,Array.replicate_zero,List.push_toArray,List.append_toArray,List.nil_append,List.cons_append]
 gi_wp2
 have o:=zC w (.cells #[O_] 64);have J:=zr7 5 b (by omega) q r g M w.heap.size (w.alloc (.cells #[O_] 64)) (by simp;omega) (by simp) ((o.cell (p:=p_ b 0) y).trans B) (A.below o);refine wpIn_rangeFunc_ownF (α:=Int) rfl (by omega) (gf:=183) (lb:=#[P_ b 0]) rfl trivial (eO_ func183) J belowK_t (belowK_b (by simp)) (bR_ _ _) (λ_=>rfl)
  (λd W=>(∃v,Boxed W w.heap.size 64 v/\W.ownsRow w.heap.size 3 1 v (List.length d) (iv d)/\True)/\B_ w W)
  (λ_ _ _=>False)
  (OwnFrom.and (Own.from (holdsRow_own w.heap.size w.heap.size 64 3 1 (λd:L_=>d.length) (λd=>iv d) (λ_ _=>True)) _) (ownFrom_below (nR_ _) (by simp)))
  (λ_ _ _ _ _ I _ _=>I)
  ⟨⟨_,Boxed.new w 64 (O_),oN_ _ _ _ _,trivial⟩,o⟩
  (λx=>{ tmps:=#[O_,.func (.func 183) #[] #[P_ b 0],(P_ w.heap.size 0),undef,O_,I_ x,.func (.func 183) #[] #[P_ b 0],I_ x,undef,undef,undef,undef,undef],defers:=[] }) ?assign ?body ?done ?stop
 case assign=>
  intro l x W K j
  gi_wp2
  exact j
 case body=>
  rintro l d x W⟨⟨v,m,f,_⟩,hB⟩hlt;obtain⟨U,V,rfl⟩:=zH f;have C:=m.cell
  gi_wp2_with (gi_at_builtin;refine wpListIn_append_own _ rfl _ _ 64 rfl w.heap.size 3 T (I_ 0) 1 8 underlying64 F N O R rfl (by decide) _ _ _ rfl (f.alloc _) (p_ W.heap.size 0) 1 1 [I_ x] rfl rfl (cell_one_new _ _ _) (by simp[Value.oneCell']) (by unfold maxLen;omega) (by omega) (by have:=hB.size;simp;omega) ?_;intro v' w1 t E _;obtain⟨Y,X,rfl⟩:=ownsRow_succ t;obtain⟨u,L,H,G,s⟩:=m.appended (by decide) f hB.size (nR_ _) t E;have Z:=u.cell;have aa:=u.frozen)
  exact⟨G,s,⟨_,L,by simpa[iv]using H,trivial⟩,hB.trans s⟩
 case done=>
  rintro D ys W z rfl⟨⟨v,m,f,_⟩,hB⟩j;obtain⟨U,V,rfl⟩:=zH f;have C:=m.cell
  gi_wp2
  refine⟨by simp,.inl ⟨_,_,rfl,run_takeDeferred j,?_⟩⟩;exact⟨_,results_tmp rfl _ _ _,_,rfl,ownsRow_putObj f _ j rfl,hB.trans (belowK_b (w:=w) (nR_ _) W D _ _ (by simp at z;omega) j rfl rfl)⟩
 case stop=>
  rintro D c d W _ _ h _;exact h.elim
theorem znn (x:Int)(l:L_):(zmt x l).Perm (x::l):=by
 induction l with
 | nil=>exact List.Perm.refl _
 | cons y l ih=>
  rw[zmt]
  split
  exact List.Perm.refl _;exact(List.Perm.cons y ih).trans (List.Perm.swap x y l)
theorem zlY (l:L_):(zhH l).Perm l:=by
 induction l with
 | nil=>exact List.Perm.refl _
 | cons x l ih=>exact(znn x (zhH l)).trans (List.Perm.cons x ih)
theorem zxr (x:Int)(l:L_)(h:l.Pairwise (·<=·)):(zmt x l).Pairwise (·<=·):=by
 induction l with
 | nil=>exact List.pairwise_singleton _ _
 | cons y l ih=>
  obtain⟨c,d⟩:=List.pairwise_cons.1 h;rw[zmt]
  split
  .next g=>
   refine List.pairwise_cons.2 ⟨λz b=>?_,h⟩;rcases List.mem_cons.1 b with e|e;rw[e];exact g;have:=c z e;omega
  next g=>
  refine List.pairwise_cons.2 ⟨λz b=>?_,ih d⟩;rcases List.mem_cons.1 ((znn x l).mem_iff.1 b)with e|e;rw[e];omega;exact c z e
theorem zvY (l:L_):(zhH l).Pairwise (·<=·):=by
 induction l with
 | nil=>exact List.Pairwise.nil
 | cons x l ih=>exact zxr x _ ih
theorem zuf:∀(a b:L_),a.Perm b->a.Pairwise (·<=·)->b.Pairwise (·<=·)->a=b:=by
 intro a
 induction a with
 | nil=>intro b c _ _;exact(List.nil_perm.1 c).symm
 | cons x a ih=>
  intro b c m o;cases b with
  | nil=>exact absurd c.length_eq (by simp)
  | cons y b=>
   obtain⟨g,j⟩:=List.pairwise_cons.1 m;obtain⟨d,f⟩:=List.pairwise_cons.1 o;have e:x=y:=by
    have r:=c.mem_iff.1 (List.mem_cons_self (a:=x) (l:=a));have s:=c.mem_iff.2 (List.mem_cons_self (a:=y) (l:=b));rcases List.mem_cons.1 r with q|q;exact q;rcases List.mem_cons.1 s with p|p;exact p.symm;have u1:=d x q;have u2:=g y p;omega
   subst e;rw[ih b (List.Perm.cons_inv c) j f]
theorem zvZ (l:L_):l.mergeSort (λx y=>decide (x<=y))=zhH l:=by
 refine zuf _ _ ((List.mergeSort_perm l _).trans (zlY l).symm) ?_ (zvY l);have h:=List.pairwise_mergeSort (le:=λx y:Int=>decide (x<=y)) (λa b c p q=>by simp at p q|-;omega) (λa b=>by simp;omega) l;exact h.imp (λq=>by simpa using q)
theorem zug (c:Nat)(d:Q_)(f:Nat)(b:L_)(m:b.length<=4)(w:World)(g:c<w.heap.size)(l:C_ w c 0 (.slice d b.length f))(j:ze4 w.heap.size w d b) :
  Calls prog 213 #[O_,.func (.func 183) #[] #[P_ c 0]] w λe w'=>∃v,e=.returned v/\w'.ownsRow w.heap.size 3 1 v b.length (iv b)/\B_ w w':=
 (callsIn_wide (n:=6)).1 (zvX c d f b m w g l j)
theorem zqj (c:Nat)(d:Q_)(g:Nat)(b:L_)(r:b.length<=4)(w:World)(o:c<w.heap.size)(l:C_ w c 0 (.slice d b.length g))(j:ze4 w.heap.size w d b) :
  Calls prog 181 #[.func (.func 183) #[] #[P_ c 0]] w λe w'=>∃v,e=.returned v/\w'.ownsRow w.heap.size 3 1 v b.length (iv b)/\B_ w w':=by
 have f:=zug c d g b r w o l j;clear l j;go_in;go_wp2_with fail
 refine f.mono ?_;rintro e u⟨v,q,m,p⟩;subst q;dsimp only;clear f;obtain⟨s,t,rfl⟩:=zH m;go_wp2_with fail
 go_ret;exact⟨_,rfl,m,p⟩
def zo3:Go.Shelf.Ren:=⟨fun|5=>182|8=>215|7=>214|19=>239|20=>240|10=>230|11=>231|12=>232|13=>233|14=>234|15=>235|16=>236|17=>237|18=>238|30=>249|31=>250|32=>251|33=>252|34=>253|35=>219|40=>257|n=>n,fun|23=>64|25=>3|3=>3|32=>123|22=>64|0=>0|44=>167|46=>297|4=>4|36=>289|35=>288|41=>293|5=>5|9=>9|53=>308|57=>312|63=>316|64=>317|n=>n,fun|n=>n⟩
theorem zo4:Go.Proofs.SlLaysM.n5 prog zo3:={
 mixed:=by kernel_rfl
 f5:=⟨Tryz.f182.name,by decide,func182.trans (cA_ some (by kernel_rfl))⟩
 f7:=⟨Tryz.f214.name,by decide,func214.trans (cA_ some (by kernel_rfl))⟩
 f8:=func215.trans (cA_ some (by kernel_rfl))
 f10:=⟨Tryz.f230.name,by decide,func230.trans (cA_ some (by kernel_rfl))⟩
 f11:=⟨Tryz.f231.name,by decide,func231.trans (cA_ some (by kernel_rfl))⟩
 f12:=⟨Tryz.f232.name,by decide,func232.trans (cA_ some (by kernel_rfl))⟩
 f13:=⟨Tryz.f233.name,by decide,func233.trans (cA_ some (by kernel_rfl))⟩
 f14:=⟨Tryz.f234.name,by decide,func234.trans (cA_ some (by kernel_rfl))⟩
 f15:=⟨Tryz.f235.name,by decide,func235.trans (cA_ some (by kernel_rfl))⟩
 f16:=⟨Tryz.f236.name,by decide,func236.trans (cA_ some (by kernel_rfl))⟩
 f17:=⟨Tryz.f237.name,by decide,func237.trans (cA_ some (by kernel_rfl))⟩
 f18:=⟨Tryz.f238.name,by decide,func238.trans (cA_ some (by kernel_rfl))⟩
 f19:=func239.trans (cA_ some (by kernel_rfl))
 f20:=func240.trans (cA_ some (by kernel_rfl))
 f30:=⟨Tryz.f249.name,by decide,func249.trans (cA_ some (by kernel_rfl))⟩
 f31:=func250.trans (cA_ some (by kernel_rfl))
 f32:=func251.trans (cA_ some (by kernel_rfl))
 f33:=⟨Tryz.f252.name,by decide,func252.trans (cA_ some (by kernel_rfl))⟩
 f34:=⟨Tryz.f253.name,by decide,func253.trans (cA_ some (by kernel_rfl))⟩
 f35:=⟨Tryz.f219.name,by decide,func219.trans (cA_ some (by kernel_rfl))⟩
 f40:=⟨Tryz.f257.name,by decide,func257.trans (cA_ some (by kernel_rfl))⟩
 t0:=underlying0
 a0:=isAgg0
 z0:=sizeOf0
 v0:=zeroValue0
 t3:=underlying3
 a3:=isAgg3
 z3:=sizeOf3
 v3:=zeroValue3
 t4:=underlying4
 a4:=isAgg4
 z4:=sizeOf4
 v4:=zeroValue4
 t5:=underlying5
 a5:=isAgg5
 z5:=sizeOf5
 v5:=zeroValue5
 t9:=underlying9
 a9:=isAgg9
 z9:=sizeOf9
 v9:=zeroValue9
 t22:=underlying64
 a22:=isAgg64
 z22:=sizeOf64
 v22:=zeroValue64
 t23:=underlying64
 a23:=isAgg64
 z23:=sizeOf64
 v23:=zeroValue64
 t25:=underlying3
 a25:=isAgg3
 z25:=sizeOf3
 v25:=zeroValue3
 t32:=underlying123
 a32:=isAgg123
 z32:=sizeOf123
 v32:=zeroValue123
 t35:=underlying288
 a35:=isAgg288
 z35:=sizeOf288
 v35:=zeroValue288
 t36:=underlying289
 a36:=isAgg289
 z36:=sizeOf289
 v36:=zeroValue289
 t41:=underlying293
 a41:=isAgg293
 z41:=sizeOf293
 v41:=zeroValue293
 t44:=underlying167
 a44:=isAgg167
 z44:=sizeOf167
 v44:=zeroValue167
 t46:=underlying297
 a46:=isAgg297
 z46:=sizeOf297
 v46:=zeroValue297
 t53:=underlying308
 a53:=isAgg308
 z53:=sizeOf308
 v53:=zeroValue308
 t57:=underlying312
 a57:=isAgg312
 z57:=sizeOf312
 v57:=zeroValue312
 t63:=underlying316
 a63:=isAgg316
 z63:=sizeOf316
 v63:=zeroValue316
 t64:=underlying317
 a64:=isAgg317
 z64:=sizeOf317
 v64:=zeroValue317 }
open Go.Sort
theorem zv0 (b:L_)(d:Q_)(c base:Nat)(w:World)(F:b.length<=4)(m:w.ownsRow base 3 1 (.slice d b.length c) b.length (iv b)) :
  Calls prog 182 #[.slice d b.length c] w λe w'=>e=.returned (.tuple #[])/\w'.ownsRow base 3 1 (.slice d b.length c) b.length (iv (zhH b))/\w.grownBy w' (Value.slice d b.length c).ownBlock:=by
 rcases m.2 with⟨e,s⟩|⟨l,D,E,e,r,f,z,A,B,C⟩;have t:=eN_ s;subst t;refine(AnyM.slices_Sort_int_none zo4 d c w).mono (λe w' k=>?_);obtain⟨g,j⟩:=k;subst j;exact⟨g,m,World.grownBy.refl _ _⟩;simp only[Value.slice.injEq]at e;obtain⟨o,_,p⟩:=e;subst o p;have q:=holds_of_block_i f (by simpa[iv]using C);refine(AnyM.slices_Sort_int zo4 l 0 c b w q (ze f) (by omega)).mono (λe w' k=>?_);obtain⟨g,u,os,j⟩:=k;subst j;refine⟨g,?_,grownBy_sorted_i _⟩;have h:=ownsRow_sorted_i (n:=u) (os:=os) (ss:=b) (ts:=b.mergeSort λx y=>decide (x<=y)) (by simp) r f z A B;rw[zvZ]at h|-;exact h
theorem zr8 (f:Nat)(l:Q_)(p:Nat)(b:L_)(u:b.length<=4)(w:World)(y:f<w.heap.size)(t:C_ w f 0 (.slice l b.length p))(r:ze4 w.heap.size w l b) :
  Calls prog 146 #[.func (.func 183) #[] #[P_ f 0]] w λe w'=>∃c d,e=.returned (.slice c b.length d)/\w'.ownsRow w.heap.size 3 1 (.slice c b.length d) b.length (iv (zhH b))/\B_ w w':=by
 have m:=zqj f l p b u w y t r;clear t r;go_in;go_wp2_with fail
 refine m.mono ?_;rintro e B⟨v,g,j,s⟩;subst g;dsimp only;clear m;obtain⟨c,d,rfl⟩:=zH j;have o:=zv0 b c d w.heap.size B u j;go_wp2_with fail
 refine o.mono ?_;rintro _ w2⟨rfl,A,z⟩;dsimp only;clear o;go_wp2_with fail
 go_ret;exact⟨c,d,rfl,A,s.grown z s.size (λq e=>(j.lt q e).1)⟩
variable {w:World}{ops:Array Oper}{Q:Exit->Act->World->Prop}{a:Act}{P:Program}{md:Region.Mode}{fuel:Nat}{listed:Array Bool}
theorem zno {S:World->Prop}
  (h:∀b:Nat->Array Bool->Act->World->Prop,Hid (∀f l a w,wpAnyH P md ops Q S f l a w->b f l a w)->Hid (∀f l a w,b f l a w->wpAnyH P md ops Q S f l a w)->b fuel listed a w):wpAnyH P md ops Q S fuel listed a w:=
 h _ (show ∀_,_ from λ_ _ _ _ h=>h) (show ∀_,_ from λ_ _ _ _ h=>h)
theorem znp {c:Nat->Array Bool->Act->World->Prop}(h:∀b,Hid (a=b)->c fuel listed b w):c fuel listed a w:=h a (show a=a from rfl)
variable {U:Nat->Bool}{n base n1:Nat}{vl:L_}{va:Q_}
theorem zax.hid (h:zax w va vl)(f:∀b c,va=some (p_ b c)->U b=false):zax (zq U w) va vl:=by
 refine⟨?_⟩;rcases h.cells with h|⟨b,c,e,h⟩;exact .inl h;exact .inr ⟨b,c,e,λj d=>(cB_ (zdr (f b c e))).trans (h j d)⟩
theorem zyt {a:Q_}{c:Nat}{b:L_}(h:w.ownsRow base 3 1 (.slice a n c) n (iv b)):ze4 w.heap.size w a b:=by
 obtain⟨p,q,e,_,l,_⟩:=zeW h;cases e;rcases l.cells with g|⟨m,o,e,g⟩;exact .inl g;by_cases hz:b=[];exact .inl hz;refine .inr ⟨m,o,e,?_,λj d=>?_⟩;have f:=List.length_pos_iff.2 hz;have:=World.block_lt_of_cell? _ _ (g 0 f);exact this;rw[g j d];simp[d]
theorem ze4.up {b:Nat}{a:Q_}{c:L_}(h:ze4 b w a c)(l:b<=n1):ze4 n1 w a c:=by
 rcases h with h|⟨f,g,e,j,d⟩;exact .inl h;exact .inr ⟨f,g,e,by omega,d⟩
theorem zr9 (l:L_)(h:∀v∈l,0<=v/\v<4):l.length=l.count 0+l.count 1+l.count 2+l.count 3:=by
 induction l with
 | nil=>rfl
 | cons a l ih=>
  have d:=ih (λv c=>h v (mC_ _ c));have f:=h a (List.mem_cons_self ..);have b:a=0\/a=1\/a=2\/a=3:=by omega
  rcases b with e|e|e|e<;>subst e<;>simp<;>omega
theorem zv1 {l:L_}{b:Int}(h:l.length<=4/\(∀v∈l,0<=v/\v<4)/\l.Nodup)(f:0<=b/\b<4)(g:¬b∈l):(l++[b]).length<=4:=by
 have c:=List.nodup_cons.2 ⟨g,h.2.2⟩;have d:=zr9 (b::l) (λv j=>by
  rcases List.mem_cons.1 j with e|e
  .rw[e];exact f
  .exact h.2.1 v e)
 have m:=List.nodup_iff_count.1 c 0;have o:=List.nodup_iff_count.1 c 1;have p:=List.nodup_iff_count.1 c 2;have q:=List.nodup_iff_count.1 c 3;rw[lP_];rw[List.length_cons]at d;simp only[List.length_singleton];omega
theorem zsa (x:NM)(t:Int)(s:Sl)(B:Int)(A:List Sg)(X:Q_)(Y:Nat)(w:World)(U:Nat->Bool)(F o:Nat)(T:TypeId)(fc:X_)(h:zo w U F o T fc x)(hs:zg (zq U w) s.p.sa s.p.cap s.p.bs)(us:zaN s.p.bs)(aA:0<=t/\t<4)(hg:zdj (zq U w) X Y A) :
  Calls prog 105 #[P_ F o,I_ t,.agg (srow_ s),.agg #[I_ B,.slice X A.length Y]] w λe w'=>(∃v,e=.returned v)/\zal w U F o T fc x w' (x.v.hearV ⟨B,zA A⟩ t s.v):=by
 refine kA_ ?B0 ?_;exact #[I_ B,.slice X A.length Y];refine kW_ ?C0 ?_;exact(w.alloc (.cells (srow_ s) 63)).alloc (.cells ?B0 94);have I:B_ w ?C0:=((bR_ _ _).alloc (nR_ _) _).alloc (by simp) _;have q0:=hX_ w (.cells (srow_ s) 63) (.cells ?B0 94);have q1:=hY_ w (.cells (srow_ s) 63) (.cells ?B0 94);go_in;go_upto_region 1 with fail
 generalize ?C0=W0 at I q0 q1|-;have h0:=h.below I;have aY:=hs.sub (h.later I);have aX:=hg.sub (h.later I);have aS:Hid (U w.heap.size=false/\U (w.heap.size+1)=false):=⟨h.bnd.new (nR_ _),h.bnd.new (lS_ _)⟩;have bm:=zl.below (F:=F) (o:=o) U fc x I;generalize w.heap.size+1=B1 at q1 aS|-;generalize w.heap.size=B0 at q0 aS|-;clear I;have c6:=h0.cell 6 _ rfl;have a6:=h0.cell 11 _ rfl;have ba:=h0.cell 12 _ rfl;have be:=h0.cell 13 _ rfl;refine kV_ ?D0 ?_;exact Value.agg (srow_ s);have aI:Hid (∀W:World,B_ W0 W->Calls prog 144 #[?D0,.agg (srow_ x.slot)] W λe w'=>e=.returned (.bool (decide (s.v=x.slot.v)))/\B_ W w'):=by
  show ∀W,_;intro W hW;exact znc s x.slot W ((aY.sub (zK _ _)).below hW) (((h0.below hW).slt).sub (zK _ _)) us h.inv.u8s
 have aD:Hid (∀W:World,B_ W0 W->Calls prog 88 #[P_ x.s 0,I_ s.au,I_ s.rd] W λe w'=>e=.returned (.bool (decide (0<=cOf x.v.k.dag s.au s.rd)))/\B_ W w'):=by
  show ∀W,_;intro W hW;obtain⟨ca,cc,da,dc,b0⟩:=(h0.below hW).stkAt;exact zmx x.ls x.s ca cc da dc x.ds s.au s.rd W b0
 have aL:Hid (∀W:World,B_ W0 W->Calls prog 122 #[P_ F o,I_ t] W λe w'=>e=.returned (.bool (decide (t∈x.vot)))/\B_ W w'):=by
  show ∀W,_;intro W hW;exact zjp x t W U F o T fc (h0.below hW)
 have aH:Hid (∀W:World,B_ W0 W->Calls prog 145 #[.agg ?B0,I_ t,?D0] W λe w'=>e=.returned (.bool (No.signed ⟨B,zA A⟩ t s.v))/\B_ W w'):=by
  show ∀W,_;intro W hW;exact zkM B A X Y t s W ((aX.sub (zK _ _)).below hW) ((aY.sub (zK _ _)).below hW) us
 generalize ag:decide (s.v=x.slot.v)=b1 at aI;generalize ah:decide (0<=cOf x.v.k.dag s.au s.rd)=b2 at aD;generalize ai:decide (t∈x.vot)=b3 at aL;generalize aj:No.signed ⟨B,zA A⟩ t s.v=b4 at aH;have HB:Hid (decide (s.v=x.slot.v)=b1/\decide (0<=cOf x.v.k.dag s.au s.rd)=b2/\decide (t∈x.vot)=b3/\No.signed ⟨B,zA A⟩ t s.v=b4):=⟨ag,ah,ai,aj⟩;clear ag ah ai aj;go_cut [38] (λu wx=>u=.bool (!b1||b2||b3||!b4)/\B_ W0 wx)
 case first=>
  have ac:=dB_ W0;have aQ:=dC_ c6;have aN:=dC_ a6;have aO:=dC_ ba;have aP:=dC_ be;have a1:=dQ_ q0;have a2:=dQ_ q1;refine wR_ (S:=λw'=>C_ w' F (o+6) (P_ x.s 0)/\C_ w' F (o+11) (I_ x.slot.au)/\C_ w' F (o+12) (I_ x.slot.rd)/\C_ w' F (o+13) (.slice x.slot.p.sa x.slot.p.bs.length x.slot.p.cap)/\R_ w' B0 (srow_ s) 63/\R_ w' B1 ?B0 94) (by kernel_rfl) ⟨aQ,aN,aO,aP,a1,a2⟩ (λy=>?_);generalize W0.drew=V0 at ac aQ aN aO aP a1 a2 y|-;refine tQ_ 0 9 ?D0 rfl rfl (Or.inl ⟨by rfl,λw0 al=>zL 63 _ rfl B0 rfl 63 (srow_ s) (0,0) _ al.2.2.2.2.1 underlying63 rfl sSl⟩) y ?_;simp only[zf];refine tks_ 4 [(1,10,(P_ F o)),(2,11,(P_ F o)),(3,12,(P_ F (o+11))),(4,13,.agg (srow_ x.slot))] y ?_;simp only[tkf_,zf];refine zE 5 rfl (λK9 D=>?_);refine zj rfl 14 rfl 144 [.tmp 9,.tmp 13] #[63,63] rfl [?D0,.agg (srow_ x.slot)] rfl (eO_ func144) (λv w'=>v=.bool b1/\B_ V0 w') ((aI.out V0 ac).mono (λe w' k=>⟨_,k.1,rfl,k.2⟩)) ?_;rintro v V1⟨rfl,ag⟩;have aT:=zm ac ag;have bi:=zr ag aQ;have a7:=zr ag aN;have bb:=zr ag aO;have bf:=zr ag aP;have bx:=zk ag a1;have bC:=zk ag a2;refine D.out _ _ ⟨bi,a7,bb,bf,bx,bC⟩ (λy=>?_);simp only[zf];cases b1 with
  | false=>
   refine tks_ 24 [(6,15,.bool (!false)),(7,16,.bool (!false)),(8,17,undef),(9,18,undef),(10,19,undef),(11,20,undef),(12,21,undef),(13,22,undef),(14,23,undef),(15,24,undef),(16,25,undef),(17,26,.bool true),(18,27,.bool true),(19,28,undef),(20,29,undef),(21,30,undef),(22,31,.bool true),(23,32,.bool true),(24,33,undef),(25,34,undef),(26,35,undef),(27,36,undef),(28,37,undef),(29,38,.bool true)] y ?_;simp only[tkf_,zf];clear y;refine wD_ (by kernel_rfl) ?_ _;go_wp2_with fail
   go_meet
   case rel=>exact⟨rfl,aT⟩
  | true=>
   refine tks_ 7 [(6,15,.bool (!true)),(7,16,.bool (!true)),(8,17,(P_ F o)),(9,18,(P_ F o)),(10,19,(P_ F (o+6))),(11,20,(P_ x.s 0)),(12,21,(P_ B0 0))] y ?_;simp only[tkf_,zf];refine tQ_ 13 22 (I_ s.au) rfl rfl (Or.inl ⟨by rfl,λw0 al=>by have k0:=zb al.2.2.2.2.1 0 _ rfl;go_simp⟩) y ?_;simp only[zf];refine zU 14 23 (P_ B0 1) rfl rfl y ?_;simp only[zf];refine tQ_ 15 24 (I_ s.rd) rfl rfl (Or.inl ⟨by rfl,λw0 al=>by have k0:=zb al.2.2.2.2.1 1 _ rfl;go_simp⟩) y ?_;simp only[zf];refine zE 16 rfl (λK9 D=>?_);refine zaJ (by rfl) 25 rfl 88 [.tmp 20,.tmp 22,.tmp 24] #[98,3,3] rfl [P_ x.s 0,I_ s.au,I_ s.rd] rfl (eO_ func88) (λv w'=>v=.bool b2/\B_ V1 w') ((aD.out V1 aT).mono (λe w' k=>⟨_,k.1,rfl,k.2⟩)) ?_;rintro v V2⟨rfl,ah⟩;have aU:=zm aT ah;have bj:=zr ah bi;have a8:=zr ah a7;have bc:=zr ah bb;have bg:=zr ah bf;have bz:=zk ah bx;have bD:=zk ah bC;refine D.out _ _ ⟨bj,a8,bc,bg,bz,bD⟩ (λy=>?_);simp only[zf];cases b2 with
   | true=>
    refine tks_ 13 [(17,26,.bool true),(18,27,.bool true),(19,28,undef),(20,29,undef),(21,30,undef),(22,31,.bool true),(23,32,.bool true),(24,33,undef),(25,34,undef),(26,35,undef),(27,36,undef),(28,37,undef),(29,38,.bool true)] y ?_;simp only[tkf_,zf];clear y;refine wD_ (by kernel_rfl) ?_ _;go_wp2_with fail
    go_meet
    case rel=>exact⟨rfl,aU⟩
   | false=>
    refine tks_ 4 [(17,26,.bool false),(18,27,.bool false),(19,28,(P_ F o)),(20,29,I_ t)] y ?_;simp only[tkf_,zf];refine zE 21 rfl (λK9 D=>?_);refine zaJ (by rfl) 30 rfl 122 [.tmp 28,.tmp 29] #[114,3] rfl [P_ F o,I_ t] rfl (eO_ func122) (λv w'=>v=.bool b3/\B_ V2 w') ((aL.out V2 aU).mono (λe w' k=>⟨_,k.1,rfl,k.2⟩)) ?_;rintro v N⟨rfl,ai⟩;have aV:=zm aU ai;have bk:=zr ai bj;have a9:=zr ai a8;have bd:=zr ai bc;have bh:=zr ai bg;have bA:=zk ai bz;have bE:=zk ai bD;refine D.out _ _ ⟨bk,a9,bd,bh,bA,bE⟩ (λy=>?_);simp only[zf];cases b3 with
    | true=>
     refine tks_ 8 [(22,31,.bool true),(23,32,.bool true),(24,33,undef),(25,34,undef),(26,35,undef),(27,36,undef),(28,37,undef),(29,38,.bool true)] y ?_;simp only[tkf_,zf];clear y;refine wD_ (by kernel_rfl) ?_ _;go_wp2_with fail
     go_meet
     case rel=>exact⟨rfl,aV⟩
    | false=>
     refine tks_ 2 [(22,31,.bool false),(23,32,.bool false)] y ?_;simp only[tkf_,zf];refine tQ_ 24 33 (.agg ?B0) rfl rfl (Or.inl ⟨by rfl,λw0 al=>zL 94 _ rfl B1 rfl 94 ?B0 (0,0) _ al.2.2.2.2.2 underlying94 rfl sNo⟩) y ?_;simp only[zf];refine zU 25 34 (I_ t) rfl rfl y ?_;simp only[zf];refine tQ_ 26 35 ?D0 rfl rfl (Or.inl ⟨by rfl,λw0 al=>zL 63 _ rfl B0 rfl 63 (srow_ s) (0,0) _ al.2.2.2.2.1 underlying63 rfl sSl⟩) y ?_;simp only[zf];refine zE 27 rfl (λK9 D=>?_);refine zaJ (by rfl) 36 rfl 145 [.tmp 33,.tmp 34,.tmp 35] #[94,3,63] rfl [.agg ?B0,I_ t,?D0] rfl (eO_ func145) (λv w'=>v=.bool b4/\B_ N w') ((aH.out N aV).mono (λe w' k=>⟨_,k.1,rfl,k.2⟩)) ?_;rintro v V4⟨rfl,aj⟩;have bU:=zm aV aj;have bP:=zr aj bk;have bM:=zr aj a9;have bN:=zr aj bd;have bO:=zr aj bh;have b7:=zk aj bA;have b9:=zk aj bE;refine D.out _ _ ⟨bP,bM,bN,bO,b7,b9⟩ (λy=>?_);simp only[zf];refine tks_ 2 [(28,37,.bool (!b4)),(29,38,.bool (!b4))] y ?_;simp only[tkf_,zf];clear y;refine wD_ (by kernel_rfl) ?_ _;go_wp2_with fail
     go_meet
     case rel=>exact⟨by simp,bU⟩
 refine kO_ ?A0 ?_;exact Obj.cells #[I_ 0,I_ 0,O_,O_,O_] 66
 case rest=>
  obtain⟨rfl,ar⟩:=hcut;apply_assumption;clear c6 a6 ba be aI aD aL aH;generalize hC:(!b1||b2||b3||!b4)=cc;have a4:Hid ((s.v≠x.v.k.slot\/0<=cOf x.v.k.dag s.v.1 s.v.2.1\/t∈x.v.vot\/No.signed ⟨B,zA A⟩ t s.v=false)↔cc=true):=by
   obtain⟨e1,e2,e3,e4⟩:=HB.out;have bQ:decide (s.v=x.v.k.slot)=b1:=e1;have bR:decide (0<=cOf x.v.k.dag s.v.1 s.v.2.1)=b2:=e2;have bS:decide (t∈x.v.vot)=b3:=e3;rw[<-hC,<-bQ,<-bR,<-bS,<-e4];show _↔_
   simp
   constructor
   intro g;rcases g with g|g|g|g;exact .inl (.inl (.inl g));exact .inl (.inl (.inr g));exact .inl (.inr g);exact .inr g;intro g;rcases g with((g|g)|g)|g;exact .inl g;exact .inr (.inl g);exact .inr (.inr (.inl g));exact .inr (.inr (.inr g))
  clear hC HB;obtain⟨W1,bn⟩:∃W,W=wc:=⟨_,rfl⟩;rw[<-bn]at ar|-;clear bn;have O:=h0.below ar;have n1:=bm.trans (zl.below (F:=F) (o:=o) U fc x ar);have b8:=zk ar q1;have bX:=aX.sub (h0.later ar);clear q0 q1 h0 aY aX bm ar;cases cc with
  | true=>
   have HM:Hid (x.v.hearV ⟨B,zA A⟩ t s.v=x.v):=iP_ (a4.out.2 rfl);go_wp2_with fail
   refine bP_ (results_none rfl _ _ _) rfl ?_;exact⟨⟨_,rfl⟩,by rw[HM.out];exact⟨U,fc,x,O,n1,rfl⟩⟩
  | false=>
   have aF:Hid (¬(s.v≠x.v.k.slot\/0<=cOf x.v.k.dag s.v.1 s.v.2.1\/t∈x.v.vot\/No.signed ⟨B,zA A⟩ t s.v=false)):=λg=>by have:=a4.out.1 g;cases this
   obtain⟨ti,br,bs,bt,bu⟩:=info_parts zq6;have H:x.vot.length<=4:=h.inv.vot.1;have Z:=O.cell 14 _ rfl;have aR:=zC W1 (.cells #[I_ t] 3);have an:=O.below aR;have aM:∀(N:World) (ad:Q_) (ae:Nat),N.ownsRow 0 3 1 (.slice ad (x.vot++[t]).length ae) (x.vot++[t]).length (iv (x.vot++[t]))->zV (W1.alloc (.cells #[I_ t] 3)) (.slice x.oa x.vot.length x.oc) N (.slice ad (x.vot++[t]).length ae)->zal W1 U F o T fc x (N.setCell (p_ F (o+14)) (.slice ad (x.vot.length+1) ae)) { x.v with vot:=x.v.vot++[t] }:=by
    intro N ad ae ho G;have bZ:(x.vot++[t]).length=x.vot.length+1:=by simp
    have bq:=aF.out;have bw:=an.more_vot (l':=x.vot++[t]) G ho (h.inv.vot_ (l:=x.v.vot++[t]) (by
     have hv:=h.inv.vot;refine⟨?_,λv b5=>?_,?_⟩
     .exact zv1 hv aA (λg=>bq (.inr (.inr (.inl g))))
     .rcases mA_.1 b5 with g|g
      .exact hv.2.1 v g
      .rw[mS_.1 g];exact aA
     .exact List.nodup_append.2 ⟨hv.2.2,by simp,λa ha b hb e=>bq (.inr (.inr (.inl (by rw[<-mS_.1 hb,<-e];exact ha))))⟩))
    rw[bZ]at bw;exact zal.after (zl.below U fc x aR) bw
   have HM:Hid (x.v.hearV ⟨B,zA A⟩ t s.v=if x.vot.length+1<3 then { x.v with vot:=x.v.vot++[t] } else if({ x.v with vot:=x.v.vot++[t] }:Nd).proofs ⟨B,zA A⟩ ({ x.v with vot:=x.v.vot++[t] }:Nd).cert then(({ x.v with vot:=x.v.vot++[t] }:Nd).hearP ⟨B,zA A⟩ ({ x.v with vot:=x.v.vot++[t] }:Nd).cert).sendAll (zdh ({ x.v with vot:=x.v.vot++[t] }:Nd).cert)else { x.v with vot:=x.v.vot++[t] }):=iN_ aF.out;by_cases hl:x.vot.length+1<3;rw[iP_ hl]at HM;have bp:(x.vot.length:Int)+1<3:=by omega
   rotate_left
   rw[iN_ hl]at HM;have bp:¬(x.vot.length:Int)+1<3:=by omega
   rotate_left
   all_goals
    go_upto_region 2 with fail
    go_wp2_with (at_builtin;refine wpList_append_own_at _ rfl _ _ 64 rfl 0 3 ti (I_ 0) 1 8 underlying64 br bs bt bu rfl (by decide) _ x.vot.length _ rfl (oA_ O.rvo _) (p_ W1.heap.size 0) 1 1 [I_ t] rfl rfl (zag _ _ _) (by intro u hu;simp at hu;subst hu;rfl) (by unfold maxLen;omega) (by omega) (nZ_ _) ?_;intro v3 N au aB _ az;obtain⟨ad,ae,rfl⟩:=zH au;have G:zV (W1.alloc (.cells #[I_ t] 3)) (.slice x.oa x.vot.length x.oc) N (.slice ad (x.vot.length+1) ae):=zV.of aB az;have aq:=G.row an.blk (λe=>(an.su _ (.inr (.inr (.inr (.inr (.inr (.inl (zp e)))))))).2 rfl);have bF:=zb aq (o+14) _ (an.cel 14 (by decide));have bG:=zd aq (o+14))
   refine bP_ (results_none rfl _ _ _) rfl ?_;exact⟨⟨_,rfl⟩,by rw[HM.out];exact zal.after n1 (aM N ad ae (by simpa[iv]using au) (by simpa using G))⟩;obtain⟨U4,bl,d,H,n4,v4⟩:=aM N ad ae (by simpa[iv]using au) (by simpa using G);have aE:Hid (x.v.hearV ⟨B,zA A⟩ t s.v=if d.v.proofs ⟨B,zA A⟩ d.v.cert then(d.v.hearP ⟨B,zA A⟩ d.v.cert).sendAll (zdh d.v.cert)else d.v):=by
    show _=_;rw[v4];exact HM.out
   clear HM v4 aM aF;generalize N.setCell (p_ F (o+14)) (.slice ad (x.vot.length+1) ae)=E at H n4|-;have bB:=n4.box O b8 aS.out.2;have bY:=bX.sub (n4.sub O);clear bF bG aq G au aB az hl bp Z an aR;have c7:=H.cell 7 _ rfl;have c8:=H.cell 8 _ rfl;have c9:=H.cell 9 _ rfl;have af:=H.cell 10 _ rfl;have Z:=H.cell 14 _ rfl;obtain⟨r,bv⟩:∃r,r=zhH d.vot:=⟨_,rfl⟩;have a0:Hid _:=bv;clear bv;have aZ:Hid (r.length=d.vot.length):=by show _=_;rw[a0.out];exact(zlY _).length_eq
   refine kV_ ?G0 ?_;exact Value.slice d.oa d.vot.length d.oc;have aJ:Hid (∀(V:World) (z:Nat),B_ E V->R_ V z #[?G0] 64->Calls prog 146 #[.func (.func 183) #[] #[P_ z 0]] V λe w'=>∃m q,e=.returned (.slice m r.length q)/\w'.ownsRow E.heap.size 3 1 (.slice m r.length q) r.length (iv r)/\B_ V w'):=by
    show ∀V z,_;intro V z hV hq;refine(zr8 z d.oa d.oc d.vot H.inv.vot.1 V (ze hq) (zb hq 0 _ rfl) ((zyt H.rvo).below hV |>.up hV.size)).mono (λe w' k=>?_);obtain⟨m,q,R,O,h2⟩:=k;rw[<-a0.out,<-aZ.out]at O;rw[<-aZ.out]at R;exact⟨m,q,R,zcX O hV.size,h2⟩
   have b6:Hid (r.length<=4):=by show _<=_;rw[aZ.out];exact H.inv.vot.1
   have ac:=dB_ E;refine kV_ ?E0 ?_;exact Value.slice d.own.ba d.own.bl.length d.own.bc;refine kV_ ?F0 ?_;exact Value.slice d.own.pa d.own.pl.length d.own.pc;refine wR_ (S:=λw'=>C_ w' F (o+7) (I_ d.own.au)/\C_ w' F (o+8) (I_ d.own.rd)/\C_ w' F (o+9) ?E0/\C_ w' F (o+10) ?F0/\C_ w' F (o+14) ?G0) (by kernel_rfl) ⟨zr ac c7,zr ac c8,zr ac c9,zr ac af,zr ac Z⟩ (λy=>?_);generalize E.drew=V0 at ac  y ⊢;refine tks_ 8 [(0,55,(P_ F o)),(1,56,(P_ F o)),(2,57,(P_ F (o+7))),(3,58,.agg (hrow_ d.own)),(4,59,(P_ F o)),(5,60,(P_ F o)),(6,61,(P_ F (o+14))),(7,62,.slice d.oa d.vot.length d.oc)] y ?_;simp only[tkf_,zf];clear y;refine zno (λGO ao ak=>?_);refine znp (λA0 M=>?_);have ch:Hid (∀(V:World) (z:Nat) (m:Q_) (q:Nat) (f:Nat),B_ E V->(V.ownsRow E.heap.size 3 1 (.slice m r.length q) r.length (iv r))->(E.heap.size<=f)->(R_ V f #[I_ d.own.au,I_ d.own.rd,?E0,?F0,.slice m r.length q] 66)->GO 0 #[true,true,true,true,true,true,true,true,true,true,true,true,true] ((((A0.put (some 63) (.func (.func 183) #[] #[P_ z 0])).put (some 64) (.slice m r.length q)).put (some 65) (.agg #[I_ d.own.au,I_ d.own.rd,?E0,?F0,.slice m r.length q])).put (some 8) (P_ f 0)) V):=by
    show ∀V,_;intro V z m q f C o1 aa tB;refine ao.out _ _ _ _ ?_;rw[<-M.out]
    try simp only[zf]
    refine wD_ (by kernel_rfl) ?_ _;clear GO ao ak;have h5:=H.below C;have n5:=n4.trans (zl.below (F:=F) (o:=o) U4 bl d C);have bo:za7 (zq U4 V) ⟨d.own.au,d.own.rd,d.own.ba,d.own.bc,d.own.bl,d.own.pa,d.own.pc,d.own.pl,m,q,r⟩:=by
     obtain⟨za,zc,e,_,hi,aA⟩:=zeW o1;cases e;exact⟨h5.hdr.hat,hi.hid (λsb so e=>H.bnd.new (aA sb so e)),by have:=b6.out;show r.length<=_;omega⟩
    have bT:Hid (U4 f=false):=H.bnd.new aa;have aC:Hid ((⟨d.own.au,d.own.rd,d.own.ba,d.own.bc,d.own.bl,d.own.pa,d.own.pc,d.own.pl,m,q,r⟩:Ct).v=d.v.cert):=by show _=_;rw[a0.out];rfl
    have HP:=zlU d ⟨d.own.au,d.own.rd,d.own.ba,d.own.bc,d.own.bl,d.own.pa,d.own.pc,d.own.pl,m,q,r⟩ B A X Y V U4 F o T bl h5 bo H.ownU.1 H.ownU.2 (bY.sub (H.later C));rw[aC.out]at HP;have aG:Hid (d.v.hearP ⟨B,zA A⟩ d.v.cert=if d.v.proofs ⟨B,zA A⟩ d.v.cert then d.v.log (zdh d.v.cert) { d.v.k with dag:=d.v.k.dag++[d.v.cert] } else d.v):=rfl;have a5:Hid (d.v.proofs ⟨B,zA A⟩ d.v.cert=true->d.v.cert.f=0):=by
     intro g;rw[znl]at g;simp only[Bool.and_eq_true,dE_]at g;exact(zg5 g.1.1).1
    generalize d.v.proofs ⟨B,zA A⟩ d.v.cert=pb at HP aG aE a5;have q5:=zk C bB;have d0:=zb tB 0 _ rfl;have d1:=zb tB 1 _ rfl;have d2:=zb tB 2 _ rfl;have d3:=zb tB 3 _ rfl;have d4:=zb tB 4 _ rfl;have l0:=zb q5 0 _ rfl;have l1:=zb q5 1 _ rfl;clear c7 c8 c9 af Z o1 aJ bB;cases pb with
    | false=>
     go_wp2_with fail
     refine HP.mono ?_;rintro _ w6⟨rfl,U6,ax,x6,h6,n6,v6⟩;dsimp only;clear HP;have aK:Hid _:=v6;clear v6;go_wp2_with fail
     go_end0;exact⟨⟨_,rfl⟩,U6,ax,x6,h6,(n1.trans n5).trans n6,by rw[aE.out,aK.out,aG.out];rfl⟩
    | true=>
     go_wp2_with fail
     refine HP.mono ?_;rintro _ w6⟨rfl,U6,ax,x6,h6,n6,v6⟩;dsimp only;clear HP d0 d1 d2 d3 d4 l0 l1;have aK:Hid _:=v6;clear v6;have t6:=n6.box h5 tB bT.out;have bV:=bo.sub (n6.sub h5);have d0:=zb t6 0 _ rfl;have d1:=zb t6 1 _ rfl;have d2:=zb t6 2 _ rfl;have d3:=zb t6 3 _ rfl;have d4:=zb t6 4 _ rfl;have HO:=zmB ⟨d.own.au,d.own.rd,d.own.ba,d.own.bc,d.own.bl,d.own.pa,d.own.pc,d.own.pl,m,q,r⟩ w6;go_wp2_with fail
     refine HO.mono ?_;rintro _ w7⟨rfl,aW⟩;dsimp only;clear HO d0 d1 d2 d3 d4;have h7:=h6.below aW;have bW:zap d.own.au d.own.rd d.own.bl d.own.pl r=0:=by
      have e1:=Ct.f_v ⟨d.own.au,d.own.rd,d.own.ba,d.own.bc,d.own.bl,d.own.pa,d.own.pc,d.own.pl,m,q,r⟩;rw[aC.out,a5.out trivial]at e1;exact e1
     have HS:=zh7 x6 (zef ⟨d.own.au,d.own.rd,d.own.ba,d.own.bc,d.own.bl,d.own.pa,d.own.pc,d.own.pl,m,q,r⟩) w7 U6 F o T ax h7 (ztX (c:=⟨d.own.au,d.own.rd,d.own.ba,d.own.bc,d.own.bl,d.own.pa,d.own.pc,d.own.pl,m,q,r⟩) (bV.sub (h6.later aW)) bW H.ownU.1 H.ownU.2);have bL:Hid ((zef ⟨d.own.au,d.own.rd,d.own.ba,d.own.bc,d.own.bl,d.own.pa,d.own.pc,d.own.pl,m,q,r⟩).c=zdh d.v.cert):=by show _=_;rw[zx9,aC.out]
     rw[bL.out]at HS;go_wp2_with fail
     refine HS.mono ?_;rintro e w8⟨⟨v,R⟩,U8,fc8,x8,h8,n8,v8⟩;subst R;dsimp only;clear HS;have bK:Hid _:=v8;clear v8;go_wp2_with fail
     go_end0;exact⟨⟨_,rfl⟩,U8,fc8,x8,h8,(((n1.trans n5).trans n6).trans (zl.below (F:=F) (o:=o) U6 ax x6 aW)).trans n8,by rw[aE.out,bK.out,aK.out,aG.out];rfl⟩
   have bI:Hid (∀(V:World) (z:Nat) (m:Q_) (q:Nat) (f:Nat),B_ E V->(V.ownsRow E.heap.size 3 1 (.slice m r.length q) r.length (iv r))->(R_ V f #[I_ 0,I_ 0,O_,O_,O_] 66)->(E.heap.size<=f)->GO 1 #[true,true,true,true,true,true,true,true,true,true,true,true,false] ((((A0.put (some 63) (.func (.func 183) #[] #[P_ z 0])).put (some 64) (.slice m r.length q)).put (some 65) (.agg #[I_ d.own.au,I_ d.own.rd,?E0,?F0,.slice m r.length q])).put (some 8) (P_ f 0)) V):=by
    show ∀V,_;intro V z m q f C o1 J aa;refine ao.out _ _ _ _ ?_;rw[<-M.out]
    try simp only[zf]
    refine zE 12 rfl (λK D=>?_);have aw:=zc2 o1 J (by decide);have ci:=zb J 0 _ rfl;have cn:=zd J 0;have cj:=zb J 1 _ rfl;have co:=zd J 1;have ck:=zb J 2 _ rfl;have cp:=zd J 2;have cl:=zb J 3 _ rfl;have cq:=zd J 3;have cm:=zb J 4 _ rfl;have cr:=zd J 4;refine kW_ ?H0 ?_;exact((((V.setCell (p_ f 0) (I_ d.own.au)).setCell (p_ f 1) (I_ d.own.rd)).setCell (p_ f 2) ?E0).setCell (p_ f 3) ?F0).setCell (p_ f 4) (.slice m r.length q);refine zX rfl rfl ?H0 (by go_simp) ?_;have j:=(((((C.setCell (p:=p_ f 0) aa (I_ d.own.au)).setCell (p:=p_ f 1) aa (I_ d.own.rd)).setCell (p:=p_ f 2) aa ?E0).setCell (p:=p_ f 3) aa ?F0).setCell (p:=p_ f 4) aa (.slice m r.length q));have bJ:(?H0).heap[f]? = some (.cells #[I_ d.own.au,I_ d.own.rd,?E0,?F0,.slice m r.length q] 66 (0,0)):=by simpa using(hS_ _ _ 4 _ _ (.slice m r.length q) (hS_ _ _ 3 _ _ ?F0 (hS_ _ _ 2 _ _ ?E0 (hS_ _ _ 1 _ _ (I_ d.own.rd) (hS_ _ _ 0 _ _ (I_ d.own.au) J)))))
    have av:=(zaQ (zaQ (zaQ (zaQ (zaQ o1 f 0 (I_ d.own.au) aw) f 1 (I_ d.own.rd) aw) f 2 ?E0 aw) f 3 ?F0 aw) f 4 (.slice m r.length q) aw);generalize ?H0=L at j bJ av|-;refine D.out _ _ ⟨zr j c7,zr j c8,zr j c9,zr j af,zr j Z⟩ (λy=>?_);clear y;have h:=ch.out L z m q f j av aa bJ;rw[<-M.out]at h
    (try simp only[zf]at h)
    (try simp only[List.setIfInBounds_toArray,List.set_cons_zero,List.set_cons_succ])
    exact ak.out _ _ _ _ h
   have cg:Hid (∀(V:World) (z:Nat) (m:Q_) (q:Nat),B_ E V->(V.ownsRow E.heap.size 3 1 (.slice m r.length q) r.length (iv r))->GO 2 #[true,true,true,true,true,true,true,true,true,true,true,false,false] (((A0.put (some 63) (.func (.func 183) #[] #[P_ z 0])).put (some 64) (.slice m r.length q)).put (some 65) (.agg #[I_ d.own.au,I_ d.own.rd,?E0,?F0,.slice m r.length q])) V):=by
    show ∀V,_;intro V z m q C o1;refine ao.out _ _ _ _ ?_;rw[<-M.out]
    try simp only[zf]
    refine zE 11 rfl (λK D=>?_);refine zy rfl 8 rfl (P_ V.heap.size 0) (V.alloc ?A0) (by go_simp) ?_;have I:=zC V ?A0;have j:=zm C I;have ab:=hN_ V ?A0;have am:=C.size;generalize hW':V.alloc ?A0=L at I j ab|-;clear hW';obtain⟨f,ap⟩:∃f,f=V.heap.size:=⟨_,rfl⟩;rw[<-ap]at ab am|-;have ay:=I;clear ap;refine D.out _ _ ⟨zr j c7,zr j c8,zr j c9,zr j af,zr j Z⟩ (λy=>?_);clear y;have h:=bI.out L z m q f j (zw o1 ay) ab am;rw[<-M.out]at h
    (try simp only[zf]at h)
    (try simp only[zf])
    exact ak.out _ _ _ _ h
   have bH:Hid (∀(V:World) (z:Nat) (f:Nat),B_ E V->(R_ V z #[?G0] 64)->(R_ V f #[I_ 0,I_ 0,O_,O_,O_] 66)->(E.heap.size<=f)->GO 3 #[true,true,true,true,true,true,true,true,true,false,false,true,false] ((A0.put (some 63) (.func (.func 183) #[] #[P_ z 0])).put (some 8) (P_ f 0)) V):=by
    show ∀V,_;intro V z f C qs J aa;refine ao.out _ _ _ _ ?_;rw[<-M.out]
    try simp only[zf]
    refine zE 9 rfl (λK D=>?_);refine zj rfl 64 rfl 146 [.tmp 63] #[221] rfl [.func (.func 183) #[] #[P_ z 0]] rfl (eO_ func146) (λv w'=>∃m q,v=.slice m r.length q/\w'.ownsRow E.heap.size 3 1 (.slice m r.length q) r.length (iv r)/\B_ V w') ((aJ.out V z C qs).mono (λe w2 k=>by obtain⟨m,q,R,O,h2⟩:=k;exact⟨_,R,m,q,rfl,O,h2⟩)) ?_;rintro v L⟨m,q,rfl,av,hb⟩;have j:=zm C hb;refine D.out _ _ ⟨zr j c7,zr j c8,zr j c9,zr j af,zr j Z⟩ (λy=>?_);simp only[zf];refine zU 10 65 (.agg #[I_ d.own.au,I_ d.own.rd,?E0,?F0,.slice m r.length q]) rfl rfl y ?_;simp only[zf];clear y;have h:=bI.out L z m q f j av (zk hb J) aa;rw[<-M.out]at h
    (try simp only[zf]at h)
    (try simp only[zf])
    exact ak.out _ _ _ _ h
   have cf:Hid (∀(V:World) (z:Nat),B_ E V->(R_ V z #[?G0] 64)->GO 4 #[true,true,true,true,true,true,true,true,true,false,false,false,false] (A0.put (some 63) (.func (.func 183) #[] #[P_ z 0])) V):=by
    show ∀V,_;intro V z C qs;refine ao.out _ _ _ _ ?_;rw[<-M.out]
    try simp only[zf]
    refine rY_ (rs:=[9,11]) (by kernel_rfl) (by simp) (rA_ rfl (λK D=>?_) (rA_ rfl (λK D=>?_) rN_));refine zj rfl 64 rfl 146 [.tmp 63] #[221] rfl [.func (.func 183) #[] #[P_ z 0]] rfl (eO_ func146) (λv w'=>∃m q,v=.slice m r.length q/\w'.ownsRow E.heap.size 3 1 (.slice m r.length q) r.length (iv r)/\B_ V w') ((aJ.out V z C qs).mono (λe w2 k=>by obtain⟨m,q,R,O,h2⟩:=k;exact⟨_,R,m,q,rfl,O,h2⟩)) ?_;rintro v L⟨m,q,rfl,av,hb⟩;have j:=zm C hb
    rotate_left
    refine zy rfl 8 rfl (P_ V.heap.size 0) (V.alloc ?A0) (by go_simp) ?_;have I:=zC V ?A0;have j:=zm C I;have ab:=hN_ V ?A0;have am:=C.size;generalize hW':V.alloc ?A0=L at I j ab|-;clear hW';obtain⟨f,ap⟩:∃f,f=V.heap.size:=⟨_,rfl⟩;rw[<-ap]at ab am|-;have ay:=I;clear ap
    rotate_left
    all_goals refine D.out _ _ ⟨zr j c7,zr j c8,zr j c9,zr j af,zr j Z⟩ (λy=>?_)
    simp only[zf];refine zU 10 65 (.agg #[I_ d.own.au,I_ d.own.rd,?E0,?F0,.slice m r.length q]) rfl rfl y ?_;simp only[zf];clear y;have h:=cg.out L z m q j av
    rotate_left
    clear y;have h:=bH.out L z f j ((ay.block _ (ze qs)).trans qs) ab am
    rotate_left
    all_goals
     rw[<-M.out]at h
     (try simp only[zf]at h)
     (try simp only[zf])
     exact ak.out _ _ _ _ h
   have ce:Hid (∀(V:World) (f:Nat),B_ E V->(R_ V f #[I_ 0,I_ 0,O_,O_,O_] 66)->(E.heap.size<=f)->GO 4 #[true,true,true,true,true,true,true,true,false,false,false,true,false] (A0.put (some 8) (P_ f 0)) V):=by
    show ∀V,_;intro V f C J aa;refine ao.out _ _ _ _ ?_;rw[<-M.out]
    try simp only[zf]
    refine zE 8 rfl (λK D=>?_);refine zj rfl 63 rfl 147 [.tmp 62] #[64] rfl [?G0] rfl (eO_ func147) (λv w'=>∃z,v=.func (.func 183) #[] #[P_ z 0]/\R_ w' z #[?G0] 64/\B_ V w') ((zo2 d.oa d.vot.length d.oc V).mono (λe w2 k=>⟨_,k.1,V.heap.size,rfl,by rw[k.2];exact hN_ _ _,by rw[k.2];exact(bR_ _ _).alloc (nR_ _) _⟩)) ?_;rintro v L⟨z,rfl,a3,hb⟩;have j:=zm C hb;refine D.out _ _ ⟨zr j c7,zr j c8,zr j c9,zr j af,zr j Z⟩ (λy=>?_);clear y;have h:=bH.out L z f j a3 (zk hb J) aa;rw[<-M.out]at h
    (try simp only[zf]at h)
    (try simp only[zf])
    exact ak.out _ _ _ _ h
   have cd:Hid (∀(V:World),B_ E V->GO 5 #[true,true,true,true,true,true,true,true,false,false,false,false,false] A0 V):=by
    show ∀V,_;intro V  C;refine ao.out _ _ _ _ ?_;rw[<-M.out]
    try simp only[zf]
    refine rY_ (rs:=[8,11]) (by kernel_rfl) (by simp) (rA_ rfl (λK D=>?_) (rA_ rfl (λK D=>?_) rN_));refine zj rfl 63 rfl 147 [.tmp 62] #[64] rfl [?G0] rfl (eO_ func147) (λv w'=>∃z,v=.func (.func 183) #[] #[P_ z 0]/\R_ w' z #[?G0] 64/\B_ V w') ((zo2 d.oa d.vot.length d.oc V).mono (λe w2 k=>⟨_,k.1,V.heap.size,rfl,by rw[k.2];exact hN_ _ _,by rw[k.2];exact(bR_ _ _).alloc (nR_ _) _⟩)) ?_;rintro v L⟨z,rfl,a3,hb⟩;have j:=zm C hb
    rotate_left
    refine zy rfl 8 rfl (P_ V.heap.size 0) (V.alloc ?A0) (by go_simp) ?_;have I:=zC V ?A0;have j:=zm C I;have ab:=hN_ V ?A0;have am:=C.size;generalize hW':V.alloc ?A0=L at I j ab|-;clear hW';obtain⟨f,ap⟩:∃f,f=V.heap.size:=⟨_,rfl⟩;rw[<-ap]at ab am|-;have ay:=I;clear ap
    rotate_left
    all_goals
     refine D.out _ _ ⟨zr j c7,zr j c8,zr j c9,zr j af,zr j Z⟩ (λy=>?_);clear y
    have h:=cf.out L z j a3
    rotate_left
    have h:=ce.out L f j ab am
    rotate_left
    all_goals
     rw[<-M.out]at h
     (try simp only[zf]at h)
     (try simp only[zf])
     exact ak.out _ _ _ _ h
   exact cd.out V0 ac
variable {w':World}{ls:List Ct}
structure zv2 (w w':World)(e:Ending)(U:Nat->Bool)(x:NM)(rd:Int):Prop where
 out:∃ra rc ls,e=.returned (.slice ra (List.length ls) rc)/\zI ls=zjU x.v.k.dag rd/\zba (zq U w') ra ls/\(∀c∈ls,za7 (zq U w') c/\c.v.f=0/\U8L c.bl/\U8L c.pl)/\ls.length<=8/\B_ w w'
theorem zba.hsub (h:zba w sa ls)(k:Sub w w'):zba w' sa ls:=by
 refine⟨?_⟩;rcases h.cells with h|⟨c,d,e,h⟩;exact .inl h;exact .inr ⟨c,d,e,λj b=>⟨k.cell _ _ (h j b).1,k.cell _ _ (h j b).2.1,k.cell _ _ (h j b).2.2.1,k.cell _ _ (h j b).2.2.2.1,k.cell _ _ (h j b).2.2.2.2⟩⟩
theorem zuh (n:Nd)(b:Int)(l:List CV)(i:Nat)(c:i<l.length):n.tell b (l.take (i+1))=(n.tell b (l.take i)).tellC b l[i]:=by
 rw[tS_ c,Nd.tell,List.foldl_append]
 rfl
theorem zui (x:NM)(d rd:Int)(w:World)(U:Nat->Bool)(F o:Nat)(T:TypeId)(r:X_)(h:zo w U F o T r x)(ae:0<=d/\d<4)
  (J:Calls prog 151 #[P_ F o,I_ rd] w λe w'=>zv2 w w' e U x rd) :
  Calls prog 107 #[P_ F o,I_ d,I_ rd] w λe w'=>(∃v,e=.returned v)/\zal w U F o T r x w' (x.v.hearW d rd):=by
 go_in;go_wp2_with fail
 refine J.mono ?_;rintro e C⟨ra,rc,b,m,ab,ag,ad,h8,Y⟩;subst m;dsimp only;clear J;have l:=h.below Y;have A:=zl.below (F:=F) (o:=o) U r x Y;have ah:Hid (x.v.hearW d rd=x.v.tell d (zI b)):=by show _=_;rw[ab];rfl
 have ai:Hid _:=ad;have aj:Hid _:=ag;clear ab ad ag;go_wp2_with fail
 go_loopw [12] (λj wr=>∃(k:Nat) (f:Nat->Bool) (q:X_) (g:NM),k<=b.length/\j=I_ k/\zo wr f F o T q g/\zl U f w wr F o r q x g/\Hid (g.v=x.v.tell d ((zI b).take k))/\Hid (Sub (zq U C) (zq f wr))) (λj _=>b.length-(intOf j).toNat)
 case atStart=>exact⟨0,U,r,x,nZ_ _,rfl,l,A,rfl,Sub.refl _⟩
 case round=>
  obtain⟨k,f,q,g,hk,rfl,l,A,hv,z⟩:=hrel;by_cases hlt:k<b.length
  .have av:(k:Int)<b.length:=by omega
   obtain⟨sb,so,ao,c0,c1,c2,c3,c4⟩:=((aj.out.hsub z.out).hsub (zK f wr)).at k hlt;obtain⟨R,e2,e3,e4⟩:=ai.out (b[k]) (gM_ hlt);have ac:k<(zI b).length:=by rw[zbv];exact hlt
   have af:(zI b)[k]=(b[k]).v:=by simp[zI]
   have N:Hid _:=zuh x.v d (zI b) k ac;rw[af,<-hv.out]at N;have Z:=R.sub z.out;rw[ao];clear ac af R;generalize b[k]=c at*;have am:zap c.au c.rd c.bl c.pl c.vl=0:=by rw[Ct.f_v];exact e2
   have s:=zC wr (.cells (crow_ c) 66);have p:=hN_ wr (.cells (crow_ c) 66);have X:Hid (f wr.heap.size=false):=l.bnd.new (nR_ _);go_upto_region 3 with fail
   generalize wr.alloc (.cells (crow_ c) 66)=O at s p|-;generalize wr.heap.size=B at p X|-;have u:=l.below s;have n2:=A.trans (zl.below (F:=F) (o:=o) f q g s);have aa:=Z.sub (l.later s);have ap:Hid (Sub (zq U C) (zq f O)):=z.out.trans (l.later s);clear c0 c1 c2 c3 c4 Z z;have D:=zb p 0 _ rfl;have E:=zb p 1 _ rfl;have G:=zb p 2 _ rfl;have H:=zb p 3 _ rfl;have I:=zne g c d O f F o T q u aa.hat ae;go_wp2_with fail
   refine I.mono ?_;rintro e w3⟨⟨v,m⟩,U3,fc3,x3,h3,n3,v3⟩;subst m;dsimp only;clear I D E G H;have t:=n3.box u p X.out;have an:=aa.sub (n3.sub u);have aq:Hid (Sub (zq U C) (zq U3 w3)):=ap.out.trans (n3.sub u);have ak:Hid _:=v3;clear v3;have D:=zb t 0 _ rfl;have E:=zb t 1 _ rfl;have G:=zb t 2 _ rfl;have H:=zb t 3 _ rfl;have a4:=zb t 4 _ rfl;have L:=zmB c w3;go_wp2_with fail
   refine L.mono ?_;rintro _ w4⟨rfl,y⟩;dsimp only;clear L D E G H a4;have V:=h3.below y;have M:=zeN x3 (zef c) d w4 U3 F o T fc3 V (ztX (an.sub (h3.later y)) am e3 e4) ae;go_wp2_with fail
   refine M.mono ?_;rintro e w5⟨⟨v,m⟩,U5,fc5,x5,h5,n5,v5⟩;subst m;dsimp only;clear M;have au:=((n2.trans n3).trans (zl.below (F:=F) (o:=o) U3 fc3 x3 y)).trans n5;have ar:Hid (Sub (zq U C) (zq U5 w5)):=(aq.out.trans (h3.later y)).trans (n5.sub V);have al:Hid (x5.v=x.v.tell d ((zI b).take (k+1))):=by
    show _=_;rw[v5,N.out,ak.out]
    rfl
   clear v5;go_wp2_with fail
   go_roundw
   case rel=>exact⟨k+1,U5,fc5,x5,by omega,by go_num,h5,au,al,ar⟩
   case measure=>simp[intOf];omega
  obtain rfl:k=b.length:=by omega
  have HE:Hid (g.v=x.v.tell d (zI b)):=by
   show _=_;rw[hv.out,tL_ (by rw[zbv];exact nR_ _)]
  go_wp2_with fail
  go_end0;exact⟨⟨_,rfl⟩,f,q,g,l,A,by rw[ah.out];exact HE.out⟩
def zhO:Prop:=∀(x:NM) (rd:Int) (w:World) (U:Nat->Bool) (F o:Nat) (T:TypeId) (fc:X_),zo w U F o T fc x->Calls prog 151 #[P_ F o,I_ rd] w λe w'=>zv2 w w' e U x rd
theorem zlc {m:MV}(h:GM w m):(0<=m.m.fr/\m.m.fr<4)/\((m.m.ki=1/\zbk m.m.bau m.m.bnu m.ss=0)\/(m.m.ki=2/\zO m.m.hau m.m.hrd m.bl m.pl=0)\/(m.m.ki=3/\zbf m.m.sau m.m.srd m.m.sdn=0)\/(m.m.ki=4/\zap m.m.cau m.m.crd m.cbl m.cpl m.vl=0)\/m.m.ki=5):=by
 have b:=h.ok;unfold zP at b
 split at b
 cases b
 rename_i g
 simp only[not_or,Decidable.not_not]at g;refine⟨g.1,?_⟩
 split at b
 rename_i e;exact absurd b e
 rename_i e
 have e:m.car=0:=by simpa using e
 unfold MV.car zD at e;by_cases k1:m.m.ki=1;rw[iP_ k1]at e;exact .inl ⟨k1,e⟩;rw[iN_ k1]at e;by_cases k2:m.m.ki=2;rw[iP_ k2]at e;exact .inr (.inl ⟨k2,e⟩);rw[iN_ k2]at e;by_cases k3:m.m.ki=3;rw[iP_ k3]at e;exact .inr (.inr (.inl ⟨k3,e⟩));rw[iN_ k3]at e;by_cases k4:m.m.ki=4;rw[iP_ k4]at e;exact .inr (.inr (.inr (.inl ⟨k4,e⟩)));rw[iN_ k4]at e;by_cases k5:m.m.ki=5;exact .inr (.inr (.inr (.inr k5)));rw[iN_ k5]at e;cases e
theorem zyu {n:Nd}{o:No}{m:MC}(k:m.ki=1):n.hear o m=n.hearB m.b:=iP_ k
theorem zyv {n:Nd}{o:No}{m:MC}(k:m.ki=2):n.hear o m=n.hearO o m.h:=by
 unfold Nd.hear;rw[iN_ (by omega),iP_ k]
theorem zyw {n:Nd}{o:No}{m:MC}(k:m.ki=3):n.hear o m=n.hearV o m.fr m.s:=by
 unfold Nd.hear;rw[iN_ (by omega),iN_ (by omega),iP_ k]
theorem zyx {n:Nd}{o:No}{m:MC}(k:m.ki=4):n.hear o m=n.hearP o m.ct:=by
 unfold Nd.hear;rw[iN_ (by omega),iN_ (by omega),iN_ (by omega),iP_ k]
theorem zyy {n:Nd}{o:No}{m:MC}(k:m.ki=5):n.hear o m=n.hearW m.fr m.ro:=by
 unfold Nd.hear;rw[iN_ (by omega),iN_ (by omega),iN_ (by omega),iN_ (by omega),iP_ k]
theorem zv3 (aa:zhO)(x:NM)(m:MV)(g:Int)(f:List Sg)(t:Q_)(u:Nat)(w:World)(U:Nat->Bool)(F o:Nat)(T:TypeId)(r:X_)(h:zo w U F o T r x)(j:GM (zq U w) m)(Y:zdj (zq U w) t u f) :
  Calls prog 81 #[P_ F o,.agg (mrow_ m.m),.agg #[I_ g,.slice t f.length u]] w λe w'=>(∃v,e=.returned v)/\zal w U F o T r x w' (x.v.hear ⟨g,zA f⟩ m.c):=by
 refine kO_ ?A0 ?_;exact Obj.cells #[I_ g,.slice t f.length u] 94;refine kO_ ?B0 ?_;exact Obj.cells (mrow_ m.m) 68;have G:B_ w ((w.alloc ?B0).alloc ?A0):=((bR_ _ _).alloc (nR_ _) _).alloc (by simp) _;have b:=hX_ w ?B0 ?A0;have M:=hY_ w ?B0 ?A0;go_in;go_upto_region 1 with fail
 generalize ((w.alloc ?B0).alloc ?A0)=c at G b M|-;have E:=h.below G;have H:=j.sub (h.later G);have V:=Y.sub (h.later G);have J:=zl.below (F:=F) (o:=o) U r x G;generalize w.heap.size+1=B1 at M|-;generalize w.heap.size=B at b|-;have l:=zb b 2 _ rfl;have l0:=zb M 0 _ rfl;have l1:=zb M 1 _ rfl;obtain⟨X,Z⟩:=zlc j;clear G Y;rcases Z with⟨k,I⟩|⟨k,I⟩|⟨k,I⟩|⟨k,I⟩|k;replace l:C_ c B 2 (I_ 1):=by rw[<-k];exact l
 have p:Hid (x.v.hear ⟨g,zA f⟩ m.c=x.v.hearB (⟨m.m.bau,m.m.bnu,m.ss⟩:BW)):=zyu k;have L:=zb b 3 _ rfl;have O:=zb b 4 _ rfl;have R:C_ c B 5 (.slice m.m.bta m.ss.length m.m.btc):=by rw[<-j.lies.at'.e1];exact zb b 5 _ rfl
 have d:=zlR x ⟨⟨m.m.bau,m.m.bnu,m.ss⟩,m.m.bta,m.m.btc⟩ c U F o T r E H.shp.b I;dsimp only at d
 rotate_left
 replace l:C_ c B 2 (I_ 2):=by rw[<-k];exact l
 have p:Hid (x.v.hear ⟨g,zA f⟩ m.c=x.v.hearO ⟨g,zA f⟩ (⟨m.m.hau,m.m.hrd,m.m.hba,m.m.hbc,m.bl,m.m.hpa,m.m.hpc,m.pl,none,0,[]⟩:Ct).v):=zyv k;have ac:(⟨m.m.hau,m.m.hrd,m.m.hba,m.m.hbc,m.bl,m.m.hpa,m.m.hpc,m.pl,none,0,[]⟩:Ct).v.hf=0:=by rw[<-Ct.hf_v];exact I
 have L:=zb b 6 _ rfl;have O:=zb b 7 _ rfl;have R:C_ c B 8 (.slice m.m.hba m.bl.length m.m.hbc):=by rw[<-j.lies.at'.e2];exact zb b 8 _ rfl
 have a3:C_ c B 9 (.slice m.m.hpa m.pl.length m.m.hpc):=by rw[<-j.lies.at'.e3];exact zb b 9 _ rfl
 have d:=zr2 x (⟨m.m.hau,m.m.hrd,m.m.hba,m.m.hbc,m.bl,m.m.hpa,m.m.hpc,m.pl,none,0,[]⟩:Ct) g f t u c U F o T r E H.shp.h ac V;dsimp only [hrow_]at d
 rotate_left
 replace l:C_ c B 2 (I_ 3):=by rw[<-k];exact l
 have p:Hid (x.v.hear ⟨g,zA f⟩ m.c=x.v.hearV ⟨g,zA f⟩ m.m.fr (⟨m.m.sau,m.m.srd,⟨m.m.sda,m.m.sdc,m.ds⟩⟩:Sl).v):=zyw k;have f0:=zb b 0 _ rfl;have L:=zb b 10 _ rfl;have O:=zb b 11 _ rfl;have R:C_ c B 12 (.slice m.m.sda m.ds.length m.m.sdc):=by rw[<-j.lies.dn];exact zb b 12 _ rfl
 have d:=zsa x m.m.fr (⟨m.m.sau,m.m.srd,⟨m.m.sda,m.m.sdc,m.ds⟩⟩:Sl) g f t u c U F o T r E H.lies.dig j.u8.sd X V;dsimp only [srow_]at d
 rotate_left
 replace l:C_ c B 2 (I_ 4):=by rw[<-k];exact l
 have p:Hid (x.v.hear ⟨g,zA f⟩ m.c=x.v.hearP ⟨g,zA f⟩ (⟨m.m.cau,m.m.crd,m.m.cba,m.m.cbc,m.cbl,m.m.cpa,m.m.cpc,m.cpl,m.m.cva,m.m.cvc,m.vl⟩:Ct).v):=zyx k;have L:=zb b 13 _ rfl;have O:=zb b 14 _ rfl;have R:C_ c B 15 (.slice m.m.cba m.cbl.length m.m.cbc):=by rw[<-j.lies.at'.e4];exact zb b 15 _ rfl
 have a3:C_ c B 16 (.slice m.m.cpa m.cpl.length m.m.cpc):=by rw[<-j.lies.at'.e5];exact zb b 16 _ rfl
 have a4:C_ c B 17 (.slice m.m.cva m.vl.length m.m.cvc):=by rw[<-j.lies.at'.e6];exact zb b 17 _ rfl
 have ab:za7 (zq U c) (⟨m.m.cau,m.m.crd,m.m.cba,m.m.cbc,m.cbl,m.m.cpa,m.m.cpc,m.cpl,m.m.cva,m.m.cvc,m.vl⟩:Ct):=⟨H.shp.c,H.lies.at'.vot,H.lies.at'.s6⟩;have d:=zlU x (⟨m.m.cau,m.m.crd,m.m.cba,m.m.cbc,m.cbl,m.m.cpa,m.m.cpc,m.cpl,m.m.cva,m.m.cvc,m.vl⟩:Ct) g f t u c U F o T r E ab j.u8.cb j.u8.cp V;dsimp only [crow_]at d
 rotate_left
 replace l:C_ c B 2 (I_ 5):=by rw[<-k];exact l
 have p:Hid (x.v.hear ⟨g,zA f⟩ m.c=x.v.hearW m.m.fr m.m.ro):=zyy k;have f0:=zb b 0 _ rfl;have L:=zb b 18 _ rfl;have d:=zui x m.m.fr m.m.ro c U F o T r E X (aa x m.m.ro c U F o T r E)
 rotate_left
 all_goals
  clear k b;go_wp2_with fail
  refine d.mono ?_
 rintro e N⟨⟨v,z⟩,q,s,D,y,A,C⟩
 rotate_left
 rintro e N⟨⟨v,z⟩,q,s,D,y,A,C⟩
 rotate_left
 rintro e N⟨⟨v,z⟩,q,s,D,y,A,C⟩
 rotate_left
 rintro e N⟨z,q,s,D,y,A,C⟩
 rotate_left
 rintro e N⟨⟨v,z⟩,q,s,D,y,A,C⟩
 rotate_left
 all_goals
  subst z;dsimp only;clear d;go_wp2_with fail
  go_end0;exact⟨⟨_,rfl⟩,q,s,D,y,J.trans A,by rw[p.out,C]⟩
theorem zld (m:FM)(i:Int)(w:World)(U:Nat->Bool)(F:Nat)(b:X_)(h:zJ w U F b m) :
  Calls prog 64 #[P_ F 0,I_ i] w λe w'=>e=.returned (.bool (decide (i=m.bad)))/\w'=w:=by
 have c:=h.cell 76 h.c76;have e:(i == m.bad)=decide (i=m.bad):=rfl;go_in;go_wp2_with fail
 go_ret;exact⟨by rfl,rfl⟩
theorem zj1 (m:FM)(i:Nat)(j:i<4)(w:World)(U:Nat->Bool)(F:Nat)(g:X_)(h:zJ w U F g m) :
  Calls prog 45 #[P_ F 0,I_ (i:Int)] w λe w'=>e=.returned (.bool (m.v.runs i))/\w'=w:=by
 have c:=zld m i w U F g h;have l:=(h.nd i j).cell 1 _ rfl;have d:Hid (m.v.runs i=(!decide ((i:Int)=m.bad)&&(m.x i).up)):=by
  show _=_;rw[Fl.runs,FM.node_v m i j];show(decide ((i:Int)≠m.bad)&&(m.x i).up)=_
  simp
 have p:(i:Int)<4:=by omega
 generalize decide ((i:Int)=m.bad)=b at c d;generalize (m.x i).up=u at l d;go_in;cases b with
 | true=>
  go_wp2_with fail
  refine c.mono ?_;rintro _ o⟨rfl,rfl⟩;dsimp only;clear c;go_wp2_with fail
  go_ret;exact⟨by rw[d.out];rfl,rfl⟩
 | false=>
  go_wp2_with fail
  refine c.mono ?_;rintro _ o⟨rfl,rfl⟩;dsimp only;clear c;go_wp2_with fail
  go_ret;exact⟨by rw[d.out];rfl,rfl⟩
theorem zbP.nu {o:No}{a b:Nd}(s:zbP o a b):b.nu=a.nu:=by
 rcases s with⟨d,m,c,_,rfl⟩|⟨b,_,_,rfl⟩|⟨_,_,rfl⟩|⟨_,_,rfl⟩|⟨_,_,_,_,_,rfl⟩|⟨_,_,_,_,rfl⟩|⟨_,_,rfl⟩|⟨_,rfl⟩;exact zmu _ _ _
 all_goals rfl
theorem zxs {o:No}{n:Nd}{m:MC}(b:0<=m.fr/\m.fr<4):(n.hear o m).nu=n.nu:=zad.keeps (P:=λx=>x.nu=n.nu) (λ_ _ s h=>(zbP.nu s).trans h) (zfT o n m b) rfl
theorem zxt (n:Nd):n.work.nu=n.nu:=zad.keeps (P:=λx=>x.nu=n.nu) (λ_ _ s h=>(zbP.nu s).trans h) (zgV ⟨0,[]⟩ n) rfl
theorem zle (M:zhO)(m:FM)(i:Nat)(o:i<4)(a:MV)(w:World)(U:Nat->Bool)(F:Nat)(s:X_)(h:zJ w U F s m)(D:GM (zq U w) a) :
  Calls prog 61 #[P_ F 0,I_ (i:Int),.agg (mrow_ a.m)] w λe w'=>(∃v,e=.returned v)/\zaa w U F w' (m.v.come i a.c):=by
 have j:=zC w (.cells (mrow_ a.m) 68);have u:=hN_ w (.cells (mrow_ a.m) 68);go_in;go_upto_region 1 with fail
 generalize w.alloc (.cells (mrow_ a.m) 68)=I at j u|-;have c:=h.below j;have O:=D.sub (h.later j);have A:Hid (U w.heap.size=false):=h.bnd.new (nR_ _);generalize w.heap.size=B at u A|-;have g:=zj1 m i o I U F s c;have q:Hid (m.v.come i a.c=if m.v.runs i then m.v.set i ((m.x i).v.hear ⟨m.bad,zA m.gs⟩ a.c)else m.v):=by
  show _=_;rw[Fl.come,FM.node_v m i o]
  rfl
 have R:Hid (((m.x i).v.hear ⟨m.bad,zA m.gs⟩ a.c).nu=i):=by
  show _=_;rw[zxs (zlc D).1];exact h.nu i o
 have ac:(i:Int)<4:=by omega
 generalize m.v.runs i=b at g q;cases b with
 | false=>
  go_wp2_with fail
  refine g.mono ?_;rintro _ p⟨rfl,rfl⟩;dsimp only;clear g;go_wp2_with fail
  go_end0;exact⟨⟨_,rfl⟩,by rw[q.out];exact zaa.quiet h j⟩
 | true=>
  go_wp2_with fail
  refine g.mono ?_;rintro _ p⟨rfl,rfl⟩;dsimp only;clear g;go_upto_region 2 with fail
  have aa:=c.cell 76 c.c76;have ab:=c.cell 77 c.c77;have E:Hid (∀V:World,B_ p V->Calls prog 81 #[P_ F (i*19),.agg (mrow_ a.m),.agg #[I_ m.bad,.slice m.ga m.gs.length m.gc]] V λe w'=>∃v,e=.returned v/\zaa V U F w' (m.v.come i a.c)):=by
   show ∀V,_;intro V C;have d:=c.below C;refine(zv3 M (m.x i) a m.bad m.gs m.ga m.gc V U F (i*19) 106 s (d.nd i o) (O.sub (c.later C)) d.sg).mono (λe w' k=>?_);obtain⟨⟨v,l⟩,k⟩:=k;refine⟨v,l,?_⟩;rw[q.out];exact d.acts o k R.out
  have d:=dB_ p;have y:=dQ_ u;refine wR_ (S:=λw'=>R_ w' B (mrow_ a.m) 68) (by kernel_rfl) y (λf=>?_);generalize p.drew=r at d y f|-;refine tks_ 5 [(0,9,(P_ F 0)),(1,10,I_ (i:Int)),(2,11,(P_ F 0)),(3,12,(P_ F 0)),(4,13,(P_ F (i*19)))] f ?_;simp only[tkf_,zf];refine tQ_ 5 14 (.agg (mrow_ a.m)) rfl rfl (Or.inl ⟨by rfl,λw0 N=>zL 68 _ rfl B rfl 68 (mrow_ a.m) (0,0) _ N underlying68 rfl sMsg'⟩) f ?_;simp only[zf];refine tks_ 3 [(6,15,(P_ F 0)),(7,16,(P_ F 0)),(8,17,(P_ F 76))] f ?_;simp only[tkf_,zf];refine zE 9 rfl (λG t=>?_);have ad:=(c.below d).cell 76 c.c76;have ae:=(c.below d).cell 77 c.c77;refine zy rfl 18 rfl (.agg #[I_ m.bad,.slice m.ga m.gs.length m.gc]) r (by go_simp) ?_;refine t.out _ _ f (λf=>?_);simp only[zf];refine zE 10 rfl (λG t=>?_);refine zj rfl 19 rfl 81 [.tmp 13,.tmp 14,.tmp 18] #[103,68,94] rfl [P_ F (i*19),.agg (mrow_ a.m),.agg #[I_ m.bad,.slice m.ga m.gs.length m.gc]] rfl (eO_ func81) (λv w'=>zaa r U F w' (m.v.come i a.c)) ((E.out r d).mono (λe w' k=>k)) ?_;rintro v Z⟨H,J,T,L,z,Y⟩;have X:=z.box y A.out;refine t.out _ _ X (λf=>?_);simp only[zf];clear f;refine wD_ (by kernel_rfl) ?_ _;go_wp2_with fail
  go_end0;exact⟨⟨_,rfl⟩,zaa.after ((FTo.below U j).trans (FTo.below U d)) ⟨H,J,T,L,z,Y⟩⟩
variable {ss:Z_}{qs pl bl cbl cpl:List zi}{bs:L_}
theorem zyz (l:L_)(sh:Bool)(k:Nat)(h:zZ l):∀b∈dgD l sh k,zZ b:=by
 induction k with
 | zero=>intro b c;cases c
 | succ k ih=>
  intro b c;rcases mA_.1 c with g|g;exact ih b g;rw[mS_.1 g];exact(zn6 l sh k h).tkT
theorem zlZ {s:St}(h:zZ s.1):∀b∈dgs s,zZ b:=zyz _ _ _ (zZ.tkL h)
theorem zj2 {s:St}(h:zZ s.1):zZ (nx n s).1:=zZ.tkL h
theorem zq7 {s:St}(h:zZ s.1):zZ (dgS s).1:=zn6 _ _ _ (zZ.tkL h)
theorem zzf {s:St}(h:zZ s.1):(∀b∈(pM s).bl,zZ b)/\(∀b∈(pM s).pl,zZ b)/\(∀b∈(pM s).cbl,zZ b)/\(∀b∈(pM s).cpl,zZ b)/\zZ (pM s).ds:=by
 have no:∀b∈([]:List (L_)),zZ b:=λb f=>by cases f
 have d:zZ ([]:L_):=λb f=>by cases f
 have c:zZ (nx 3 (nx 1 (nx 1 (nx 1 (nx 1 s))))).1:=zj2 (zj2 (zj2 (zj2 (zj2 h))));unfold pM
 split
 exact⟨no,no,no,no,d⟩
 split
 exact⟨zlZ c,zlZ (zq7 c),no,no,d⟩
 split
 exact⟨no,no,no,no,zZ.tkT c⟩
 split
 exact⟨no,no,zlZ c,zlZ (zq7 c),d⟩;exact⟨no,no,no,no,d⟩
theorem zxu {x:MV}{s:St}(h:x.c=pM s)(g:zZ s.1):U8M x.bl x.pl x.cbl x.cpl x.ds:=by
 obtain⟨a,b,c,d,e⟩:=zzf g;rw[<-h]at a b c d e;exact⟨λp f=>a p.bs (mM_.2 ⟨p,f,rfl⟩),λp f=>b p.bs (mM_.2 ⟨p,f,rfl⟩),λp f=>c p.bs (mM_.2 ⟨p,f,rfl⟩),λp f=>d p.bs (mM_.2 ⟨p,f,rfl⟩),e⟩
theorem zo5 {m:Msg}{b f c d:List zi}(g:zbm b bl)(j:zbm f pl)(l:zbm c cbl)(o:zbm d cpl):zD m ss b f c d vl=zD m ss bl pl cbl cpl vl:=by
 unfold zD;rw[zfk g j,ziL vl l o]
theorem zv4 {x:MV}(h:MAt w x):zP x.c.mv.m x.c.mv.car=zP x.m x.car:=by
 have c:=h.at'.e1;have d:=h.at'.e2;have f:=h.at'.e3;have g:=h.at'.e4;have j:=h.at'.e5;have l:=h.at'.e6;have b:=h.dn;have o:x.c.mv.car=x.car:=by
  have k:=zo5 (m:=x.c.mv.m) (ss:=x.ss) (vl:=x.vl) (zcH x.bl) (zcH x.pl) (zcH x.cbl) (zcH x.cpl);refine Eq.trans k ?_;unfold MV.car zD;rw[show x.c.mv.m.sdn=x.m.sdn from b.symm]
  rfl
 have p:zaq (zab x.c.mv.m)=zaq (zab x.m):=by
  unfold zaq zab;simp only[MC.mv,MV.c];by_cases k1:x.m.ki=1;simp[k1,d,f,g,j,l,b];by_cases k2:x.m.ki=2;simp[k2,c,g,j,l,b];by_cases k3:x.m.ki=3;simp[k3,c,d,f,g,j,l];by_cases k4:x.m.ki=4;simp[k4,c,d,f,b];simp[k1,k2,k3,k4,c,d,f,g,j,l,b]
 unfold zP;rw[o,p]
 rfl
theorem zi7 {a:Q_}(h:zbT w a qs)(d:qs=[]->a=none):∀c f,a=some (p_ c f)->c<w.heap.size:=by
 intro c f e;rcases h.cells with g|⟨j,l,b,g⟩;rw[d g]at e;cases e;rw[e]at b
 injection b with b
 injection b with e1 e2
 by_cases hq:qs=[];rw[d hq]at e;cases e;have:=World.block_lt_of_cell? _ _ (g 0 (List.length_pos_iff.2 hq));rw[e1];exact this
theorem zuj {x:MV}(h:MAt w x)(c:zhr x)(d:zP x.m x.car=0):MSh w x:=by
 refine⟨⟨h.at'.txs,c.bt.1,c.bt.2.1,c.bt.2.2.1,?_⟩,⟨h.at'.bat,h.at'.par,zi7 h.at'.bat.parts c.hb,zi7 h.at'.par.parts c.hp⟩,⟨h.at'.cbat,h.at'.cpar,zi7 h.at'.cbat.parts c.cb,zi7 h.at'.cpar.parts c.cp⟩⟩;intro l m e;have e:x.m.bta=some (p_ l m):=e;by_cases hk:x.m.ki=1;have j:x.ss≠[]:=λg=>by
  have b:x.car=0:=by
   unfold zP at d
   split at d
   cases d
   split at d
   rename_i k;exact absurd d k
   rename_i k;simpa using k
  unfold MV.car zD at b;rw[iP_ hk]at b;rw[g]at b;unfold zbk at b
  split at b
  cases b;rw[iP_ (.inl (by decide))]at b;cases b
 rcases h.at'.txs.cells with g|⟨o,p,f,g⟩;exact absurd g j;rw[e]at f
 injection f with f
 injection f with e1 e2
 have:=World.block_lt_of_cell? _ _ (g 0 (List.length_pos_iff.2 j));rw[e1];exact this;rw[c.bt.2.2.2 hk]at e;cases e
theorem zsb (w:World)(s:ByteArray)(c:s.size<=100000):zg (Lib.bytesWorld w 5 s) (some (p_ w.heap.size 0)) (grownCap w s.size 0 5) (tb s):=by
 refine⟨by rw[zeK];exact grownCap_ge w s.size 0 _,grownCap_le_maxLen w s.size 0 _ (by unfold maxLen;omega),.inr ⟨_,_,rfl⟩,(λe=>by cases e),.inr ⟨w.heap.size,0,rfl,λj b=>?_⟩⟩;rw[zeK]at b;rw[zA_,Lib.bytesWorld_cell w _ s j b];simp[tb,List.getD,b]
theorem zsc (w:World)(e:TypeId)(s:ByteArray):B_ w (Lib.bytesWorld w e s):=⟨rfl,rfl,rfl,by rw[Lib.bytesWorld_size];omega,λk b=>Lib.bytesWorld_at_old w e s k b⟩
theorem zyA (t:ByteArray):tbL t=tb t:=by rw[tbL,tb,ByteArray.toList_eq]
theorem zuk (t:ByteArray):zZ (tb t):=by
 intro x c;obtain⟨b,_,rfl⟩:=mM_.1 c;have:=b.toNat_lt;omega
theorem zyB {e:Ending}(h:zi6 w w' e bs)(r:zZ bs)(p:∀b,w.heap.size<=b->U b=false) :
  (∃E:Int,E≠0/\e=.returned (.tuple #[.agg mz_,I_ E])/\(if zbt bs=0/\zP (pM (bs,false)).mv.m (pM (bs,false)).mv.car=0 then some (pM (bs,false))else none)=none) \/
  ∃x:MV,e=.returned (.tuple #[.agg (mrow_ x.m),I_ 0])/\GM (zq U w') x/\(if zbt bs=0/\zP (pM (bs,false)).mv.m (pM (bs,false)).mv.car=0 then some (pM (bs,false))else none)=some x.c:=by
 rcases h.out with⟨g,d⟩|⟨g,x,j,l,o,q⟩;exact .inl ⟨_,g,d,iN_ (λk=>g k.1)⟩;have f:=zv4 l;rw[j.1]at f;rcases q with⟨c,d⟩|⟨c,d⟩;refine .inr ⟨x,d,?_,?_⟩;have m:=l.hid (o.mono (λk f=>p k f));exact⟨m,c,zxu j.1 r,zuj m j.2 c⟩;rw[iP_ ⟨g,by rw[f];exact c⟩,j.1];exact .inl ⟨_,c,d,iN_ (λk=>c (by rw[<-f];exact k.2))⟩
theorem zul (N:zhO)(m:FM)(i:Nat)(X:i<4)(t:ByteArray)(ht:t.size<=4000)(w:World)(U:Nat->Bool)(F:Nat)(G:X_)(h:zJ w U F G m) :
  Calls prog 43 #[P_ F 0,I_ (i:Int),.string t] w λe w'=>(∃v,e=.returned v)/\zaa w U F w' (m.v.forge i t):=by
 have I:=λY:World=>Lib.run_convert_string_bytes (P:=prog) Y 9 56 5 t underlying9 underlying56 underlying5;have o:=zj0 (tb t) (some (p_ w.heap.size 0)) t.size (grownCap w t.size 0 5) (Lib.bytesWorld w 5 t) (zeK t).symm (zsb w t (by omega)) (zuk t) (by rw[zeK];omega);have z:=zsc w 5 t;have q:Hid (m.v.forge i t=match zh2 t with|some x=>if m.bad=-1 then m.v else m.v.come i x|none=>m.v):=rfl;have p:Hid (zh2 t=if zbt (tb t)=0/\zP (pM (tb t,false)).mv.m (pM (tb t,false)).mv.car=0 then some (pM (tb t,false))else none):=by show _=_;rw[zh2,zyA]
 go_in;go_wp2_with fail
 generalize Lib.bytesWorld w 5 t=Z at o z|-;refine o.mono ?_;rintro e c s;have R:=s.below;have r:=zm z R;have M:=h.below r;rcases zyB (U:=U) s (zuk t) (λb O=>h.bnd.new (nT_ z.size O))with⟨E,H,g,j⟩|⟨x,g,T,j⟩;refine kW_ ?A0 ?_;exact c.alloc (.cells mz_ 68)
 .subst g;dsimp only;have d:Hid (m.v.forge i t=m.v):=by show _=_;rw[q.out,p.out,j]
  have aa:(E == 0)=false:=by simpa using H
  clear o I q p j H s;have l:=hN_ c (.cells mz_ 68);have f:=zbs c mz_ mz_ 68;go_upto_region 1 with(refine wS_ rfl 68 _ _ rfl c.heap.size mz_ rfl rfl 68 _ l sMsg' rfl (by simp[Value.oneCell']) ?_)
  generalize (?A0).setRow c.heap.size mz_=D at f|-;go_wp2_with fail
  go_end0;exact⟨⟨_,rfl⟩,by rw[d.out];exact zaa.quiet h (r.trans (f.mono r.size))⟩
 subst g;dsimp only;have d:Hid (m.v.forge i t=if m.bad=-1 then m.v else m.v.come i x.c):=by show _=_;rw[q.out,p.out,j]
 clear o I q p j s;have l:=hN_ c (.cells mz_ 68);have f:=zbs c mz_ (mrow_ x.m) 68;have B:=sH_ _ _ _ (mrow_ x.m) _ _ l;go_upto_region 1 with(refine wS_ rfl 68 _ _ rfl c.heap.size (mrow_ x.m) rfl rfl 68 _ l sMsg' rfl (by simp[Value.oneCell']) ?_)
 generalize (?A0).setRow c.heap.size (mrow_ x.m)=D at f B|-;clear l;have A:=zm r f;have y:=h.below A;have V:=T.sub (M.later f);have L:=y.cell 76 y.c76;generalize c.heap.size=J at B|-;by_cases hbad:m.bad=-1
 .have u:Hid (m.v.forge i t=m.v):=by show _=_;rw[d.out,iP_ hbad]
  rw[hbad]at L;clear hbad d;go_wp2_with fail
  go_end0;exact⟨⟨_,rfl⟩,by rw[u.out];exact zaa.quiet h A⟩
 have u:Hid (m.v.forge i t=m.v.come i x.c):=by show _=_;rw[d.out,iN_ hbad]
 have ab:(m.bad != -1)=true:=by simpa using hbad
 have C:=zle N m i X x D U F G y V;clear hbad d;go_wp2_with (refine wL_ rfl 68 _ rfl J rfl 68 (mrow_ x.m) (0,0) _ B underlying68 rfl sMsg' ?_)
 refine C.mono ?_;rintro e w3⟨⟨v,g⟩,hF⟩;subst g;dsimp only;clear C;go_wp2_with fail
 go_end0;exact⟨⟨_,rfl⟩,by rw[u.out];exact zaa.after (FTo.below U A) hF⟩
variable {ms:List MV}
theorem zrK.at (h:zrK w sa ms)(k:Nat)(d:k<ms.length):∃b c,sa=some (p_ b c)/\w.rangeAt b (c+k*19) (zcR (ms[k]).m):=by
 rcases h with h|⟨b,c,e,h⟩;rw[h]at d;simp at d;exact⟨b,c,e,h k d⟩
theorem zsd (f:Fl)(l:List MC)(k:Nat)(b:k<l.length):comes f (l.take (k+1))=(comes f (l.take k)).come (l[k]).tt (l[k]):=by
 rw[tS_ b,comes,List.foldl_append]
 rfl
theorem zwJ {m:MV}(h:GM w m):∃i:Nat,i<4/\m.m.tt=i:=by
 have:=(zhI h.ok).2;exact⟨m.m.tt.toNat,by omega,by omega⟩
theorem zv5 (ah:zhO)(m:FM)(w:World)(U:Nat->Bool)(F:Nat)(fc:X_)(h:zJ w U F fc m) :
  Calls prog 41 #[P_ F 0] w λe w'=>(∃v,e=.returned v)/\zaa w U F w' m.v.flow:=by
 have ae:=h.cell 78 h.c78;have af:=h.free 78;obtain⟨ag,p,D,O,C,s⟩:=h.none_aw;have H:Hid (m.v.flow=comes ({ m with aa:=none,ac:=0,aw:=[] }:FM).v (m.aw.map MV.c)):=rfl;have an:=h.law;go_in;go_wp2_with fail
 generalize w.setCell (p_ F 78) (O_)=I at p D O s|-;generalize ({ m with aa:=none,ac:=0,aw:=[] }:FM)=f at p H;generalize ai:zdx U (ob m.aa)=l at p D C s;clear ai ae af;generalize m.aw=b at*;generalize m.aa=sa at*;generalize m.ac=sc at*;have ab:Hid (∀q,(Value.slice sa b.length sc).ownBlock=some q->l q=false):=λq e=>C q (zp e);have Y:Hid (∀a∈b,GM (zq l I) a):=s;clear C s;go_loopw [14] (λj wr=>∃(k:Nat) (d:Nat->Bool) (o:X_) (c:FM),k<=b.length/\j=I_ k/\zJ wr d F o c/\FTo l d I wr/\Hid (c.v=comes f.v ((b.map MV.c).take k))) (λj _=>b.length-(intOf j).toNat)
 case atStart=>exact⟨0,l,ag,f,nZ_ _,rfl,p,FTo.refl _ _,rfl⟩
 case round=>
  obtain⟨k,d,o,c,hk,rfl,y,t,V⟩:=hrel;by_cases hlt:k<b.length
  .have ao:(k:Int)<b.length:=by omega
   have R:=t.owns O ab.out;obtain⟨ap,am,e9,_,_,_,L⟩:=zfm R;cases e9;obtain⟨sb,so,ak,T⟩:=L.at k hlt;subst ak;have z:=(Y.out (b[k]) (gM_ hlt)).sub t.sub;have M:k<(b.map MV.c).length:=by simpa using hlt
   have N:(b.map MV.c)[k]=(b[k]).c:=by simp
   have u:Hid _:=zsd f.v (b.map MV.c) k M;rw[N,<-V.out]at u;clear L M N R;generalize b[k]=a at*;obtain⟨i,hi,A⟩:=zwJ z;have Z:Hid (comes f.v ((b.map MV.c).take (k+1))=c.v.come i a.c):=by
    show _=_;rw[u.out];show c.v.come a.m.tt a.c=_;rw[A]
   have E:=hN_ wr (.cells mz_ 68);have r:=zbs wr mz_ (mrow_ a.m) 68;have g:=sH_ _ _ _ (mrow_ a.m) _ _ E;clear u;go_upto_region 5 with(first|refine wpList_load_mid rfl 68 _ rfl sb (so+k*19) rfl (zcR a.m) _ T underlying68 rfl sMsg' ?_|refine wS_ rfl 68 _ _ rfl wr.heap.size (mrow_ a.m) rfl rfl 68 _ E sMsg' rfl (by simp[Value.oneCell']) ?_)
   generalize ((wr.alloc (.cells mz_ 68)).setRow wr.heap.size (mrow_ a.m))=J at r g|-;clear E T;have h5:=y.below r;have aj:=z.sub (y.later r);generalize wr.heap.size=B at g|-;have t1:C_ J B 1 (I_ (i:Int)):=by rw[<-A];exact zb g 1 _ rfl
   clear A z;have G:=zle ah c i hi a J d F o h5 aj;go_wp2_with (refine wL_ rfl 68 _ rfl B rfl 68 (mrow_ a.m) (0,0) _ g underlying68 rfl sMsg' ?_)
   refine G.mono ?_;rintro e w6⟨⟨v,he⟩,U6,fc6,m6,h6,n6,v6⟩;subst he;dsimp only;clear G t1 g;have al:=(t.trans (FTo.below d r)).trans n6;have ad:Hid (m6.v=comes f.v ((b.map MV.c).take (k+1))):=by show _=_;rw[v6,Z.out]
   clear v6;go_wp2_with fail
   go_roundw
   case rel=>exact⟨k+1,U6,fc6,m6,by omega,by go_num,h6,al,ad⟩
   case measure=>simp[intOf];omega
  obtain rfl:k=b.length:=by omega
  have X:Hid (c.v=comes f.v (b.map MV.c)):=by
   show _=_;rw[V.out,tL_ (by simp)]
  clear hlt;go_wp2_with fail
  go_end0;exact⟨⟨_,rfl⟩,by rw[H.out];exact⟨d,o,c,y,D.trans t,X.out⟩⟩
variable {F o:Nat}{fc fc':X_}{x x':NM}{U':Nat->Bool}{w0:World}
structure zzF (w w':World)(e:Ending)(U:Nat->Bool)(x:NM)(keep:Int):Prop where
 out:∃(U':Nat->Bool) (L:Nat) (fcL:X_) (y:NM),e=.returned (.agg y.cs.toArray)/\zo w' U' L 0 103 fcL y/\y.v=x.v.crash keep/\(∀b,b<w.heap.size->U' b=U b)/\(∀b,y.S b->w.heap.size<=b)/\B_ w w'
theorem znq (n:zl U U' w w' F o fc fc' x x')(h:∀b,x.S b->w0.heap.size<=b)(c:w0.heap.size<=w.heap.size):∀b,x'.S b->w0.heap.size<=b:=λb e=>by
 rcases n.new b e with g|g
 .exact h b g
 .omega
theorem zl.belowN (n:zl U U' w w' F o fc fc' x x')(h:∀b,x.S b->w0.heap.size<=b)(f:w0.heap.size<=F)(c:B_ w0 w):B_ w0 w':=
 ⟨n.os.trans c.os,n.tape.trans c.tape,n.output.trans c.output,nT_ c.size n.size,λb d=>(n.block b (nL_ d c.size) (λe=>by have:=h b e;omega) (λe=>by omega)).trans (c.block b d)⟩
theorem zo6 (n:Nd)(l:List MC)(k:Nat)(b:k<l.length):(l.take (k+1)).foldl Nd.recall n=((l.take k).foldl Nd.recall n).recall (l[k]):=by
 rw[tS_ b,List.foldl_append]
 rfl
theorem zse (x:NM)(keep:Int)(hk:0<=keep/\keep<=400000)(w:World)(U:Nat->Bool)(F o:Nat)(T:TypeId)(fc:X_)(h:zo w U F o T fc x) :
  Calls prog 67 #[P_ F o,I_ keep] w λe w'=>zzF w w' e U x keep:=by
 have hA:=zC w (.cells #[I_ 0,.bool false,I_ 0,O_,O_,O_,.pointer none,I_ 0,I_ 0,O_,O_,I_ 0,I_ 0,O_,O_,O_,I_ 0,O_,I_ 0] 103);have q0:=hN_ w (.cells #[I_ 0,.bool false,I_ 0,O_,O_,O_,.pointer none,I_ 0,I_ 0,O_,O_,I_ 0,I_ 0,O_,O_,O_,I_ 0,O_,I_ 0] 103);have aK:(zv x.ms).length<=400000/\x.syn<=(zv x.ms).length:=by
  have hT:(zv x.ms).length=(zae x.v.recs).length:=by rw[zes];rfl
  rw[hT];exact⟨h.inv.tape,h.inv.syn⟩
 have bt:zfP (zv x.ms).length x.syn keep=0:=by
  rw[zfP,iP_ (zcr.2 ⟨aK.1,by omega,by omega⟩),iN_ (by omega)]
 have bu:zfh (zv x.ms).length x.syn keep=zdT (zae x.v.recs).length x.syn keep:=by
  rw[zfh,iP_ ⟨zcr.2 ⟨aK.1,by omega,by omega⟩,by omega⟩,zes]
  rfl
 have bB:zdT (zae x.v.recs).length x.syn keep<=(zv x.ms).length:=by
  have hT:(zv x.ms).length=(zae x.v.recs).length:=by rw[zes];rfl
  rw[hT];exact zoE (by omega)
 have az:Hid (x.v.kept keep=zeo (zdT (zae x.v.recs).length x.syn keep) (x.ms.map MV.c)):=rfl;have ao:=zvK (λm B=>⟨(h.ems m B).1,(h.ems m B).2.1⟩) (λm B=>(h.ems m B).2.2);go_in;go_upto_region 1 with fail
 generalize w.alloc (.cells #[I_ 0,.bool false,I_ 0,O_,O_,O_,.pointer none,I_ 0,I_ 0,O_,O_,I_ 0,I_ 0,O_,O_,O_,I_ 0,O_,I_ 0] 103)=W0 at hA q0|-;have h0:=h.below hA;have c0:C_ W0 F o (I_ x.nu):=h0.cell 0 _ rfl;have HN:=zoP x.nu W0;go_wp2_with fail
 refine HN.mono ?_;rintro e L⟨s,V,qs,aR,am⟩;subst V;dsimp only [zbZ];clear HN c0;have aG:=zm hA am;have qz:=hN_ L (.cells #[I_ 0,.bool false,I_ 0,O_,O_,O_,.pointer none,I_ 0,I_ 0,O_,O_,I_ 0,I_ 0,O_,O_,O_,I_ 0,O_,I_ 0] 103);have N:=zbs L #[I_ 0,.bool false,I_ 0,O_,O_,O_,.pointer none,I_ 0,I_ 0,O_,O_,I_ 0,I_ 0,O_,O_,O_,I_ 0,O_,I_ 0] #[I_ x.nu,.bool false,I_ 1,O_,O_,O_,(P_ s 0),I_ 0,I_ 0,O_,O_,I_ 0,I_ 0,O_,O_,O_,I_ 0,O_,I_ 0] 103;have qL:=sH_ _ _ _ #[I_ x.nu,.bool false,I_ 1,O_,O_,O_,(P_ s 0),I_ 0,I_ 0,O_,O_,I_ 0,I_ 0,O_,O_,O_,I_ 0,O_,I_ 0] _ _ qz;go_upto_region 2 with(refine wS_ rfl 103 _ _ rfl L.heap.size #[I_ x.nu,.bool false,I_ 1,O_,O_,O_,(P_ s 0),I_ 0,I_ 0,O_,O_,I_ 0,I_ 0,O_,O_,O_,I_ 0,O_,I_ 0] rfl rfl 103 _ qz zhM rfl (by simp[Value.oneCell']) ?_)
 generalize (L.alloc (.cells #[I_ 0,.bool false,I_ 0,O_,O_,O_,.pointer none,I_ 0,I_ 0,O_,O_,I_ 0,I_ 0,O_,O_,O_,I_ 0,O_,I_ 0] 103)).setRow L.heap.size #[I_ x.nu,.bool false,I_ 1,O_,O_,O_,(P_ s 0),I_ 0,I_ 0,O_,O_,I_ 0,I_ 0,O_,O_,O_,I_ 0,O_,I_ 0]=W2 at N qL|-;clear qz;have aH:=zm aG N;have bM:=ze qs;have aU:=(N.block _ bM).trans qs;have r0:=(N.block _ (nL_ (ze q0) am.size)).trans (zk am q0);have h2:=h.below aH;have aS:=aG.size;have cB:=nT_ hA.size aR;generalize bf:L.heap.size=d at qL bM aS|-;have cs:w.heap.size<d:=by rw[<-bf];exact nL_ (ze q0) am.size
 have ct:=nL_ (ze q0) aR;clear bf q0 qs aR N am h0;have b6:=h2.cell 15 _ rfl;have b7:=h2.cell 16 _ rfl;have Z:=znN (zv x.ms) x.ba _ x.bc x.syn keep W2 rfl (h2.tap.sub (zK _ _)) (by omega) (by omega) (by omega);rw[bt,bu]at Z;generalize cf:zdT (zae x.v.recs).length x.syn keep=t at Z az bB;clear cf bt bu;have bn:((zv x.ms).take t).length=t:=by rw[lT9_];omega
 have aD:Hid (zZ ((zv x.ms).take t)):=λz hz=>ao z (List.mem_of_mem_take hz);have ag:Hid (((zv x.ms).take t).length=t):=bn;have ap:Hid (t<=400000):=by show _<=_;omega
 clear bn ao bB aK;generalize br:(zv x.ms).take t=bs at Z aD ag;have aZ:Hid _:=br;clear br;go_wp2_with fail
 refine Z.mono ?_;rintro e w3⟨ra,rc,V,bN,ce,ac⟩;subst V;dsimp only;clear Z b6 b7;have be:=zm aH ac;refine kO_ ?B0 ?_;exact Obj.cells #[.slice ra bs.length rc,I_ (t:Int)] 100;have aa:=zC w3 ?B0;have qT:=hN_ w3 ?B0;go_upto_region 3 with fail
 generalize w3.alloc ?B0=W4 at aa qT|-;have aI:=zm be aa;have ar:=nL_ (ze qL) ac.size;have cb:=nL_ ar aa.size;have ch:s<W4.heap.size:=by omega
 have cm:=(aa.block _ ar).trans (zk ac qL);have cn:=(aa.block _ (nL_ (ze aU) ac.size)).trans (zk ac aU);have r4:=(aa.block _ (nL_ (ze r0) ac.size)).trans (zk ac r0);have cc:=ar;generalize cd:w3.heap.size=f at qT cc|-;have bL:=bN.below aa;clear cd ac aa bN qL aU r0 ar h2 be aH aG;have t0:=zb qT 0 _ rfl;have t1:=zb qT 1 _ rfl;have HR:=zr6 bs ra _ rc (t:Int) W4 rfl bL aD.out (by have:=ag.out;have:=ap.out;omega);have bJ:zbO bs.length (t:Int)=true:=zcr.2 ⟨by have:=ag.out;have:=ap.out;omega,by omega,by have:=ag.out;omega⟩;go_wp2_with fail
 refine HR.mono ?_;rintro e X aL;have ai:=aL.below;rcases aL.out with⟨g,_⟩|⟨_,v,ys,r,I,J,bh,aN,bH,an,av,aj,aO,V⟩;rw[bJ]at g;cases g;subst V;dsimp only;clear HR bJ aL t0 t1 bL ce;have ck:(zv ys).length<=t:=by
  have u:=ag.out;rw[aN,lP_]at u;omega
 have bF:min (t:Int) ((zv ys).length:Int)=((zv ys).length:Int):=by omega
 rw[bF];obtain⟨bC,bv⟩:=zxn (w0:=X) (ms:=x.ms) (ys:=ys) (r:=r) (k:=t) (λm B=>⟨(h.ems m B).1,(h.ems m B).2.1⟩) (λy hy=>⟨(av y hy).1,(av y hy).2.1⟩) (by rw[aZ.out];exact aN) bH;have a9:Hid (∀y∈ys,U8M y.bl y.pl y.cbl y.cpl y.ds):=by
  show ∀_,_;intro y hy;obtain⟨m,B,hc⟩:=bv y hy;exact zxm hc (h.ems m B).2.2
 have a2:Hid (x.v.kept keep=ys.map MV.c):=by show _=_;rw[az.out,bC]
 have bX:Hid _:=bh;have aq:Hid _:=av;have bP:Hid (ys.length<=200000):=by
  show _<=_;have u:=zni ys (λy _=>zfW y);have e2:=ap.out;omega
 have cj:Hid ((zv ys).length<=400000):=by show _<=_;have:=ap.out;omega
 clear bh av aN bH bC bv bF ck az aZ aD ag;have ak:=zk ai qT;have bQ:=(ai.block _ cb).trans cm;have bR:=(ai.block _ ch).trans cn;have r5:=zk ai r4;have e0:=zb ak 0 _ rfl;have u:=zb ak 1 _ rfl;have f0:=zd ak 0;have f1:=zd ak 1;have cu:=ze qT;have aM:f≠d/\f≠s/\f≠w.heap.size:=by omega
 obtain⟨aX,aY,hv⟩:=zH an;subst hv;go_upto_region 6 with fail
 have ca:=zm aI ai;have bl:w.heap.size<=f:=by omega
 refine kW_ ?A0 ?_;exact(X.setCell (p_ f 0) (.slice I (zv ys).length J)).setCell (p_ f 1) (I_ ((zv ys).length:Int));refine kV_ ?C0 ?_;exact Value.slice I (zv ys).length J;refine kV_ ?D0 ?_;exact I_ ((zv ys).length:Int);have ax:(?A0).heap[f]? = some (.cells #[?C0,?D0] 100 (0,0)):=by simpa using hS_ _ _ 1 _ _ ?D0 (hS_ _ _ 0 _ _ ?C0 ak)
 have ad:∀q,q≠f->(?A0).heap[q]? = X.heap[q]?:=λq hq=>(hO_ _ (p_ f 1) q _ hq).trans (hO_ _ (p_ f 0) q _ hq);have H:B_ w ?A0:=(ca.setCell bl _).setCell bl _;have bk:X.heap.size<=(?A0).heap.size:=by simp
 generalize (X.setCell (p_ f 0) ?C0).setCell (p_ f 1) ?D0=M at ax ad H bk|-;have aT:=(ad d (λe=>aM.1 e.symm)).trans bQ;have aV:=(ad s (λe=>aM.2.1 e.symm)).trans bR;have r6:=(ad w.heap.size (λe=>aM.2.2 e.symm)).trans r5;clear ak bQ bR r5 qT e0 u f0 f1;have cv:=ai.size;have R:∃E:Nat->Bool,(∀b,E b=true↔U b=true\/b=d\/b=s\/b=w.heap.size):=⟨λb=>U b||decide (b=d)||decide (b=s)||decide (b=w.heap.size),λb=>by simp[or_assoc]⟩;obtain⟨E,R⟩:=R;have uN:∀b,E b=false↔U b=false/\b≠d/\b≠s/\b≠w.heap.size:=λb=>by
  rw[<-Bool.not_eq_true,R b];cases U b<;>simp[not_or]
 have us:∀b,b<w.heap.size->E b=U b:=λb A=>by
  cases e:U b with
  | true=>exact(R b).2 (.inl e)
  | false=>exact(uN b).2 ⟨e,by omega,by omega,by omega⟩
 have bz:FTo U E w M:=⟨H.os,H.tape,H.output,H.size,λb A _=>H.block b A,λb A hu=>(us b A).trans hu⟩;have aw:∀b,W4.heap.size<=b->E b=false:=λb A=>(uN b).2 ⟨h.bnd.new (by have:=aI.size;omega),by omega,by omega,by have:=aI.size;omega⟩;have bq:Bnd E M:=λb A=>by
  have hL:=ze aT;have cA:=ze aV;have hr:=ze r6;rcases(R b).1 A with g|g|g|g;exact nL_ (h.bnd b g) H.size;omega;omega;omega
 have ab:zo M E d 0 103 (zbZ x.nu s) (zi3 x.nu s):=zvJ aT (by show(0:Nat)+19<=19;omega) (λj _=>by rw[zA_]) aV ((R d).2 (.inr (.inl rfl))) ((R s).2 (.inr (.inr (.inl rfl)))) (by omega) bq (h.tabs.sub bz.sub) h.inv.nu;have bm:zg (zq E M) I J (zv ys):=by
  refine zci ⟨aj.le,aj.max,aj.some,aj.nil,?_⟩ (λsb so e _=>aw sb (aO sb so e).1);rcases aj.bytes with g|⟨sb,so,e,g⟩;exact .inl g;exact .inr ⟨sb,so,e,λj hj=>(cB_ (ad sb (λe2=>by have:=(aO sb so e).1;omega))).trans (g j hj)⟩
 have au:(zv ys).length=(zae (ys.map MV.c)).length:=by rw[zes]
 have bj:=ab.put_tape (w2:=M) (a':=I) (c':=J) (l':=ys) (sy:=(zv ys).length) (bR_ _ _) bm (λm B=>⟨⟨X,(aq.out m B).1⟩,(aq.out m B).2.1,a9.out m B⟩) ((zjW h.inv.nu).tape_ (l:=ys.map MV.c) (s:=(zv ys).length) (by rw[<-au];exact cj.out) (by rw[<-au];exact nR_ _));have a5:Hid _:=bj;have a1:Hid (({ zi3 x.nu s with ba:=I,bc:=J,ms:=ys,syn:=(zv ys).length }:NM).v=({ Nd.z x.nu with recs:=x.v.kept keep,syn:=(zae (x.v.kept keep)).length }:Nd)):=by
  show _=_;rw[a2.out,<-au]
  rfl
 have aQ:=zu an (λq e=>ad q (λe2=>by have:=(an.lt q e).1;omega));have bd:Hid (∀y∈ys,MAt (zq E M) y):=by
  show ∀_,_;intro y hy;obtain⟨g1,_,g3⟩:=aq.out y hy;have g4:=g1.stays (G:=λk=>W4.heap.size<=k/\_) (λk hk=>ad k (λe2=>by have:=hk.1;omega)) g3;exact g4.hid (g3.mono (λk hk=>aw k hk.1))
 have b8:=ab.cell 15 _ rfl;have b9:=ab.cell 16 _ rfl;have cp:=ab.free 15;have cq:=ab.free 16;have u0:=zb ax 0 _ rfl;have u1:=zb ax 1 _ rfl;have O:Hid (E w.heap.size=true/\w.heap.size≠d/\¬(zi3 x.nu s).S w.heap.size/\w.heap.size<M.heap.size):=by
  refine⟨(R _).2 (.inr (.inr (.inr rfl))),by omega,λe=>?_,ze r6⟩;rcases e with e|e|e|e|e|e|e;have e:w.heap.size=s:=e;omega
  all_goals cases e
 have aC:Hid (∀b,(zi3 x.nu s).S b->w.heap.size<=b):=by
  show ∀_,_;intro b e;rcases e with e|e|e|e|e|e|e;have e:b=s:=e;omega
  all_goals cases e
 have aB:Hid (∀q,(Value.slice aX ys.length aY).ownBlock=some q->E q=false):=λq e=>aw q (an.lt q e).1;have bb:Hid _:=us;clear bj bm aj aO an ad R uN us aw bq bz au;go_upto_region 9 with fail
 obtain⟨U7,aE,D,h7,C,v7⟩:=a5.out;have al:Hid (D.v=({ Nd.z x.nu with recs:=x.v.kept keep,syn:=(zae (x.v.kept keep)).length }:Nd)):=v7.trans a1.out;simp only[zA_]at h7 C;generalize (M.setCell (p_ d 15) ?C0).setCell (p_ d 16) ?D0=W7 at h7 C|-;have aJ:=(C.goes ab).fto;have r7:=(C.block _ O.out.2.2.2 O.out.2.2.1 O.out.2.1).trans r6;have co:=aJ.owns aQ aB.out;have b4:Hid (∀y∈ys,MAt (zq U7 W7) y):=by
  show ∀_,_;intro y hy;exact(bd.out y hy).sub (C.sub ab)
 have bW:Hid (∀q,(Value.slice aX ys.length aY).ownBlock=some q->U7 q=false):=λq e=>aJ.us q (aQ.lt q e).2 (aB.out q e);have ah:Hid (U7 w.heap.size=true/\¬D.S w.heap.size/\w.heap.size<W7.heap.size):=by
  refine⟨(C.us _ O.out.2.2.2).trans O.out.1,λe=>?_,nL_ O.out.2.2.2 C.size⟩;rcases C.new _ e with g|g;exact O.out.2.2.1 g;have:=O.out.2.2.2;omega
 have a7:Hid (∀b,D.S b->w.heap.size<=b):=znq C aC.out H.size;have ay:Hid (B_ w W7):=C.belowN aC.out aS H;have b0:Hid (∀b,b<w.heap.size->U7 b=U b):=by
  show ∀_,_;intro b A;exact(C.us b (nL_ A H.size)).trans (bb.out b A)
 have bT:Hid (aE.size=19):=C.fsz;clear v7 a5 a1 ab C aJ aQ bd aB aV aT r6 u0 u1 b8 b9 cp cq bb aC ax H bk O;have bZ:Hid (D.v.k.tab.length=0):=by show _=_;rw[al.out];rfl
 have b5:Hid (({ Nd.z x.nu with recs:=x.v.kept keep,syn:=(zae (x.v.kept keep)).length }:Nd).txs=[]):=rfl;have bU:Hid (∀c:NM,c.v=(ys.map MV.c).foldl Nd.recall D.v->({ (ys.map MV.c).foldl Nd.recall ({ Nd.z x.nu with recs:=x.v.kept keep,syn:=(zae (x.v.kept keep)).length }:Nd)with nx:=zd2 c.nu c.v.k.sh }:Nd)=x.v.crash keep):=by
  show ∀_,_;intro c e;have u:c.nu=x.nu:=by
   have:c.v.nu=x.nu:=by rw[e,(zh4 _ _).1,al.out];rfl
   exact this
  rw[u,e,al.out];unfold Nd.crash;rw[a2.out]
  rfl
 go_wp2_with fail
 go_loopw [41] (λj wr=>∃(k:Nat) (U1:Nat->Bool) (ae:X_) (c:NM),k<=ys.length/\j=I_ k/\zo wr U1 d 0 103 ae c/\zl U7 U1 W7 wr d 0 aE ae D c/\Hid (c.v=((ys.map MV.c).take k).foldl Nd.recall D.v)) (λj _=>ys.length-(intOf j).toNat)
 case atStart=>exact⟨0,U7,aE,D,nZ_ _,rfl,h7,zl.refl _ _ _ _ _ _,rfl⟩
 case round=>
  obtain⟨k,U1,ae,c,cx,rfl,h1,n1,hv⟩:=hrel;by_cases hlt:k<ys.length
  .have cz:(k:Int)<ys.length:=by omega
   have aA:Hid (k<ys.length):=hlt;have bS:=(n1.goes h7).fto.owns co bW.out;obtain⟨cC,cr,e9,-,-,-,hR⟩:=zfm bS;cases e9;obtain⟨sb,so,ci,bK⟩:=hR.at k hlt;subst ci;have bD:=(b4.out (ys[k]) (gM_ hlt)).sub (n1.sub h7);have bG:=bX.out (ys[k]) (gM_ hlt);have aP:=(aq.out (ys[k]) (gM_ hlt)).2.1;have ao:=a9.out (ys[k]) (gM_ hlt);have bw:k<(ys.map MV.c).length:=by simpa using hlt
   have bA:(ys.map MV.c)[k]=(ys[k]).c:=List.getElem_map ..;have a8:Hid _:=zo6 D.v (ys.map MV.c) k bw;rw[bA,<-hv.out]at a8;have bO:c.tab.length<400000:=by
    have u:=zqd ((ys.map MV.c).take k) D.v;rw[<-hv.out]at u;have e2:c.v.k.tab.length=c.tab.length:=zay c.tab;have e3:=bZ.out;have e4:((ys.map MV.c).take k).length<=200000:=by rw[lT9_,List.length_map];have:=bP.out;omega
    omega
   clear hR bw bA bS;generalize ys[k]=a at*;have qz:=hN_ wr (.cells mz_ 68);have N:=zbs wr mz_ (mrow_ a.m) 68;have qN:=sH_ _ _ _ (mrow_ a.m) _ _ qz;go_upto_region 12 with(first|refine wpList_load_mid rfl 68 _ rfl sb (so+k*19) rfl (zcR a.m) _ bK underlying68 rfl sMsg' ?_|refine wS_ rfl 68 _ _ rfl wr.heap.size (mrow_ a.m) rfl rfl 68 _ qz sMsg' rfl (by simp[Value.oneCell']) ?_)
   generalize ((wr.alloc (.cells mz_ 68)).setRow wr.heap.size (mrow_ a.m))=W8 at N qN|-;clear qz bK;have h8:=h1.below N;have bE:=bD.sub (h1.later N);have Z:=zqg c a W8 U1 d 0 103 ae h8 bE (zuj bE bG aP.check) aP ao bO;generalize wr.heap.size=B8 at qN|-;clear bD bO bG aP ao;go_wp2_with (refine wL_ rfl 68 _ rfl B8 rfl 68 (mrow_ a.m) (0,0) _ qN underlying68 rfl sMsg' ?_)
   refine Z.mono ?_;rintro e w9⟨⟨v,V⟩,U9,fc9,y9,h9,n9,v9⟩;subst V;dsimp only;clear Z qN;have cl:=(n1.trans (zl.below (F:=d) (o:=0) U1 ae c N)).trans n9;have b2:Hid (y9.v=((ys.map MV.c).take (k+1)).foldl Nd.recall D.v):=by show _=_;rw[v9,a8.out]
   clear v9;have cy:k<200000:=by have u:=aA.out;have e2:=bP.out;omega
   go_wp2_with fail
   go_roundw
   case rel=>exact⟨k+1,U9,fc9,y9,aA.out,by go_num,h9,cl,b2⟩
   case measure=>have:=aA.out;simp[intOf];omega
  obtain rfl:k=ys.length:=by omega
  have HE:Hid (c.v=(ys.map MV.c).foldl Nd.recall D.v):=by
   show _=_;rw[hv.out,tL_ (by simp)]
  clear hlt hv;have a3:=zqi c wr U1 d 0 103 ae h1;go_wp2_with fail
  refine a3.mono ?_;rintro _ w9⟨rfl,bo⟩;dsimp only;clear a3;have h9:=h1.below bo;have k2:=h9.cell 2 _ rfl;have x2:=h9.free 2;have cg:=zt3 c.nu c.v.k.sh h1.inv.shf;have bI:za3 ({ c with nx:=zd2 c.nu c.v.k.sh }:NM).v:=by
   have e0:c.v.txs=[]:=by rw[HE.out,(zh4 _ _).2.2.2.2.2.1,al.out];exact b5.out
   have u:c.txs=[]:=e0;have hp:zaO (zd2 c.nu c.v.k.sh) c.txs=0:=by
    rw[u,zaO,iN_ (by simp;omega)]
    rfl
   exact h1.inv.pool_ (nx:=zd2 c.nu c.v.k.sh) (l:=c.txs) hp
  have bi:=h9.put_next (w2:=w9) (nx':=zd2 c.nu c.v.k.sh) (bR_ _ _) bI;have a4:Hid _:=bi;clear bi bI cg;generalize bg:zd2 c.nu c.v.k.sh=NX at*;have bV:Hid _:=bg;clear bg;go_upto_region 15 with fail
  obtain⟨Ua,aF,Y,ha,na,va⟩:=a4.out;simp only[zA_]at ha na;generalize w9.setCell (p_ d 2) (I_ NX)=Wa at ha na|-;have af:=(n1.trans (zl.below (F:=d) (o:=0) U1 ae c bo)).trans na;clear a4;have aW:=(af.block _ ah.out.2.2 ah.out.2.1 (by omega)).trans r7;have cw:=af.fsz.trans bT.out;have bx:aF=Y.cs.toArray:=by
   apply Array.ext'
   apply List.ext_getElem?
   intro j;by_cases hj:j<19;have:=ha.cel j hj;rw[zA_]at this;rw[Array.getElem?_toList,this];rw[List.getElem?_eq_none (by simp;omega),List.getElem?_eq_none (by show 19<=j;omega)]
  have bp:=ha.blk;rw[bx]at bp;have b3:Hid (Y.v=x.v.crash keep):=by
   show _=_;rw[va];have u:({ c with nx:=NX }:NM).v={ c.v with nx:=NX }:=rfl;rw[u,HE.out,al.out,<-bV.out];exact bU.out c HE.out
  have bY:Hid (∀b,Y.S b->w.heap.size<=b):=znq af a7.out ay.out.size;have a0:Hid (B_ w Wa):=af.belowN a7.out aS ay.out;have b1:Hid (∀b,b<w.heap.size->Ua b=U b):=by
   show ∀_,_;intro b A;exact(af.us b (nL_ A ay.out.size)).trans (b0.out b A)
  have a6:Hid (Ua w.heap.size=true/\¬Y.S w.heap.size):=by
   refine⟨(af.us _ ah.out.2.2).trans ah.out.1,λe=>?_⟩;rcases af.new _ e with g|g;exact ah.out.2.1 g;have:=ah.out.2.2;omega
  clear va bx;go_wp2_with (first|refine wL_ rfl 103 _ rfl d rfl 103 Y.cs.toArray (0,0) _ bp underlying103 rfl zhM ?_|refine wS_ rfl 103 _ _ rfl w.heap.size Y.cs.toArray rfl rfl 103 _ aW zhM rfl (by simp[NM.cs,Value.oneCell']) ?_)
  refine bP_ (v:=.agg Y.cs.toArray) (rC_ (fn:=Tryz.f67) (p:=4) (ty:=103) rfl _ _ w.heap.size 103 _ (0,0) _ rfl (sH_ _ _ _ _ _ _ aW) underlying103 rfl zhM) rfl ?_;have hg:zao Ua Ua Wa (Wa.setRow w.heap.size Y.cs.toArray):=⟨rfl,rfl,rfl,by simp,λb _ hu=>sO_ Wa w.heap.size b _ (λe=>by rw[e,a6.out.1]at hu;cases hu),λ_ _=>rfl⟩;refine⟨Ua,d,aF,Y,rfl,ha.goes hg (sO_ Wa w.heap.size d _ (by omega)) (λb e=>sO_ Wa w.heap.size b _ (λe2=>a6.out.2 (by rw[<-e2];exact e))) (ha.bnd.mono (by simp)),b3.out,b1.out,bY.out,?_⟩;exact(Upd.setRow aW).below a0.out a0.out.size (nR_ _)
variable {k:Nat}
theorem zum (d:∀q,q<k->zbM (ss.getD q ByteArray.empty)=true/\ss.getD q ByteArray.empty ∉ ss.take q)(b:zbM (ss.getD k ByteArray.empty)=true)(c:ss.getD k ByteArray.empty ∉ ss.take k) :
  ∀q,q<k+1->zbM (ss.getD q ByteArray.empty)=true/\ss.getD q ByteArray.empty ∉ ss.take q:=by
 intro q f;rcases lG_ q k with g|g;exact d q g;obtain rfl:q=k:=by omega
 exact⟨b,c⟩
theorem zjr (nx:Int)(D:Q_)(n d:Nat)(ss:Z_)(w:World)(I:n=ss.length)(g:zbu w D d ss) :
  Calls prog 82 #[.agg #[I_ nx,.slice D n d]] w λe w'=>e=.returned (I_ (zaO nx ss))/\B_ w w':=by
 subst I;have O:=g.le;have H:=g.max;unfold maxLen at H;by_cases ha:1<=nx
 .have E:¬nx<1:=by omega
  by_cases hb:nx<=1048577
  .have F:¬1048577<nx:=by omega
   by_cases hl:40<ss.length
   .have c:Hid (zaO nx ss=12):=by show _=_;rw[zaO,iP_ (.inr hl)]
    have G:(40:Int)<ss.length:=by omega
    go_in;go_wp2_with fail
    go_ret;exact⟨zt c.out.symm,(bR_ _ _).alloc (nR_ _) _⟩
   have c:Hid (zaO nx ss=if zen ss=true then 0 else 12):=by show _=_;rw[zaO,iN_ (by simp[ha,hb];omega)]
   have G:¬(40:Int)<ss.length:=by omega
   go_in;go_wp2_with fail
   go_loop [22] (λi=>∃k:Nat,k<=ss.length/\i=I_ k/\Hid (∀q,q<k->zbM (ss.getD q ByteArray.empty)=true/\ss.getD q ByteArray.empty ∉ ss.take q)) (λi=>ss.length-(intOf i).toNat)
   case atStart=>exact⟨0,nZ_ _,rfl,by show ∀_,_;intro q T;omega⟩
   case round=>
    obtain⟨k,M,rfl,y⟩:=hrel;by_cases hlt:k<ss.length;rcases g.strs.cells with j|⟨l,m,rfl,j⟩;subst j;simp at hlt;have R:(k:Int)<ss.length:=by omega
    have N:k<=d:=by omega
    have L:(0:Int)<=k:=by omega
    refine kO_ ?A0 ?_;exact Obj.cells #[I_ nx,.slice (some (p_ l m)) ss.length d] 96;have C:=(bR_ w.heap.size w).alloc (nR_ _) ?A0;have J:=(C.cell (p:=p_ l (m+k)) (bL_ (j k hlt))).trans (j k hlt);have A:(ss.getD k ByteArray.empty).size<=maxLen:=g.strs.size _ (by simp[List.getD,hlt]);have t:Hid (zbM (ss.getD k ByteArray.empty)=true->ss.getD k ByteArray.empty ∉ ss.take k->∀q,q<k+1->zbM (ss.getD q ByteArray.empty)=true/\ss.getD q ByteArray.empty ∉ ss.take q):=zum y.out;have o:Hid (zbM (ss.getD k ByteArray.empty)=false->zen ss=false):=zoo hlt;have r:Hid (ss.getD k ByteArray.empty∈ss.take k->zen ss=false):=zop hlt;have B:Hid (∀s,Calls prog 109 #[.slice (some (p_ l m)) k d,.string s] (w.alloc ?A0) λe w'=>e=.returned (.bool (inS s (ss.take k)))/\(w.alloc ?A0)=w'):=by
     show ∀_,_;intro s;exact zjO (ss.take k) _ k d s _ (by simp;omega) (by unfold maxLen;omega) ((g.strs.below C).take k)
    clear y j g;generalize ss.getD k ByteArray.empty=x at*;cases hx:zbM x with
    | false=>
     have f:=o.out hx;rw[f]at c;clear t o r;go_wp2_with (go_at_call 108;refine(ziK _ _ A).mono ?_;rintro e u⟨b,rfl⟩;rw[hx]at b;subst b)
     go_ret;exact⟨zt (by rw[c.out];rfl),(bR_ _ _).alloc (nR_ _) _⟩
    | true=>
     by_cases hi:x∈ss.take k;have f:=r.out hi;rw[f]at c;have z:=zon hi
     rotate_left
     have f:Hid _:=t.out hx hi;have z:=zm2 hi
     rotate_left
     all_goals
      clear t o r hi;go_wp2_with (first|(go_at_call 108;refine(ziK _ _ A).mono ?_;rintro e u⟨b,rfl⟩;rw[hx]at b;subst b)|(go_at_call 109;refine(B.out x).mono ?_;rintro e u⟨b,rfl⟩;rw[z]at b;subst b))
     .go_ret;exact⟨zt (by rw[c.out];rfl),(bR_ _ _).alloc (nR_ _) _⟩
     go_round
     case rel=>exact⟨k+1,by omega,by go_num,f⟩
     case measure=>simp[intOf];omega
    obtain rfl:k=ss.length:=by omega
    have f:=zts y.out;rw[f]at c;go_wp2_with fail
    go_ret;exact⟨zt (by rw[c.out];rfl),(bR_ _ _).alloc (nR_ _) _⟩
  have F:1048577<nx:=by omega
  have c:Hid (zaO nx ss=12):=by show _=_;simp[zaO,hb]
  go_in;go_wp2_with fail
  go_ret;exact⟨zt c.out.symm,(bR_ _ _).alloc (nR_ _) _⟩
 have E:nx<1:=by omega
 have c:Hid (zaO nx ss=12):=by show _=_;simp[zaO,ha]
 go_in;go_wp2_with fail
 go_ret;exact⟨zt c.out.symm,(bR_ _ _).alloc (nR_ _) _⟩
end Go.Proofs.YtffaeaonobmmjaaGreatDoor
