import Derived.RangeFuncNested
import Derived.RangeFuncBound
import Derived.Shelf.SortM.Plain
import Derived.Shelf.SortM.SortNone
import Derived.Lib.SlKeysI
import Derived.Test.YtpnpikpmdfipfaaGreatDoorPk11
import Derived.Lib.ConvBytes
import Derived.Test.YtpnpikpmdfipfaaGreatDoorPk12
set_option maxRecDepth 100000
set_option maxHeartbeats 4000000
namespace Go.Proofs.YtpnpikpmdfipfaaGreatDoor
open Go.RowKit Tryz
theorem zh7 (x:NM)(m:MV)(w:World)(U:Nat->Bool)(F o:Nat)(T:TypeId)(d:X_)(h:zo w U F o T d x)(G:GM (zq U w) m) :
  Calls prog 70 #[P_ F o,.agg (mrow_ m.m)] w λe w'=>(∃v,e=.returned v)/\zal w U F o T d x w' (x.v.sendAll m.c):=by
 have p:=zC w (.cells (mrow_ m.m) 90);have q:=hN_ w (.cells (mrow_ m.m) 90);go_in;go_upto_region 1 with fail
 generalize w.alloc (.cells (mrow_ m.m) 90)=t at p q|-;have u:=h.below p;have y:Hid (U w.heap.size=false):=h.bnd.new (nR_ _);have D:=zl.below (F:=F) (o:=o) U d x p;have z:Hid (w.heap.size<t.heap.size):=ze q;generalize w.heap.size=B at q y z|-;go_wp2_with fail
 go_loopw [5] (λj wr=>∃(k:Nat) (b:Nat->Bool) (f:X_) (c:NM),k<=4/\j=I_ k/\zo wr b F o T f c/\zl U b t wr F o d f x c/\Hid (c.v=x.v.sendTo m.c k)/\R_ wr B (mrow_ m.m) 90) (λj _=>4-(intOf j).toNat)
 case atStart=>exact⟨0,U,d,x,by decide,rfl,u,zl.refl _ _ _ _ _ _,rfl,q⟩
 case round=>
  obtain⟨k,b,f,c,J,rfl,l,g,r,s⟩:=hrel;by_cases hlt:k<4
  .have L:(k:Int)<4:=by omega
   have A:=(G.sub (zao.below U p).sub).sub (g.sub u);go_wp2_with (refine wL_ rfl 90 _ rfl B rfl 90 (mrow_ m.m) (0,0) _ s underlying90 rfl sMsg' ?_)
   refine(zeN c m k wr b F o T f l A ⟨by omega,by omega⟩).mono ?_;rintro e w2⟨⟨v,E⟩,U2,fc2,x2,h2,n2,v2⟩;subst E;dsimp only;have I:=n2.box l s (g.hides z.out y.out);have H:=g.trans n2;have C:Hid (x2.v=x.v.sendTo m.c (k+1)):=by show _=_;rw[v2,r.out];rfl
   clear v2 r s A g n2 l;go_wp2_with fail
   go_roundw
   case rel=>exact⟨k+1,U2,fc2,x2,by omega,by go_num,h2,H,C,I⟩
   case measure=>simp[intOf];omega
  obtain rfl:k=4:=by omega
  go_wp2_with fail
  go_end0;exact⟨⟨_,rfl⟩,b,f,c,l,D.trans g,r.out⟩
open Go.Shelf
variable {sa:Q_}
attribute [local go_sem] Oper.semAt_some
def ze4 (n0:Nat)(W:World)(sa:Q_)(zs:L_):Prop:=
 zs=[]\/∃sb so,sa=some (p_ sb so)/\sb<n0/\∀j,j<zs.length->W.cell? (p_ sb (so+j))=some (I_ (zs[j]?.getD 0))
theorem ze4.below {b:Nat}{A B:World}{g:L_}(h:ze4 b A sa g)(l:Below b A B):ze4 b B sa g:=by
 rcases h with h|⟨d,f,e,c,m⟩;exact .inl h;exact .inr ⟨d,f,e,c,λj o=>(l.cell (p:=p_ d (f+j)) c).trans (m j o)⟩
theorem zue (b:L_)(k:Nat)(h:k<b.length):b.take (k+1)=b.take k++[b[k]?.getD 0]:=by
 rw[tS_ h];simp[h]
theorem zvW (F:Fence)(n:Nat)(z:F.fn 147)(G:F.round=none)(O:1<=n)(l m j:Nat)(s:Q_)(t:Nat)(b:L_)(U:b.length<=4)(J o:L_->World->Prop)
  (B:∀c x W,J c W->c.length<b.length->YieldAt F (n-1) prog l #[I_ x] W λe d=>
   (e=.returned (.bool true)/\J (c++[x]) d/\Below j W d)\/(e=.returned (.bool false)/\o (c++[x]) d))
  (W:World) (M:C_ W m 0 (.slice s b.length t)) (C:ze4 j W s b) (u:J [] W) :
  CallsIn F n prog 147 #[.func (.yield l) #[] #[],(P_ m 0)] W λe d=>(∃v,e=.returned v)/\((∃ys,ys=b/\J ys d)\/(∃c,c <+: b/\o c d)):=by
 refine callsIn_of_wp func147 rfl z ?_ G;simp only[ntmps147,List.size_toArray,List.length_cons,List.length_nil,Nat.reduceAdd,Nat.reduceSub,Array.replicate_succ,Array.replicate_zero,List.push_toArray,List.append_toArray,List.nil_append,List.cons_append]
 gi_wp2
 gi_loopw [7] (λi wr=>∃k:Nat,k<=b.length/\i=I_ k/\J (b.take k) wr/\Below j W wr) (λi _=>b.length-(intOf i).toNat)
 case atStart=>exact⟨0,nZ_ _,rfl,by simpa using u,bR_ _ _⟩
 case round=>
  obtain⟨k,N,rfl,g,q⟩:=hrel;by_cases hlt:k<b.length
  .rcases C.below q with E|⟨V,X,rfl,R,p⟩;rw[E]at hlt;simp at hlt;have D:=p k hlt;have f:Hid (b.take (k+1)=b.take k++[b[k]?.getD 0]):=zue b k hlt;obtain⟨y,r⟩:∃y,y=b[k]?.getD 0:=⟨_,rfl⟩;rw[<-r]at D f;obtain⟨fn,Y,I,L,T,A⟩:=B _ y wr g (by rw[lT9_];omega);clear p r
   gi_wp2
   refine A.mono ?_;rintro e H (⟨rfl,hJ3,hk3⟩|⟨rfl,hJx3⟩)
   .gi_wp2
    go_roundw
    case rel=>exact⟨k+1,by omega,by simp,by rw[f.out];exact hJ3,q.trans hk3⟩
    case measure=>simp[intOf];omega
   gi_wp2
   refine bP_ (results_none rfl _ _ _) rfl ?_;exact⟨⟨_,rfl⟩,.inr ⟨_,by rw[<-f.out];exact List.take_prefix _ _,hJx3⟩⟩
  obtain rfl:k=b.length:=by omega
  rw[List.take_length]at g
  gi_wp2
  go_end0;exact⟨⟨_,rfl⟩,.inl ⟨_,rfl,g⟩⟩
theorem zo2 (a:Q_)(c b:Nat)(w:World) :
  Calls prog 99 #[.slice a c b] w λe w'=>e=.returned (.func (.func 147) #[] #[P_ w.heap.size 0])/\w'=w.alloc (.cells #[.slice a c b] 64):=by
 have d:∀(fn:Fn) (first b:X_) (w:World),(Instr.makeFunc fn first b).run prog w=.ok (.func fn first b) w:=λ_ _ _ _=>rfl;go_in;go_wp2_with fail
 go_ret;exact⟨rfl,rfl⟩
attribute [local go_sem] Oper.semAt_some
theorem zq6:(prog.info? 3).map (λi=>(i.zero,i.size,i.bytes))=some (some (I_ 0),1,8):=by kernel_rfl
theorem zr7 (n c:Nat)(u:1<=n)(f:Q_)(g:Nat)(b:L_)(z:b.length<=4)(d:Nat)(w:World)(q:c<w.heap.size)(y:d<=w.heap.size)(t:C_ w c 0 (.slice f b.length g))(r:ze4 d w f b) :
  SeqStopsK Fence.wide n prog 147 #[P_ c 0] (λx:Int=>#[Value.int .i64 x]) (Below d) (λys=>ys=b) (λA=>A <+: b) b.length w:=λl J m W j _ _ s o=>
 zvW Fence.wide n trivial rfl u l c d f g b z J m s W ((j.cell (p:=p_ c 0) q).trans t) (r.below (j.mono y)) o
theorem zvX (b:Nat)(q:Q_)(r:Nat)(g:L_)(M:g.length<=4)(w:World)(y:b<w.heap.size)(B:C_ w b 0 (.slice q g.length r))(A:ze4 w.heap.size w q g) :
  CallsIn Fence.wide 6 prog 183 #[O_,.func (.func 147) #[] #[P_ b 0]] w λe w'=>∃v,e=.returned v/\w'.ownsRow w.heap.size 3 1 v g.length (iv g)/\B_ w w':=by
 obtain⟨T,F,N,O,R⟩:=info_parts zq6;refine callsIn_of_wp_marks func183 rfl trivial ?_ rfl;simp only[ntmps183,List.size_toArray,List.length_cons,List.length_nil,Nat.reduceAdd,Nat.reduceSub,Array.replicate_succ,Array.replicate_zero,List.push_toArray,List.append_toArray,List.nil_append,List.cons_append]
 gi_wp2
 have o:=zC w (.cells #[O_] 64);have J:=zr7 5 b (by omega) q r g M w.heap.size (w.alloc (.cells #[O_] 64)) (by simp;omega) (by simp) ((o.cell (p:=p_ b 0) y).trans B) (A.below o);refine wpIn_rangeFunc_ownF (α:=Int) rfl (by omega) (gf:=147) (lb:=#[P_ b 0]) rfl trivial (eO_ func147) J belowK_t (belowK_b (by simp)) (bR_ _ _) (λ_=>rfl)
  (λd W=>(∃v,Boxed W w.heap.size 64 v/\W.ownsRow w.heap.size 3 1 v (List.length d) (iv d)/\True)/\B_ w W)
  (λ_ _ _=>False)
  (OwnFrom.and (Own.from (holdsRow_own w.heap.size w.heap.size 64 3 1 (λd:L_=>d.length) (λd=>iv d) (λ_ _=>True)) _) (ownFrom_below (nR_ _) (by simp)))
  (λ_ _ _ _ _ I _ _=>I)
  ⟨⟨_,Boxed.new w 64 (O_),oN_ _ _ _ _,trivial⟩,o⟩
  (λx=>{ tmps:=#[O_,.func (.func 147) #[] #[P_ b 0],(P_ w.heap.size 0),undef,O_,I_ x,.func (.func 147) #[] #[P_ b 0],I_ x,undef,undef,undef,undef,undef],defers:=[] }) ?assign ?body ?done ?stop
 case assign=>
  intro l x W K j
  gi_wp2
  exact j
 case body=>
  rintro l d x W⟨⟨v,m,f,_⟩,hB⟩hlt;obtain⟨U,V,rfl⟩:=zH f;have C:=m.cell
  gi_wp2_with (gi_at_builtin;refine wpListIn_append_own _ rfl _ _ 64 rfl w.heap.size 3 T (I_ 0) 1 8 underlying64 F N O R rfl (by decide) _ _ _ rfl (f.alloc _) (p_ W.heap.size 0) 1 1 [I_ x] rfl rfl (cell_one_new _ _ _) (by simp[Value.oneCell']) (by unfold maxLen;omega) (by omega) (by have:=hB.size;simp;omega) ?_;intro v' w1 t E _;obtain⟨Y,X,rfl⟩:=ownsRow_succ t;obtain⟨u,L,H,G,s⟩:=m.appended (by decide) f hB.size (nR_ _) t E;have Z:=u.cell;have aa:=u.frozen)
  exact⟨G,s,⟨_,L,by simpa[iv]using H,trivial⟩,hB.trans s⟩
 case done=>
  rintro D ys W z rfl⟨⟨v,m,f,_⟩,hB⟩j;obtain⟨U,V,rfl⟩:=zH f;have C:=m.cell
  gi_wp2
  refine⟨by simp,.inl ⟨_,_,rfl,run_takeDeferred j,?_⟩⟩;exact⟨_,results_tmp rfl _ _ _,_,rfl,ownsRow_putObj f _ j rfl,hB.trans (belowK_b (w:=w) (nR_ _) W D _ _ (by simp at z;omega) j rfl rfl)⟩
 case stop=>
  rintro D c d W _ _ h _;exact h.elim
theorem znn (x:Int)(l:L_):(zmt x l).Perm (x::l):=by
 induction l with
 | nil=>exact List.Perm.refl _
 | cons y l ih=>
  rw[zmt]
  split
  exact List.Perm.refl _;exact(List.Perm.cons y ih).trans (List.Perm.swap x y l)
theorem zlY (l:L_):(zhH l).Perm l:=by
 induction l with
 | nil=>exact List.Perm.refl _
 | cons x l ih=>exact(znn x (zhH l)).trans (List.Perm.cons x ih)
theorem zxr (x:Int)(l:L_)(h:l.Pairwise (·<=·)):(zmt x l).Pairwise (·<=·):=by
 induction l with
 | nil=>exact List.pairwise_singleton _ _
 | cons y l ih=>
  obtain⟨c,d⟩:=List.pairwise_cons.1 h;rw[zmt]
  split
  .next g=>
   refine List.pairwise_cons.2 ⟨λz b=>?_,h⟩;rcases List.mem_cons.1 b with e|e;rw[e];exact g;have:=c z e;omega
  next g=>
  refine List.pairwise_cons.2 ⟨λz b=>?_,ih d⟩;rcases List.mem_cons.1 ((znn x l).mem_iff.1 b)with e|e;rw[e];omega;exact c z e
theorem zvY (l:L_):(zhH l).Pairwise (·<=·):=by
 induction l with
 | nil=>exact List.Pairwise.nil
 | cons x l ih=>exact zxr x _ ih
theorem zuf:∀(a b:L_),a.Perm b->a.Pairwise (·<=·)->b.Pairwise (·<=·)->a=b:=by
 intro a
 induction a with
 | nil=>intro b c _ _;exact(List.nil_perm.1 c).symm
 | cons x a ih=>
  intro b c m o;cases b with
  | nil=>exact absurd c.length_eq (by simp)
  | cons y b=>
   obtain⟨g,j⟩:=List.pairwise_cons.1 m;obtain⟨d,f⟩:=List.pairwise_cons.1 o;have e:x=y:=by
    have r:=c.mem_iff.1 (List.mem_cons_self (a:=x) (l:=a));have s:=c.mem_iff.2 (List.mem_cons_self (a:=y) (l:=b));rcases List.mem_cons.1 r with q|q;exact q;rcases List.mem_cons.1 s with p|p;exact p.symm;have u1:=d x q;have u2:=g y p;omega
   subst e;rw[ih b (List.Perm.cons_inv c) j f]
theorem zvZ (l:L_):l.mergeSort (λx y=>decide (x<=y))=zhH l:=by
 refine zuf _ _ ((List.mergeSort_perm l _).trans (zlY l).symm) ?_ (zvY l);have h:=List.pairwise_mergeSort (le:=λx y:Int=>decide (x<=y)) (λa b c p q=>by simp at p q|-;omega) (λa b=>by simp;omega) l;exact h.imp (λq=>by simpa using q)
theorem zug (c:Nat)(d:Q_)(f:Nat)(b:L_)(m:b.length<=4)(w:World)(g:c<w.heap.size)(l:C_ w c 0 (.slice d b.length f))(j:ze4 w.heap.size w d b) :
  Calls prog 183 #[O_,.func (.func 147) #[] #[P_ c 0]] w λe w'=>∃v,e=.returned v/\w'.ownsRow w.heap.size 3 1 v b.length (iv b)/\B_ w w':=
 (callsIn_wide (n:=6)).1 (zvX c d f b m w g l j)
theorem zqj (c:Nat)(d:Q_)(g:Nat)(b:L_)(r:b.length<=4)(w:World)(o:c<w.heap.size)(l:C_ w c 0 (.slice d b.length g))(j:ze4 w.heap.size w d b) :
  Calls prog 145 #[.func (.func 147) #[] #[P_ c 0]] w λe w'=>∃v,e=.returned v/\w'.ownsRow w.heap.size 3 1 v b.length (iv b)/\B_ w w':=by
 have f:=zug c d g b r w o l j;clear l j;go_in;go_wp2_with fail
 refine f.mono ?_;rintro e u⟨v,q,m,p⟩;subst q;dsimp only;clear f;obtain⟨s,t,rfl⟩:=zH m;go_wp2_with fail
 go_ret;exact⟨_,rfl,m,p⟩
def zo3:Go.Shelf.Ren:=⟨fun|5=>146|8=>185|7=>184|19=>215|20=>216|10=>206|11=>207|12=>208|13=>209|14=>210|15=>211|16=>212|17=>213|18=>214|30=>230|31=>231|32=>232|33=>233|34=>234|35=>189|40=>239|n=>n,fun|23=>64|25=>3|3=>3|32=>200|22=>64|0=>0|44=>243|46=>263|4=>4|36=>255|35=>254|41=>259|5=>5|9=>9|53=>286|57=>290|63=>296|64=>297|n=>n,fun|n=>n⟩
theorem zo4:Go.Proofs.SlLaysM.n5 prog zo3:={
 mixed:=by kernel_rfl
 f5:=⟨Tryz.f146.name,by decide,func146.trans (cA_ some (by kernel_rfl))⟩
 f7:=⟨Tryz.f184.name,by decide,func184.trans (cA_ some (by kernel_rfl))⟩
 f8:=func185.trans (cA_ some (by kernel_rfl))
 f10:=⟨Tryz.f206.name,by decide,func206.trans (cA_ some (by kernel_rfl))⟩
 f11:=⟨Tryz.f207.name,by decide,func207.trans (cA_ some (by kernel_rfl))⟩
 f12:=⟨Tryz.f208.name,by decide,func208.trans (cA_ some (by kernel_rfl))⟩
 f13:=⟨Tryz.f209.name,by decide,func209.trans (cA_ some (by kernel_rfl))⟩
 f14:=⟨Tryz.f210.name,by decide,func210.trans (cA_ some (by kernel_rfl))⟩
 f15:=⟨Tryz.f211.name,by decide,func211.trans (cA_ some (by kernel_rfl))⟩
 f16:=⟨Tryz.f212.name,by decide,func212.trans (cA_ some (by kernel_rfl))⟩
 f17:=⟨Tryz.f213.name,by decide,func213.trans (cA_ some (by kernel_rfl))⟩
 f18:=⟨Tryz.f214.name,by decide,func214.trans (cA_ some (by kernel_rfl))⟩
 f19:=func215.trans (cA_ some (by kernel_rfl))
 f20:=func216.trans (cA_ some (by kernel_rfl))
 f30:=⟨Tryz.f230.name,by decide,func230.trans (cA_ some (by kernel_rfl))⟩
 f31:=func231.trans (cA_ some (by kernel_rfl))
 f32:=func232.trans (cA_ some (by kernel_rfl))
 f33:=⟨Tryz.f233.name,by decide,func233.trans (cA_ some (by kernel_rfl))⟩
 f34:=⟨Tryz.f234.name,by decide,func234.trans (cA_ some (by kernel_rfl))⟩
 f35:=⟨Tryz.f189.name,by decide,func189.trans (cA_ some (by kernel_rfl))⟩
 f40:=⟨Tryz.f239.name,by decide,func239.trans (cA_ some (by kernel_rfl))⟩
 t0:=underlying0
 a0:=isAgg0
 z0:=sizeOf0
 v0:=zeroValue0
 t3:=underlying3
 a3:=isAgg3
 z3:=sizeOf3
 v3:=zeroValue3
 t4:=underlying4
 a4:=isAgg4
 z4:=sizeOf4
 v4:=zeroValue4
 t5:=underlying5
 a5:=isAgg5
 z5:=sizeOf5
 v5:=zeroValue5
 t9:=underlying9
 a9:=isAgg9
 z9:=sizeOf9
 v9:=zeroValue9
 t22:=underlying64
 a22:=isAgg64
 z22:=sizeOf64
 v22:=zeroValue64
 t23:=underlying64
 a23:=isAgg64
 z23:=sizeOf64
 v23:=zeroValue64
 t25:=underlying3
 a25:=isAgg3
 z25:=sizeOf3
 v25:=zeroValue3
 t32:=underlying200
 a32:=isAgg200
 z32:=sizeOf200
 v32:=zeroValue200
 t35:=underlying254
 a35:=isAgg254
 z35:=sizeOf254
 v35:=zeroValue254
 t36:=underlying255
 a36:=isAgg255
 z36:=sizeOf255
 v36:=zeroValue255
 t41:=underlying259
 a41:=isAgg259
 z41:=sizeOf259
 v41:=zeroValue259
 t44:=underlying243
 a44:=isAgg243
 z44:=sizeOf243
 v44:=zeroValue243
 t46:=underlying263
 a46:=isAgg263
 z46:=sizeOf263
 v46:=zeroValue263
 t53:=underlying286
 a53:=isAgg286
 z53:=sizeOf286
 v53:=zeroValue286
 t57:=underlying290
 a57:=isAgg290
 z57:=sizeOf290
 v57:=zeroValue290
 t63:=underlying296
 a63:=isAgg296
 z63:=sizeOf296
 v63:=zeroValue296
 t64:=underlying297
 a64:=isAgg297
 z64:=sizeOf297
 v64:=zeroValue297 }
open Go.Sort
theorem zv0 (b:L_)(d:Q_)(c base:Nat)(w:World)(F:b.length<=4)(m:w.ownsRow base 3 1 (.slice d b.length c) b.length (iv b)) :
  Calls prog 146 #[.slice d b.length c] w λe w'=>e=.returned (.tuple #[])/\w'.ownsRow base 3 1 (.slice d b.length c) b.length (iv (zhH b))/\w.grownBy w' (Value.slice d b.length c).ownBlock:=by
 rcases m.2 with⟨e,s⟩|⟨l,D,E,e,r,f,z,A,B,C⟩;have t:=eN_ s;subst t;refine(AnyM.slices_Sort_int_none zo4 d c w).mono (λe w' k=>?_);obtain⟨g,j⟩:=k;subst j;exact⟨g,m,World.grownBy.refl _ _⟩;simp only[Value.slice.injEq]at e;obtain⟨o,_,p⟩:=e;subst o p;have q:=holds_of_block_i f (by simpa[iv]using C);refine(AnyM.slices_Sort_int zo4 l 0 c b w q (ze f) (by omega)).mono (λe w' k=>?_);obtain⟨g,u,os,j⟩:=k;subst j;refine⟨g,?_,grownBy_sorted_i _⟩;have h:=ownsRow_sorted_i (n:=u) (os:=os) (ss:=b) (ts:=b.mergeSort λx y=>decide (x<=y)) (by simp) r f z A B;rw[zvZ]at h|-;exact h
theorem zr8 (f:Nat)(l:Q_)(p:Nat)(b:L_)(u:b.length<=4)(w:World)(y:f<w.heap.size)(t:C_ w f 0 (.slice l b.length p))(r:ze4 w.heap.size w l b) :
  Calls prog 98 #[.func (.func 147) #[] #[P_ f 0]] w λe w'=>∃c d,e=.returned (.slice c b.length d)/\w'.ownsRow w.heap.size 3 1 (.slice c b.length d) b.length (iv (zhH b))/\B_ w w':=by
 have m:=zqj f l p b u w y t r;clear t r;go_in;go_wp2_with fail
 refine m.mono ?_;rintro e B⟨v,g,j,s⟩;subst g;dsimp only;clear m;obtain⟨c,d,rfl⟩:=zH j;have o:=zv0 b c d w.heap.size B u j;go_wp2_with fail
 refine o.mono ?_;rintro _ w2⟨rfl,A,z⟩;dsimp only;clear o;go_wp2_with fail
 go_ret;exact⟨c,d,rfl,A,s.grown z s.size (λq e=>(j.lt q e).1)⟩
variable {w:World}{ops:Array Oper}{Q:Exit->Act->World->Prop}{a:Act}{P:Program}{md:Region.Mode}{fuel:Nat}{listed:Array Bool}
theorem zno {S:World->Prop}
  (h:∀b:Nat->Array Bool->Act->World->Prop,Hid (∀f l a w,wpAnyH P md ops Q S f l a w->b f l a w)->Hid (∀f l a w,b f l a w->wpAnyH P md ops Q S f l a w)->b fuel listed a w):wpAnyH P md ops Q S fuel listed a w:=
 h _ (show ∀_,_ from λ_ _ _ _ h=>h) (show ∀_,_ from λ_ _ _ _ h=>h)
theorem znp {c:Nat->Array Bool->Act->World->Prop}(h:∀b,Hid (a=b)->c fuel listed b w):c fuel listed a w:=h a (show a=a from rfl)
variable {U:Nat->Bool}{n base n1:Nat}{vl:L_}{va:Q_}
theorem zax.hid (h:zax w va vl)(f:∀b c,va=some (p_ b c)->U b=false):zax (zq U w) va vl:=by
 refine⟨?_⟩;rcases h.cells with h|⟨b,c,e,h⟩;exact .inl h;exact .inr ⟨b,c,e,λj d=>(cB_ (zdr (f b c e))).trans (h j d)⟩
theorem zyt {a:Q_}{c:Nat}{b:L_}(h:w.ownsRow base 3 1 (.slice a n c) n (iv b)):ze4 w.heap.size w a b:=by
 obtain⟨p,q,e,_,l,_⟩:=zeW h;cases e;rcases l.cells with g|⟨m,o,e,g⟩;exact .inl g;by_cases hz:b=[];exact .inl hz;refine .inr ⟨m,o,e,?_,λj d=>?_⟩;have f:=List.length_pos_iff.2 hz;have:=World.block_lt_of_cell? _ _ (g 0 f);exact this;rw[g j d];simp[d]
theorem ze4.up {b:Nat}{a:Q_}{c:L_}(h:ze4 b w a c)(l:b<=n1):ze4 n1 w a c:=by
 rcases h with h|⟨f,g,e,j,d⟩;exact .inl h;exact .inr ⟨f,g,e,by omega,d⟩
theorem zr9 (l:L_)(h:∀v∈l,0<=v/\v<4):l.length=l.count 0+l.count 1+l.count 2+l.count 3:=by
 induction l with
 | nil=>rfl
 | cons a l ih=>
  have d:=ih (λv c=>h v (mC_ _ c));have f:=h a (List.mem_cons_self ..);have b:a=0\/a=1\/a=2\/a=3:=by omega
  rcases b with e|e|e|e<;>subst e<;>simp<;>omega
theorem zv1 {l:L_}{fr:Int}(h:l.length<=4/\(∀v∈l,0<=v/\v<4)/\l.Nodup)(d:0<=fr/\fr<4)(f:¬fr∈l):(l++[fr]).length<=4:=by
 have b:(fr::l).Nodup:=List.nodup_cons.2 ⟨f,h.2.2⟩;have c:=zr9 (fr::l) (λv g=>by
  rcases List.mem_cons.1 g with e|e
  .rw[e];exact d
  .exact h.2.1 v e)
 have j:=List.nodup_iff_count.1 b 0;have m:=List.nodup_iff_count.1 b 1;have o:=List.nodup_iff_count.1 b 2;have p:=List.nodup_iff_count.1 b 3;rw[lP_];rw[List.length_cons]at c;simp only[List.length_singleton];omega
theorem zsa (x:NM)(fr:Int)(s:Sl)(A:Int)(z:List Sg)(R:Q_)(X:Nat)(w:World)(U:Nat->Bool)(F o:Nat)(T:TypeId)(fc:X_)(h:zo w U F o T fc x)(hs:zg (zq U w) s.p.sa s.p.cap s.p.bs)(us:zaN s.p.bs)(az:0<=fr/\fr<4)(hg:zdj (zq U w) R X z) :
  Calls prog 56 #[P_ F o,I_ fr,.agg (srow_ s),.agg #[I_ A,.slice R z.length X]] w λe w'=>(∃v,e=.returned v)/\zal w U F o T fc x w' (x.v.hearV ⟨A,zA z⟩ fr s.v):=by
 refine kA_ ?B0 ?_;exact #[I_ A,.slice R z.length X];refine kW_ ?C0 ?_;exact(w.alloc (.cells (srow_ s) 63)).alloc (.cells ?B0 53);have H:B_ w ?C0:=((bR_ _ _).alloc (nR_ _) _).alloc (by simp) _;have q0:=hX_ w (.cells (srow_ s) 63) (.cells ?B0 53);have q1:=hY_ w (.cells (srow_ s) 63) (.cells ?B0 53);go_in;go_upto_region 1 with fail
 generalize ?C0=W0 at H q0 q1|-;have h0:=h.below H;have aX:=hs.sub (h.later H);have aW:=hg.sub (h.later H);have aR:Hid (U w.heap.size=false/\U (w.heap.size+1)=false):=⟨h.bnd.new (nR_ _),h.bnd.new (lS_ _)⟩;have bl:=zl.below (F:=F) (o:=o) U fc x H;generalize w.heap.size+1=B1 at q1 aR|-;generalize w.heap.size=B0 at q0 aR|-;clear H;have c6:=h0.cell 6 _ rfl;have a5:=h0.cell 11 _ rfl;have a9:=h0.cell 12 _ rfl;have bd:=h0.cell 13 _ rfl;refine kV_ ?D0 ?_;exact Value.agg (srow_ s);have aH:Hid (∀W:World,B_ W0 W->Calls prog 96 #[?D0,.agg (srow_ x.slot)] W λe w'=>e=.returned (.bool (decide (s.v=x.slot.v)))/\B_ W w'):=by
  show ∀W,_;intro W hW;exact znc s x.slot W ((aX.sub (zK _ _)).below hW) (((h0.below hW).slt).sub (zK _ _)) us h.inv.u8s
 have aC:Hid (∀W:World,B_ W0 W->Calls prog 45 #[P_ x.s 0,I_ s.au,I_ s.rd] W λe w'=>e=.returned (.bool (decide (0<=cOf x.v.k.dag s.au s.rd)))/\B_ W w'):=by
  show ∀W,_;intro W hW;obtain⟨ca,cc,da,dc,bZ⟩:=(h0.below hW).stkAt;exact zmx x.ls x.s ca cc da dc x.ds s.au s.rd W bZ
 have aK:Hid (∀W:World,B_ W0 W->Calls prog 78 #[P_ F o,I_ fr] W λe w'=>e=.returned (.bool (decide (fr∈x.vot)))/\B_ W w'):=by
  show ∀W,_;intro W hW;exact zjp x fr W U F o T fc (h0.below hW)
 have aG:Hid (∀W:World,B_ W0 W->Calls prog 97 #[.agg ?B0,I_ fr,?D0] W λe w'=>e=.returned (.bool (No.signed ⟨A,zA z⟩ fr s.v))/\B_ W w'):=by
  show ∀W,_;intro W hW;exact zkM A z R X fr s W ((aW.sub (zK _ _)).below hW) ((aX.sub (zK _ _)).below hW) us
 generalize af:decide (s.v=x.slot.v)=b1 at aH;generalize ag:decide (0<=cOf x.v.k.dag s.au s.rd)=b2 at aC;generalize ah:decide (fr∈x.vot)=b3 at aK;generalize ai:No.signed ⟨A,zA z⟩ fr s.v=b4 at aG;have HB:Hid (decide (s.v=x.slot.v)=b1/\decide (0<=cOf x.v.k.dag s.au s.rd)=b2/\decide (fr∈x.vot)=b3/\No.signed ⟨A,zA z⟩ fr s.v=b4):=⟨af,ag,ah,ai⟩;clear af ag ah ai;go_cut [38] (λu wx=>u=.bool (!b1||b2||b3||!b4)/\B_ W0 wx)
 case first=>
  have ab:=dB_ W0;have aP:=dC_ c6;have aM:=dC_ a5;have aN:=dC_ a9;have aO:=dC_ bd;have a0:=dQ_ q0;have a1:=dQ_ q1;refine wR_ (S:=λw'=>C_ w' F (o+6) (P_ x.s 0)/\C_ w' F (o+11) (I_ x.slot.au)/\C_ w' F (o+12) (I_ x.slot.rd)/\C_ w' F (o+13) (.slice x.slot.p.sa x.slot.p.bs.length x.slot.p.cap)/\R_ w' B0 (srow_ s) 63/\R_ w' B1 ?B0 53) (by kernel_rfl) ⟨aP,aM,aN,aO,a0,a1⟩ (λt=>?_);generalize W0.drew=V0 at ab aP aM aN aO a0 a1 t|-;refine tQ_ 0 9 ?D0 rfl rfl (Or.inl ⟨by rfl,λw0 ak=>zL 63 _ rfl B0 rfl 63 (srow_ s) (0,0) _ ak.2.2.2.2.1 underlying63 rfl sSl⟩) t ?_;simp only[zf];refine tks_ 4 [(1,10,(P_ F o)),(2,11,(P_ F o)),(3,12,(P_ F (o+11))),(4,13,.agg (srow_ x.slot))] t ?_;simp only[tkf_,zf];refine zE 5 rfl (λK9 C=>?_);refine zj rfl 14 rfl 96 [.tmp 9,.tmp 13] #[63,63] rfl [?D0,.agg (srow_ x.slot)] rfl (eO_ func96) (λv w'=>v=.bool b1/\B_ V0 w') ((aH.out V0 ab).mono (λe w' k=>⟨_,k.1,rfl,k.2⟩)) ?_;rintro v V1⟨rfl,af⟩;have aS:=zm ab af;have bh:=zr af aP;have a6:=zr af aM;have ba:=zr af aN;have be:=zr af aO;have bw:=zk af a0;have bB:=zk af a1;refine C.out _ _ ⟨bh,a6,ba,be,bw,bB⟩ (λt=>?_);simp only[zf];cases b1 with
  | false=>
   refine tks_ 24 [(6,15,.bool (!false)),(7,16,.bool (!false)),(8,17,undef),(9,18,undef),(10,19,undef),(11,20,undef),(12,21,undef),(13,22,undef),(14,23,undef),(15,24,undef),(16,25,undef),(17,26,.bool true),(18,27,.bool true),(19,28,undef),(20,29,undef),(21,30,undef),(22,31,.bool true),(23,32,.bool true),(24,33,undef),(25,34,undef),(26,35,undef),(27,36,undef),(28,37,undef),(29,38,.bool true)] t ?_;simp only[tkf_,zf];clear t;refine wD_ (by kernel_rfl) ?_ _;go_wp2_with fail
   go_meet
   case rel=>exact⟨rfl,aS⟩
  | true=>
   refine tks_ 7 [(6,15,.bool (!true)),(7,16,.bool (!true)),(8,17,(P_ F o)),(9,18,(P_ F o)),(10,19,(P_ F (o+6))),(11,20,(P_ x.s 0)),(12,21,(P_ B0 0))] t ?_;simp only[tkf_,zf];refine tQ_ 13 22 (I_ s.au) rfl rfl (Or.inl ⟨by rfl,λw0 ak=>by have k0:=zb ak.2.2.2.2.1 0 _ rfl;go_simp⟩) t ?_;simp only[zf];refine zU 14 23 (P_ B0 1) rfl rfl t ?_;simp only[zf];refine tQ_ 15 24 (I_ s.rd) rfl rfl (Or.inl ⟨by rfl,λw0 ak=>by have k0:=zb ak.2.2.2.2.1 1 _ rfl;go_simp⟩) t ?_;simp only[zf];refine zE 16 rfl (λK9 C=>?_);refine zaJ (by rfl) 25 rfl 45 [.tmp 20,.tmp 22,.tmp 24] #[57,3,3] rfl [P_ x.s 0,I_ s.au,I_ s.rd] rfl (eO_ func45) (λv w'=>v=.bool b2/\B_ V1 w') ((aC.out V1 aS).mono (λe w' k=>⟨_,k.1,rfl,k.2⟩)) ?_;rintro v V2⟨rfl,ag⟩;have aT:=zm aS ag;have bi:=zr ag bh;have a7:=zr ag a6;have bb:=zr ag ba;have bf:=zr ag be;have bx:=zk ag bw;have bC:=zk ag bB;refine C.out _ _ ⟨bi,a7,bb,bf,bx,bC⟩ (λt=>?_);simp only[zf];cases b2 with
   | true=>
    refine tks_ 13 [(17,26,.bool true),(18,27,.bool true),(19,28,undef),(20,29,undef),(21,30,undef),(22,31,.bool true),(23,32,.bool true),(24,33,undef),(25,34,undef),(26,35,undef),(27,36,undef),(28,37,undef),(29,38,.bool true)] t ?_;simp only[tkf_,zf];clear t;refine wD_ (by kernel_rfl) ?_ _;go_wp2_with fail
    go_meet
    case rel=>exact⟨rfl,aT⟩
   | false=>
    refine tks_ 4 [(17,26,.bool false),(18,27,.bool false),(19,28,(P_ F o)),(20,29,I_ fr)] t ?_;simp only[tkf_,zf];refine zE 21 rfl (λK9 C=>?_);refine zaJ (by rfl) 30 rfl 78 [.tmp 28,.tmp 29] #[80,3] rfl [P_ F o,I_ fr] rfl (eO_ func78) (λv w'=>v=.bool b3/\B_ V2 w') ((aK.out V2 aT).mono (λe w' k=>⟨_,k.1,rfl,k.2⟩)) ?_;rintro v M⟨rfl,ah⟩;have aU:=zm aT ah;have bj:=zr ah bi;have a8:=zr ah a7;have bc:=zr ah bb;have bg:=zr ah bf;have bz:=zk ah bx;have bD:=zk ah bC;refine C.out _ _ ⟨bj,a8,bc,bg,bz,bD⟩ (λt=>?_);simp only[zf];cases b3 with
    | true=>
     refine tks_ 8 [(22,31,.bool true),(23,32,.bool true),(24,33,undef),(25,34,undef),(26,35,undef),(27,36,undef),(28,37,undef),(29,38,.bool true)] t ?_;simp only[tkf_,zf];clear t;refine wD_ (by kernel_rfl) ?_ _;go_wp2_with fail
     go_meet
     case rel=>exact⟨rfl,aU⟩
    | false=>
     refine tks_ 2 [(22,31,.bool false),(23,32,.bool false)] t ?_;simp only[tkf_,zf];refine tQ_ 24 33 (.agg ?B0) rfl rfl (Or.inl ⟨by rfl,λw0 ak=>zL 53 _ rfl B1 rfl 53 ?B0 (0,0) _ ak.2.2.2.2.2 underlying53 rfl sNo⟩) t ?_;simp only[zf];refine zU 25 34 (I_ fr) rfl rfl t ?_;simp only[zf];refine tQ_ 26 35 ?D0 rfl rfl (Or.inl ⟨by rfl,λw0 ak=>zL 63 _ rfl B0 rfl 63 (srow_ s) (0,0) _ ak.2.2.2.2.1 underlying63 rfl sSl⟩) t ?_;simp only[zf];refine zE 27 rfl (λK9 C=>?_);refine zaJ (by rfl) 36 rfl 97 [.tmp 33,.tmp 34,.tmp 35] #[53,3,63] rfl [.agg ?B0,I_ fr,?D0] rfl (eO_ func97) (λv w'=>v=.bool b4/\B_ M w') ((aG.out M aU).mono (λe w' k=>⟨_,k.1,rfl,k.2⟩)) ?_;rintro v V4⟨rfl,ai⟩;have bT:=zm aU ai;have bO:=zr ai bj;have bL:=zr ai a8;have bM:=zr ai bc;have bN:=zr ai bg;have b6:=zk ai bz;have b8:=zk ai bD;refine C.out _ _ ⟨bO,bL,bM,bN,b6,b8⟩ (λt=>?_);simp only[zf];refine tks_ 2 [(28,37,.bool (!b4)),(29,38,.bool (!b4))] t ?_;simp only[tkf_,zf];clear t;refine wD_ (by kernel_rfl) ?_ _;go_wp2_with fail
     go_meet
     case rel=>exact⟨by simp,bT⟩
 refine kO_ ?A0 ?_;exact Obj.cells #[I_ 0,I_ 0,O_,O_,O_] 88
 case rest=>
  obtain⟨rfl,aq⟩:=hcut;apply_assumption;clear c6 a5 a9 bd aH aC aK aG;generalize hC:(!b1||b2||b3||!b4)=cc;have a3:Hid ((s.v≠x.v.k.slot\/0<=cOf x.v.k.dag s.v.1 s.v.2.1\/fr∈x.v.vot\/No.signed ⟨A,zA z⟩ fr s.v=false)↔cc=true):=by
   obtain⟨e1,e2,e3,e4⟩:=HB.out;have bP:decide (s.v=x.v.k.slot)=b1:=e1;have bQ:decide (0<=cOf x.v.k.dag s.v.1 s.v.2.1)=b2:=e2;have bR:decide (fr∈x.v.vot)=b3:=e3;rw[<-hC,<-bP,<-bQ,<-bR,<-e4];show _↔_
   simp
   constructor
   intro g;rcases g with g|g|g|g;exact .inl (.inl (.inl g));exact .inl (.inl (.inr g));exact .inl (.inr g);exact .inr g;intro g;rcases g with((g|g)|g)|g;exact .inl g;exact .inr (.inl g);exact .inr (.inr (.inl g));exact .inr (.inr (.inr g))
  clear hC HB;obtain⟨W1,bm⟩:∃W,W=wc:=⟨_,rfl⟩;rw[<-bm]at aq|-;clear bm;have N:=h0.below aq;have n1:=bl.trans (zl.below (F:=F) (o:=o) U fc x aq);have b7:=zk aq q1;have bW:=aW.sub (h0.later aq);clear q0 q1 h0 aX aW bl aq;cases cc with
  | true=>
   have HM:Hid (x.v.hearV ⟨A,zA z⟩ fr s.v=x.v):=iP_ (a3.out.2 rfl);go_wp2_with fail
   refine bP_ (results_none rfl _ _ _) rfl ?_;exact⟨⟨_,rfl⟩,by rw[HM.out];exact⟨U,fc,x,N,n1,rfl⟩⟩
  | false=>
   have aE:Hid (¬(s.v≠x.v.k.slot\/0<=cOf x.v.k.dag s.v.1 s.v.2.1\/fr∈x.v.vot\/No.signed ⟨A,zA z⟩ fr s.v=false)):=λg=>by have:=a3.out.1 g;cases this
   obtain⟨ti,bq,br,bs,bt⟩:=info_parts zq6;have E:x.vot.length<=4:=h.inv.vot.1;have Y:=N.cell 14 _ rfl;have aQ:=zC W1 (.cells #[I_ fr] 3);have am:=N.below aQ;have aL:∀(M:World) (ac:Q_) (ad:Nat),M.ownsRow 0 3 1 (.slice ac (x.vot++[fr]).length ad) (x.vot++[fr]).length (iv (x.vot++[fr]))->zV (W1.alloc (.cells #[I_ fr] 3)) (.slice x.oa x.vot.length x.oc) M (.slice ac (x.vot++[fr]).length ad)->zal W1 U F o T fc x (M.setCell (p_ F (o+14)) (.slice ac (x.vot.length+1) ad)) { x.v with vot:=x.v.vot++[fr] }:=by
    intro M ac ad ho G;have bY:(x.vot++[fr]).length=x.vot.length+1:=by simp
    have bp:=aE.out;have bv:=am.more_vot (l':=x.vot++[fr]) G ho (h.inv.vot_ (l:=x.v.vot++[fr]) (by
     have hv:=h.inv.vot;refine⟨?_,λv b0=>?_,?_⟩
     .exact zv1 hv az (λg=>bp (.inr (.inr (.inl g))))
     .rcases mA_.1 b0 with g|g
      .exact hv.2.1 v g
      .rw[mS_.1 g];exact az
     .exact List.nodup_append.2 ⟨hv.2.2,by simp,λa ha b hb e=>bp (.inr (.inr (.inl (by rw[<-mS_.1 hb,<-e];exact ha))))⟩))
    rw[bY]at bv;exact zal.after (zl.below U fc x aQ) bv
   have HM:Hid (x.v.hearV ⟨A,zA z⟩ fr s.v=if x.vot.length+1<3 then { x.v with vot:=x.v.vot++[fr] } else if({ x.v with vot:=x.v.vot++[fr] }:Nd).proofs ⟨A,zA z⟩ ({ x.v with vot:=x.v.vot++[fr] }:Nd).cert then(({ x.v with vot:=x.v.vot++[fr] }:Nd).hearP ⟨A,zA z⟩ ({ x.v with vot:=x.v.vot++[fr] }:Nd).cert).sendAll (zdh ({ x.v with vot:=x.v.vot++[fr] }:Nd).cert)else { x.v with vot:=x.v.vot++[fr] }):=iN_ aE.out;by_cases hl:x.vot.length+1<3;rw[iP_ hl]at HM;have bo:(x.vot.length:Int)+1<3:=by omega
   rotate_left
   rw[iN_ hl]at HM;have bo:¬(x.vot.length:Int)+1<3:=by omega
   rotate_left
   all_goals
    go_upto_region 2 with fail
    go_wp2_with (at_builtin;refine wpList_append_own_at _ rfl _ _ 64 rfl 0 3 ti (I_ 0) 1 8 underlying64 bq br bs bt rfl (by decide) _ x.vot.length _ rfl (oA_ N.rvo _) (p_ W1.heap.size 0) 1 1 [I_ fr] rfl rfl (zag _ _ _) (by intro u hu;simp at hu;subst hu;rfl) (by unfold maxLen;omega) (by omega) (nZ_ _) ?_;intro v3 M ar aA _ ay;obtain⟨ac,ad,rfl⟩:=zH ar;have G:zV (W1.alloc (.cells #[I_ fr] 3)) (.slice x.oa x.vot.length x.oc) M (.slice ac (x.vot.length+1) ad):=zV.of aA ay;have ap:=G.row am.blk (λe=>(am.su _ (.inr (.inr (.inr (.inr (.inr (.inl (zp e)))))))).2 rfl);have bE:=zb ap (o+14) _ (am.cel 14 (by decide));have bF:=zd ap (o+14))
   refine bP_ (results_none rfl _ _ _) rfl ?_;exact⟨⟨_,rfl⟩,by rw[HM.out];exact zal.after n1 (aL M ac ad (by simpa[iv]using ar) (by simpa using G))⟩;obtain⟨U4,bk,d,E,n4,v4⟩:=aL M ac ad (by simpa[iv]using ar) (by simpa using G);have aD:Hid (x.v.hearV ⟨A,zA z⟩ fr s.v=if d.v.proofs ⟨A,zA z⟩ d.v.cert then(d.v.hearP ⟨A,zA z⟩ d.v.cert).sendAll (zdh d.v.cert)else d.v):=by
    show _=_;rw[v4];exact HM.out
   clear HM v4 aL aE;generalize M.setCell (p_ F (o+14)) (.slice ac (x.vot.length+1) ad)=D at E n4|-;have bA:=n4.box N b7 aR.out.2;have bX:=bW.sub (n4.sub N);clear bE bF ap G ar aA ay hl bo Y am aQ;have c7:=E.cell 7 _ rfl;have c8:=E.cell 8 _ rfl;have c9:=E.cell 9 _ rfl;have ae:=E.cell 10 _ rfl;have Y:=E.cell 14 _ rfl;obtain⟨r,bu⟩:∃r,r=zhH d.vot:=⟨_,rfl⟩;have aZ:Hid _:=bu;clear bu;have aY:Hid (r.length=d.vot.length):=by show _=_;rw[aZ.out];exact(zlY _).length_eq
   refine kV_ ?G0 ?_;exact Value.slice d.oa d.vot.length d.oc;have aI:Hid (∀(V:World) (y:Nat),B_ D V->R_ V y #[?G0] 64->Calls prog 98 #[.func (.func 147) #[] #[P_ y 0]] V λe w'=>∃m q,e=.returned (.slice m r.length q)/\w'.ownsRow D.heap.size 3 1 (.slice m r.length q) r.length (iv r)/\B_ V w'):=by
    show ∀V y,_;intro V y hV hq;refine(zr8 y d.oa d.oc d.vot E.inv.vot.1 V (ze hq) (zb hq 0 _ rfl) ((zyt E.rvo).below hV |>.up hV.size)).mono (λe w' k=>?_);obtain⟨m,q,O,N,h2⟩:=k;rw[<-aZ.out,<-aY.out]at N;rw[<-aY.out]at O;exact⟨m,q,O,zcX N hV.size,h2⟩
   have b5:Hid (r.length<=4):=by show _<=_;rw[aY.out];exact E.inv.vot.1
   have ab:=dB_ D;refine kV_ ?E0 ?_;exact Value.slice d.own.ba d.own.bl.length d.own.bc;refine kV_ ?F0 ?_;exact Value.slice d.own.pa d.own.pl.length d.own.pc;refine wR_ (S:=λw'=>C_ w' F (o+7) (I_ d.own.au)/\C_ w' F (o+8) (I_ d.own.rd)/\C_ w' F (o+9) ?E0/\C_ w' F (o+10) ?F0/\C_ w' F (o+14) ?G0) (by kernel_rfl) ⟨zr ab c7,zr ab c8,zr ab c9,zr ab ae,zr ab Y⟩ (λt=>?_);generalize D.drew=V0 at ab  t ⊢;refine tks_ 8 [(0,55,(P_ F o)),(1,56,(P_ F o)),(2,57,(P_ F (o+7))),(3,58,.agg (hrow_ d.own)),(4,59,(P_ F o)),(5,60,(P_ F o)),(6,61,(P_ F (o+14))),(7,62,.slice d.oa d.vot.length d.oc)] t ?_;simp only[tkf_,zf];clear t;refine zno (λGO an aj=>?_);refine znp (λA0 L=>?_);have cg:Hid (∀(V:World) (y:Nat) (m:Q_) (q:Nat) (f:Nat),B_ D V->(V.ownsRow D.heap.size 3 1 (.slice m r.length q) r.length (iv r))->(D.heap.size<=f)->(R_ V f #[I_ d.own.au,I_ d.own.rd,?E0,?F0,.slice m r.length q] 88)->GO 0 #[true,true,true,true,true,true,true,true,true,true,true,true,true] ((((A0.put (some 63) (.func (.func 147) #[] #[P_ y 0])).put (some 64) (.slice m r.length q)).put (some 65) (.agg #[I_ d.own.au,I_ d.own.rd,?E0,?F0,.slice m r.length q])).put (some 8) (P_ f 0)) V):=by
    show ∀V,_;intro V y m q f B o1 Z tB;refine an.out _ _ _ _ ?_;rw[<-L.out]
    try simp only[zf]
    refine wD_ (by kernel_rfl) ?_ _;clear GO an aj;have h5:=E.below B;have n5:=n4.trans (zl.below (F:=F) (o:=o) U4 bk d B);have bn:za7 (zq U4 V) ⟨d.own.au,d.own.rd,d.own.ba,d.own.bc,d.own.bl,d.own.pa,d.own.pc,d.own.pl,m,q,r⟩:=by
     obtain⟨za,zc,e,_,hi,az⟩:=zeW o1;cases e;exact⟨h5.hdr.hat,hi.hid (λsb so e=>E.bnd.new (az sb so e)),by have:=b5.out;show r.length<=_;omega⟩
    have bS:Hid (U4 f=false):=E.bnd.new Z;have aB:Hid ((⟨d.own.au,d.own.rd,d.own.ba,d.own.bc,d.own.bl,d.own.pa,d.own.pc,d.own.pl,m,q,r⟩:Ct).v=d.v.cert):=by show _=_;rw[aZ.out];rfl
    have HP:=zlU d ⟨d.own.au,d.own.rd,d.own.ba,d.own.bc,d.own.bl,d.own.pa,d.own.pc,d.own.pl,m,q,r⟩ A z R X V U4 F o T bk h5 bn E.ownU.1 E.ownU.2 (bX.sub (E.later B));rw[aB.out]at HP;have aF:Hid (d.v.hearP ⟨A,zA z⟩ d.v.cert=if d.v.proofs ⟨A,zA z⟩ d.v.cert then d.v.log (zdh d.v.cert) { d.v.k with dag:=d.v.k.dag++[d.v.cert] } else d.v):=rfl;have a4:Hid (d.v.proofs ⟨A,zA z⟩ d.v.cert=true->d.v.cert.f=0):=by
     intro g;rw[znl]at g;simp only[Bool.and_eq_true,dE_]at g;exact(zg5 g.1.1).1
    generalize d.v.proofs ⟨A,zA z⟩ d.v.cert=pb at HP aF aD a4;have q5:=zk B bA;have d0:=zb tB 0 _ rfl;have d1:=zb tB 1 _ rfl;have d2:=zb tB 2 _ rfl;have d3:=zb tB 3 _ rfl;have d4:=zb tB 4 _ rfl;have l0:=zb q5 0 _ rfl;have l1:=zb q5 1 _ rfl;clear c7 c8 c9 ae Y o1 aI bA;cases pb with
    | false=>
     go_wp2_with fail
     refine HP.mono ?_;rintro _ w6⟨rfl,U6,aw,x6,h6,n6,v6⟩;dsimp only;clear HP;have aJ:Hid _:=v6;clear v6;go_wp2_with fail
     go_end0;exact⟨⟨_,rfl⟩,U6,aw,x6,h6,(n1.trans n5).trans n6,by rw[aD.out,aJ.out,aF.out];rfl⟩
    | true=>
     go_wp2_with fail
     refine HP.mono ?_;rintro _ w6⟨rfl,U6,aw,x6,h6,n6,v6⟩;dsimp only;clear HP d0 d1 d2 d3 d4 l0 l1;have aJ:Hid _:=v6;clear v6;have t6:=n6.box h5 tB bS.out;have bU:=bn.sub (n6.sub h5);have d0:=zb t6 0 _ rfl;have d1:=zb t6 1 _ rfl;have d2:=zb t6 2 _ rfl;have d3:=zb t6 3 _ rfl;have d4:=zb t6 4 _ rfl;have HO:=zmB ⟨d.own.au,d.own.rd,d.own.ba,d.own.bc,d.own.bl,d.own.pa,d.own.pc,d.own.pl,m,q,r⟩ w6;go_wp2_with fail
     refine HO.mono ?_;rintro _ w7⟨rfl,aV⟩;dsimp only;clear HO d0 d1 d2 d3 d4;have h7:=h6.below aV;have bV:zap d.own.au d.own.rd d.own.bl d.own.pl r=0:=by
      have e1:=Ct.f_v ⟨d.own.au,d.own.rd,d.own.ba,d.own.bc,d.own.bl,d.own.pa,d.own.pc,d.own.pl,m,q,r⟩;rw[aB.out,a4.out trivial]at e1;exact e1
     have HS:=zh7 x6 (zef ⟨d.own.au,d.own.rd,d.own.ba,d.own.bc,d.own.bl,d.own.pa,d.own.pc,d.own.pl,m,q,r⟩) w7 U6 F o T aw h7 (ztX (c:=⟨d.own.au,d.own.rd,d.own.ba,d.own.bc,d.own.bl,d.own.pa,d.own.pc,d.own.pl,m,q,r⟩) (bU.sub (h6.later aV)) bV E.ownU.1 E.ownU.2);have bK:Hid ((zef ⟨d.own.au,d.own.rd,d.own.ba,d.own.bc,d.own.bl,d.own.pa,d.own.pc,d.own.pl,m,q,r⟩).c=zdh d.v.cert):=by show _=_;rw[zx9,aB.out]
     rw[bK.out]at HS;go_wp2_with fail
     refine HS.mono ?_;rintro e w8⟨⟨v,O⟩,U8,fc8,x8,h8,n8,v8⟩;subst O;dsimp only;clear HS;have bJ:Hid _:=v8;clear v8;go_wp2_with fail
     go_end0;exact⟨⟨_,rfl⟩,U8,fc8,x8,h8,(((n1.trans n5).trans n6).trans (zl.below (F:=F) (o:=o) U6 aw x6 aV)).trans n8,by rw[aD.out,bJ.out,aJ.out,aF.out];rfl⟩
   have bH:Hid (∀(V:World) (y:Nat) (m:Q_) (q:Nat) (f:Nat),B_ D V->(V.ownsRow D.heap.size 3 1 (.slice m r.length q) r.length (iv r))->(R_ V f #[I_ 0,I_ 0,O_,O_,O_] 88)->(D.heap.size<=f)->GO 1 #[true,true,true,true,true,true,true,true,true,true,true,true,false] ((((A0.put (some 63) (.func (.func 147) #[] #[P_ y 0])).put (some 64) (.slice m r.length q)).put (some 65) (.agg #[I_ d.own.au,I_ d.own.rd,?E0,?F0,.slice m r.length q])).put (some 8) (P_ f 0)) V):=by
    show ∀V,_;intro V y m q f B o1 I Z;refine an.out _ _ _ _ ?_;rw[<-L.out]
    try simp only[zf]
    refine zE 12 rfl (λK C=>?_);have av:=zc2 o1 I (by decide);have ch:=zb I 0 _ rfl;have cm:=zd I 0;have ci:=zb I 1 _ rfl;have cn:=zd I 1;have cj:=zb I 2 _ rfl;have co:=zd I 2;have ck:=zb I 3 _ rfl;have cp:=zd I 3;have cl:=zb I 4 _ rfl;have cq:=zd I 4;refine kW_ ?H0 ?_;exact((((V.setCell (p_ f 0) (I_ d.own.au)).setCell (p_ f 1) (I_ d.own.rd)).setCell (p_ f 2) ?E0).setCell (p_ f 3) ?F0).setCell (p_ f 4) (.slice m r.length q);refine zX rfl rfl ?H0 (by go_simp) ?_;have j:=(((((B.setCell (p:=p_ f 0) Z (I_ d.own.au)).setCell (p:=p_ f 1) Z (I_ d.own.rd)).setCell (p:=p_ f 2) Z ?E0).setCell (p:=p_ f 3) Z ?F0).setCell (p:=p_ f 4) Z (.slice m r.length q));have bI:(?H0).heap[f]? = some (.cells #[I_ d.own.au,I_ d.own.rd,?E0,?F0,.slice m r.length q] 88 (0,0)):=by simpa using(hS_ _ _ 4 _ _ (.slice m r.length q) (hS_ _ _ 3 _ _ ?F0 (hS_ _ _ 2 _ _ ?E0 (hS_ _ _ 1 _ _ (I_ d.own.rd) (hS_ _ _ 0 _ _ (I_ d.own.au) I)))))
    have au:=(zaQ (zaQ (zaQ (zaQ (zaQ o1 f 0 (I_ d.own.au) av) f 1 (I_ d.own.rd) av) f 2 ?E0 av) f 3 ?F0 av) f 4 (.slice m r.length q) av);generalize ?H0=J at j bI au|-;refine C.out _ _ ⟨zr j c7,zr j c8,zr j c9,zr j ae,zr j Y⟩ (λt=>?_);clear t;have h:=cg.out J y m q f j au Z bI;rw[<-L.out]at h
    (try simp only[zf]at h)
    (try simp only[List.setIfInBounds_toArray,List.set_cons_zero,List.set_cons_succ])
    exact aj.out _ _ _ _ h
   have cf:Hid (∀(V:World) (y:Nat) (m:Q_) (q:Nat),B_ D V->(V.ownsRow D.heap.size 3 1 (.slice m r.length q) r.length (iv r))->GO 2 #[true,true,true,true,true,true,true,true,true,true,true,false,false] (((A0.put (some 63) (.func (.func 147) #[] #[P_ y 0])).put (some 64) (.slice m r.length q)).put (some 65) (.agg #[I_ d.own.au,I_ d.own.rd,?E0,?F0,.slice m r.length q])) V):=by
    show ∀V,_;intro V y m q B o1;refine an.out _ _ _ _ ?_;rw[<-L.out]
    try simp only[zf]
    refine zE 11 rfl (λK C=>?_);refine zy rfl 8 rfl (P_ V.heap.size 0) (V.alloc ?A0) (by go_simp) ?_;have H:=zC V ?A0;have j:=zm B H;have aa:=hN_ V ?A0;have al:=B.size;generalize hW':V.alloc ?A0=J at H j aa|-;clear hW';obtain⟨f,ao⟩:∃f,f=V.heap.size:=⟨_,rfl⟩;rw[<-ao]at aa al|-;have ax:=H;clear ao;refine C.out _ _ ⟨zr j c7,zr j c8,zr j c9,zr j ae,zr j Y⟩ (λt=>?_);clear t;have h:=bH.out J y m q f j (zw o1 ax) aa al;rw[<-L.out]at h
    (try simp only[zf]at h)
    (try simp only[zf])
    exact aj.out _ _ _ _ h
   have bG:Hid (∀(V:World) (y:Nat) (f:Nat),B_ D V->(R_ V y #[?G0] 64)->(R_ V f #[I_ 0,I_ 0,O_,O_,O_] 88)->(D.heap.size<=f)->GO 3 #[true,true,true,true,true,true,true,true,true,false,false,true,false] ((A0.put (some 63) (.func (.func 147) #[] #[P_ y 0])).put (some 8) (P_ f 0)) V):=by
    show ∀V,_;intro V y f B qs I Z;refine an.out _ _ _ _ ?_;rw[<-L.out]
    try simp only[zf]
    refine zE 9 rfl (λK C=>?_);refine zj rfl 64 rfl 98 [.tmp 63] #[163] rfl [.func (.func 147) #[] #[P_ y 0]] rfl (eO_ func98) (λv w'=>∃m q,v=.slice m r.length q/\w'.ownsRow D.heap.size 3 1 (.slice m r.length q) r.length (iv r)/\B_ V w') ((aI.out V y B qs).mono (λe w2 k=>by obtain⟨m,q,O,N,h2⟩:=k;exact⟨_,O,m,q,rfl,N,h2⟩)) ?_;rintro v J⟨m,q,rfl,au,hb⟩;have j:=zm B hb;refine C.out _ _ ⟨zr j c7,zr j c8,zr j c9,zr j ae,zr j Y⟩ (λt=>?_);simp only[zf];refine zU 10 65 (.agg #[I_ d.own.au,I_ d.own.rd,?E0,?F0,.slice m r.length q]) rfl rfl t ?_;simp only[zf];clear t;have h:=bH.out J y m q f j au (zk hb I) Z;rw[<-L.out]at h
    (try simp only[zf]at h)
    (try simp only[zf])
    exact aj.out _ _ _ _ h
   have ce:Hid (∀(V:World) (y:Nat),B_ D V->(R_ V y #[?G0] 64)->GO 4 #[true,true,true,true,true,true,true,true,true,false,false,false,false] (A0.put (some 63) (.func (.func 147) #[] #[P_ y 0])) V):=by
    show ∀V,_;intro V y B qs;refine an.out _ _ _ _ ?_;rw[<-L.out]
    try simp only[zf]
    refine rY_ (rs:=[9,11]) (by kernel_rfl) (by simp) (rA_ rfl (λK C=>?_) (rA_ rfl (λK C=>?_) rN_));refine zj rfl 64 rfl 98 [.tmp 63] #[163] rfl [.func (.func 147) #[] #[P_ y 0]] rfl (eO_ func98) (λv w'=>∃m q,v=.slice m r.length q/\w'.ownsRow D.heap.size 3 1 (.slice m r.length q) r.length (iv r)/\B_ V w') ((aI.out V y B qs).mono (λe w2 k=>by obtain⟨m,q,O,N,h2⟩:=k;exact⟨_,O,m,q,rfl,N,h2⟩)) ?_;rintro v J⟨m,q,rfl,au,hb⟩;have j:=zm B hb
    rotate_left
    refine zy rfl 8 rfl (P_ V.heap.size 0) (V.alloc ?A0) (by go_simp) ?_;have H:=zC V ?A0;have j:=zm B H;have aa:=hN_ V ?A0;have al:=B.size;generalize hW':V.alloc ?A0=J at H j aa|-;clear hW';obtain⟨f,ao⟩:∃f,f=V.heap.size:=⟨_,rfl⟩;rw[<-ao]at aa al|-;have ax:=H;clear ao
    rotate_left
    all_goals refine C.out _ _ ⟨zr j c7,zr j c8,zr j c9,zr j ae,zr j Y⟩ (λt=>?_)
    simp only[zf];refine zU 10 65 (.agg #[I_ d.own.au,I_ d.own.rd,?E0,?F0,.slice m r.length q]) rfl rfl t ?_;simp only[zf];clear t;have h:=cf.out J y m q j au
    rotate_left
    clear t;have h:=bG.out J y f j ((ax.block _ (ze qs)).trans qs) aa al
    rotate_left
    all_goals
     rw[<-L.out]at h
     (try simp only[zf]at h)
     (try simp only[zf])
     exact aj.out _ _ _ _ h
   have cd:Hid (∀(V:World) (f:Nat),B_ D V->(R_ V f #[I_ 0,I_ 0,O_,O_,O_] 88)->(D.heap.size<=f)->GO 4 #[true,true,true,true,true,true,true,true,false,false,false,true,false] (A0.put (some 8) (P_ f 0)) V):=by
    show ∀V,_;intro V f B I Z;refine an.out _ _ _ _ ?_;rw[<-L.out]
    try simp only[zf]
    refine zE 8 rfl (λK C=>?_);refine zj rfl 63 rfl 99 [.tmp 62] #[64] rfl [?G0] rfl (eO_ func99) (λv w'=>∃y,v=.func (.func 147) #[] #[P_ y 0]/\R_ w' y #[?G0] 64/\B_ V w') ((zo2 d.oa d.vot.length d.oc V).mono (λe w2 k=>⟨_,k.1,V.heap.size,rfl,by rw[k.2];exact hN_ _ _,by rw[k.2];exact(bR_ _ _).alloc (nR_ _) _⟩)) ?_;rintro v J⟨y,rfl,a2,hb⟩;have j:=zm B hb;refine C.out _ _ ⟨zr j c7,zr j c8,zr j c9,zr j ae,zr j Y⟩ (λt=>?_);clear t;have h:=bG.out J y f j a2 (zk hb I) Z;rw[<-L.out]at h
    (try simp only[zf]at h)
    (try simp only[zf])
    exact aj.out _ _ _ _ h
   have b9:Hid (∀(V:World),B_ D V->GO 5 #[true,true,true,true,true,true,true,true,false,false,false,false,false] A0 V):=by
    show ∀V,_;intro V  B;refine an.out _ _ _ _ ?_;rw[<-L.out]
    try simp only[zf]
    refine rY_ (rs:=[8,11]) (by kernel_rfl) (by simp) (rA_ rfl (λK C=>?_) (rA_ rfl (λK C=>?_) rN_));refine zj rfl 63 rfl 99 [.tmp 62] #[64] rfl [?G0] rfl (eO_ func99) (λv w'=>∃y,v=.func (.func 147) #[] #[P_ y 0]/\R_ w' y #[?G0] 64/\B_ V w') ((zo2 d.oa d.vot.length d.oc V).mono (λe w2 k=>⟨_,k.1,V.heap.size,rfl,by rw[k.2];exact hN_ _ _,by rw[k.2];exact(bR_ _ _).alloc (nR_ _) _⟩)) ?_;rintro v J⟨y,rfl,a2,hb⟩;have j:=zm B hb
    rotate_left
    refine zy rfl 8 rfl (P_ V.heap.size 0) (V.alloc ?A0) (by go_simp) ?_;have H:=zC V ?A0;have j:=zm B H;have aa:=hN_ V ?A0;have al:=B.size;generalize hW':V.alloc ?A0=J at H j aa|-;clear hW';obtain⟨f,ao⟩:∃f,f=V.heap.size:=⟨_,rfl⟩;rw[<-ao]at aa al|-;have ax:=H;clear ao
    rotate_left
    all_goals
     refine C.out _ _ ⟨zr j c7,zr j c8,zr j c9,zr j ae,zr j Y⟩ (λt=>?_);clear t
    have h:=ce.out J y j a2
    rotate_left
    have h:=cd.out J f j aa al
    rotate_left
    all_goals
     rw[<-L.out]at h
     (try simp only[zf]at h)
     (try simp only[zf])
     exact aj.out _ _ _ _ h
   exact b9.out V0 ab
variable {w':World}{ls:List Ct}
structure zv2 (w w':World)(e:Ending)(U:Nat->Bool)(x:NM)(rd:Int):Prop where
 out:∃ra rc ls,e=.returned (.slice ra (List.length ls) rc)/\zI ls=zjU x.v.k.dag rd/\zba (zq U w') ra ls/\(∀c∈ls,za7 (zq U w') c/\c.v.f=0/\U8L c.bl/\U8L c.pl)/\ls.length<=8/\B_ w w'
theorem zba.hsub (h:zba w sa ls)(k:Sub w w'):zba w' sa ls:=by
 refine⟨?_⟩;rcases h.cells with h|⟨c,d,e,h⟩;exact .inl h;exact .inr ⟨c,d,e,λj b=>⟨k.cell _ _ (h j b).1,k.cell _ _ (h j b).2.1,k.cell _ _ (h j b).2.2.1,k.cell _ _ (h j b).2.2.2.1,k.cell _ _ (h j b).2.2.2.2⟩⟩
theorem zuh (n:Nd)(fr:Int)(l:List CV)(i:Nat)(b:i<l.length):n.tell fr (l.take (i+1))=(n.tell fr (l.take i)).tellC fr l[i]:=by
 rw[tS_ b,Nd.tell,List.foldl_append]
 rfl
theorem zui (x:NM)(fr rd:Int)(w:World)(U:Nat->Bool)(F o:Nat)(T:TypeId)(q:X_)(h:zo w U F o T q x)(ad:0<=fr/\fr<4)
  (I:Calls prog 103 #[P_ F o,I_ rd] w λe w'=>zv2 w w' e U x rd) :
  Calls prog 58 #[P_ F o,I_ fr,I_ rd] w λe w'=>(∃v,e=.returned v)/\zal w U F o T q x w' (x.v.hearW fr rd):=by
 go_in;go_wp2_with fail
 refine I.mono ?_;rintro e A⟨ra,rc,b,l,aa,af,ac,h8,X⟩;subst l;dsimp only;clear I;have g:=h.below X;have z:=zl.below (F:=F) (o:=o) U q x X;have ag:Hid (x.v.hearW fr rd=x.v.tell fr (zI b)):=by show _=_;rw[aa];rfl
 have ah:Hid _:=ac;have ai:Hid _:=af;clear aa ac af;go_wp2_with fail
 go_loopw [12] (λj wr=>∃(k:Nat) (d:Nat->Bool) (p:X_) (f:NM),k<=b.length/\j=I_ k/\zo wr d F o T p f/\zl U d w wr F o q p x f/\Hid (f.v=x.v.tell fr ((zI b).take k))/\Hid (Sub (zq U A) (zq d wr))) (λj _=>b.length-(intOf j).toNat)
 case atStart=>exact⟨0,U,q,x,nZ_ _,rfl,g,z,rfl,Sub.refl _⟩
 case round=>
  obtain⟨k,d,p,f,hk,rfl,g,z,hv,y⟩:=hrel;by_cases hlt:k<b.length
  .have au:(k:Int)<b.length:=by omega
   obtain⟨sb,so,an,c0,c1,c2,c3,c4⟩:=((ai.out.hsub y.out).hsub (zK d wr)).at k hlt;obtain⟨O,e2,e3,e4⟩:=ah.out (b[k]) (gM_ hlt);have ab:k<(zI b).length:=by rw[zbv];exact hlt
   have ae:(zI b)[k]=(b[k]).v:=by simp[zI]
   have M:Hid _:=zuh x.v fr (zI b) k ab;rw[ae,<-hv.out]at M;have Y:za7 (zq d wr) (b[k]):=O.sub y.out;rw[an];clear ab ae O;generalize b[k]=c at*;have al:zap c.au c.rd c.bl c.pl c.vl=0:=by rw[Ct.f_v];exact e2
   have r:=zC wr (.cells (crow_ c) 88);have m:=hN_ wr (.cells (crow_ c) 88);have V:Hid (d wr.heap.size=false):=g.bnd.new (nR_ _);go_upto_region 3 with fail
   generalize wr.alloc (.cells (crow_ c) 88)=N at r m|-;generalize wr.heap.size=B at m V|-;have t:=g.below r;have n2:=z.trans (zl.below (F:=F) (o:=o) d p f r);have Z:=Y.sub (g.later r);have ao:Hid (Sub (zq U A) (zq d N)):=y.out.trans (g.later r);clear c0 c1 c2 c3 c4 Y y;have C:=zb m 0 _ rfl;have D:=zb m 1 _ rfl;have E:=zb m 2 _ rfl;have G:=zb m 3 _ rfl;have H:=zne f c fr N d F o T p t Z.hat ad;go_wp2_with fail
   refine H.mono ?_;rintro e w3⟨⟨v,l⟩,U3,fc3,x3,h3,n3,v3⟩;subst l;dsimp only;clear H C D E G;have s:=n3.box t m V.out;have am:=Z.sub (n3.sub t);have ap:Hid (Sub (zq U A) (zq U3 w3)):=ao.out.trans (n3.sub t);have aj:Hid _:=v3;clear v3;have C:=zb s 0 _ rfl;have D:=zb s 1 _ rfl;have E:=zb s 2 _ rfl;have G:=zb s 3 _ rfl;have a4:=zb s 4 _ rfl;have J:=zmB c w3;go_wp2_with fail
   refine J.mono ?_;rintro _ w4⟨rfl,u⟩;dsimp only;clear J C D E G a4;have R:=h3.below u;have L:=zeN x3 (zef c) fr w4 U3 F o T fc3 R (ztX (am.sub (h3.later u)) al e3 e4) ad;go_wp2_with fail
   refine L.mono ?_;rintro e w5⟨⟨v,l⟩,U5,fc5,x5,h5,n5,v5⟩;subst l;dsimp only;clear L;have ar:=((n2.trans n3).trans (zl.below (F:=F) (o:=o) U3 fc3 x3 u)).trans n5;have aq:Hid (Sub (zq U A) (zq U5 w5)):=(ap.out.trans (h3.later u)).trans (n5.sub R);have ak:Hid (x5.v=x.v.tell fr ((zI b).take (k+1))):=by
    show _=_;rw[v5,M.out,aj.out]
    rfl
   clear v5;go_wp2_with fail
   go_roundw
   case rel=>exact⟨k+1,U5,fc5,x5,by omega,by go_num,h5,ar,ak,aq⟩
   case measure=>simp[intOf];omega
  obtain rfl:k=b.length:=by omega
  have HE:Hid (f.v=x.v.tell fr (zI b)):=by
   show _=_;rw[hv.out,tL_ (by rw[zbv];exact nR_ _)]
  go_wp2_with fail
  go_end0;exact⟨⟨_,rfl⟩,d,p,f,g,z,by rw[ag.out];exact HE.out⟩
def zhO:Prop:=∀(x:NM) (rd:Int) (w:World) (U:Nat->Bool) (F o:Nat) (T:TypeId) (fc:X_),zo w U F o T fc x->Calls prog 103 #[P_ F o,I_ rd] w λe w'=>zv2 w w' e U x rd
theorem zlc {m:MV}(h:GM w m):(0<=m.m.fr/\m.m.fr<4)/\((m.m.ki=1/\zbk m.m.bau m.m.bnu m.ss=0)\/(m.m.ki=2/\zO m.m.hau m.m.hrd m.bl m.pl=0)\/(m.m.ki=3/\zbf m.m.sau m.m.srd m.m.sdn=0)\/(m.m.ki=4/\zap m.m.cau m.m.crd m.cbl m.cpl m.vl=0)\/m.m.ki=5):=by
 have b:=h.ok;unfold zP at b
 split at b
 cases b
 rename_i g
 simp only[not_or,Decidable.not_not]at g;refine⟨g.1,?_⟩
 split at b
 rename_i e;exact absurd b e
 rename_i e
 have e:m.car=0:=by simpa using e
 unfold MV.car zD at e;by_cases k1:m.m.ki=1;rw[iP_ k1]at e;exact .inl ⟨k1,e⟩;rw[iN_ k1]at e;by_cases k2:m.m.ki=2;rw[iP_ k2]at e;exact .inr (.inl ⟨k2,e⟩);rw[iN_ k2]at e;by_cases k3:m.m.ki=3;rw[iP_ k3]at e;exact .inr (.inr (.inl ⟨k3,e⟩));rw[iN_ k3]at e;by_cases k4:m.m.ki=4;rw[iP_ k4]at e;exact .inr (.inr (.inr (.inl ⟨k4,e⟩)));rw[iN_ k4]at e;by_cases k5:m.m.ki=5;exact .inr (.inr (.inr (.inr k5)));rw[iN_ k5]at e;cases e
theorem zyu {n:Nd}{o:No}{m:MC}(k:m.ki=1):n.hear o m=n.hearB m.b:=iP_ k
theorem zyv {n:Nd}{o:No}{m:MC}(k:m.ki=2):n.hear o m=n.hearO o m.h:=by
 unfold Nd.hear;rw[iN_ (by omega),iP_ k]
theorem zyw {n:Nd}{o:No}{m:MC}(k:m.ki=3):n.hear o m=n.hearV o m.fr m.s:=by
 unfold Nd.hear;rw[iN_ (by omega),iN_ (by omega),iP_ k]
theorem zyx {n:Nd}{o:No}{m:MC}(k:m.ki=4):n.hear o m=n.hearP o m.ct:=by
 unfold Nd.hear;rw[iN_ (by omega),iN_ (by omega),iN_ (by omega),iP_ k]
theorem zyy {n:Nd}{o:No}{m:MC}(k:m.ki=5):n.hear o m=n.hearW m.fr m.ro:=by
 unfold Nd.hear;rw[iN_ (by omega),iN_ (by omega),iN_ (by omega),iN_ (by omega),iP_ k]
theorem zv3 (aa:zhO)(x:NM)(m:MV)(g:Int)(f:List Sg)(t:Q_)(u:Nat)(w:World)(U:Nat->Bool)(F o:Nat)(T:TypeId)(r:X_)(h:zo w U F o T r x)(j:GM (zq U w) m)(Y:zdj (zq U w) t u f) :
  Calls prog 37 #[P_ F o,.agg (mrow_ m.m),.agg #[I_ g,.slice t f.length u]] w λe w'=>(∃v,e=.returned v)/\zal w U F o T r x w' (x.v.hear ⟨g,zA f⟩ m.c):=by
 refine kO_ ?A0 ?_;exact Obj.cells #[I_ g,.slice t f.length u] 53;refine kO_ ?B0 ?_;exact Obj.cells (mrow_ m.m) 90;have G:B_ w ((w.alloc ?B0).alloc ?A0):=((bR_ _ _).alloc (nR_ _) _).alloc (by simp) _;have b:=hX_ w ?B0 ?A0;have M:=hY_ w ?B0 ?A0;go_in;go_upto_region 1 with fail
 generalize ((w.alloc ?B0).alloc ?A0)=c at G b M|-;have E:=h.below G;have H:=j.sub (h.later G);have V:=Y.sub (h.later G);have J:=zl.below (F:=F) (o:=o) U r x G;generalize w.heap.size+1=B1 at M|-;generalize w.heap.size=B at b|-;have l:=zb b 2 _ rfl;have l0:=zb M 0 _ rfl;have l1:=zb M 1 _ rfl;obtain⟨X,Z⟩:=zlc j;clear G Y;rcases Z with⟨k,I⟩|⟨k,I⟩|⟨k,I⟩|⟨k,I⟩|k;replace l:C_ c B 2 (I_ 1):=by rw[<-k];exact l
 have p:Hid (x.v.hear ⟨g,zA f⟩ m.c=x.v.hearB (⟨m.m.bau,m.m.bnu,m.ss⟩:BW)):=zyu k;have L:=zb b 3 _ rfl;have O:=zb b 4 _ rfl;have R:C_ c B 5 (.slice m.m.bta m.ss.length m.m.btc):=by rw[<-j.lies.at'.e1];exact zb b 5 _ rfl
 have d:=zlR x ⟨⟨m.m.bau,m.m.bnu,m.ss⟩,m.m.bta,m.m.btc⟩ c U F o T r E H.shp.b I;dsimp only at d
 rotate_left
 replace l:C_ c B 2 (I_ 2):=by rw[<-k];exact l
 have p:Hid (x.v.hear ⟨g,zA f⟩ m.c=x.v.hearO ⟨g,zA f⟩ (⟨m.m.hau,m.m.hrd,m.m.hba,m.m.hbc,m.bl,m.m.hpa,m.m.hpc,m.pl,none,0,[]⟩:Ct).v):=zyv k;have ac:(⟨m.m.hau,m.m.hrd,m.m.hba,m.m.hbc,m.bl,m.m.hpa,m.m.hpc,m.pl,none,0,[]⟩:Ct).v.hf=0:=by rw[<-Ct.hf_v];exact I
 have L:=zb b 6 _ rfl;have O:=zb b 7 _ rfl;have R:C_ c B 8 (.slice m.m.hba m.bl.length m.m.hbc):=by rw[<-j.lies.at'.e2];exact zb b 8 _ rfl
 have a3:C_ c B 9 (.slice m.m.hpa m.pl.length m.m.hpc):=by rw[<-j.lies.at'.e3];exact zb b 9 _ rfl
 have d:=zr2 x (⟨m.m.hau,m.m.hrd,m.m.hba,m.m.hbc,m.bl,m.m.hpa,m.m.hpc,m.pl,none,0,[]⟩:Ct) g f t u c U F o T r E H.shp.h ac V;dsimp only [hrow_]at d
 rotate_left
 replace l:C_ c B 2 (I_ 3):=by rw[<-k];exact l
 have p:Hid (x.v.hear ⟨g,zA f⟩ m.c=x.v.hearV ⟨g,zA f⟩ m.m.fr (⟨m.m.sau,m.m.srd,⟨m.m.sda,m.m.sdc,m.ds⟩⟩:Sl).v):=zyw k;have f0:=zb b 0 _ rfl;have L:=zb b 10 _ rfl;have O:=zb b 11 _ rfl;have R:C_ c B 12 (.slice m.m.sda m.ds.length m.m.sdc):=by rw[<-j.lies.dn];exact zb b 12 _ rfl
 have d:=zsa x m.m.fr (⟨m.m.sau,m.m.srd,⟨m.m.sda,m.m.sdc,m.ds⟩⟩:Sl) g f t u c U F o T r E H.lies.dig j.u8.sd X V;dsimp only [srow_]at d
 rotate_left
 replace l:C_ c B 2 (I_ 4):=by rw[<-k];exact l
 have p:Hid (x.v.hear ⟨g,zA f⟩ m.c=x.v.hearP ⟨g,zA f⟩ (⟨m.m.cau,m.m.crd,m.m.cba,m.m.cbc,m.cbl,m.m.cpa,m.m.cpc,m.cpl,m.m.cva,m.m.cvc,m.vl⟩:Ct).v):=zyx k;have L:=zb b 13 _ rfl;have O:=zb b 14 _ rfl;have R:C_ c B 15 (.slice m.m.cba m.cbl.length m.m.cbc):=by rw[<-j.lies.at'.e4];exact zb b 15 _ rfl
 have a3:C_ c B 16 (.slice m.m.cpa m.cpl.length m.m.cpc):=by rw[<-j.lies.at'.e5];exact zb b 16 _ rfl
 have a4:C_ c B 17 (.slice m.m.cva m.vl.length m.m.cvc):=by rw[<-j.lies.at'.e6];exact zb b 17 _ rfl
 have ab:za7 (zq U c) (⟨m.m.cau,m.m.crd,m.m.cba,m.m.cbc,m.cbl,m.m.cpa,m.m.cpc,m.cpl,m.m.cva,m.m.cvc,m.vl⟩:Ct):=⟨H.shp.c,H.lies.at'.vot,H.lies.at'.s6⟩;have d:=zlU x (⟨m.m.cau,m.m.crd,m.m.cba,m.m.cbc,m.cbl,m.m.cpa,m.m.cpc,m.cpl,m.m.cva,m.m.cvc,m.vl⟩:Ct) g f t u c U F o T r E ab j.u8.cb j.u8.cp V;dsimp only [crow_]at d
 rotate_left
 replace l:C_ c B 2 (I_ 5):=by rw[<-k];exact l
 have p:Hid (x.v.hear ⟨g,zA f⟩ m.c=x.v.hearW m.m.fr m.m.ro):=zyy k;have f0:=zb b 0 _ rfl;have L:=zb b 18 _ rfl;have d:=zui x m.m.fr m.m.ro c U F o T r E X (aa x m.m.ro c U F o T r E)
 rotate_left
 all_goals
  clear k b;go_wp2_with fail
  refine d.mono ?_
 rintro e N⟨⟨v,z⟩,q,s,D,y,A,C⟩
 rotate_left
 rintro e N⟨⟨v,z⟩,q,s,D,y,A,C⟩
 rotate_left
 rintro e N⟨⟨v,z⟩,q,s,D,y,A,C⟩
 rotate_left
 rintro e N⟨z,q,s,D,y,A,C⟩
 rotate_left
 rintro e N⟨⟨v,z⟩,q,s,D,y,A,C⟩
 rotate_left
 all_goals
  subst z;dsimp only;clear d;go_wp2_with fail
  go_end0;exact⟨⟨_,rfl⟩,q,s,D,y,J.trans A,by rw[p.out,C]⟩
theorem zld (m:FM)(i:Int)(w:World)(U:Nat->Bool)(F:Nat)(b:X_)(h:zJ w U F b m) :
  Calls prog 31 #[P_ F 0,I_ i] w λe w'=>e=.returned (.bool (decide (i=m.bad)))/\w'=w:=by
 have c:=h.cell 76 h.c76;have e:(i == m.bad)=decide (i=m.bad):=rfl;go_in;go_wp2_with fail
 go_ret;exact⟨by rfl,rfl⟩
theorem zj1 (m:FM)(i:Nat)(j:i<4)(w:World)(U:Nat->Bool)(F:Nat)(g:X_)(h:zJ w U F g m) :
  Calls prog 22 #[P_ F 0,I_ (i:Int)] w λe w'=>e=.returned (.bool (m.v.runs i))/\w'=w:=by
 have c:=zld m i w U F g h;have l:=(h.nd i j).cell 1 _ rfl;have d:Hid (m.v.runs i=(!decide ((i:Int)=m.bad)&&(m.x i).up)):=by
  show _=_;rw[Fl.runs,FM.node_v m i j];show(decide ((i:Int)≠m.bad)&&(m.x i).up)=_
  simp
 have p:(i:Int)<4:=by omega
 generalize decide ((i:Int)=m.bad)=b at c d;generalize (m.x i).up=u at l d;go_in;cases b with
 | true=>
  go_wp2_with fail
  refine c.mono ?_;rintro _ o⟨rfl,rfl⟩;dsimp only;clear c;go_wp2_with fail
  go_ret;exact⟨by rw[d.out];rfl,rfl⟩
 | false=>
  go_wp2_with fail
  refine c.mono ?_;rintro _ o⟨rfl,rfl⟩;dsimp only;clear c;go_wp2_with fail
  go_ret;exact⟨by rw[d.out];rfl,rfl⟩
theorem zbP.nu {o:No}{a b:Nd}(s:zbP o a b):b.nu=a.nu:=by
 rcases s with⟨d,m,c,_,rfl⟩|⟨b,_,_,rfl⟩|⟨_,_,rfl⟩|⟨_,_,rfl⟩|⟨_,_,_,_,_,rfl⟩|⟨_,_,_,_,rfl⟩|⟨_,_,rfl⟩|⟨_,rfl⟩;exact zmu _ _ _
 all_goals rfl
theorem zxs {o:No}{n:Nd}{m:MC}(b:0<=m.fr/\m.fr<4):(n.hear o m).nu=n.nu:=zad.keeps (P:=λx=>x.nu=n.nu) (λ_ _ s h=>(zbP.nu s).trans h) (zfT o n m b) rfl
theorem zxt (n:Nd):n.work.nu=n.nu:=zad.keeps (P:=λx=>x.nu=n.nu) (λ_ _ s h=>(zbP.nu s).trans h) (zgV ⟨0,[]⟩ n) rfl
theorem zle (M:zhO)(m:FM)(i:Nat)(o:i<4)(a:MV)(w:World)(U:Nat->Bool)(F:Nat)(s:X_)(h:zJ w U F s m)(D:GM (zq U w) a) :
  Calls prog 28 #[P_ F 0,I_ (i:Int),.agg (mrow_ a.m)] w λe w'=>(∃v,e=.returned v)/\zaa w U F w' (m.v.come i a.c):=by
 have j:=zC w (.cells (mrow_ a.m) 90);have u:=hN_ w (.cells (mrow_ a.m) 90);go_in;go_upto_region 1 with fail
 generalize w.alloc (.cells (mrow_ a.m) 90)=I at j u|-;have c:=h.below j;have O:=D.sub (h.later j);have A:Hid (U w.heap.size=false):=h.bnd.new (nR_ _);generalize w.heap.size=B at u A|-;have g:=zj1 m i o I U F s c;have q:Hid (m.v.come i a.c=if m.v.runs i then m.v.set i ((m.x i).v.hear ⟨m.bad,zA m.gs⟩ a.c)else m.v):=by
  show _=_;rw[Fl.come,FM.node_v m i o]
  rfl
 have R:Hid (((m.x i).v.hear ⟨m.bad,zA m.gs⟩ a.c).nu=i):=by
  show _=_;rw[zxs (zlc D).1];exact h.nu i o
 have ac:(i:Int)<4:=by omega
 generalize m.v.runs i=b at g q;cases b with
 | false=>
  go_wp2_with fail
  refine g.mono ?_;rintro _ p⟨rfl,rfl⟩;dsimp only;clear g;go_wp2_with fail
  go_end0;exact⟨⟨_,rfl⟩,by rw[q.out];exact zaa.quiet h j⟩
 | true=>
  go_wp2_with fail
  refine g.mono ?_;rintro _ p⟨rfl,rfl⟩;dsimp only;clear g;go_upto_region 2 with fail
  have aa:=c.cell 76 c.c76;have ab:=c.cell 77 c.c77;have E:Hid (∀V:World,B_ p V->Calls prog 37 #[P_ F (i*19),.agg (mrow_ a.m),.agg #[I_ m.bad,.slice m.ga m.gs.length m.gc]] V λe w'=>∃v,e=.returned v/\zaa V U F w' (m.v.come i a.c)):=by
   show ∀V,_;intro V C;have d:=c.below C;refine(zv3 M (m.x i) a m.bad m.gs m.ga m.gc V U F (i*19) 72 s (d.nd i o) (O.sub (c.later C)) d.sg).mono (λe w' k=>?_);obtain⟨⟨v,l⟩,k⟩:=k;refine⟨v,l,?_⟩;rw[q.out];exact d.acts o k R.out
  have d:=dB_ p;have y:=dQ_ u;refine wR_ (S:=λw'=>R_ w' B (mrow_ a.m) 90) (by kernel_rfl) y (λf=>?_);generalize p.drew=r at d y f|-;refine tks_ 5 [(0,9,(P_ F 0)),(1,10,I_ (i:Int)),(2,11,(P_ F 0)),(3,12,(P_ F 0)),(4,13,(P_ F (i*19)))] f ?_;simp only[tkf_,zf];refine tQ_ 5 14 (.agg (mrow_ a.m)) rfl rfl (Or.inl ⟨by rfl,λw0 N=>zL 90 _ rfl B rfl 90 (mrow_ a.m) (0,0) _ N underlying90 rfl sMsg'⟩) f ?_;simp only[zf];refine tks_ 3 [(6,15,(P_ F 0)),(7,16,(P_ F 0)),(8,17,(P_ F 76))] f ?_;simp only[tkf_,zf];refine zE 9 rfl (λG t=>?_);have ad:=(c.below d).cell 76 c.c76;have ae:=(c.below d).cell 77 c.c77;refine zy rfl 18 rfl (.agg #[I_ m.bad,.slice m.ga m.gs.length m.gc]) r (by go_simp) ?_;refine t.out _ _ f (λf=>?_);simp only[zf];refine zE 10 rfl (λG t=>?_);refine zj rfl 19 rfl 37 [.tmp 13,.tmp 14,.tmp 18] #[69,90,53] rfl [P_ F (i*19),.agg (mrow_ a.m),.agg #[I_ m.bad,.slice m.ga m.gs.length m.gc]] rfl (eO_ func37) (λv w'=>zaa r U F w' (m.v.come i a.c)) ((E.out r d).mono (λe w' k=>k)) ?_;rintro v Z⟨H,J,T,L,z,Y⟩;have X:=z.box y A.out;refine t.out _ _ X (λf=>?_);simp only[zf];clear f;refine wD_ (by kernel_rfl) ?_ _;go_wp2_with fail
  go_end0;exact⟨⟨_,rfl⟩,zaa.after ((FTo.below U j).trans (FTo.below U d)) ⟨H,J,T,L,z,Y⟩⟩
variable {ss:Z_}{qs pl bl cbl cpl:List zi}{bs:L_}
theorem zyz (l:L_)(sh:Bool)(k:Nat)(h:zZ l):∀b∈dgD l sh k,zZ b:=by
 induction k with
 | zero=>intro b c;cases c
 | succ k ih=>
  intro b c;rcases mA_.1 c with g|g;exact ih b g;rw[mS_.1 g];exact(zn6 l sh k h).tkT
theorem zlZ {s:St}(h:zZ s.1):∀b∈dgs s,zZ b:=zyz _ _ _ (zZ.tkL h)
theorem zj2 {s:St}(h:zZ s.1):zZ (nx n s).1:=zZ.tkL h
theorem zq7 {s:St}(h:zZ s.1):zZ (dgS s).1:=zn6 _ _ _ (zZ.tkL h)
theorem zzf {s:St}(h:zZ s.1):(∀b∈(pM s).bl,zZ b)/\(∀b∈(pM s).pl,zZ b)/\(∀b∈(pM s).cbl,zZ b)/\(∀b∈(pM s).cpl,zZ b)/\zZ (pM s).ds:=by
 have no:∀b∈([]:List (L_)),zZ b:=λb f=>by cases f
 have d:zZ ([]:L_):=λb f=>by cases f
 have c:zZ (nx 3 (nx 1 (nx 1 (nx 1 (nx 1 s))))).1:=zj2 (zj2 (zj2 (zj2 (zj2 h))));unfold pM
 split
 exact⟨no,no,no,no,d⟩
 split
 exact⟨zlZ c,zlZ (zq7 c),no,no,d⟩
 split
 exact⟨no,no,no,no,zZ.tkT c⟩
 split
 exact⟨no,no,zlZ c,zlZ (zq7 c),d⟩;exact⟨no,no,no,no,d⟩
theorem zxu {x:MV}{s:St}(h:x.c=pM s)(g:zZ s.1):U8M x.bl x.pl x.cbl x.cpl x.ds:=by
 obtain⟨a,b,c,d,e⟩:=zzf g;rw[<-h]at a b c d e;exact⟨λp f=>a p.bs (mM_.2 ⟨p,f,rfl⟩),λp f=>b p.bs (mM_.2 ⟨p,f,rfl⟩),λp f=>c p.bs (mM_.2 ⟨p,f,rfl⟩),λp f=>d p.bs (mM_.2 ⟨p,f,rfl⟩),e⟩
theorem zo5 {m:Msg}{b f c d:List zi}(g:zbm b bl)(j:zbm f pl)(l:zbm c cbl)(o:zbm d cpl):zD m ss b f c d vl=zD m ss bl pl cbl cpl vl:=by
 unfold zD;rw[zfk g j,ziL vl l o]
theorem zv4 {x:MV}(h:MAt w x):zP x.c.mv.m x.c.mv.car=zP x.m x.car:=by
 have c:=h.at'.e1;have d:=h.at'.e2;have f:=h.at'.e3;have g:=h.at'.e4;have j:=h.at'.e5;have l:=h.at'.e6;have b:=h.dn;have o:x.c.mv.car=x.car:=by
  have k:=zo5 (m:=x.c.mv.m) (ss:=x.ss) (vl:=x.vl) (zcH x.bl) (zcH x.pl) (zcH x.cbl) (zcH x.cpl);refine Eq.trans k ?_;unfold MV.car zD;rw[show x.c.mv.m.sdn=x.m.sdn from b.symm]
  rfl
 have p:zaq (zab x.c.mv.m)=zaq (zab x.m):=by
  unfold zaq zab;simp only[MC.mv,MV.c];by_cases k1:x.m.ki=1;simp[k1,d,f,g,j,l,b];by_cases k2:x.m.ki=2;simp[k2,c,g,j,l,b];by_cases k3:x.m.ki=3;simp[k3,c,d,f,g,j,l];by_cases k4:x.m.ki=4;simp[k4,c,d,f,b];simp[k1,k2,k3,k4,c,d,f,g,j,l,b]
 unfold zP;rw[o,p]
 rfl
theorem zi7 {a:Q_}(h:zbT w a qs)(d:qs=[]->a=none):∀c f,a=some (p_ c f)->c<w.heap.size:=by
 intro c f e;rcases h.cells with g|⟨j,l,b,g⟩;rw[d g]at e;cases e;rw[e]at b
 injection b with b
 injection b with e1 e2
 by_cases hq:qs=[];rw[d hq]at e;cases e;have:=World.block_lt_of_cell? _ _ (g 0 (List.length_pos_iff.2 hq));rw[e1];exact this
theorem zuj {x:MV}(h:MAt w x)(c:zhr x)(d:zP x.m x.car=0):MSh w x:=by
 refine⟨⟨h.at'.txs,c.bt.1,c.bt.2.1,c.bt.2.2.1,?_⟩,⟨h.at'.bat,h.at'.par,zi7 h.at'.bat.parts c.hb,zi7 h.at'.par.parts c.hp⟩,⟨h.at'.cbat,h.at'.cpar,zi7 h.at'.cbat.parts c.cb,zi7 h.at'.cpar.parts c.cp⟩⟩;intro l m e;have e:x.m.bta=some (p_ l m):=e;by_cases hk:x.m.ki=1;have j:x.ss≠[]:=λg=>by
  have b:x.car=0:=by
   unfold zP at d
   split at d
   cases d
   split at d
   rename_i k;exact absurd d k
   rename_i k;simpa using k
  unfold MV.car zD at b;rw[iP_ hk]at b;rw[g]at b;unfold zbk at b
  split at b
  cases b;rw[iP_ (.inl (by decide))]at b;cases b
 rcases h.at'.txs.cells with g|⟨o,p,f,g⟩;exact absurd g j;rw[e]at f
 injection f with f
 injection f with e1 e2
 have:=World.block_lt_of_cell? _ _ (g 0 (List.length_pos_iff.2 j));rw[e1];exact this;rw[c.bt.2.2.2 hk]at e;cases e
theorem zsb (w:World)(s:ByteArray)(c:s.size<=100000):zg (Lib.bytesWorld w 5 s) (some (p_ w.heap.size 0)) (grownCap w s.size 0 5) (tb s):=by
 refine⟨by rw[zeK];exact grownCap_ge w s.size 0 _,grownCap_le_maxLen w s.size 0 _ (by unfold maxLen;omega),.inr ⟨_,_,rfl⟩,(λe=>by cases e),.inr ⟨w.heap.size,0,rfl,λj b=>?_⟩⟩;rw[zeK]at b;rw[zA_,Lib.bytesWorld_cell w _ s j b];simp[tb,List.getD,b]
theorem zsc (w:World)(e:TypeId)(s:ByteArray):B_ w (Lib.bytesWorld w e s):=⟨rfl,rfl,rfl,by rw[Lib.bytesWorld_size];omega,λk b=>Lib.bytesWorld_at_old w e s k b⟩
theorem zyA (t:ByteArray):tbL t=tb t:=by rw[tbL,tb,ByteArray.toList_eq]
theorem zuk (t:ByteArray):zZ (tb t):=by
 intro x c;obtain⟨b,_,rfl⟩:=mM_.1 c;have:=b.toNat_lt;omega
theorem zyB {e:Ending}(h:zi6 w w' e bs)(r:zZ bs)(p:∀b,w.heap.size<=b->U b=false) :
  (∃E:Int,E≠0/\e=.returned (.tuple #[.agg mz_,I_ E])/\(if zbt bs=0/\zP (pM (bs,false)).mv.m (pM (bs,false)).mv.car=0 then some (pM (bs,false))else none)=none) \/
  ∃x:MV,e=.returned (.tuple #[.agg (mrow_ x.m),I_ 0])/\GM (zq U w') x/\(if zbt bs=0/\zP (pM (bs,false)).mv.m (pM (bs,false)).mv.car=0 then some (pM (bs,false))else none)=some x.c:=by
 rcases h.out with⟨g,d⟩|⟨g,x,j,l,o,q⟩;exact .inl ⟨_,g,d,iN_ (λk=>g k.1)⟩;have f:=zv4 l;rw[j.1]at f;rcases q with⟨c,d⟩|⟨c,d⟩;refine .inr ⟨x,d,?_,?_⟩;have m:=l.hid (o.mono (λk f=>p k f));exact⟨m,c,zxu j.1 r,zuj m j.2 c⟩;rw[iP_ ⟨g,by rw[f];exact c⟩,j.1];exact .inl ⟨_,c,d,iN_ (λk=>c (by rw[<-f];exact k.2))⟩
theorem zul (N:zhO)(m:FM)(i:Nat)(X:i<4)(t:ByteArray)(ht:t.size<=4000)(w:World)(U:Nat->Bool)(F:Nat)(G:X_)(h:zJ w U F G m) :
  Calls prog 20 #[P_ F 0,I_ (i:Int),.string t] w λe w'=>(∃v,e=.returned v)/\zaa w U F w' (m.v.forge i t):=by
 have I:=λY:World=>Lib.run_convert_string_bytes (P:=prog) Y 9 61 5 t underlying9 underlying61 underlying5;have o:=zj0 (tb t) (some (p_ w.heap.size 0)) t.size (grownCap w t.size 0 5) (Lib.bytesWorld w 5 t) (zeK t).symm (zsb w t (by omega)) (zuk t) (by rw[zeK];omega);have z:=zsc w 5 t;have q:Hid (m.v.forge i t=match zh2 t with|some x=>if m.bad=-1 then m.v else m.v.come i x|none=>m.v):=rfl;have p:Hid (zh2 t=if zbt (tb t)=0/\zP (pM (tb t,false)).mv.m (pM (tb t,false)).mv.car=0 then some (pM (tb t,false))else none):=by show _=_;rw[zh2,zyA]
 go_in;go_wp2_with fail
 generalize Lib.bytesWorld w 5 t=Z at o z|-;refine o.mono ?_;rintro e c s;have R:=s.below;have r:=zm z R;have M:=h.below r;rcases zyB (U:=U) s (zuk t) (λb O=>h.bnd.new (nT_ z.size O))with⟨E,H,g,j⟩|⟨x,g,T,j⟩;refine kW_ ?A0 ?_;exact c.alloc (.cells mz_ 90)
 .subst g;dsimp only;have d:Hid (m.v.forge i t=m.v):=by show _=_;rw[q.out,p.out,j]
  have aa:(E == 0)=false:=by simpa using H
  clear o I q p j H s;have l:=hN_ c (.cells mz_ 90);have f:=zbs c mz_ mz_ 90;go_upto_region 1 with(refine wS_ rfl 90 _ _ rfl c.heap.size mz_ rfl rfl 90 _ l sMsg' rfl (by simp[Value.oneCell']) ?_)
  generalize (?A0).setRow c.heap.size mz_=D at f|-;go_wp2_with fail
  go_end0;exact⟨⟨_,rfl⟩,by rw[d.out];exact zaa.quiet h (r.trans (f.mono r.size))⟩
 subst g;dsimp only;have d:Hid (m.v.forge i t=if m.bad=-1 then m.v else m.v.come i x.c):=by show _=_;rw[q.out,p.out,j]
 clear o I q p j s;have l:=hN_ c (.cells mz_ 90);have f:=zbs c mz_ (mrow_ x.m) 90;have B:=sH_ _ _ _ (mrow_ x.m) _ _ l;go_upto_region 1 with(refine wS_ rfl 90 _ _ rfl c.heap.size (mrow_ x.m) rfl rfl 90 _ l sMsg' rfl (by simp[Value.oneCell']) ?_)
 generalize (?A0).setRow c.heap.size (mrow_ x.m)=D at f B|-;clear l;have A:=zm r f;have y:=h.below A;have V:=T.sub (M.later f);have L:=y.cell 76 y.c76;generalize c.heap.size=J at B|-;by_cases hbad:m.bad=-1
 .have u:Hid (m.v.forge i t=m.v):=by show _=_;rw[d.out,iP_ hbad]
  rw[hbad]at L;clear hbad d;go_wp2_with fail
  go_end0;exact⟨⟨_,rfl⟩,by rw[u.out];exact zaa.quiet h A⟩
 have u:Hid (m.v.forge i t=m.v.come i x.c):=by show _=_;rw[d.out,iN_ hbad]
 have ab:(m.bad != -1)=true:=by simpa using hbad
 have C:=zle N m i X x D U F G y V;clear hbad d;go_wp2_with (refine wL_ rfl 90 _ rfl J rfl 90 (mrow_ x.m) (0,0) _ B underlying90 rfl sMsg' ?_)
 refine C.mono ?_;rintro e w3⟨⟨v,g⟩,hF⟩;subst g;dsimp only;clear C;go_wp2_with fail
 go_end0;exact⟨⟨_,rfl⟩,by rw[u.out];exact zaa.after (FTo.below U A) hF⟩
variable {ms:List MV}
theorem zrK.at (h:zrK w sa ms)(k:Nat)(d:k<ms.length):∃b c,sa=some (p_ b c)/\w.rangeAt b (c+k*19) (zcR (ms[k]).m):=by
 rcases h with h|⟨b,c,e,h⟩;rw[h]at d;simp at d;exact⟨b,c,e,h k d⟩
theorem zsd (f:Fl)(l:List MC)(k:Nat)(b:k<l.length):comes f (l.take (k+1))=(comes f (l.take k)).come (l[k]).tt (l[k]):=by
 rw[tS_ b,comes,List.foldl_append]
 rfl
theorem zwJ {m:MV}(h:GM w m):∃i:Nat,i<4/\m.m.tt=i:=by
 have:=(zhI h.ok).2;exact⟨m.m.tt.toNat,by omega,by omega⟩
theorem zv5 (ah:zhO)(m:FM)(w:World)(U:Nat->Bool)(F:Nat)(fc:X_)(h:zJ w U F fc m) :
  Calls prog 18 #[P_ F 0] w λe w'=>(∃v,e=.returned v)/\zaa w U F w' m.v.flow:=by
 have ae:=h.cell 78 h.c78;have af:=h.free 78;obtain⟨ag,p,D,O,C,s⟩:=h.none_aw;have H:Hid (m.v.flow=comes ({ m with aa:=none,ac:=0,aw:=[] }:FM).v (m.aw.map MV.c)):=rfl;have an:=h.law;go_in;go_wp2_with fail
 generalize w.setCell (p_ F 78) (O_)=I at p D O s|-;generalize ({ m with aa:=none,ac:=0,aw:=[] }:FM)=f at p H;generalize ai:zdx U (ob m.aa)=l at p D C s;clear ai ae af;generalize m.aw=b at*;generalize m.aa=sa at*;generalize m.ac=sc at*;have ab:Hid (∀q,(Value.slice sa b.length sc).ownBlock=some q->l q=false):=λq e=>C q (zp e);have Y:Hid (∀a∈b,GM (zq l I) a):=s;clear C s;go_loopw [14] (λj wr=>∃(k:Nat) (d:Nat->Bool) (o:X_) (c:FM),k<=b.length/\j=I_ k/\zJ wr d F o c/\FTo l d I wr/\Hid (c.v=comes f.v ((b.map MV.c).take k))) (λj _=>b.length-(intOf j).toNat)
 case atStart=>exact⟨0,l,ag,f,nZ_ _,rfl,p,FTo.refl _ _,rfl⟩
 case round=>
  obtain⟨k,d,o,c,hk,rfl,y,t,V⟩:=hrel;by_cases hlt:k<b.length
  .have ao:(k:Int)<b.length:=by omega
   have R:=t.owns O ab.out;obtain⟨ap,am,e9,_,_,_,L⟩:=zfm R;cases e9;obtain⟨sb,so,ak,T⟩:=L.at k hlt;subst ak;have z:=(Y.out (b[k]) (gM_ hlt)).sub t.sub;have M:k<(b.map MV.c).length:=by simpa using hlt
   have N:(b.map MV.c)[k]=(b[k]).c:=by simp
   have u:Hid _:=zsd f.v (b.map MV.c) k M;rw[N,<-V.out]at u;clear L M N R;generalize b[k]=a at*;obtain⟨i,hi,A⟩:=zwJ z;have Z:Hid (comes f.v ((b.map MV.c).take (k+1))=c.v.come i a.c):=by
    show _=_;rw[u.out];show c.v.come a.m.tt a.c=_;rw[A]
   have E:=hN_ wr (.cells mz_ 90);have r:=zbs wr mz_ (mrow_ a.m) 90;have g:=sH_ _ _ _ (mrow_ a.m) _ _ E;clear u;go_upto_region 5 with(first|refine wpList_load_mid rfl 90 _ rfl sb (so+k*19) rfl (zcR a.m) _ T underlying90 rfl sMsg' ?_|refine wS_ rfl 90 _ _ rfl wr.heap.size (mrow_ a.m) rfl rfl 90 _ E sMsg' rfl (by simp[Value.oneCell']) ?_)
   generalize ((wr.alloc (.cells mz_ 90)).setRow wr.heap.size (mrow_ a.m))=J at r g|-;clear E T;have h5:=y.below r;have aj:=z.sub (y.later r);generalize wr.heap.size=B at g|-;have t1:C_ J B 1 (I_ (i:Int)):=by rw[<-A];exact zb g 1 _ rfl
   clear A z;have G:=zle ah c i hi a J d F o h5 aj;go_wp2_with (refine wL_ rfl 90 _ rfl B rfl 90 (mrow_ a.m) (0,0) _ g underlying90 rfl sMsg' ?_)
   refine G.mono ?_;rintro e w6⟨⟨v,he⟩,U6,fc6,m6,h6,n6,v6⟩;subst he;dsimp only;clear G t1 g;have al:=(t.trans (FTo.below d r)).trans n6;have ad:Hid (m6.v=comes f.v ((b.map MV.c).take (k+1))):=by show _=_;rw[v6,Z.out]
   clear v6;go_wp2_with fail
   go_roundw
   case rel=>exact⟨k+1,U6,fc6,m6,by omega,by go_num,h6,al,ad⟩
   case measure=>simp[intOf];omega
  obtain rfl:k=b.length:=by omega
  have X:Hid (c.v=comes f.v (b.map MV.c)):=by
   show _=_;rw[V.out,tL_ (by simp)]
  clear hlt;go_wp2_with fail
  go_end0;exact⟨⟨_,rfl⟩,by rw[H.out];exact⟨d,o,c,y,D.trans t,X.out⟩⟩
variable {F o:Nat}{fc fc':X_}{x x':NM}{U':Nat->Bool}{w0:World}
structure zzF (w w':World)(e:Ending)(U:Nat->Bool)(x:NM)(keep:Int):Prop where
 out:∃(U':Nat->Bool) (L:Nat) (fcL:X_) (y:NM),e=.returned (.agg y.cs.toArray)/\zo w' U' L 0 69 fcL y/\y.v=x.v.crash keep/\(∀b,b<w.heap.size->U' b=U b)/\(∀b,y.S b->w.heap.size<=b)/\B_ w w'
theorem znq (n:zl U U' w w' F o fc fc' x x')(h:∀b,x.S b->w0.heap.size<=b)(c:w0.heap.size<=w.heap.size):∀b,x'.S b->w0.heap.size<=b:=λb e=>by
 rcases n.new b e with g|g
 .exact h b g
 .omega
theorem zl.belowN (n:zl U U' w w' F o fc fc' x x')(h:∀b,x.S b->w0.heap.size<=b)(f:w0.heap.size<=F)(c:B_ w0 w):B_ w0 w':=
 ⟨n.os.trans c.os,n.tape.trans c.tape,n.output.trans c.output,nT_ c.size n.size,λb d=>(n.block b (nL_ d c.size) (λe=>by have:=h b e;omega) (λe=>by omega)).trans (c.block b d)⟩
theorem zo6 (n:Nd)(l:List MC)(k:Nat)(b:k<l.length):(l.take (k+1)).foldl Nd.recall n=((l.take k).foldl Nd.recall n).recall (l[k]):=by
 rw[tS_ b,List.foldl_append]
 rfl
theorem zse (x:NM)(keep:Int)(hk:0<=keep/\keep<=400000)(w:World)(U:Nat->Bool)(F o:Nat)(T:TypeId)(fc:X_)(h:zo w U F o T fc x) :
  Calls prog 34 #[P_ F o,I_ keep] w λe w'=>zzF w w' e U x keep:=by
 have hA:=zC w (.cells #[I_ 0,.bool false,I_ 0,O_,O_,O_,.pointer none,I_ 0,I_ 0,O_,O_,I_ 0,I_ 0,O_,O_,O_,I_ 0,O_,I_ 0] 69);have q0:=hN_ w (.cells #[I_ 0,.bool false,I_ 0,O_,O_,O_,.pointer none,I_ 0,I_ 0,O_,O_,I_ 0,I_ 0,O_,O_,O_,I_ 0,O_,I_ 0] 69);have aK:(zv x.ms).length<=400000/\x.syn<=(zv x.ms).length:=by
  have hT:(zv x.ms).length=(zae x.v.recs).length:=by rw[zes];rfl
  rw[hT];exact⟨h.inv.tape,h.inv.syn⟩
 have bt:zfP (zv x.ms).length x.syn keep=0:=by
  rw[zfP,iP_ (zcr.2 ⟨aK.1,by omega,by omega⟩),iN_ (by omega)]
 have bu:zfh (zv x.ms).length x.syn keep=zdT (zae x.v.recs).length x.syn keep:=by
  rw[zfh,iP_ ⟨zcr.2 ⟨aK.1,by omega,by omega⟩,by omega⟩,zes]
  rfl
 have bB:zdT (zae x.v.recs).length x.syn keep<=(zv x.ms).length:=by
  have hT:(zv x.ms).length=(zae x.v.recs).length:=by rw[zes];rfl
  rw[hT];exact zoE (by omega)
 have az:Hid (x.v.kept keep=zeo (zdT (zae x.v.recs).length x.syn keep) (x.ms.map MV.c)):=rfl;have ao:=zvK (λm B=>⟨(h.ems m B).1,(h.ems m B).2.1⟩) (λm B=>(h.ems m B).2.2);go_in;go_upto_region 1 with fail
 generalize w.alloc (.cells #[I_ 0,.bool false,I_ 0,O_,O_,O_,.pointer none,I_ 0,I_ 0,O_,O_,I_ 0,I_ 0,O_,O_,O_,I_ 0,O_,I_ 0] 69)=W0 at hA q0|-;have h0:=h.below hA;have c0:C_ W0 F o (I_ x.nu):=h0.cell 0 _ rfl;have HN:=zoP x.nu W0;go_wp2_with fail
 refine HN.mono ?_;rintro e L⟨s,V,qs,aR,am⟩;subst V;dsimp only [zbZ];clear HN c0;have aG:=zm hA am;have qz:=hN_ L (.cells #[I_ 0,.bool false,I_ 0,O_,O_,O_,.pointer none,I_ 0,I_ 0,O_,O_,I_ 0,I_ 0,O_,O_,O_,I_ 0,O_,I_ 0] 69);have N:=zbs L #[I_ 0,.bool false,I_ 0,O_,O_,O_,.pointer none,I_ 0,I_ 0,O_,O_,I_ 0,I_ 0,O_,O_,O_,I_ 0,O_,I_ 0] #[I_ x.nu,.bool false,I_ 1,O_,O_,O_,(P_ s 0),I_ 0,I_ 0,O_,O_,I_ 0,I_ 0,O_,O_,O_,I_ 0,O_,I_ 0] 69;have qL:=sH_ _ _ _ #[I_ x.nu,.bool false,I_ 1,O_,O_,O_,(P_ s 0),I_ 0,I_ 0,O_,O_,I_ 0,I_ 0,O_,O_,O_,I_ 0,O_,I_ 0] _ _ qz;go_upto_region 2 with(refine wS_ rfl 69 _ _ rfl L.heap.size #[I_ x.nu,.bool false,I_ 1,O_,O_,O_,(P_ s 0),I_ 0,I_ 0,O_,O_,I_ 0,I_ 0,O_,O_,O_,I_ 0,O_,I_ 0] rfl rfl 69 _ qz zhM rfl (by simp[Value.oneCell']) ?_)
 generalize (L.alloc (.cells #[I_ 0,.bool false,I_ 0,O_,O_,O_,.pointer none,I_ 0,I_ 0,O_,O_,I_ 0,I_ 0,O_,O_,O_,I_ 0,O_,I_ 0] 69)).setRow L.heap.size #[I_ x.nu,.bool false,I_ 1,O_,O_,O_,(P_ s 0),I_ 0,I_ 0,O_,O_,I_ 0,I_ 0,O_,O_,O_,I_ 0,O_,I_ 0]=W2 at N qL|-;clear qz;have aH:=zm aG N;have bM:=ze qs;have aU:=(N.block _ bM).trans qs;have r0:=(N.block _ (nL_ (ze q0) am.size)).trans (zk am q0);have h2:=h.below aH;have aS:=aG.size;have cB:=nT_ hA.size aR;generalize bf:L.heap.size=d at qL bM aS|-;have cs:w.heap.size<d:=by rw[<-bf];exact nL_ (ze q0) am.size
 have ct:=nL_ (ze q0) aR;clear bf q0 qs aR N am h0;have b6:=h2.cell 15 _ rfl;have b7:=h2.cell 16 _ rfl;have Z:=znN (zv x.ms) x.ba _ x.bc x.syn keep W2 rfl (h2.tap.sub (zK _ _)) (by omega) (by omega) (by omega);rw[bt,bu]at Z;generalize cf:zdT (zae x.v.recs).length x.syn keep=t at Z az bB;clear cf bt bu;have bn:((zv x.ms).take t).length=t:=by rw[lT9_];omega
 have aD:Hid (zZ ((zv x.ms).take t)):=λz hz=>ao z (List.mem_of_mem_take hz);have ag:Hid (((zv x.ms).take t).length=t):=bn;have ap:Hid (t<=400000):=by show _<=_;omega
 clear bn ao bB aK;generalize br:(zv x.ms).take t=bs at Z aD ag;have aZ:Hid _:=br;clear br;go_wp2_with fail
 refine Z.mono ?_;rintro e w3⟨ra,rc,V,bN,ce,ac⟩;subst V;dsimp only;clear Z b6 b7;have be:=zm aH ac;refine kO_ ?B0 ?_;exact Obj.cells #[.slice ra bs.length rc,I_ (t:Int)] 66;have aa:=zC w3 ?B0;have qT:=hN_ w3 ?B0;go_upto_region 3 with fail
 generalize w3.alloc ?B0=W4 at aa qT|-;have aI:=zm be aa;have ar:=nL_ (ze qL) ac.size;have cb:=nL_ ar aa.size;have ch:s<W4.heap.size:=by omega
 have cm:=(aa.block _ ar).trans (zk ac qL);have cn:=(aa.block _ (nL_ (ze aU) ac.size)).trans (zk ac aU);have r4:=(aa.block _ (nL_ (ze r0) ac.size)).trans (zk ac r0);have cc:=ar;generalize cd:w3.heap.size=f at qT cc|-;have bL:=bN.below aa;clear cd ac aa bN qL aU r0 ar h2 be aH aG;have t0:=zb qT 0 _ rfl;have t1:=zb qT 1 _ rfl;have HR:=zr6 bs ra _ rc (t:Int) W4 rfl bL aD.out (by have:=ag.out;have:=ap.out;omega);have bJ:zbO bs.length (t:Int)=true:=zcr.2 ⟨by have:=ag.out;have:=ap.out;omega,by omega,by have:=ag.out;omega⟩;go_wp2_with fail
 refine HR.mono ?_;rintro e X aL;have ai:=aL.below;rcases aL.out with⟨g,_⟩|⟨_,v,ys,r,I,J,bh,aN,bH,an,av,aj,aO,V⟩;rw[bJ]at g;cases g;subst V;dsimp only;clear HR bJ aL t0 t1 bL ce;have ck:(zv ys).length<=t:=by
  have u:=ag.out;rw[aN,lP_]at u;omega
 have bF:min (t:Int) ((zv ys).length:Int)=((zv ys).length:Int):=by omega
 rw[bF];obtain⟨bC,bv⟩:=zxn (w0:=X) (ms:=x.ms) (ys:=ys) (r:=r) (k:=t) (λm B=>⟨(h.ems m B).1,(h.ems m B).2.1⟩) (λy hy=>⟨(av y hy).1,(av y hy).2.1⟩) (by rw[aZ.out];exact aN) bH;have a9:Hid (∀y∈ys,U8M y.bl y.pl y.cbl y.cpl y.ds):=by
  show ∀_,_;intro y hy;obtain⟨m,B,hc⟩:=bv y hy;exact zxm hc (h.ems m B).2.2
 have a2:Hid (x.v.kept keep=ys.map MV.c):=by show _=_;rw[az.out,bC]
 have bX:Hid _:=bh;have aq:Hid _:=av;have bP:Hid (ys.length<=200000):=by
  show _<=_;have u:=zni ys (λy _=>zfW y);have e2:=ap.out;omega
 have cj:Hid ((zv ys).length<=400000):=by show _<=_;have:=ap.out;omega
 clear bh av aN bH bC bv bF ck az aZ aD ag;have ak:=zk ai qT;have bQ:=(ai.block _ cb).trans cm;have bR:=(ai.block _ ch).trans cn;have r5:=zk ai r4;have e0:=zb ak 0 _ rfl;have u:=zb ak 1 _ rfl;have f0:=zd ak 0;have f1:=zd ak 1;have cu:=ze qT;have aM:f≠d/\f≠s/\f≠w.heap.size:=by omega
 obtain⟨aX,aY,hv⟩:=zH an;subst hv;go_upto_region 6 with fail
 have ca:=zm aI ai;have bl:w.heap.size<=f:=by omega
 refine kW_ ?A0 ?_;exact(X.setCell (p_ f 0) (.slice I (zv ys).length J)).setCell (p_ f 1) (I_ ((zv ys).length:Int));refine kV_ ?C0 ?_;exact Value.slice I (zv ys).length J;refine kV_ ?D0 ?_;exact I_ ((zv ys).length:Int);have ax:(?A0).heap[f]? = some (.cells #[?C0,?D0] 66 (0,0)):=by simpa using hS_ _ _ 1 _ _ ?D0 (hS_ _ _ 0 _ _ ?C0 ak)
 have ad:∀q,q≠f->(?A0).heap[q]? = X.heap[q]?:=λq hq=>(hO_ _ (p_ f 1) q _ hq).trans (hO_ _ (p_ f 0) q _ hq);have H:B_ w ?A0:=(ca.setCell bl _).setCell bl _;have bk:X.heap.size<=(?A0).heap.size:=by simp
 generalize (X.setCell (p_ f 0) ?C0).setCell (p_ f 1) ?D0=M at ax ad H bk|-;have aT:=(ad d (λe=>aM.1 e.symm)).trans bQ;have aV:=(ad s (λe=>aM.2.1 e.symm)).trans bR;have r6:=(ad w.heap.size (λe=>aM.2.2 e.symm)).trans r5;clear ak bQ bR r5 qT e0 u f0 f1;have cv:=ai.size;have R:∃E:Nat->Bool,(∀b,E b=true↔U b=true\/b=d\/b=s\/b=w.heap.size):=⟨λb=>U b||decide (b=d)||decide (b=s)||decide (b=w.heap.size),λb=>by simp[or_assoc]⟩;obtain⟨E,R⟩:=R;have uN:∀b,E b=false↔U b=false/\b≠d/\b≠s/\b≠w.heap.size:=λb=>by
  rw[<-Bool.not_eq_true,R b];cases U b<;>simp[not_or]
 have us:∀b,b<w.heap.size->E b=U b:=λb A=>by
  cases e:U b with
  | true=>exact(R b).2 (.inl e)
  | false=>exact(uN b).2 ⟨e,by omega,by omega,by omega⟩
 have bz:FTo U E w M:=⟨H.os,H.tape,H.output,H.size,λb A _=>H.block b A,λb A hu=>(us b A).trans hu⟩;have aw:∀b,W4.heap.size<=b->E b=false:=λb A=>(uN b).2 ⟨h.bnd.new (by have:=aI.size;omega),by omega,by omega,by have:=aI.size;omega⟩;have bq:Bnd E M:=λb A=>by
  have hL:=ze aT;have cA:=ze aV;have hr:=ze r6;rcases(R b).1 A with g|g|g|g;exact nL_ (h.bnd b g) H.size;omega;omega;omega
 have ab:zo M E d 0 69 (zbZ x.nu s) (zi3 x.nu s):=zvJ aT (by show(0:Nat)+19<=19;omega) (λj _=>by rw[zA_]) aV ((R d).2 (.inr (.inl rfl))) ((R s).2 (.inr (.inr (.inl rfl)))) (by omega) bq (h.tabs.sub bz.sub) h.inv.nu;have bm:zg (zq E M) I J (zv ys):=by
  refine zci ⟨aj.le,aj.max,aj.some,aj.nil,?_⟩ (λsb so e _=>aw sb (aO sb so e).1);rcases aj.bytes with g|⟨sb,so,e,g⟩;exact .inl g;exact .inr ⟨sb,so,e,λj hj=>(cB_ (ad sb (λe2=>by have:=(aO sb so e).1;omega))).trans (g j hj)⟩
 have au:(zv ys).length=(zae (ys.map MV.c)).length:=by rw[zes]
 have bj:=ab.put_tape (w2:=M) (a':=I) (c':=J) (l':=ys) (sy:=(zv ys).length) (bR_ _ _) bm (λm B=>⟨⟨X,(aq.out m B).1⟩,(aq.out m B).2.1,a9.out m B⟩) ((zjW h.inv.nu).tape_ (l:=ys.map MV.c) (s:=(zv ys).length) (by rw[<-au];exact cj.out) (by rw[<-au];exact nR_ _));have a5:Hid _:=bj;have a1:Hid (({ zi3 x.nu s with ba:=I,bc:=J,ms:=ys,syn:=(zv ys).length }:NM).v=({ Nd.z x.nu with recs:=x.v.kept keep,syn:=(zae (x.v.kept keep)).length }:Nd)):=by
  show _=_;rw[a2.out,<-au]
  rfl
 have aQ:=zu an (λq e=>ad q (λe2=>by have:=(an.lt q e).1;omega));have bd:Hid (∀y∈ys,MAt (zq E M) y):=by
  show ∀_,_;intro y hy;obtain⟨g1,_,g3⟩:=aq.out y hy;have g4:=g1.stays (G:=λk=>W4.heap.size<=k/\_) (λk hk=>ad k (λe2=>by have:=hk.1;omega)) g3;exact g4.hid (g3.mono (λk hk=>aw k hk.1))
 have b8:=ab.cell 15 _ rfl;have b9:=ab.cell 16 _ rfl;have cp:=ab.free 15;have cq:=ab.free 16;have u0:=zb ax 0 _ rfl;have u1:=zb ax 1 _ rfl;have O:Hid (E w.heap.size=true/\w.heap.size≠d/\¬(zi3 x.nu s).S w.heap.size/\w.heap.size<M.heap.size):=by
  refine⟨(R _).2 (.inr (.inr (.inr rfl))),by omega,λe=>?_,ze r6⟩;rcases e with e|e|e|e|e|e|e;have e:w.heap.size=s:=e;omega
  all_goals cases e
 have aC:Hid (∀b,(zi3 x.nu s).S b->w.heap.size<=b):=by
  show ∀_,_;intro b e;rcases e with e|e|e|e|e|e|e;have e:b=s:=e;omega
  all_goals cases e
 have aB:Hid (∀q,(Value.slice aX ys.length aY).ownBlock=some q->E q=false):=λq e=>aw q (an.lt q e).1;have bb:Hid _:=us;clear bj bm aj aO an ad R uN us aw bq bz au;go_upto_region 9 with fail
 obtain⟨U7,aE,D,h7,C,v7⟩:=a5.out;have al:Hid (D.v=({ Nd.z x.nu with recs:=x.v.kept keep,syn:=(zae (x.v.kept keep)).length }:Nd)):=v7.trans a1.out;simp only[zA_]at h7 C;generalize (M.setCell (p_ d 15) ?C0).setCell (p_ d 16) ?D0=W7 at h7 C|-;have aJ:=(C.goes ab).fto;have r7:=(C.block _ O.out.2.2.2 O.out.2.2.1 O.out.2.1).trans r6;have co:=aJ.owns aQ aB.out;have b4:Hid (∀y∈ys,MAt (zq U7 W7) y):=by
  show ∀_,_;intro y hy;exact(bd.out y hy).sub (C.sub ab)
 have bW:Hid (∀q,(Value.slice aX ys.length aY).ownBlock=some q->U7 q=false):=λq e=>aJ.us q (aQ.lt q e).2 (aB.out q e);have ah:Hid (U7 w.heap.size=true/\¬D.S w.heap.size/\w.heap.size<W7.heap.size):=by
  refine⟨(C.us _ O.out.2.2.2).trans O.out.1,λe=>?_,nL_ O.out.2.2.2 C.size⟩;rcases C.new _ e with g|g;exact O.out.2.2.1 g;have:=O.out.2.2.2;omega
 have a7:Hid (∀b,D.S b->w.heap.size<=b):=znq C aC.out H.size;have ay:Hid (B_ w W7):=C.belowN aC.out aS H;have b0:Hid (∀b,b<w.heap.size->U7 b=U b):=by
  show ∀_,_;intro b A;exact(C.us b (nL_ A H.size)).trans (bb.out b A)
 have bT:Hid (aE.size=19):=C.fsz;clear v7 a5 a1 ab C aJ aQ bd aB aV aT r6 u0 u1 b8 b9 cp cq bb aC ax H bk O;have bZ:Hid (D.v.k.tab.length=0):=by show _=_;rw[al.out];rfl
 have b5:Hid (({ Nd.z x.nu with recs:=x.v.kept keep,syn:=(zae (x.v.kept keep)).length }:Nd).txs=[]):=rfl;have bU:Hid (∀c:NM,c.v=(ys.map MV.c).foldl Nd.recall D.v->({ (ys.map MV.c).foldl Nd.recall ({ Nd.z x.nu with recs:=x.v.kept keep,syn:=(zae (x.v.kept keep)).length }:Nd)with nx:=zd2 c.nu c.v.k.sh }:Nd)=x.v.crash keep):=by
  show ∀_,_;intro c e;have u:c.nu=x.nu:=by
   have:c.v.nu=x.nu:=by rw[e,(zh4 _ _).1,al.out];rfl
   exact this
  rw[u,e,al.out];unfold Nd.crash;rw[a2.out]
  rfl
 go_wp2_with fail
 go_loopw [41] (λj wr=>∃(k:Nat) (U1:Nat->Bool) (ae:X_) (c:NM),k<=ys.length/\j=I_ k/\zo wr U1 d 0 69 ae c/\zl U7 U1 W7 wr d 0 aE ae D c/\Hid (c.v=((ys.map MV.c).take k).foldl Nd.recall D.v)) (λj _=>ys.length-(intOf j).toNat)
 case atStart=>exact⟨0,U7,aE,D,nZ_ _,rfl,h7,zl.refl _ _ _ _ _ _,rfl⟩
 case round=>
  obtain⟨k,U1,ae,c,cx,rfl,h1,n1,hv⟩:=hrel;by_cases hlt:k<ys.length
  .have cz:(k:Int)<ys.length:=by omega
   have aA:Hid (k<ys.length):=hlt;have bS:=(n1.goes h7).fto.owns co bW.out;obtain⟨cC,cr,e9,-,-,-,hR⟩:=zfm bS;cases e9;obtain⟨sb,so,ci,bK⟩:=hR.at k hlt;subst ci;have bD:=(b4.out (ys[k]) (gM_ hlt)).sub (n1.sub h7);have bG:=bX.out (ys[k]) (gM_ hlt);have aP:=(aq.out (ys[k]) (gM_ hlt)).2.1;have ao:=a9.out (ys[k]) (gM_ hlt);have bw:k<(ys.map MV.c).length:=by simpa using hlt
   have bA:(ys.map MV.c)[k]=(ys[k]).c:=List.getElem_map ..;have a8:Hid _:=zo6 D.v (ys.map MV.c) k bw;rw[bA,<-hv.out]at a8;have bO:c.tab.length<400000:=by
    have u:=zqd ((ys.map MV.c).take k) D.v;rw[<-hv.out]at u;have e2:c.v.k.tab.length=c.tab.length:=zay c.tab;have e3:=bZ.out;have e4:((ys.map MV.c).take k).length<=200000:=by rw[lT9_,List.length_map];have:=bP.out;omega
    omega
   clear hR bw bA bS;generalize ys[k]=a at*;have qz:=hN_ wr (.cells mz_ 90);have N:=zbs wr mz_ (mrow_ a.m) 90;have qN:=sH_ _ _ _ (mrow_ a.m) _ _ qz;go_upto_region 12 with(first|refine wpList_load_mid rfl 90 _ rfl sb (so+k*19) rfl (zcR a.m) _ bK underlying90 rfl sMsg' ?_|refine wS_ rfl 90 _ _ rfl wr.heap.size (mrow_ a.m) rfl rfl 90 _ qz sMsg' rfl (by simp[Value.oneCell']) ?_)
   generalize ((wr.alloc (.cells mz_ 90)).setRow wr.heap.size (mrow_ a.m))=W8 at N qN|-;clear qz bK;have h8:=h1.below N;have bE:=bD.sub (h1.later N);have Z:=zqg c a W8 U1 d 0 69 ae h8 bE (zuj bE bG aP.check) aP ao bO;generalize wr.heap.size=B8 at qN|-;clear bD bO bG aP ao;go_wp2_with (refine wL_ rfl 90 _ rfl B8 rfl 90 (mrow_ a.m) (0,0) _ qN underlying90 rfl sMsg' ?_)
   refine Z.mono ?_;rintro e w9⟨⟨v,V⟩,U9,fc9,y9,h9,n9,v9⟩;subst V;dsimp only;clear Z qN;have cl:=(n1.trans (zl.below (F:=d) (o:=0) U1 ae c N)).trans n9;have b2:Hid (y9.v=((ys.map MV.c).take (k+1)).foldl Nd.recall D.v):=by show _=_;rw[v9,a8.out]
   clear v9;have cy:k<200000:=by have u:=aA.out;have e2:=bP.out;omega
   go_wp2_with fail
   go_roundw
   case rel=>exact⟨k+1,U9,fc9,y9,aA.out,by go_num,h9,cl,b2⟩
   case measure=>have:=aA.out;simp[intOf];omega
  obtain rfl:k=ys.length:=by omega
  have HE:Hid (c.v=(ys.map MV.c).foldl Nd.recall D.v):=by
   show _=_;rw[hv.out,tL_ (by simp)]
  clear hlt hv;have a3:=zqi c wr U1 d 0 69 ae h1;go_wp2_with fail
  refine a3.mono ?_;rintro _ w9⟨rfl,bo⟩;dsimp only;clear a3;have h9:=h1.below bo;have k2:=h9.cell 2 _ rfl;have x2:=h9.free 2;have cg:=zt3 c.nu c.v.k.sh h1.inv.shf;have bI:za3 ({ c with nx:=zd2 c.nu c.v.k.sh }:NM).v:=by
   have e0:c.v.txs=[]:=by rw[HE.out,(zh4 _ _).2.2.2.2.2.1,al.out];exact b5.out
   have u:c.txs=[]:=e0;have hp:zaO (zd2 c.nu c.v.k.sh) c.txs=0:=by
    rw[u,zaO,iN_ (by simp;omega)]
    rfl
   exact h1.inv.pool_ (nx:=zd2 c.nu c.v.k.sh) (l:=c.txs) hp
  have bi:=h9.put_next (w2:=w9) (nx':=zd2 c.nu c.v.k.sh) (bR_ _ _) bI;have a4:Hid _:=bi;clear bi bI cg;generalize bg:zd2 c.nu c.v.k.sh=NX at*;have bV:Hid _:=bg;clear bg;go_upto_region 15 with fail
  obtain⟨Ua,aF,Y,ha,na,va⟩:=a4.out;simp only[zA_]at ha na;generalize w9.setCell (p_ d 2) (I_ NX)=Wa at ha na|-;have af:=(n1.trans (zl.below (F:=d) (o:=0) U1 ae c bo)).trans na;clear a4;have aW:=(af.block _ ah.out.2.2 ah.out.2.1 (by omega)).trans r7;have cw:=af.fsz.trans bT.out;have bx:aF=Y.cs.toArray:=by
   apply Array.ext'
   apply List.ext_getElem?
   intro j;by_cases hj:j<19;have:=ha.cel j hj;rw[zA_]at this;rw[Array.getElem?_toList,this];rw[List.getElem?_eq_none (by simp;omega),List.getElem?_eq_none (by show 19<=j;omega)]
  have bp:=ha.blk;rw[bx]at bp;have b3:Hid (Y.v=x.v.crash keep):=by
   show _=_;rw[va];have u:({ c with nx:=NX }:NM).v={ c.v with nx:=NX }:=rfl;rw[u,HE.out,al.out,<-bV.out];exact bU.out c HE.out
  have bY:Hid (∀b,Y.S b->w.heap.size<=b):=znq af a7.out ay.out.size;have a0:Hid (B_ w Wa):=af.belowN a7.out aS ay.out;have b1:Hid (∀b,b<w.heap.size->Ua b=U b):=by
   show ∀_,_;intro b A;exact(af.us b (nL_ A ay.out.size)).trans (b0.out b A)
  have a6:Hid (Ua w.heap.size=true/\¬Y.S w.heap.size):=by
   refine⟨(af.us _ ah.out.2.2).trans ah.out.1,λe=>?_⟩;rcases af.new _ e with g|g;exact ah.out.2.1 g;have:=ah.out.2.2;omega
  clear va bx;go_wp2_with (first|refine wL_ rfl 69 _ rfl d rfl 69 Y.cs.toArray (0,0) _ bp underlying69 rfl zhM ?_|refine wS_ rfl 69 _ _ rfl w.heap.size Y.cs.toArray rfl rfl 69 _ aW zhM rfl (by simp[NM.cs,Value.oneCell']) ?_)
  refine bP_ (v:=.agg Y.cs.toArray) (rC_ (fn:=Tryz.f34) (p:=4) (ty:=69) rfl _ _ w.heap.size 69 _ (0,0) _ rfl (sH_ _ _ _ _ _ _ aW) underlying69 rfl zhM) rfl ?_;have hg:zao Ua Ua Wa (Wa.setRow w.heap.size Y.cs.toArray):=⟨rfl,rfl,rfl,by simp,λb _ hu=>sO_ Wa w.heap.size b _ (λe=>by rw[e,a6.out.1]at hu;cases hu),λ_ _=>rfl⟩;refine⟨Ua,d,aF,Y,rfl,ha.goes hg (sO_ Wa w.heap.size d _ (by omega)) (λb e=>sO_ Wa w.heap.size b _ (λe2=>a6.out.2 (by rw[<-e2];exact e))) (ha.bnd.mono (by simp)),b3.out,b1.out,bY.out,?_⟩;exact(Upd.setRow aW).below a0.out a0.out.size (nR_ _)
variable {k:Nat}
theorem zum (d:∀q,q<k->zbM (ss.getD q ByteArray.empty)=true/\ss.getD q ByteArray.empty ∉ ss.take q)(b:zbM (ss.getD k ByteArray.empty)=true)(c:ss.getD k ByteArray.empty ∉ ss.take k) :
  ∀q,q<k+1->zbM (ss.getD q ByteArray.empty)=true/\ss.getD q ByteArray.empty ∉ ss.take q:=by
 intro q f;rcases lG_ q k with g|g;exact d q g;obtain rfl:q=k:=by omega
 exact⟨b,c⟩
theorem zjr (nx:Int)(D:Q_)(n d:Nat)(ss:Z_)(w:World)(I:n=ss.length)(g:zbu w D d ss) :
  Calls prog 38 #[.agg #[I_ nx,.slice D n d]] w λe w'=>e=.returned (I_ (zaO nx ss))/\B_ w w':=by
 subst I;have O:=g.le;have H:=g.max;unfold maxLen at H;by_cases ha:1<=nx
 .have E:¬nx<1:=by omega
  by_cases hb:nx<=1048577
  .have F:¬1048577<nx:=by omega
   by_cases hl:40<ss.length
   .have c:Hid (zaO nx ss=12):=by show _=_;rw[zaO,iP_ (.inr hl)]
    have G:(40:Int)<ss.length:=by omega
    go_in;go_wp2_with fail
    go_ret;exact⟨zt c.out.symm,(bR_ _ _).alloc (nR_ _) _⟩
   have c:Hid (zaO nx ss=if zen ss=true then 0 else 12):=by show _=_;rw[zaO,iN_ (by simp[ha,hb];omega)]
   have G:¬(40:Int)<ss.length:=by omega
   go_in;go_wp2_with fail
   go_loop [22] (λi=>∃k:Nat,k<=ss.length/\i=I_ k/\Hid (∀q,q<k->zbM (ss.getD q ByteArray.empty)=true/\ss.getD q ByteArray.empty ∉ ss.take q)) (λi=>ss.length-(intOf i).toNat)
   case atStart=>exact⟨0,nZ_ _,rfl,by show ∀_,_;intro q T;omega⟩
   case round=>
    obtain⟨k,M,rfl,y⟩:=hrel;by_cases hlt:k<ss.length;rcases g.strs.cells with j|⟨l,m,rfl,j⟩;subst j;simp at hlt;have R:(k:Int)<ss.length:=by omega
    have N:k<=d:=by omega
    have L:(0:Int)<=k:=by omega
    refine kO_ ?A0 ?_;exact Obj.cells #[I_ nx,.slice (some (p_ l m)) ss.length d] 55;have C:=(bR_ w.heap.size w).alloc (nR_ _) ?A0;have J:=(C.cell (p:=p_ l (m+k)) (bL_ (j k hlt))).trans (j k hlt);have A:(ss.getD k ByteArray.empty).size<=maxLen:=g.strs.size _ (by simp[List.getD,hlt]);have t:Hid (zbM (ss.getD k ByteArray.empty)=true->ss.getD k ByteArray.empty ∉ ss.take k->∀q,q<k+1->zbM (ss.getD q ByteArray.empty)=true/\ss.getD q ByteArray.empty ∉ ss.take q):=zum y.out;have o:Hid (zbM (ss.getD k ByteArray.empty)=false->zen ss=false):=zoo hlt;have r:Hid (ss.getD k ByteArray.empty∈ss.take k->zen ss=false):=zop hlt;have B:Hid (∀s,Calls prog 60 #[.slice (some (p_ l m)) k d,.string s] (w.alloc ?A0) λe w'=>e=.returned (.bool (inS s (ss.take k)))/\(w.alloc ?A0)=w'):=by
     show ∀_,_;intro s;exact zjO (ss.take k) _ k d s _ (by simp;omega) (by unfold maxLen;omega) ((g.strs.below C).take k)
    clear y j g;generalize ss.getD k ByteArray.empty=x at*;cases hx:zbM x with
    | false=>
     have f:=o.out hx;rw[f]at c;clear t o r;go_wp2_with (go_at_call 59;refine(ziK _ _ A).mono ?_;rintro e u⟨b,rfl⟩;rw[hx]at b;subst b)
     go_ret;exact⟨zt (by rw[c.out];rfl),(bR_ _ _).alloc (nR_ _) _⟩
    | true=>
     by_cases hi:x∈ss.take k;have f:=r.out hi;rw[f]at c;have z:=zon hi
     rotate_left
     have f:Hid _:=t.out hx hi;have z:=zm2 hi
     rotate_left
     all_goals
      clear t o r hi;go_wp2_with (first|(go_at_call 59;refine(ziK _ _ A).mono ?_;rintro e u⟨b,rfl⟩;rw[hx]at b;subst b)|(go_at_call 60;refine(B.out x).mono ?_;rintro e u⟨b,rfl⟩;rw[z]at b;subst b))
     .go_ret;exact⟨zt (by rw[c.out];rfl),(bR_ _ _).alloc (nR_ _) _⟩
     go_round
     case rel=>exact⟨k+1,by omega,by go_num,f⟩
     case measure=>simp[intOf];omega
    obtain rfl:k=ss.length:=by omega
    have f:=zts y.out;rw[f]at c;go_wp2_with fail
    go_ret;exact⟨zt (by rw[c.out];rfl),(bR_ _ _).alloc (nR_ _) _⟩
  have F:1048577<nx:=by omega
  have c:Hid (zaO nx ss=12):=by show _=_;simp[zaO,hb]
  go_in;go_wp2_with fail
  go_ret;exact⟨zt c.out.symm,(bR_ _ _).alloc (nR_ _) _⟩
 have E:nx<1:=by omega
 have c:Hid (zaO nx ss=12):=by show _=_;simp[zaO,ha]
 go_in;go_wp2_with fail
 go_ret;exact⟨zt c.out.symm,(bR_ _ _).alloc (nR_ _) _⟩
end Go.Proofs.YtpnpikpmdfipfaaGreatDoor
