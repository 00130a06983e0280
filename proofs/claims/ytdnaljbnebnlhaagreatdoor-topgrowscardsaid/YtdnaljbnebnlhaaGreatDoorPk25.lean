import Derived.RangeFuncNested
import Derived.RangeFuncBound
import Derived.Shelf.SortM.Plain
import Derived.Shelf.SortM.SortNone
import Derived.Lib.SlKeysI
import Derived.Test.YtdnaljbnebnlhaaGreatDoorPk22
set_option maxRecDepth 100000
set_option maxHeartbeats 4000000
namespace Go.Proofs.YtdnaljbnebnlhaaGreatDoor
open Go.RowKit Tryz
theorem zh7 (x:NM)(m:MV)(w:World)(U:Nat->Bool)(F o:Nat)(T:TypeId)(d:Array Value)(h:zo w U F o T d x)(G:GM (zq U w) m) :
  Calls prog 136 #[P_ F o,.agg (mrow_ m.m)] w λe w'=>(∃v,e=.returned v)/\zal w U F o T d x w' (x.v.sendAll m.c):=by
 have p:=zC w (.cells (mrow_ m.m) 66);have q:=hN_ w (.cells (mrow_ m.m) 66);go_in;go_upto_region 1 with fail
 generalize w.alloc (.cells (mrow_ m.m) 66)=t at p q|-;have u:=h.below p;have y:Hid (U w.heap.size=false):=h.bnd.new (nR_ _);have D:=NTo.below (F:=F) (o:=o) U d x p;have z:Hid (w.heap.size<t.heap.size):=ze q;generalize w.heap.size=B at q y z|-;go_wp2_with fail
 go_loopw [5] (λj wr=>∃(k:Nat) (b:Nat->Bool) (f:Array Value) (c:NM),k<=4/\j=I_ k/\zo wr b F o T f c/\NTo U b t wr F o d f x c/\Hid (c.v=x.v.sendTo m.c k)/\R_ wr B (mrow_ m.m) 66) (λj _=>4-(intOf j).toNat)
 case atStart=>exact⟨0,U,d,x,by decide,rfl,u,NTo.refl _ _ _ _ _ _,rfl,q⟩
 case round=>
  obtain⟨k,b,f,c,J,rfl,l,g,r,s⟩:=hrel;by_cases hlt:k<4
  .have L:(k:Int)<4:=by omega
   have A:GM (zq b wr) m:=(G.sub (zao.below U p).sub).sub (g.sub u);go_wp2_with (refine wpList_load_row rfl 66 _ rfl B rfl 66 (mrow_ m.m) (0,0) _ s underlying66 rfl sMsg' ?_)
   refine(zeN c m k wr b F o T f l A ⟨by omega,by omega⟩).mono ?_;rintro e w2⟨⟨v,E⟩,U2,fc2,x2,h2,n2,v2⟩;subst E;dsimp only;have I:=n2.box l s (g.hides z.out y.out);have H:=g.trans n2;have C:Hid (x2.v=x.v.sendTo m.c (k+1)):=by show _=_;rw[v2,r.out];rfl
   clear v2 r s A g n2 l;go_wp2_with fail
   go_roundw
   case rel=>exact⟨k+1,U2,fc2,x2,by omega,by go_num,h2,H,C,I⟩
   case measure=>simp[intOf];omega
  .obtain rfl:k=4:=by omega
   go_wp2_with fail
   go_end0;exact⟨⟨_,rfl⟩,b,f,c,l,D.trans g,r.out⟩
open Go.Shelf
variable {sa:Option Addr}
attribute [local go_sem] Oper.semAt_some
def ze4 (n0:Nat)(W:World)(sa:Option Addr)(zs:List Int):Prop:=
 zs=[]\/∃sb so,sa=some ⟨sb,so,none⟩/\sb<n0/\∀j,j<zs.length->W.cell? ⟨sb,so+j,none⟩=some (I_ (zs[j]?.getD 0))
theorem ze4.below {b:Nat}{A B:World}{g:List Int}(h:ze4 b A sa g)(l:Below b A B):ze4 b B sa g:=by
 rcases h with h|⟨d,f,e,c,m⟩
 .exact .inl h
 .exact .inr ⟨d,f,e,c,λj o=>(l.cell (p:=⟨d,f+j,none⟩) c).trans (m j o)⟩
theorem zue (b:List Int)(k:Nat)(h:k<b.length):b.take (k+1)=b.take k++[b[k]?.getD 0]:=by
 rw[tS_ h];simp[h]
theorem zvW (F:Fence)(n:Nat)(z:F.fn 198)(G:F.round=none)(O:1<=n)(l m j:Nat)(s:Option Addr)(t:Nat)(b:List Int)(U:b.length<=4)(J o:List Int->World->Prop)
  (B:∀c x W,J c W->c.length<b.length->YieldAt F (n-1) prog l #[I_ x] W λe d=>
   (e=.returned (.bool true)/\J (c++[x]) d/\Below j W d)\/(e=.returned (.bool false)/\o (c++[x]) d))
  (W:World) (M:W.cell? ⟨m,0,none⟩=some (.slice s b.length t)) (C:ze4 j W s b) (u:J [] W) :
  CallsIn F n prog 198 #[.func (.yield l) #[] #[],(P_ m 0)] W λe d=>(∃v,e=.returned v)/\((∃ys,ys=b/\J ys d)\/(∃c,c <+: b/\o c d)):=by
 refine callsIn_of_wp func198 rfl z ?_ G;simp only[ntmps198,List.size_toArray,List.length_cons,List.length_nil,Nat.reduceAdd,Nat.reduceSub,Array.replicate_succ,Array.replicate_zero,List.push_toArray,List.append_toArray,List.nil_append,List.cons_append]
 gi_wp2
 gi_loopw [7] (λi wr=>∃k:Nat,k<=b.length/\i=I_ k/\J (b.take k) wr/\Below j W wr) (λi _=>b.length-(intOf i).toNat)
 case atStart=>exact⟨0,nZ_ _,rfl,by simpa using u,bR_ _ _⟩
 case round=>
  obtain⟨k,N,rfl,g,q⟩:=hrel;by_cases hlt:k<b.length
  .rcases C.below q with E|⟨V,X,rfl,R,p⟩
   .rw[E]at hlt;simp at hlt
   have D:=p k hlt;have f:Hid (b.take (k+1)=b.take k++[b[k]?.getD 0]):=zue b k hlt;obtain⟨y,r⟩:∃y,y=b[k]?.getD 0:=⟨_,rfl⟩;rw[<-r]at D f;obtain⟨fn,Y,I,L,T,A⟩:=B _ y wr g (by rw[lT9_];omega);clear p r
   gi_wp2
   refine A.mono ?_;rintro e H (⟨rfl,hJ3,hk3⟩|⟨rfl,hJx3⟩)
   .gi_wp2
    go_roundw
    case rel=>exact⟨k+1,by omega,by simp,by rw[f.out];exact hJ3,q.trans hk3⟩
    case measure=>simp[intOf];omega
   .gi_wp2
    refine bP_ (results_none rfl _ _ _) rfl ?_;exact⟨⟨_,rfl⟩,.inr ⟨_,by rw[<-f.out];exact List.take_prefix _ _,hJx3⟩⟩
  .obtain rfl:k=b.length:=by omega
   rw[List.take_length]at g
   gi_wp2
   go_end0;exact⟨⟨_,rfl⟩,.inl ⟨_,rfl,g⟩⟩
theorem zo2 (a:Option Addr)(c b:Nat)(w:World) :
  Calls prog 169 #[.slice a c b] w λe w'=>e=.returned (.func (.func 198) #[] #[P_ w.heap.size 0])/\w'=w.alloc (.cells #[.slice a c b] 62):=by
 have d:∀(fn:Fn) (first b:Array Value) (w:World),(Instr.makeFunc fn first b).run prog w=.ok (.func fn first b) w:=λ_ _ _ _=>rfl;go_in;go_wp2_with fail
 go_ret;exact⟨rfl,rfl⟩
attribute [local go_sem] Oper.semAt_some
theorem zq6:(prog.info? 3).map (λi=>(i.zero,i.size,i.bytes))=some (some (I_ 0),1,8):=by kernel_rfl
theorem zr7 (n c:Nat)(u:1<=n)(f:Option Addr)(g:Nat)(b:List Int)(z:b.length<=4)(d:Nat)(w:World)(q:c<w.heap.size)(y:d<=w.heap.size)(t:w.cell? ⟨c,0,none⟩=some (.slice f b.length g))(r:ze4 d w f b) :
  SeqStopsK Fence.wide n prog 198 #[P_ c 0] (λx:Int=>#[Value.int .i64 x]) (Below d) (λys=>ys=b) (λA=>A <+: b) b.length w:=λl J m W j _ _ s o=>
 zvW Fence.wide n trivial rfl u l c d f g b z J m s W ((j.cell (p:=⟨c,0,none⟩) q).trans t) (r.below (j.mono y)) o
theorem zvX (b:Nat)(q:Option Addr)(r:Nat)(g:List Int)(M:g.length<=4)(w:World)(y:b<w.heap.size)(B:w.cell? ⟨b,0,none⟩=some (.slice q g.length r))(A:ze4 w.heap.size w q g) :
  CallsIn Fence.wide 6 prog 225 #[O_,.func (.func 198) #[] #[P_ b 0]] w λe w'=>∃v,e=.returned v/\w'.ownsRow w.heap.size 3 1 v g.length (iv g)/\B_ w w':=by
 obtain⟨T,F,N,O,R⟩:=info_parts zq6;refine callsIn_of_wp_marks func225 rfl trivial ?_ rfl;simp only[ntmps225,List.size_toArray,List.length_cons,List.length_nil,Nat.reduceAdd,Nat.reduceSub,Array.replicate_succ,Array.replicate_zero,List.push_toArray,List.append_toArray,List.nil_append,List.cons_append]
 gi_wp2
 have o:=zC w (.cells #[O_] 62);have J:=zr7 5 b (by omega) q r g M w.heap.size (w.alloc (.cells #[O_] 62)) (by simp;omega) (by simp) ((o.cell (p:=⟨b,0,none⟩) y).trans B) (A.below o);refine wpIn_rangeFunc_ownF (α:=Int) rfl (by omega) (gf:=198) (lb:=#[P_ b 0]) rfl trivial (eO_ func198) J belowK_t (belowK_b (by simp)) (bR_ _ _) (λ_=>rfl)
  (λd W=>(∃v,Boxed W w.heap.size 62 v/\W.ownsRow w.heap.size 3 1 v (List.length d) (iv d)/\True)/\B_ w W)
  (λ_ _ _=>False)
  (OwnFrom.and (Own.from (holdsRow_own w.heap.size w.heap.size 62 3 1 (λd:List Int=>d.length) (λd=>iv d) (λ_ _=>True)) _) (ownFrom_below (nR_ _) (by simp)))
  (λ_ _ _ _ _ I _ _=>I)
  ⟨⟨_,Boxed.new w 62 (O_),oN_ _ _ _ _,trivial⟩,o⟩
  (λx=>{ tmps:=#[O_,.func (.func 198) #[] #[P_ b 0],(P_ w.heap.size 0),undef,O_,I_ x,.func (.func 198) #[] #[P_ b 0],I_ x,undef,undef,undef,undef,undef],defers:=[] }) ?assign ?body ?done ?stop
 case assign=>
  intro l x W K j
  gi_wp2
  exact j
 case body=>
  rintro l d x W⟨⟨v,m,f,_⟩,hB⟩hlt;obtain⟨U,V,rfl⟩:=zH f;have C:=m.cell
  gi_wp2_with (gi_at_builtin;refine wpListIn_append_own _ rfl _ _ 62 rfl w.heap.size 3 T (I_ 0) 1 8 underlying62 F N O R rfl (by decide) _ _ _ rfl (f.alloc _) ⟨W.heap.size,0,none⟩ 1 1 [I_ x] rfl rfl (cell_one_new _ _ _) (by simp[Value.oneCell']) (by unfold maxLen;omega) (by omega) (by have:=hB.size;simp;omega) ?_;intro v' w1 t E _;obtain⟨Y,X,rfl⟩:=ownsRow_succ t;obtain⟨u,L,H,G,s⟩:=m.appended (by decide) f hB.size (nR_ _) t E;have Z:=u.cell;have aa:=u.frozen)
  exact⟨G,s,⟨_,L,by simpa[iv]using H,trivial⟩,hB.trans s⟩
 case done=>
  rintro D ys W z rfl⟨⟨v,m,f,_⟩,hB⟩j;obtain⟨U,V,rfl⟩:=zH f;have C:=m.cell
  gi_wp2
  refine⟨by simp,.inl ⟨_,_,rfl,run_takeDeferred j,?_⟩⟩;exact⟨_,results_tmp rfl _ _ _,_,rfl,ownsRow_putObj f _ j rfl,hB.trans (belowK_b (w:=w) (nR_ _) W D _ _ (by simp at z;omega) j rfl rfl)⟩
 case stop=>
  rintro D c d W _ _ h _;exact h.elim
theorem znn (x:Int)(l:List Int):(zmt x l).Perm (x::l):=by
 induction l with
 | nil=>exact List.Perm.refl _
 | cons y l ih=>
  rw[zmt]
  split
  .exact List.Perm.refl _
  .exact(List.Perm.cons y ih).trans (List.Perm.swap x y l)
theorem zlY (l:List Int):(zhH l).Perm l:=by
 induction l with
 | nil=>exact List.Perm.refl _
 | cons x l ih=>exact(znn x (zhH l)).trans (List.Perm.cons x ih)
theorem zxr (x:Int)(l:List Int)(h:l.Pairwise (·<=·)):(zmt x l).Pairwise (·<=·):=by
 induction l with
 | nil=>exact List.pairwise_singleton _ _
 | cons y l ih=>
  obtain⟨c,d⟩:=List.pairwise_cons.1 h;rw[zmt]
  split
  .next g=>
   refine List.pairwise_cons.2 ⟨λz b=>?_,h⟩;rcases List.mem_cons.1 b with e|e
   .rw[e];exact g
   .have:=c z e;omega
  .next g=>
   refine List.pairwise_cons.2 ⟨λz b=>?_,ih d⟩;rcases List.mem_cons.1 ((znn x l).mem_iff.1 b)with e|e
   .rw[e];omega
   .exact c z e
theorem zvY (l:List Int):(zhH l).Pairwise (·<=·):=by
 induction l with
 | nil=>exact List.Pairwise.nil
 | cons x l ih=>exact zxr x _ ih
theorem zuf:∀(a b:List Int),a.Perm b->a.Pairwise (·<=·)->b.Pairwise (·<=·)->a=b:=by
 intro a
 induction a with
 | nil=>intro b c _ _;exact(List.nil_perm.1 c).symm
 | cons x a ih=>
  intro b c m o;cases b with
  | nil=>exact absurd c.length_eq (by simp)
  | cons y b=>
   obtain⟨g,j⟩:=List.pairwise_cons.1 m;obtain⟨d,f⟩:=List.pairwise_cons.1 o;have e:x=y:=by
    have r:=c.mem_iff.1 (List.mem_cons_self (a:=x) (l:=a));have s:=c.mem_iff.2 (List.mem_cons_self (a:=y) (l:=b));rcases List.mem_cons.1 r with q|q
    .exact q
    .rcases List.mem_cons.1 s with p|p
     .exact p.symm
     .have u1:=d x q;have u2:=g y p;omega
   subst e;rw[ih b (List.Perm.cons_inv c) j f]
theorem zvZ (l:List Int):l.mergeSort (λx y=>decide (x<=y))=zhH l:=by
 refine zuf _ _ ((List.mergeSort_perm l _).trans (zlY l).symm) ?_ (zvY l);have h:=List.pairwise_mergeSort (le:=λx y:Int=>decide (x<=y)) (λa b c p q=>by simp at p q|-;omega) (λa b=>by simp;omega) l;exact h.imp (λq=>by simpa using q)
theorem zug (c:Nat)(d:Option Addr)(f:Nat)(b:List Int)(m:b.length<=4)(w:World)(g:c<w.heap.size)(l:w.cell? ⟨c,0,none⟩=some (.slice d b.length f))(j:ze4 w.heap.size w d b) :
  Calls prog 225 #[O_,.func (.func 198) #[] #[P_ c 0]] w λe w'=>∃v,e=.returned v/\w'.ownsRow w.heap.size 3 1 v b.length (iv b)/\B_ w w':=
 (callsIn_wide (n:=6)).1 (zvX c d f b m w g l j)
theorem zqj (c:Nat)(d:Option Addr)(g:Nat)(b:List Int)(r:b.length<=4)(w:World)(o:c<w.heap.size)(l:w.cell? ⟨c,0,none⟩=some (.slice d b.length g))(j:ze4 w.heap.size w d b) :
  Calls prog 196 #[.func (.func 198) #[] #[P_ c 0]] w λe w'=>∃v,e=.returned v/\w'.ownsRow w.heap.size 3 1 v b.length (iv b)/\B_ w w':=by
 have f:=zug c d g b r w o l j;clear l j;go_in;go_wp2_with fail
 refine f.mono ?_;rintro e u⟨v,q,m,p⟩;subst q;dsimp only;clear f;obtain⟨s,t,rfl⟩:=zH m;go_wp2_with fail
 go_ret;exact⟨_,rfl,m,p⟩
def zo3:Go.Shelf.Ren:=⟨fun|5=>197|8=>227|7=>226|19=>251|20=>252|10=>242|11=>243|12=>244|13=>245|14=>246|15=>247|16=>248|17=>249|18=>250|30=>261|31=>262|32=>263|33=>264|34=>265|35=>231|40=>269|n=>n,fun|23=>62|25=>3|3=>3|32=>132|22=>62|0=>0|44=>188|46=>305|4=>4|36=>297|35=>296|41=>301|5=>5|9=>9|53=>316|57=>320|63=>324|64=>325|n=>n,fun|n=>n⟩
theorem zo4:Go.Proofs.SlLaysM.n5 prog zo3:={
 mixed:=by kernel_rfl
 f5:=⟨Tryz.f197.name,by decide,func197.trans (congrArg some (by kernel_rfl))⟩
 f7:=⟨Tryz.f226.name,by decide,func226.trans (congrArg some (by kernel_rfl))⟩
 f8:=func227.trans (congrArg some (by kernel_rfl))
 f10:=⟨Tryz.f242.name,by decide,func242.trans (congrArg some (by kernel_rfl))⟩
 f11:=⟨Tryz.f243.name,by decide,func243.trans (congrArg some (by kernel_rfl))⟩
 f12:=⟨Tryz.f244.name,by decide,func244.trans (congrArg some (by kernel_rfl))⟩
 f13:=⟨Tryz.f245.name,by decide,func245.trans (congrArg some (by kernel_rfl))⟩
 f14:=⟨Tryz.f246.name,by decide,func246.trans (congrArg some (by kernel_rfl))⟩
 f15:=⟨Tryz.f247.name,by decide,func247.trans (congrArg some (by kernel_rfl))⟩
 f16:=⟨Tryz.f248.name,by decide,func248.trans (congrArg some (by kernel_rfl))⟩
 f17:=⟨Tryz.f249.name,by decide,func249.trans (congrArg some (by kernel_rfl))⟩
 f18:=⟨Tryz.f250.name,by decide,func250.trans (congrArg some (by kernel_rfl))⟩
 f19:=func251.trans (congrArg some (by kernel_rfl))
 f20:=func252.trans (congrArg some (by kernel_rfl))
 f30:=⟨Tryz.f261.name,by decide,func261.trans (congrArg some (by kernel_rfl))⟩
 f31:=func262.trans (congrArg some (by kernel_rfl))
 f32:=func263.trans (congrArg some (by kernel_rfl))
 f33:=⟨Tryz.f264.name,by decide,func264.trans (congrArg some (by kernel_rfl))⟩
 f34:=⟨Tryz.f265.name,by decide,func265.trans (congrArg some (by kernel_rfl))⟩
 f35:=⟨Tryz.f231.name,by decide,func231.trans (congrArg some (by kernel_rfl))⟩
 f40:=⟨Tryz.f269.name,by decide,func269.trans (congrArg some (by kernel_rfl))⟩
 t0:=underlying0
 a0:=isAgg0
 z0:=sizeOf0
 v0:=zeroValue0
 t3:=underlying3
 a3:=isAgg3
 z3:=sizeOf3
 v3:=zeroValue3
 t4:=underlying4
 a4:=isAgg4
 z4:=sizeOf4
 v4:=zeroValue4
 t5:=underlying5
 a5:=isAgg5
 z5:=sizeOf5
 v5:=zeroValue5
 t9:=underlying9
 a9:=isAgg9
 z9:=sizeOf9
 v9:=zeroValue9
 t22:=underlying62
 a22:=isAgg62
 z22:=sizeOf62
 v22:=zeroValue62
 t23:=underlying62
 a23:=isAgg62
 z23:=sizeOf62
 v23:=zeroValue62
 t25:=underlying3
 a25:=isAgg3
 z25:=sizeOf3
 v25:=zeroValue3
 t32:=underlying132
 a32:=isAgg132
 z32:=sizeOf132
 v32:=zeroValue132
 t35:=underlying296
 a35:=isAgg296
 z35:=sizeOf296
 v35:=zeroValue296
 t36:=underlying297
 a36:=isAgg297
 z36:=sizeOf297
 v36:=zeroValue297
 t41:=underlying301
 a41:=isAgg301
 z41:=sizeOf301
 v41:=zeroValue301
 t44:=underlying188
 a44:=isAgg188
 z44:=sizeOf188
 v44:=zeroValue188
 t46:=underlying305
 a46:=isAgg305
 z46:=sizeOf305
 v46:=zeroValue305
 t53:=underlying316
 a53:=isAgg316
 z53:=sizeOf316
 v53:=zeroValue316
 t57:=underlying320
 a57:=isAgg320
 z57:=sizeOf320
 v57:=zeroValue320
 t63:=underlying324
 a63:=isAgg324
 z63:=sizeOf324
 v63:=zeroValue324
 t64:=underlying325
 a64:=isAgg325
 z64:=sizeOf325
 v64:=zeroValue325 }
open Go.Sort
theorem zv0 (b:List Int)(d:Option Addr)(c base:Nat)(w:World)(F:b.length<=4)(m:w.ownsRow base 3 1 (.slice d b.length c) b.length (iv b)) :
  Calls prog 197 #[.slice d b.length c] w λe w'=>e=.returned (.tuple #[])/\w'.ownsRow base 3 1 (.slice d b.length c) b.length (iv (zhH b))/\w.grownBy w' (Value.slice d b.length c).ownBlock:=by
 rcases m.2 with⟨e,s⟩|⟨l,D,E,e,r,f,z,A,B,C⟩
 .have t:b=[]:=eN_ s;subst t;refine(AnyM.slices_Sort_int_none zo4 d c w).mono (λe w' k=>?_);obtain⟨g,j⟩:=k;subst j;exact⟨g,m,World.grownBy.refl _ _⟩
 .simp only[Value.slice.injEq]at e;obtain⟨o,_,p⟩:=e;subst o p;have q:Holds encZ w l 0 b.toArray:=holds_of_block_i f (by simpa[iv]using C);refine(AnyM.slices_Sort_int zo4 l 0 c b w q (ze f) (by omega)).mono (λe w' k=>?_);obtain⟨g,u,os,j⟩:=k;subst j;refine⟨g,?_,grownBy_sorted_i _⟩;have h:=ownsRow_sorted_i (n:=u) (os:=os) (ss:=b) (ts:=b.mergeSort λx y=>decide (x<=y)) (by simp) r f z A B;rw[zvZ]at h|-;exact h
theorem zr8 (f:Nat)(l:Option Addr)(p:Nat)(b:List Int)(u:b.length<=4)(w:World)(y:f<w.heap.size)(t:w.cell? ⟨f,0,none⟩=some (.slice l b.length p))(r:ze4 w.heap.size w l b) :
  Calls prog 168 #[.func (.func 198) #[] #[P_ f 0]] w λe w'=>∃c d,e=.returned (.slice c b.length d)/\w'.ownsRow w.heap.size 3 1 (.slice c b.length d) b.length (iv (zhH b))/\B_ w w':=by
 have m:=zqj f l p b u w y t r;clear t r;go_in;go_wp2_with fail
 refine m.mono ?_;rintro e B⟨v,g,j,s⟩;subst g;dsimp only;clear m;obtain⟨c,d,rfl⟩:=zH j;have o:=zv0 b c d w.heap.size B u j;go_wp2_with fail
 refine o.mono ?_;rintro _ w2⟨rfl,A,z⟩;dsimp only;clear o;go_wp2_with fail
 go_ret;exact⟨c,d,rfl,A,s.grown z s.size (λq e=>(j.lt q e).1)⟩
variable {w:World}{ops:Array Oper}{Q:Exit->Act->World->Prop}{a:Act}{P:Program}{md:Region.Mode}{fuel:Nat}{listed:Array Bool}
theorem zno {S:World->Prop}
  (h:∀b:Nat->Array Bool->Act->World->Prop,Hid (∀f l a w,wpAnyH P md ops Q S f l a w->b f l a w)->Hid (∀f l a w,b f l a w->wpAnyH P md ops Q S f l a w)->b fuel listed a w):wpAnyH P md ops Q S fuel listed a w:=
 h _ (show ∀_,_ from λ_ _ _ _ h=>h) (show ∀_,_ from λ_ _ _ _ h=>h)
theorem znp {c:Nat->Array Bool->Act->World->Prop}(h:∀b,Hid (a=b)->c fuel listed b w):c fuel listed a w:=h a (show a=a from rfl)
variable {U:Nat->Bool}{n base n1:Nat}{vl:List Int}{va:Option Addr}
theorem zax.hid (h:zax w va vl)(f:∀b c,va=some ⟨b,c,none⟩->U b=false):zax (zq U w) va vl:=by
 refine⟨?_⟩;rcases h.cells with h|⟨b,c,e,h⟩
 .exact .inl h
 .exact .inr ⟨b,c,e,λj d=>(cB_ (zdr (f b c e))).trans (h j d)⟩
theorem zyt {a:Option Addr}{c:Nat}{b:List Int}(h:w.ownsRow base 3 1 (.slice a n c) n (iv b)):ze4 w.heap.size w a b:=by
 obtain⟨p,q,e,_,l,_⟩:=zeW h;cases e;rcases l.cells with g|⟨m,o,e,g⟩
 .exact .inl g
 .by_cases hz:b=[]
  .exact .inl hz
  .refine .inr ⟨m,o,e,?_,λj d=>?_⟩
   .have f:0<b.length:=List.length_pos_iff.2 hz;have:=World.block_lt_of_cell? _ _ (g 0 f);exact this
   .rw[g j d];simp[d]
theorem ze4.up {b:Nat}{a:Option Addr}{c:List Int}(h:ze4 b w a c)(l:b<=n1):ze4 n1 w a c:=by
 rcases h with h|⟨f,g,e,j,d⟩
 .exact .inl h
 .exact .inr ⟨f,g,e,by omega,d⟩
theorem zr9 (l:List Int)(h:∀v∈l,0<=v/\v<4):l.length=l.count 0+l.count 1+l.count 2+l.count 3:=by
 induction l with
 | nil=>rfl
 | cons a l ih=>
  have d:=ih (λv c=>h v (List.mem_cons_of_mem _ c));have f:=h a (List.mem_cons_self ..);have b:a=0\/a=1\/a=2\/a=3:=by omega
  rcases b with e|e|e|e<;>subst e<;>simp<;>omega
theorem zv1 {l:List Int}{b:Int}(h:l.length<=4/\(∀v∈l,0<=v/\v<4)/\l.Nodup)(f:0<=b/\b<4)(g:¬b∈l):(l++[b]).length<=4:=by
 have c:(b::l).Nodup:=List.nodup_cons.2 ⟨g,h.2.2⟩;have d:=zr9 (b::l) (λv j=>by
  rcases List.mem_cons.1 j with e|e
  .rw[e];exact f
  .exact h.2.1 v e)
 have m:=List.nodup_iff_count.1 c 0;have o:=List.nodup_iff_count.1 c 1;have p:=List.nodup_iff_count.1 c 2;have q:=List.nodup_iff_count.1 c 3;rw[lP_];rw[List.length_cons]at d;simp only[List.length_singleton];omega
theorem zsa (x:NM)(t:Int)(s:Sl)(B:Int)(A:List Sg)(X:Option Addr)(Y:Nat)(w:World)(U:Nat->Bool)(F o:Nat)(T:TypeId)(fc:Array Value)(h:zo w U F o T fc x)(hs:zg (zq U w) s.p.sa s.p.cap s.p.bs)(us:zaN s.p.bs)(aA:0<=t/\t<4)(hg:zdj (zq U w) X Y A) :
  Calls prog 128 #[P_ F o,I_ t,.agg (srow_ s),.agg #[I_ B,.slice X A.length Y]] w λe w'=>(∃v,e=.returned v)/\zal w U F o T fc x w' (x.v.hearV ⟨B,gvs A⟩ t s.v):=by
 refine kA_ ?B0 ?_;exact #[I_ B,.slice X A.length Y];refine kW_ ?C0 ?_;exact(w.alloc (.cells (srow_ s) 53)).alloc (.cells ?B0 108);have I:B_ w ?C0:=((bR_ _ _).alloc (nR_ _) _).alloc (by simp) _;have q0:=hX_ w (.cells (srow_ s) 53) (.cells ?B0 108);have q1:=hY_ w (.cells (srow_ s) 53) (.cells ?B0 108);go_in;go_upto_region 1 with fail
 generalize ?C0=W0 at I q0 q1|-;have h0:=h.below I;have aY:=hs.sub (h.later I);have aX:=hg.sub (h.later I);have aS:Hid (U w.heap.size=false/\U (w.heap.size+1)=false):=⟨h.bnd.new (nR_ _),h.bnd.new (Nat.le_succ _)⟩;have bm:=NTo.below (F:=F) (o:=o) U fc x I;generalize w.heap.size+1=B1 at q1 aS|-;generalize w.heap.size=B0 at q0 aS|-;clear I;have c6:=h0.cell 6 _ rfl;have a6:=h0.cell 11 _ rfl;have ba:=h0.cell 12 _ rfl;have be:=h0.cell 13 _ rfl;refine kV_ ?D0 ?_;exact Value.agg (srow_ s);have aI:Hid (∀W:World,B_ W0 W->Calls prog 166 #[?D0,.agg (srow_ x.slot)] W λe w'=>e=.returned (.bool (decide (s.v=x.slot.v)))/\B_ W w'):=by
  show ∀W,_;intro W hW;exact znc s x.slot W ((aY.sub (zK _ _)).below hW) (((h0.below hW).slt).sub (zK _ _)) us h.inv.u8s
 have aD:Hid (∀W:World,B_ W0 W->Calls prog 110 #[P_ x.s 0,I_ s.au,I_ s.rd] W λe w'=>e=.returned (.bool (decide (0<=cOf x.v.k.dag s.au s.rd)))/\B_ W w'):=by
  show ∀W,_;intro W hW;obtain⟨ca,cc,da,dc,b0⟩:=(h0.below hW).stkAt;exact zmx x.ls x.s ca cc da dc x.ds s.au s.rd W b0
 have aL:Hid (∀W:World,B_ W0 W->Calls prog 144 #[P_ F o,I_ t] W λe w'=>e=.returned (.bool (decide (t∈x.vot)))/\B_ W w'):=by
  show ∀W,_;intro W hW;exact zjp x t W U F o T fc (h0.below hW)
 have aH:Hid (∀W:World,B_ W0 W->Calls prog 167 #[.agg ?B0,I_ t,?D0] W λe w'=>e=.returned (.bool (No.signed ⟨B,gvs A⟩ t s.v))/\B_ W w'):=by
  show ∀W,_;intro W hW;exact zkM B A X Y t s W ((aX.sub (zK _ _)).below hW) ((aY.sub (zK _ _)).below hW) us
 generalize ag:decide (s.v=x.slot.v)=b1 at aI;generalize ah:decide (0<=cOf x.v.k.dag s.au s.rd)=b2 at aD;generalize ai:decide (t∈x.vot)=b3 at aL;generalize aj:No.signed ⟨B,gvs A⟩ t s.v=b4 at aH;have HB:Hid (decide (s.v=x.slot.v)=b1/\decide (0<=cOf x.v.k.dag s.au s.rd)=b2/\decide (t∈x.vot)=b3/\No.signed ⟨B,gvs A⟩ t s.v=b4):=⟨ag,ah,ai,aj⟩;clear ag ah ai aj;go_cut [38] (λu wx=>u=.bool (!b1||b2||b3||!b4)/\B_ W0 wx)
 case first=>
  have ac:=dB_ W0;have aQ:=dC_ c6;have aN:=dC_ a6;have aO:=dC_ ba;have aP:=dC_ be;have a1:=dQ_ q0;have a2:=dQ_ q1;refine wR_ (S:=λw'=>w'.cell? ⟨F,o+6,none⟩=some (P_ x.s 0)/\w'.cell? ⟨F,o+11,none⟩=some (I_ x.slot.au)/\w'.cell? ⟨F,o+12,none⟩=some (I_ x.slot.rd)/\w'.cell? ⟨F,o+13,none⟩=some (.slice x.slot.p.sa x.slot.p.bs.length x.slot.p.cap)/\R_ w' B0 (srow_ s) 53/\R_ w' B1 ?B0 108) (by kernel_rfl) ⟨aQ,aN,aO,aP,a1,a2⟩ (λy=>?_);generalize W0.drew=V0 at ac aQ aN aO aP a1 a2 y|-;refine tQ_ 0 9 ?D0 rfl rfl (Or.inl ⟨by rfl,λw0 al=>zL 53 _ rfl B0 rfl 53 (srow_ s) (0,0) _ al.2.2.2.2.1 underlying53 rfl sSl⟩) y ?_;simp only[zf];refine tks_ 4 [(1,10,(P_ F o)),(2,11,(P_ F o)),(3,12,(P_ F (o+11))),(4,13,.agg (srow_ x.slot))] y ?_;simp only[tkf_,zf];refine zE 5 rfl (λK9 D=>?_);refine zj rfl 14 rfl 166 [.tmp 9,.tmp 13] #[53,53] rfl [?D0,.agg (srow_ x.slot)] rfl (eO_ func166) (λv w'=>v=.bool b1/\B_ V0 w') ((aI.out V0 ac).mono (λe w' k=>⟨_,k.1,rfl,k.2⟩)) ?_;rintro v V1⟨rfl,ag⟩;have aT:=zm ac ag;have bi:=zr ag aQ;have a7:=zr ag aN;have bb:=zr ag aO;have bf:=zr ag aP;have bx:=zk ag a1;have bC:=zk ag a2;refine D.out _ _ ⟨bi,a7,bb,bf,bx,bC⟩ (λy=>?_);simp only[zf];cases b1 with
  | false=>
   refine tks_ 24 [(6,15,.bool (!false)),(7,16,.bool (!false)),(8,17,undef),(9,18,undef),(10,19,undef),(11,20,undef),(12,21,undef),(13,22,undef),(14,23,undef),(15,24,undef),(16,25,undef),(17,26,.bool true),(18,27,.bool true),(19,28,undef),(20,29,undef),(21,30,undef),(22,31,.bool true),(23,32,.bool true),(24,33,undef),(25,34,undef),(26,35,undef),(27,36,undef),(28,37,undef),(29,38,.bool true)] y ?_;simp only[tkf_,zf];clear y;refine wD_ (by kernel_rfl) ?_ _;go_wp2_with fail
   go_meet
   case rel=>exact⟨rfl,aT⟩
  | true=>
   refine tks_ 7 [(6,15,.bool (!true)),(7,16,.bool (!true)),(8,17,(P_ F o)),(9,18,(P_ F o)),(10,19,(P_ F (o+6))),(11,20,(P_ x.s 0)),(12,21,(P_ B0 0))] y ?_;simp only[tkf_,zf];refine tQ_ 13 22 (I_ s.au) rfl rfl (Or.inl ⟨by rfl,λw0 al=>by have k0:=zb al.2.2.2.2.1 0 _ rfl;go_simp⟩) y ?_;simp only[zf];refine zU 14 23 (P_ B0 1) rfl rfl y ?_;simp only[zf];refine tQ_ 15 24 (I_ s.rd) rfl rfl (Or.inl ⟨by rfl,λw0 al=>by have k0:=zb al.2.2.2.2.1 1 _ rfl;go_simp⟩) y ?_;simp only[zf];refine zE 16 rfl (λK9 D=>?_);refine zaJ (by rfl) 25 rfl 110 [.tmp 20,.tmp 22,.tmp 24] #[112,3,3] rfl [P_ x.s 0,I_ s.au,I_ s.rd] rfl (eO_ func110) (λv w'=>v=.bool b2/\B_ V1 w') ((aD.out V1 aT).mono (λe w' k=>⟨_,k.1,rfl,k.2⟩)) ?_;rintro v V2⟨rfl,ah⟩;have aU:=zm aT ah;have bj:=zr ah bi;have a8:=zr ah a7;have bc:=zr ah bb;have bg:=zr ah bf;have bz:=zk ah bx;have bD:=zk ah bC;refine D.out _ _ ⟨bj,a8,bc,bg,bz,bD⟩ (λy=>?_);simp only[zf];cases b2 with
   | true=>
    refine tks_ 13 [(17,26,.bool true),(18,27,.bool true),(19,28,undef),(20,29,undef),(21,30,undef),(22,31,.bool true),(23,32,.bool true),(24,33,undef),(25,34,undef),(26,35,undef),(27,36,undef),(28,37,undef),(29,38,.bool true)] y ?_;simp only[tkf_,zf];clear y;refine wD_ (by kernel_rfl) ?_ _;go_wp2_with fail
    go_meet
    case rel=>exact⟨rfl,aU⟩
   | false=>
    refine tks_ 4 [(17,26,.bool false),(18,27,.bool false),(19,28,(P_ F o)),(20,29,I_ t)] y ?_;simp only[tkf_,zf];refine zE 21 rfl (λK9 D=>?_);refine zaJ (by rfl) 30 rfl 144 [.tmp 28,.tmp 29] #[127,3] rfl [P_ F o,I_ t] rfl (eO_ func144) (λv w'=>v=.bool b3/\B_ V2 w') ((aL.out V2 aU).mono (λe w' k=>⟨_,k.1,rfl,k.2⟩)) ?_;rintro v N⟨rfl,ai⟩;have aV:=zm aU ai;have bk:=zr ai bj;have a9:=zr ai a8;have bd:=zr ai bc;have bh:=zr ai bg;have bA:=zk ai bz;have bE:=zk ai bD;refine D.out _ _ ⟨bk,a9,bd,bh,bA,bE⟩ (λy=>?_);simp only[zf];cases b3 with
    | true=>
     refine tks_ 8 [(22,31,.bool true),(23,32,.bool true),(24,33,undef),(25,34,undef),(26,35,undef),(27,36,undef),(28,37,undef),(29,38,.bool true)] y ?_;simp only[tkf_,zf];clear y;refine wD_ (by kernel_rfl) ?_ _;go_wp2_with fail
     go_meet
     case rel=>exact⟨rfl,aV⟩
    | false=>
     refine tks_ 2 [(22,31,.bool false),(23,32,.bool false)] y ?_;simp only[tkf_,zf];refine tQ_ 24 33 (.agg ?B0) rfl rfl (Or.inl ⟨by rfl,λw0 al=>zL 108 _ rfl B1 rfl 108 ?B0 (0,0) _ al.2.2.2.2.2 underlying108 rfl sNo⟩) y ?_;simp only[zf];refine zU 25 34 (I_ t) rfl rfl y ?_;simp only[zf];refine tQ_ 26 35 ?D0 rfl rfl (Or.inl ⟨by rfl,λw0 al=>zL 53 _ rfl B0 rfl 53 (srow_ s) (0,0) _ al.2.2.2.2.1 underlying53 rfl sSl⟩) y ?_;simp only[zf];refine zE 27 rfl (λK9 D=>?_);refine zaJ (by rfl) 36 rfl 167 [.tmp 33,.tmp 34,.tmp 35] #[108,3,53] rfl [.agg ?B0,I_ t,?D0] rfl (eO_ func167) (λv w'=>v=.bool b4/\B_ N w') ((aH.out N aV).mono (λe w' k=>⟨_,k.1,rfl,k.2⟩)) ?_;rintro v V4⟨rfl,aj⟩;have bU:=zm aV aj;have bP:=zr aj bk;have bM:=zr aj a9;have bN:=zr aj bd;have bO:=zr aj bh;have b7:=zk aj bA;have b9:=zk aj bE;refine D.out _ _ ⟨bP,bM,bN,bO,b7,b9⟩ (λy=>?_);simp only[zf];refine tks_ 2 [(28,37,.bool (!b4)),(29,38,.bool (!b4))] y ?_;simp only[tkf_,zf];clear y;refine wD_ (by kernel_rfl) ?_ _;go_wp2_with fail
     go_meet
     case rel=>exact⟨by simp,bU⟩
 refine kO_ ?A0 ?_;exact Obj.cells #[I_ 0,I_ 0,O_,O_,O_] 64
 case rest=>
  obtain⟨rfl,ar⟩:=hcut;apply_assumption;clear c6 a6 ba be aI aD aL aH;generalize hC:(!b1||b2||b3||!b4)=cc;have a4:Hid ((s.v≠x.v.k.slot\/0<=cOf x.v.k.dag s.v.1 s.v.2.1\/t∈x.v.vot\/No.signed ⟨B,gvs A⟩ t s.v=false)↔cc=true):=by
   obtain⟨e1,e2,e3,e4⟩:=HB.out;have bQ:decide (s.v=x.v.k.slot)=b1:=e1;have bR:decide (0<=cOf x.v.k.dag s.v.1 s.v.2.1)=b2:=e2;have bS:decide (t∈x.v.vot)=b3:=e3;rw[<-hC,<-bQ,<-bR,<-bS,<-e4];show _↔_
   simp
   constructor
   .intro g;rcases g with g|g|g|g
    .exact .inl (.inl (.inl g))
    .exact .inl (.inl (.inr g))
    .exact .inl (.inr g)
    .exact .inr g
   .intro g;rcases g with((g|g)|g)|g
    .exact .inl g
    .exact .inr (.inl g)
    .exact .inr (.inr (.inl g))
    .exact .inr (.inr (.inr g))
  clear hC HB;obtain⟨W1,bn⟩:∃W,W=wc:=⟨_,rfl⟩;rw[<-bn]at ar|-;clear bn;have O:=h0.below ar;have n1:=bm.trans (NTo.below (F:=F) (o:=o) U fc x ar);have b8:=zk ar q1;have bX:=aX.sub (h0.later ar);clear q0 q1 h0 aY aX bm ar;cases cc with
  | true=>
   have HM:Hid (x.v.hearV ⟨B,gvs A⟩ t s.v=x.v):=if_pos (a4.out.2 rfl);go_wp2_with fail
   refine bP_ (results_none rfl _ _ _) rfl ?_;exact⟨⟨_,rfl⟩,by rw[HM.out];exact⟨U,fc,x,O,n1,rfl⟩⟩
  | false=>
   have aF:Hid (¬(s.v≠x.v.k.slot\/0<=cOf x.v.k.dag s.v.1 s.v.2.1\/t∈x.v.vot\/No.signed ⟨B,gvs A⟩ t s.v=false)):=λg=>by have:=a4.out.1 g;cases this
   obtain⟨ti,br,bs,bt,bu⟩:=info_parts zq6;have H:x.vot.length<=4:=h.inv.vot.1;have Z:=O.cell 14 _ rfl;have aR:=zC W1 (.cells #[I_ t] 3);have an:=O.below aR;have aM:∀(N:World) (ad:Option Addr) (ae:Nat),N.ownsRow 0 3 1 (.slice ad (x.vot++[t]).length ae) (x.vot++[t]).length (iv (x.vot++[t]))->zV (W1.alloc (.cells #[I_ t] 3)) (.slice x.oa x.vot.length x.oc) N (.slice ad (x.vot++[t]).length ae)->zal W1 U F o T fc x (N.setCell ⟨F,o+14,none⟩ (.slice ad (x.vot.length+1) ae)) { x.v with vot:=x.v.vot++[t] }:=by
    intro N ad ae ho G;have bZ:(x.vot++[t]).length=x.vot.length+1:=by simp
    have bq:=aF.out;have bw:=an.more_vot (l':=x.vot++[t]) G ho (h.inv.vot_ (l:=x.v.vot++[t]) (by
     have hv:=h.inv.vot;refine⟨?_,λv b5=>?_,?_⟩
     .exact zv1 hv aA (λg=>bq (.inr (.inr (.inl g))))
     .rcases List.mem_append.1 b5 with g|g
      .exact hv.2.1 v g
      .rw[List.mem_singleton.1 g];exact aA
     .exact List.nodup_append.2 ⟨hv.2.2,by simp,λa ha b hb e=>bq (.inr (.inr (.inl (by rw[<-List.mem_singleton.1 hb,<-e];exact ha))))⟩))
    rw[bZ]at bw;exact zal.after (NTo.below U fc x aR) bw
   have HM:Hid (x.v.hearV ⟨B,gvs A⟩ t s.v=if x.vot.length+1<3 then { x.v with vot:=x.v.vot++[t] } else if({ x.v with vot:=x.v.vot++[t] }:Nd).proofs ⟨B,gvs A⟩ ({ x.v with vot:=x.v.vot++[t] }:Nd).cert then(({ x.v with vot:=x.v.vot++[t] }:Nd).hearP ⟨B,gvs A⟩ ({ x.v with vot:=x.v.vot++[t] }:Nd).cert).sendAll (zdh ({ x.v with vot:=x.v.vot++[t] }:Nd).cert)else { x.v with vot:=x.v.vot++[t] }):=if_neg aF.out;by_cases hl:x.vot.length+1<3;rw[if_pos hl]at HM;have bp:(x.vot.length:Int)+1<3:=by omega
   rotate_left
   rw[if_neg hl]at HM;have bp:¬(x.vot.length:Int)+1<3:=by omega
   rotate_left
   all_goals
    go_upto_region 2 with fail
    go_wp2_with (at_builtin;refine wpList_append_own_at _ rfl _ _ 62 rfl 0 3 ti (I_ 0) 1 8 underlying62 br bs bt bu rfl (by decide) _ x.vot.length _ rfl (oA_ O.rvo _) ⟨W1.heap.size,0,none⟩ 1 1 [I_ t] rfl rfl (zag _ _ _) (by intro u hu;simp at hu;subst hu;rfl) (by unfold maxLen;omega) (by omega) (nZ_ _) ?_;intro v3 N au aB _ az;obtain⟨ad,ae,rfl⟩:=zH au;have G:zV (W1.alloc (.cells #[I_ t] 3)) (.slice x.oa x.vot.length x.oc) N (.slice ad (x.vot.length+1) ae):=zV.of aB az;have aq:=G.row an.blk (λe=>(an.su _ (.inr (.inr (.inr (.inr (.inr (.inl (zp e)))))))).2 rfl);have bF:=zb aq (o+14) _ (an.cel 14 (by decide));have bG:=zd aq (o+14))
   .refine bP_ (results_none rfl _ _ _) rfl ?_;exact⟨⟨_,rfl⟩,by rw[HM.out];exact zal.after n1 (aM N ad ae (by simpa[iv]using au) (by simpa using G))⟩
   .obtain⟨U4,bl,d,H,n4,v4⟩:=aM N ad ae (by simpa[iv]using au) (by simpa using G);have aE:Hid (x.v.hearV ⟨B,gvs A⟩ t s.v=if d.v.proofs ⟨B,gvs A⟩ d.v.cert then(d.v.hearP ⟨B,gvs A⟩ d.v.cert).sendAll (zdh d.v.cert)else d.v):=by
     show _=_;rw[v4];exact HM.out
    clear HM v4 aM aF;generalize N.setCell ⟨F,o+14,none⟩ (.slice ad (x.vot.length+1) ae)=E at H n4|-;have bB:=n4.box O b8 aS.out.2;have bY:=bX.sub (n4.sub O);clear bF bG aq G au aB az hl bp Z an aR;have c7:=H.cell 7 _ rfl;have c8:=H.cell 8 _ rfl;have c9:=H.cell 9 _ rfl;have af:=H.cell 10 _ rfl;have Z:=H.cell 14 _ rfl;obtain⟨r,bv⟩:∃r,r=zhH d.vot:=⟨_,rfl⟩;have a0:Hid _:=bv;clear bv;have aZ:Hid (r.length=d.vot.length):=by show _=_;rw[a0.out];exact(zlY _).length_eq
    refine kV_ ?G0 ?_;exact Value.slice d.oa d.vot.length d.oc;have aJ:Hid (∀(V:World) (z:Nat),B_ E V->R_ V z #[?G0] 62->Calls prog 168 #[.func (.func 198) #[] #[P_ z 0]] V λe w'=>∃m q,e=.returned (.slice m r.length q)/\w'.ownsRow E.heap.size 3 1 (.slice m r.length q) r.length (iv r)/\B_ V w'):=by
     show ∀V z,_;intro V z hV hq;refine(zr8 z d.oa d.oc d.vot H.inv.vot.1 V (ze hq) (zb hq 0 _ rfl) ((zyt H.rvo).below hV |>.up hV.size)).mono (λe w' k=>?_);obtain⟨m,q,R,O,h2⟩:=k;rw[<-a0.out,<-aZ.out]at O;rw[<-aZ.out]at R;exact⟨m,q,R,zcX O hV.size,h2⟩
    have b6:Hid (r.length<=4):=by show _<=_;rw[aZ.out];exact H.inv.vot.1
    have ac:=dB_ E;refine kV_ ?E0 ?_;exact Value.slice d.own.ba d.own.bl.length d.own.bc;refine kV_ ?F0 ?_;exact Value.slice d.own.pa d.own.pl.length d.own.pc;refine wR_ (S:=λw'=>w'.cell? ⟨F,o+7,none⟩=some (I_ d.own.au)/\w'.cell? ⟨F,o+8,none⟩=some (I_ d.own.rd)/\w'.cell? ⟨F,o+9,none⟩=some ?E0/\w'.cell? ⟨F,o+10,none⟩=some ?F0/\w'.cell? ⟨F,o+14,none⟩=some ?G0) (by kernel_rfl) ⟨zr ac c7,zr ac c8,zr ac c9,zr ac af,zr ac Z⟩ (λy=>?_);generalize E.drew=V0 at ac  y ⊢;refine tks_ 8 [(0,55,(P_ F o)),(1,56,(P_ F o)),(2,57,(P_ F (o+7))),(3,58,.agg (hrow_ d.own)),(4,59,(P_ F o)),(5,60,(P_ F o)),(6,61,(P_ F (o+14))),(7,62,.slice d.oa d.vot.length d.oc)] y ?_;simp only[tkf_,zf];clear y;refine zno (λGO ao ak=>?_);refine znp (λA0 M=>?_);have ch:Hid (∀(V:World) (z:Nat) (m:Option Addr) (q:Nat) (f:Nat),B_ E V->(V.ownsRow E.heap.size 3 1 (.slice m r.length q) r.length (iv r))->(E.heap.size<=f)->(R_ V f #[I_ d.own.au,I_ d.own.rd,?E0,?F0,.slice m r.length q] 64)->GO 0 #[true,true,true,true,true,true,true,true,true,true,true,true,true] ((((A0.put (some 63) (.func (.func 198) #[] #[P_ z 0])).put (some 64) (.slice m r.length q)).put (some 65) (.agg #[I_ d.own.au,I_ d.own.rd,?E0,?F0,.slice m r.length q])).put (some 8) (P_ f 0)) V):=by
     show ∀V,_;intro V z m q f C o1 aa tB;refine ao.out _ _ _ _ ?_;rw[<-M.out]
     try simp only[zf]
     refine wD_ (by kernel_rfl) ?_ _;clear GO ao ak;have h5:=H.below C;have n5:=n4.trans (NTo.below (F:=F) (o:=o) U4 bl d C);have bo:za7 (zq U4 V) ⟨d.own.au,d.own.rd,d.own.ba,d.own.bc,d.own.bl,d.own.pa,d.own.pc,d.own.pl,m,q,r⟩:=by
      obtain⟨za,zc,e,_,hi,aA⟩:=zeW o1;cases e;exact⟨h5.hdr.hat,hi.hid (λsb so e=>H.bnd.new (aA sb so e)),by have:=b6.out;show r.length<=_;omega⟩
     have bT:Hid (U4 f=false):=H.bnd.new aa;have aC:Hid ((⟨d.own.au,d.own.rd,d.own.ba,d.own.bc,d.own.bl,d.own.pa,d.own.pc,d.own.pl,m,q,r⟩:Ct).v=d.v.cert):=by show _=_;rw[a0.out];rfl
     have HP:=zlU d ⟨d.own.au,d.own.rd,d.own.ba,d.own.bc,d.own.bl,d.own.pa,d.own.pc,d.own.pl,m,q,r⟩ B A X Y V U4 F o T bl h5 bo H.ownU.1 H.ownU.2 (bY.sub (H.later C));rw[aC.out]at HP;have aG:Hid (d.v.hearP ⟨B,gvs A⟩ d.v.cert=if d.v.proofs ⟨B,gvs A⟩ d.v.cert then d.v.log (zdh d.v.cert) { d.v.k with dag:=d.v.k.dag++[d.v.cert] } else d.v):=rfl;have a5:Hid (d.v.proofs ⟨B,gvs A⟩ d.v.cert=true->d.v.cert.f=0):=by
      intro g;rw[znl]at g;simp only[Bool.and_eq_true,decide_eq_true_eq]at g;exact(zg5 g.1.1).1
     generalize d.v.proofs ⟨B,gvs A⟩ d.v.cert=pb at HP aG aE a5;have q5:=zk C bB;have d0:=zb tB 0 _ rfl;have d1:=zb tB 1 _ rfl;have d2:=zb tB 2 _ rfl;have d3:=zb tB 3 _ rfl;have d4:=zb tB 4 _ rfl;have l0:=zb q5 0 _ rfl;have l1:=zb q5 1 _ rfl;clear c7 c8 c9 af Z o1 aJ bB;cases pb with
     | false=>
      go_wp2_with fail
      refine HP.mono ?_;rintro _ w6⟨rfl,U6,ax,x6,h6,n6,v6⟩;dsimp only;clear HP;have aK:Hid _:=v6;clear v6;go_wp2_with fail
      go_end0;exact⟨⟨_,rfl⟩,U6,ax,x6,h6,(n1.trans n5).trans n6,by rw[aE.out,aK.out,aG.out];rfl⟩
     | true=>
      go_wp2_with fail
      refine HP.mono ?_;rintro _ w6⟨rfl,U6,ax,x6,h6,n6,v6⟩;dsimp only;clear HP d0 d1 d2 d3 d4 l0 l1;have aK:Hid _:=v6;clear v6;have t6:=n6.box h5 tB bT.out;have bV:=bo.sub (n6.sub h5);have d0:=zb t6 0 _ rfl;have d1:=zb t6 1 _ rfl;have d2:=zb t6 2 _ rfl;have d3:=zb t6 3 _ rfl;have d4:=zb t6 4 _ rfl;have HO:=zmB ⟨d.own.au,d.own.rd,d.own.ba,d.own.bc,d.own.bl,d.own.pa,d.own.pc,d.own.pl,m,q,r⟩ w6;go_wp2_with fail
      refine HO.mono ?_;rintro _ w7⟨rfl,aW⟩;dsimp only;clear HO d0 d1 d2 d3 d4;have h7:=h6.below aW;have bW:zap d.own.au d.own.rd d.own.bl d.own.pl r=0:=by
       have e1:=Ct.f_v ⟨d.own.au,d.own.rd,d.own.ba,d.own.bc,d.own.bl,d.own.pa,d.own.pc,d.own.pl,m,q,r⟩;rw[aC.out,a5.out trivial]at e1;exact e1
      have HS:=zh7 x6 (zef ⟨d.own.au,d.own.rd,d.own.ba,d.own.bc,d.own.bl,d.own.pa,d.own.pc,d.own.pl,m,q,r⟩) w7 U6 F o T ax h7 (ztX (c:=⟨d.own.au,d.own.rd,d.own.ba,d.own.bc,d.own.bl,d.own.pa,d.own.pc,d.own.pl,m,q,r⟩) (bV.sub (h6.later aW)) bW H.ownU.1 H.ownU.2);have bL:Hid ((zef ⟨d.own.au,d.own.rd,d.own.ba,d.own.bc,d.own.bl,d.own.pa,d.own.pc,d.own.pl,m,q,r⟩).c=zdh d.v.cert):=by show _=_;rw[zx9,aC.out]
      rw[bL.out]at HS;go_wp2_with fail
      refine HS.mono ?_;rintro e w8⟨⟨v,R⟩,U8,fc8,x8,h8,n8,v8⟩;subst R;dsimp only;clear HS;have bK:Hid _:=v8;clear v8;go_wp2_with fail
      go_end0;exact⟨⟨_,rfl⟩,U8,fc8,x8,h8,(((n1.trans n5).trans n6).trans (NTo.below (F:=F) (o:=o) U6 ax x6 aW)).trans n8,by rw[aE.out,bK.out,aK.out,aG.out];rfl⟩
    have bI:Hid (∀(V:World) (z:Nat) (m:Option Addr) (q:Nat) (f:Nat),B_ E V->(V.ownsRow E.heap.size 3 1 (.slice m r.length q) r.length (iv r))->(R_ V f #[I_ 0,I_ 0,O_,O_,O_] 64)->(E.heap.size<=f)->GO 1 #[true,true,true,true,true,true,true,true,true,true,true,true,false] ((((A0.put (some 63) (.func (.func 198) #[] #[P_ z 0])).put (some 64) (.slice m r.length q)).put (some 65) (.agg #[I_ d.own.au,I_ d.own.rd,?E0,?F0,.slice m r.length q])).put (some 8) (P_ f 0)) V):=by
     show ∀V,_;intro V z m q f C o1 J aa;refine ao.out _ _ _ _ ?_;rw[<-M.out]
     try simp only[zf]
     refine zE 12 rfl (λK D=>?_);have aw:=zc2 o1 J (by decide);have ci:=zb J 0 _ rfl;have cn:=zd J 0;have cj:=zb J 1 _ rfl;have co:=zd J 1;have ck:=zb J 2 _ rfl;have cp:=zd J 2;have cl:=zb J 3 _ rfl;have cq:=zd J 3;have cm:=zb J 4 _ rfl;have cr:=zd J 4;refine kW_ ?H0 ?_;exact((((V.setCell ⟨f,0,none⟩ (I_ d.own.au)).setCell ⟨f,1,none⟩ (I_ d.own.rd)).setCell ⟨f,2,none⟩ ?E0).setCell ⟨f,3,none⟩ ?F0).setCell ⟨f,4,none⟩ (.slice m r.length q);refine zX rfl rfl ?H0 (by go_simp) ?_;have j:=(((((C.setCell (p:=⟨f,0,none⟩) aa (I_ d.own.au)).setCell (p:=⟨f,1,none⟩) aa (I_ d.own.rd)).setCell (p:=⟨f,2,none⟩) aa ?E0).setCell (p:=⟨f,3,none⟩) aa ?F0).setCell (p:=⟨f,4,none⟩) aa (.slice m r.length q));have bJ:(?H0).heap[f]? = some (.cells #[I_ d.own.au,I_ d.own.rd,?E0,?F0,.slice m r.length q] 64 (0,0)):=by simpa using(hS_ _ _ 4 _ _ (.slice m r.length q) (hS_ _ _ 3 _ _ ?F0 (hS_ _ _ 2 _ _ ?E0 (hS_ _ _ 1 _ _ (I_ d.own.rd) (hS_ _ _ 0 _ _ (I_ d.own.au) J)))))
     have av:=(zaQ (zaQ (zaQ (zaQ (zaQ o1 f 0 (I_ d.own.au) aw) f 1 (I_ d.own.rd) aw) f 2 ?E0 aw) f 3 ?F0 aw) f 4 (.slice m r.length q) aw);generalize ?H0=L at j bJ av|-;refine D.out _ _ ⟨zr j c7,zr j c8,zr j c9,zr j af,zr j Z⟩ (λy=>?_);clear y;have h:=ch.out L z m q f j av aa bJ;rw[<-M.out]at h
     (try simp only[zf]at h)
     (try simp only[List.setIfInBounds_toArray,List.set_cons_zero,List.set_cons_succ])
     exact ak.out _ _ _ _ h
    have cg:Hid (∀(V:World) (z:Nat) (m:Option Addr) (q:Nat),B_ E V->(V.ownsRow E.heap.size 3 1 (.slice m r.length q) r.length (iv r))->GO 2 #[true,true,true,true,true,true,true,true,true,true,true,false,false] (((A0.put (some 63) (.func (.func 198) #[] #[P_ z 0])).put (some 64) (.slice m r.length q)).put (some 65) (.agg #[I_ d.own.au,I_ d.own.rd,?E0,?F0,.slice m r.length q])) V):=by
     show ∀V,_;intro V z m q C o1;refine ao.out _ _ _ _ ?_;rw[<-M.out]
     try simp only[zf]
     refine zE 11 rfl (λK D=>?_);refine zy rfl 8 rfl (P_ V.heap.size 0) (V.alloc ?A0) (by go_simp) ?_;have I:=zC V ?A0;have j:=zm C I;have ab:=hN_ V ?A0;have am:=C.size;generalize hW':V.alloc ?A0=L at I j ab|-;clear hW';obtain⟨f,ap⟩:∃f,f=V.heap.size:=⟨_,rfl⟩;rw[<-ap]at ab am|-;have ay:=I;clear ap;refine D.out _ _ ⟨zr j c7,zr j c8,zr j c9,zr j af,zr j Z⟩ (λy=>?_);clear y;have h:=bI.out L z m q f j (zw o1 ay) ab am;rw[<-M.out]at h
     (try simp only[zf]at h)
     (try simp only[zf])
     exact ak.out _ _ _ _ h
    have bH:Hid (∀(V:World) (z:Nat) (f:Nat),B_ E V->(R_ V z #[?G0] 62)->(R_ V f #[I_ 0,I_ 0,O_,O_,O_] 64)->(E.heap.size<=f)->GO 3 #[true,true,true,true,true,true,true,true,true,false,false,true,false] ((A0.put (some 63) (.func (.func 198) #[] #[P_ z 0])).put (some 8) (P_ f 0)) V):=by
     show ∀V,_;intro V z f C qs J aa;refine ao.out _ _ _ _ ?_;rw[<-M.out]
     try simp only[zf]
     refine zE 9 rfl (λK D=>?_);refine zj rfl 64 rfl 168 [.tmp 63] #[240] rfl [.func (.func 198) #[] #[P_ z 0]] rfl (eO_ func168) (λv w'=>∃m q,v=.slice m r.length q/\w'.ownsRow E.heap.size 3 1 (.slice m r.length q) r.length (iv r)/\B_ V w') ((aJ.out V z C qs).mono (λe w2 k=>by obtain⟨m,q,R,O,h2⟩:=k;exact⟨_,R,m,q,rfl,O,h2⟩)) ?_;rintro v L⟨m,q,rfl,av,hb⟩;have j:=zm C hb;refine D.out _ _ ⟨zr j c7,zr j c8,zr j c9,zr j af,zr j Z⟩ (λy=>?_);simp only[zf];refine zU 10 65 (.agg #[I_ d.own.au,I_ d.own.rd,?E0,?F0,.slice m r.length q]) rfl rfl y ?_;simp only[zf];clear y;have h:=bI.out L z m q f j av (zk hb J) aa;rw[<-M.out]at h
     (try simp only[zf]at h)
     (try simp only[zf])
     exact ak.out _ _ _ _ h
    have cf:Hid (∀(V:World) (z:Nat),B_ E V->(R_ V z #[?G0] 62)->GO 4 #[true,true,true,true,true,true,true,true,true,false,false,false,false] (A0.put (some 63) (.func (.func 198) #[] #[P_ z 0])) V):=by
     show ∀V,_;intro V z C qs;refine ao.out _ _ _ _ ?_;rw[<-M.out]
     try simp only[zf]
     refine wpAnyH_ready (rs:=[9,11]) (by kernel_rfl) (by simp) (AllReadyH.cons rfl (λK D=>?_) (AllReadyH.cons rfl (λK D=>?_) AllReadyH.nil));refine zj rfl 64 rfl 168 [.tmp 63] #[240] rfl [.func (.func 198) #[] #[P_ z 0]] rfl (eO_ func168) (λv w'=>∃m q,v=.slice m r.length q/\w'.ownsRow E.heap.size 3 1 (.slice m r.length q) r.length (iv r)/\B_ V w') ((aJ.out V z C qs).mono (λe w2 k=>by obtain⟨m,q,R,O,h2⟩:=k;exact⟨_,R,m,q,rfl,O,h2⟩)) ?_;rintro v L⟨m,q,rfl,av,hb⟩;have j:=zm C hb
     rotate_left
     refine zy rfl 8 rfl (P_ V.heap.size 0) (V.alloc ?A0) (by go_simp) ?_;have I:=zC V ?A0;have j:=zm C I;have ab:=hN_ V ?A0;have am:=C.size;generalize hW':V.alloc ?A0=L at I j ab|-;clear hW';obtain⟨f,ap⟩:∃f,f=V.heap.size:=⟨_,rfl⟩;rw[<-ap]at ab am|-;have ay:=I;clear ap
     rotate_left
     all_goals refine D.out _ _ ⟨zr j c7,zr j c8,zr j c9,zr j af,zr j Z⟩ (λy=>?_)
     simp only[zf];refine zU 10 65 (.agg #[I_ d.own.au,I_ d.own.rd,?E0,?F0,.slice m r.length q]) rfl rfl y ?_;simp only[zf];clear y;have h:=cg.out L z m q j av
     rotate_left
     clear y;have h:=bH.out L z f j ((ay.block _ (ze qs)).trans qs) ab am
     rotate_left
     all_goals
      rw[<-M.out]at h
      (try simp only[zf]at h)
      (try simp only[zf])
      exact ak.out _ _ _ _ h
    have ce:Hid (∀(V:World) (f:Nat),B_ E V->(R_ V f #[I_ 0,I_ 0,O_,O_,O_] 64)->(E.heap.size<=f)->GO 4 #[true,true,true,true,true,true,true,true,false,false,false,true,false] (A0.put (some 8) (P_ f 0)) V):=by
     show ∀V,_;intro V f C J aa;refine ao.out _ _ _ _ ?_;rw[<-M.out]
     try simp only[zf]
     refine zE 8 rfl (λK D=>?_);refine zj rfl 63 rfl 169 [.tmp 62] #[62] rfl [?G0] rfl (eO_ func169) (λv w'=>∃z,v=.func (.func 198) #[] #[P_ z 0]/\R_ w' z #[?G0] 62/\B_ V w') ((zo2 d.oa d.vot.length d.oc V).mono (λe w2 k=>⟨_,k.1,V.heap.size,rfl,by rw[k.2];exact hN_ _ _,by rw[k.2];exact(bR_ _ _).alloc (nR_ _) _⟩)) ?_;rintro v L⟨z,rfl,a3,hb⟩;have j:=zm C hb;refine D.out _ _ ⟨zr j c7,zr j c8,zr j c9,zr j af,zr j Z⟩ (λy=>?_);clear y;have h:=bH.out L z f j a3 (zk hb J) aa;rw[<-M.out]at h
     (try simp only[zf]at h)
     (try simp only[zf])
     exact ak.out _ _ _ _ h
    have cd:Hid (∀(V:World),B_ E V->GO 5 #[true,true,true,true,true,true,true,true,false,false,false,false,false] A0 V):=by
     show ∀V,_;intro V  C;refine ao.out _ _ _ _ ?_;rw[<-M.out]
     try simp only[zf]
     refine wpAnyH_ready (rs:=[8,11]) (by kernel_rfl) (by simp) (AllReadyH.cons rfl (λK D=>?_) (AllReadyH.cons rfl (λK D=>?_) AllReadyH.nil));refine zj rfl 63 rfl 169 [.tmp 62] #[62] rfl [?G0] rfl (eO_ func169) (λv w'=>∃z,v=.func (.func 198) #[] #[P_ z 0]/\R_ w' z #[?G0] 62/\B_ V w') ((zo2 d.oa d.vot.length d.oc V).mono (λe w2 k=>⟨_,k.1,V.heap.size,rfl,by rw[k.2];exact hN_ _ _,by rw[k.2];exact(bR_ _ _).alloc (nR_ _) _⟩)) ?_;rintro v L⟨z,rfl,a3,hb⟩;have j:=zm C hb
     rotate_left
     refine zy rfl 8 rfl (P_ V.heap.size 0) (V.alloc ?A0) (by go_simp) ?_;have I:=zC V ?A0;have j:=zm C I;have ab:=hN_ V ?A0;have am:=C.size;generalize hW':V.alloc ?A0=L at I j ab|-;clear hW';obtain⟨f,ap⟩:∃f,f=V.heap.size:=⟨_,rfl⟩;rw[<-ap]at ab am|-;have ay:=I;clear ap
     rotate_left
     all_goals
      refine D.out _ _ ⟨zr j c7,zr j c8,zr j c9,zr j af,zr j Z⟩ (λy=>?_);clear y
     have h:=cf.out L z j a3
     rotate_left
     have h:=ce.out L f j ab am
     rotate_left
     all_goals
      rw[<-M.out]at h
      (try simp only[zf]at h)
      (try simp only[zf])
      exact ak.out _ _ _ _ h
    exact cd.out V0 ac
end Go.Proofs.YtdnaljbnebnlhaaGreatDoor
