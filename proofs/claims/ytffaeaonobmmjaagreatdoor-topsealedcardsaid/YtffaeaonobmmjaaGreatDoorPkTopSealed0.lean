import Derived.Test.YtffaeaonobmmjaaGreatDoorPk20
set_option maxRecDepth 100000
set_option maxHeartbeats 4000000
namespace Go.Proofs.YtffaeaonobmmjaaGreatDoor
open Go.RowKit _root_.Go.Proofs.Tryz
theorem zA9 {l:List BW}{b:BW}(h:zbG l b=true):b.f=0:=by
 unfold zbG at h;simp only[Bool.and_eq_true,dE_]at h;exact h.1.1
theorem zAQ {l:List BW}{b:BW}(h:∀x∈l,x.f=0)(c:b.f=0):∀x∈l++[b],x.f=0:=λx d=>by
 rcases mA_.1 d with g|g
 .exact h x g
 .rw[mS_.1 g];exact c
theorem zB9 {k:Kn}(m:MC)(h:∀b∈k.sh,b.f=0):∀b∈(k.rcl m).sh,b.f=0:=by
 unfold Kn.rcl
 split
 split
 rename_i e;exact zAQ h (zA9 e)
 exact h
 split
 split<;>exact h
 split
 exact h
 split
 split<;>exact h
 exact h
theorem zBQ (l:List MC)(k:Kn)(h:∀b∈k.sh,b.f=0):∀b∈(l.foldl Kn.rcl k).sh,b.f=0:=by
 induction l generalizing k with
 | nil=>exact h
 | cons m l ih=>exact ih (k.rcl m) (zB9 m h)
structure zlJ (i:Int)(n:Nd):Prop where
 pool:zaO n.nx n.txs=0
 sh:∀b∈n.k.sh,b.f=0
theorem zA2:zc5 (λ_=>True) zlJ where
 step:=λi o a b q _ s h=>by
  rcases s with⟨d,m,l,_,rfl⟩|⟨b,e,_,rfl⟩|⟨_,_,rfl⟩|⟨_,_,rfl⟩|⟨_,_,_,_,_,rfl⟩|⟨_,_,_,_,rfl⟩|⟨e,_,rfl⟩|⟨_,rfl⟩
  .unfold Nd.send
   split
   .exact h
   .exact⟨h.pool,h.sh⟩
  .exact⟨h.pool,zAQ h.sh (zA9 e)⟩
  .exact⟨h.pool,h.sh⟩
  .exact⟨h.pool,h.sh⟩
  .exact⟨h.pool,h.sh⟩
  .exact⟨h.pool,h.sh⟩
  .exact⟨(zxv e).2,h.sh⟩
  .exact⟨h.pool,h.sh⟩
 crash:=λi n p _ _ h=>by
  obtain⟨_,_,_,_,_,j,g,_⟩:=zc8 n p
  have c:∀b∈(n.crash p).k.sh,b.f=0:=by rw[g];exact zBQ _ _ (λb f=>by cases f)
  refine⟨?_,c⟩
  have r:=zt3 n.nu (n.crash p).k.sh c
  have e:(n.crash p).nx=zd2 n.nu (n.crash p).k.sh:=rfl
  rw[j,e,zaO,iN_ (by show ¬(_\/40<0);omega)]
  rfl
 up:=λi n _ h=>⟨h.pool,h.sh⟩
 synced:=λi n _ h=>⟨h.pool,h.sh⟩
 sub:=λi n t _ _ e h=>⟨zyH h.pool e,h.sh⟩
theorem zlJ.z (r:Int):zah zlJ (Fl.z r):=⟨rfl,λi d=>by rw[zf1 r i d];exact⟨rfl,λb c=>by cases c⟩⟩
theorem zBm {b:BW}(h:b.f=0):(zed b).onTape.length<=325:=by
 have k:=zk7 (m:=(zed b).mv.m) (ss:=b.ss) (bl:=[]) (pl:=[]) (cbl:=[]) (cpl:=[]) (ds:=[]) (vl:=[]) rfl (by rw[ziO rfl];exact h);show(MV.onTape (zed b).mv).length<=325;rw[zlH];show 2+([_,_,_]++zcG _ _ _ _ _ _ _ _).length<=325;rw[lP_];have k:(zcG (zed b).mv.m (zed b).mv.ss (zed b).mv.bl (zed b).mv.pl (zed b).mv.cbl (zed b).mv.cpl (zed b).mv.ds (zed b).mv.vl).length<=320:=k;simp only[List.length_cons,List.length_nil];omega
theorem zBR {c:CV}(h:c.hf=0):(zcl c).onTape.length<=325:=by
 have k:=zk7 (m:=(zcl c).mv.m) (ss:=[]) (bl:=pz c.bl) (pl:=pz c.pl) (cbl:=[]) (cpl:=[]) (ds:=[]) (vl:=[]) rfl (by rw[ziP rfl];exact h);show(MV.onTape (zcl c).mv).length<=325;rw[zlH];show 2+([_,_,_]++zcG _ _ _ _ _ _ _ _).length<=325;rw[lP_];have k:(zcG (zcl c).mv.m (zcl c).mv.ss (zcl c).mv.bl (zcl c).mv.pl (zcl c).mv.cbl (zcl c).mv.cpl (zcl c).mv.ds (zcl c).mv.vl).length<=320:=k;simp only[List.length_cons,List.length_nil];omega
theorem zAC (b ys:Z_)(F G:Q_)(n m c d:Nat)(w:World)(V:n=b.length)(U:m=ys.length)(hx:n<=1000)(hy:m<=1000)(L:zas w F b)(M:zas w G ys) :
  Calls prog 14 #[.slice F n c,.slice G m d] w λe w'=>e=.returned (.bool (decide (b=ys)))/\B_ w w':=by
 subst V U;by_cases hl:b.length=ys.length
 .have r:Hid (b.length=ys.length):=hl;rw[<-hl];go_in;go_wp2_with fail
  go_loopw [5] (λj wr=>∃k:Nat,k<=b.length/\j=I_ k/\Hid (b.take k=ys.take k)/\B_ w wr) (λj _=>b.length-(intOf j).toNat)
  case atStart=>exact⟨0,nZ_ _,rfl,by show _=_;simp,bR_ _ _⟩
  case round=>
   obtain⟨k,hk,rfl,I,s⟩:=hrel;by_cases hlt:k<b.length
   .obtain⟨f,g,rfl,A⟩:∃f g,F=some (p_ f g)/\∀j,j<b.length->w.cell? (p_ f (g+j))=some (.string (b.getD j ByteArray.empty)):=by
     rcases L.cells with h|h;rw[h]at hlt;simp at hlt;exact h
    obtain⟨l,o,rfl,B⟩:∃l o,G=some (p_ l o)/\∀j,j<ys.length->w.cell? (p_ l (o+j))=some (.string (ys.getD j ByteArray.empty)):=by
     rcases M.cells with h|h;have:=r.out;rw[h]at this;simp at this;simp[this]at hlt;exact h
    have t:k<ys.length:=by have:=r.out;omega
    have X:=(s.cell (p:=p_ f (g+k)) (bL_ (A k hlt))).trans (A k hlt);have Y:=(s.cell (p:=p_ l (o+k)) (bL_ (B k t))).trans (B k t);have T:(k:Int)<b.length:=by omega
    have Z:(0:Int)<=k:=by omega
    clear A B;have C:Hid (b.take (k+1)=b.take k++[b.getD k ByteArray.empty]):=by show _=_;rw[tS_ hlt];simp[List.getD,hlt]
    have D:Hid (ys.take (k+1)=ys.take k++[ys.getD k ByteArray.empty]):=by show _=_;rw[tS_ t];simp[List.getD,t]
    generalize b.getD k ByteArray.empty=x at X C;generalize ys.getD k ByteArray.empty=y at Y D;by_cases he:x.toList=y.toList;have E:Hid (x=y):=zhf he;have N:(x.toList == y.toList)=true:=by simp[he]
    rotate_left
    have E:Hid (¬x=y):=λe=>he (by rw[e]);have N:(x.toList == y.toList)=false:=by simp[he]
    rotate_left
    all_goals
     clear he;go_wp2_with fail
     go_region_held3 (λw'=>w'.cell? (p_ f (g+k))=some (.string x)/\w'.cell? (p_ l (o+k))=some (.string y)) (go_keep) (fail)
    .all_goals
      go_wp2_with fail
      go_roundw
      case rel=>
       have H:∃u:Nat,u<=b.length/\(Value.int .i64 ((k:Int)+1))=I_ u/\Hid (b.take u=ys.take u)/\B_ w wr.drew:=⟨k+1,by omega,by go_num,by show _=_;rw[C.out,D.out,I.out,E.out],s.drew⟩
       first|exact H|((repeat apply Exists.intro);exact⟨H,rfl⟩)
      case measure=>simp[intOf];omega
    all_goals
     go_wp2_with fail
     go_ret;refine⟨zN (dF_ λe=>E.out ?_).symm,s.drew⟩;have q:=C.out;have J:=D.out;rw[e,J]at q;have z:=List.append_cancel_left q;simp only[List.cons.injEq,and_true]at z
     first|exact z|exact z.symm
   obtain rfl:k=b.length:=by omega
   have T:¬(b.length:Int)<b.length:=by omega
   have O:Hid (b=ys):=by
    have q:=I.out;rw[tL_ (nR_ _),tL_ (by have:=r.out;omega)]at q;exact q
   go_wp2_with fail
   go_ret;exact⟨zN (dT_ O.out).symm,s⟩
 have R:¬(b.length:Int)=ys.length:=by omega
 have r:Hid (¬b=ys):=λe=>hl (by rw[e]);have aa:((b.length:Int) == (ys.length:Int))=false:=beq_eq_false_iff_ne.2 R;go_in;go_wp2_with fail
 go_ret;exact⟨zN (dF_ r.out).symm,bR_ _ _⟩
theorem zA3 (au nu g f:Int)(b ys:Z_)(o p:Q_)(n m c d:Nat)(w:World)(s:n=b.length)(q:m=ys.length)(t:n<=1000)(u:m<=1000)(z:zas w o b)(A:zas w p ys) :
  Calls prog 27 #[.agg #[I_ au,I_ nu,.slice o n c],.agg #[I_ g,I_ f,.slice p m d]] w λe w'=>e=.returned (.bool (decide (au=g/\nu=f/\b=ys)))/\B_ w w':=by
 have l:B_ w ((w.alloc (.cells #[I_ au,I_ nu,.slice o n c] 44)).alloc (.cells #[I_ g,I_ f,.slice p m d] 44)):=((bR_ _ _).alloc (nR_ _) _).alloc (by simp) _;have y:=zAC b ys o p n m c d _ s q t u (z.below l) (A.below l);clear s q t u;by_cases h1:au=g
 .subst h1;by_cases h2:nu=f
  .subst h2;have j:Hid (decide (au=au/\nu=nu/\b=ys)=decide (b=ys)):=by show _=_;simp
   generalize decide (b=ys)=r at*;generalize decide (au=au/\nu=nu/\b=ys)=r' at*;go_in;go_wp2_with fail
   refine y.mono ?_;rintro _ F⟨rfl,B⟩;dsimp only;go_wp2_with fail
   go_ret;exact⟨zN j.out.symm,zS (zS B)⟩
  have j:Hid (decide (au=au/\nu=f/\b=ys)=false):=by show _=_;simp[h2]
  have E:(nu == f)=false:=by simpa using h2
  go_in;go_wp2_with fail
  go_ret;exact⟨by first|rfl|exact zN j.out.symm,l⟩
 have j:Hid (decide (au=g/\nu=f/\b=ys)=false):=by show _=_;simp[h1]
 have D:(au == g)=false:=by simpa using h1
 go_in;go_wp2_with fail
 go_ret;exact⟨by first|rfl|exact zN j.out.symm,l⟩
theorem zyP:(prog.info? 44).map (·.size)=some 3:=by kernel_rfl
theorem zjf (r:Int)(l:List Ac):((Fl.z r).run l).nd.length=4:=(zgk l _).trans rfl
theorem zsR (r:Int)(l:List Ac):((Fl.z r).run l).no.bad=r:=zxU l _
variable {i:Int}
theorem zBS {c:CV}(h:c.hf=0):(zcE c.slot).onTape.length<=325:=by
 have k:=zk7 (m:=(zcE c.slot).mv.m) (ss:=[]) (bl:=[]) (pl:=[]) (cbl:=[]) (cpl:=[]) (ds:=c.slot.2.2) (vl:=[]) rfl (by rw[ziQ rfl];exact zAp h);show(MV.onTape (zcE c.slot).mv).length<=325;rw[zlH];show 2+([_,_,_]++zcG _ _ _ _ _ _ _ _).length<=325;rw[lP_];have k:(zcG (zcE c.slot).mv.m (zcE c.slot).mv.ss (zcE c.slot).mv.bl (zcE c.slot).mv.pl (zcE c.slot).mv.cbl (zcE c.slot).mv.cpl (zcE c.slot).mv.ds (zcE c.slot).mv.vl).length<=320:=k;simp only[List.length_cons,List.length_nil];omega
theorem zBT {c:CV}(h:c.f=0):(zdh c).onTape.length<=325:=by
 have k:=zk7 (m:=(zdh c).mv.m) (ss:=[]) (bl:=[]) (pl:=[]) (cbl:=pz c.bl) (cpl:=pz c.pl) (ds:=[]) (vl:=c.vl) rfl (by rw[ziR rfl];exact h);show(MV.onTape (zdh c).mv).length<=325;rw[zlH];show 2+([_,_,_]++zcG _ _ _ _ _ _ _ _).length<=325;rw[lP_];have k:(zcG (zdh c).mv.m (zdh c).mv.ss (zdh c).mv.bl (zdh c).mv.pl (zdh c).mv.cbl (zdh c).mv.cpl (zdh c).mv.ds (zdh c).mv.vl).length<=320:=k;simp only[List.length_cons,List.length_nil];omega
def Kof (l:List MC):Kn:=l.foldl Kn.rcl Kn.z
structure Wt (i:Int)(l:List MC):Prop where
 tape:(zae l).length<=325*((Kof l).sh.length+(Kof l).tab.length+(Kof l).dag.length)
 tab:(Kof l).tab.length<=400
 dag:(Kof l).dag.length<=400
 own:∀t∈(Kof l).tab,t.1=i->t.2.1<=(Kof l).own.rd
def zjS (i:Int)(n:Nd):Prop:=(n.nu=i/\zdf i n)/\∀l,l <+: n.recs->Wt i l
theorem zjS.now {n:Nd}(h:zjS i n):Wt i n.recs/\Kof n.recs=n.k:=⟨h.2 _ (List.prefix_refl _),h.1.2.symm⟩
theorem zAS {n:Nd}{m:MC}{k:Kn}(h:zjS i n)(e:n.k.rcl m=k)(u:m.onTape.length<=325)(s:n.k.sh.length+n.k.tab.length+n.k.dag.length+1<=k.sh.length+k.tab.length+k.dag.length)
  (p:k.tab.length<=400) (g:k.dag.length<=400) (o:∀t∈k.tab,t.1=i->t.2.1<=k.own.rd):zjS i (n.log m k):=by
 have d:=zdm (m:=m) h.1.2 e;have c:Kof (n.recs++[m])=k:=(show k=_ from d).symm;refine⟨⟨h.1.1,d⟩,λl b=>?_⟩;have b:l <+: n.recs++[m]:=b;rcases List.prefix_concat_iff.1 b with rfl|b;obtain⟨q,j⟩:=h.now;have f:=q.tape;rw[j]at f;refine⟨?_,by rw[c];exact p,by rw[c];exact g,by rw[c];exact o⟩;rw[c];have r:(zae (n.recs++[m])).length=(zae n.recs).length+m.onTape.length:=by simp[zae]
 omega;exact h.2 l b
theorem zzT:∀(k:Nat) (l:List MC),zeo k l <+: l
 | _,[]=>List.prefix_refl _
 | k,m::l=>by
  rw[zeo]
  split
  .exact(List.cons_prefix_cons).2 ⟨rfl,zzT _ l⟩
  .exact List.nil_prefix
theorem zBU:zc5 (λ_=>True) zjS where
 step:=λi o a b D _ s h=>by
  obtain⟨B,I⟩:=h.now
  have C:=B.tab;have y:=B.dag;have q:=B.own
  rw[I]at C y q
  rcases s with⟨d,m,M,_,rfl⟩|⟨b,f,_,rfl⟩|⟨x,f,rfl⟩|⟨c,f,rfl⟩|⟨r,f,_,L,_,rfl⟩|⟨_,_,_,_,rfl⟩|⟨_,_,rfl⟩|⟨_,rfl⟩
  .unfold Nd.send;split<;>exact h
  .have H:b.f=0:=by unfold zbG at f;simp only[Bool.and_eq_true,dE_]at f;exact f.1.1
   exact zAS h (zmN f) (zBm H) (by show _<=(a.k.sh++[b]).length+_+_;rw[lP_];simp only[List.length_cons,List.length_nil];omega) C y q
  .rcases zgf f.cast with⟨g,_⟩|⟨g,_,u⟩
   .have:=f.more;rw[g]at this;omega
   .refine zAS h (by rw[zmP,g]) (zBS f.hf) ?_ ?_ y ?_
    .show _<=_+((zaf a.k.tab x).1).length+_
     rw[g,lP_];simp only[List.length_cons,List.length_nil];omega
    .show((zaf a.k.tab x).1).length<=400
     rw[g,lP_];simp only[List.length_cons,List.length_nil];omega
    .show ∀t∈(zaf a.k.tab x).1,_
     rw[g]
     intro t j e
     rcases mA_.1 j with j|j
     .exact q t j e
     .rw[mS_.1 j]at e
      exact absurd (e.trans h.1.1.symm) f.other
  .unfold Nd.proofs at f
   simp only[Bool.and_eq_true,dE_]at f
   obtain⟨z,_,u⟩:=zg5 f.1.1
   exact zAS h (zmQ f.1.1) (zBT z) (by show _<=_+_+(a.k.dag++[c]).length;rw[lP_];simp only[List.length_cons,List.length_nil];omega) C (by show(a.k.dag++[c]).length<=400;rw[lP_];simp only[List.length_cons,List.length_nil];omega) q
  .have A:(a.header r).slot.1=i/\(a.header r).slot.2.1=r:=⟨h.1.1,rfl⟩
   rcases zgf f with⟨_,t,z,G,u,_⟩|⟨g,_,u⟩
   .have:=q t z (G.trans A.1)
    rw[u,A.2]at this
    omega
   .have h':zjS i (a.log (zcl (a.header r)) { a.k with tab:=(zaf a.k.tab (a.header r)).1,own:=a.header r,slot:=(a.header r).slot }):=by
     refine zAS h (zmO rfl (zgU f).2.1 f) (zBR (zgU f).2.1) ?_ ?_ y ?_
     .show _<=_+((zaf a.k.tab (a.header r)).1).length+_;rw[g,lP_];simp only[List.length_cons,List.length_nil];omega
     .show((zaf a.k.tab (a.header r)).1).length<=400;rw[g,lP_];simp only[List.length_cons,List.length_nil];omega
     .show ∀t∈(zaf a.k.tab (a.header r)).1,_->_<=(a.header r).rd;rw[g];intro t j e;have N:(a.header r).rd=r:=rfl;rcases mA_.1 j with j|j
      .have:=q t j e;omega
      .rw[mS_.1 j,A.2];exact Int.le_refl _
    exact⟨⟨h'.1.1,h'.1.2⟩,h'.2⟩
  all_goals exact⟨⟨h.1.1,h.1.2⟩,h.2⟩
 crash:=λi n p D J h=>by
  obtain⟨f,_,_,F,_⟩:=zc8 n p;refine⟨⟨f.trans h.1.1,zib.crash i n p D J h.1.2⟩,λl E=>h.2 l ?_⟩;rw[F]at E;exact E.trans (zzT _ _)
 up:=λi n _ h=>⟨⟨h.1.1,h.1.2⟩,h.2⟩
 synced:=λi n _ h=>⟨⟨h.1.1,h.1.2⟩,h.2⟩
 sub:=λi n t _ _ _ h=>⟨⟨h.1.1,h.1.2⟩,h.2⟩
theorem zCi (r:Int):zah zjS (Fl.z r):=⟨rfl,λi b=>by
 rw[zf1 r i b]
 refine⟨⟨rfl,rfl⟩,λl c=>?_⟩
 obtain rfl:=List.prefix_nil.1 c
 exact⟨nR_ _,by decide,by decide,λt d=>by cases d⟩⟩
theorem zjS.room {n:Nd}(h:zjS i n)(l:n.k.sh.length<=400){m:MC}(j:m.onTape.length<=325):n.room m=true:=by
 obtain⟨b,g⟩:=h.now;have c:=b.tape;have d:=b.tab;have f:=b.dag;rw[g]at c d f;unfold Nd.room;exact dT_ (by omega)
theorem zCa (r:Int)(l:List Ac)(c:∀a∈l,a.ok){i:Int}(b:0<=i/\i<4):zjS i (((Fl.z r).run l).node i):=
 (zah.run zBU l (zcn.z r) (zCi r) c (λ_ _ _=>trivial)).2 i b
def InG (G:Z_)(d:L_):Prop:=zai d∈G
structure PG (G:Z_)(n:Nd):Prop where
 tape:n.k=n.recs.foldl Kn.rcl Kn.z
 recs:∀m∈n.recs,m.ki=1->InG G m.b.d
 wai:∀m∈n.wai,m.ki=1->InG G m.b.d
theorem PG.more {G H:Z_}{n:Nd}(h:PG G n):PG (G++H) n:=⟨h.tape,λm a b=>List.mem_append_left _ (h.recs m a b),λm a b=>List.mem_append_left _ (h.wai m a b)⟩
theorem zBM (k:Kn)(m:MC):(k.rcl m).sh=k.sh\/((k.rcl m).sh=k.sh++[m.b]/\m.ki=1/\zbG k.sh m.b=true):=by
 unfold Kn.rcl
 split
 rename_i b
 split
 rename_i c;exact .inr ⟨rfl,b,c⟩
 exact .inl rfl
 split
 split<;>exact .inl rfl
 split
 exact .inl rfl
 split
 split<;>exact .inl rfl
 exact .inl rfl
theorem zAG:∀(l:List MC) (k:Kn) (b:BW),b∈(l.foldl Kn.rcl k).sh->b∈k.sh\/∃m∈l,m.ki=1/\m.b=b
 | [],k,b,h=>.inl h
 | m::l,k,b,h=>by
  rcases zAG l (k.rcl m) b h with g|⟨x,d,e⟩
  .rcases zBM k m with e|⟨e,c,_⟩
   .rw[e]at g;exact .inl g
   .rw[e]at g
    rcases mA_.1 g with g|g
    .exact .inl g
    .exact .inr ⟨m,by simp,c,(mS_.1 g).symm⟩
  .exact .inr ⟨x,mC_ _ d,e⟩
def Dst (l:List BW):Prop:=(l.map λb=>zai b.d).Nodup
theorem zBa:∀(l:List MC) (k:Kn),Dst k.sh->Dst (l.foldl Kn.rcl k).sh
 | [],_,h=>h
 | m::l,k,h=>by
  refine zBa l (k.rcl m) ?_
  rcases zBM k m with e|⟨e,_,b⟩
  .rw[e];exact h
  .rw[e]
   unfold zbG zb1 at b
   simp only[Bool.and_eq_true,Bool.not_eq_true',List.any_eq_false,dE_]at b
   unfold Dst
   rw[List.map_append,List.nodup_append]
   refine⟨h,by simp,λx j y d=>?_⟩
   obtain⟨c,f,rfl⟩:=mM_.1 j
   simp only[List.map_cons,List.map_nil,mS_]at d
   rw[d]
   exact λg=>b.1.2 c f g
theorem PG.sh {G:Z_}{n:Nd}(h:PG G n){b:BW}(c:b∈n.k.sh):InG G b.d:=by
 rw[h.tape]at c;rcases zAG _ _ _ c with g|⟨m,d,e,rfl⟩;cases g;exact h.recs m d e
theorem PG.has {G:Z_}{n:Nd}(h:PG G n){d:L_}(c:zb1 n.k.sh d=true):InG G d:=by
 rw[zb1,aT_]at c;obtain⟨b,f,e⟩:=c;have:=h.sh f;unfold InG at this|-
 rwa [of_decide_eq_true e]at this
theorem zBb {α:Type}[DecidableEq α]:∀(l m:List α),l.Nodup->(∀x∈l,x∈m)->l.length<=m.length
 | [],_,_,_=>nZ_ _
 | x::l,m,h,k=>by
  have b:x∈m:=k x (by simp)
  rw[List.nodup_cons]at h
  have d:=zBb l (m.erase x) h.2 (λy c=>(List.mem_erase_of_ne (λe=>by subst e;exact h.1 c)).2 (k y (mC_ _ c)))
  rw[List.length_erase_of_mem b]at d
  have f:=List.length_pos_of_mem b
  rw[List.length_cons]
  omega
theorem PG.few {G:Z_}{n:Nd}(h:PG G n):n.k.sh.length<=G.length:=by
 have c:Dst n.k.sh:=by rw[h.tape];exact zBa _ _ List.nodup_nil
 have:=zBb _ G c (λx f=>by obtain⟨b,d,rfl⟩:=mM_.1 f;exact h.sh d)
 rwa [List.length_map]at this
theorem zAT {G:Z_}{n:Nd}{m:MC}{k:Kn}(h:PG G n)(e:n.k.rcl m=k)(b:m.ki=1->InG G m.b.d):PG G (n.log m k):=
 ⟨zdm (i:=0) h.tape e,λx c=>by
  rcases mA_.1 c with g|g
  .exact h.recs x g
  .rw[mS_.1 g];exact b,h.wai⟩
theorem zBV {G:Z_}{n:Nd}(h:PG G n)(d:Int){m:MC}(b:m.ki=1->InG G m.b.d):PG G (n.send d m):=by
 unfold Nd.send
 split
 exact h;refine⟨h.tape,h.recs,λx c=>?_⟩;rcases mA_.1 c with g|g;exact h.wai x g;rw[mS_.1 g];exact b
theorem zAK {G:Z_}{o:No}{n x:Nd}(s:zad o n x)(e:x.k.sh.length=n.k.sh.length)(h:PG G n):PG G x:=by
 refine(s (λy=>n.k.sh.length<=y.k.sh.length/\(y.k.sh.length=n.k.sh.length->PG G y)) (λa b s k=>?_) ⟨nR_ _,λ_=>h⟩).2 e;obtain⟨p,l⟩:=k;rcases s with⟨d,m,_,t,rfl⟩|⟨b,f,_,rfl⟩|⟨x,f,rfl⟩|⟨c,f,rfl⟩|⟨r,f,_,_,_,rfl⟩|⟨_,_,_,_,rfl⟩|⟨_,_,rfl⟩|⟨_,rfl⟩;rw[ze2];refine⟨p,λe=>zBV (l e) d (λj=>?_)⟩;rcases t with⟨b,rfl,q⟩|rfl|⟨s,rfl,_⟩|⟨c,rfl,_⟩|⟨r,rfl⟩;exact(l e).has q;exact absurd j (by show ¬(2:Int)=1;decide);exact absurd j (by show ¬(3:Int)=1;decide);exact absurd j (by show ¬(4:Int)=1;decide);exact absurd j (by show ¬(5:Int)=1;decide);have u:(a.k.sh++[b]).length=a.k.sh.length+1:=by simp
 exact⟨by show _<=(a.k.sh++[b]).length;omega,λe=>by have e:(a.k.sh++[b]).length=_:=e;omega⟩;refine⟨p,λe=>zAT (l e) ?_ (λj=>absurd j (by show ¬(3:Int)=1;decide))⟩;rw[zmP];rcases zgf f.cast with⟨g,_⟩|⟨g,_,_⟩;have:=f.more;rw[g]at this;omega;rw[g];unfold Nd.proofs at f;simp only[Bool.and_eq_true,dE_]at f;exact⟨p,λe=>zAT (l e) (zmQ f.1.1) (λj=>absurd j (by show ¬(4:Int)=1;decide))⟩;refine⟨p,λe=>?_⟩;have h':=zAT (m:=zcl (a.header r)) (l e) (zmO rfl (zgU f).2.1 f) (λj=>absurd j (by show ¬(2:Int)=1;decide));exact⟨h'.tape,h'.recs,h'.wai⟩
 all_goals exact⟨p,λe=>⟨(l e).tape,(l e).recs,(l e).wai⟩⟩
theorem zBP (o:No)(t:Int)(b:0<=t/\t<4):∀(l:List CV) (n:Nd),(n.tell t l).k=n.k
 | [],_=>rfl
 | c::l,n=>by
  refine(zBP o t b l (n.tellC t c)).trans ?_
  exact(ze2 _ _ _).trans (zkI o t b c.bl n).2.1
theorem zBW (n:Nd)(o:No)(m:MC)(b:0<=m.fr/\m.fr<4)(h:m.ki≠1):(n.hear o m).k.sh=n.k.sh:=by
 unfold Nd.hear;rw[iN_ h]
 split
 unfold Nd.hearO
 split
 rfl
 split
 rfl
 split
 split
 rw[ze2];rfl
 rfl
 rw[ze2]
 split
 unfold Nd.hearV
 split
 rfl
 split
 rfl
 split
 rw[zqT];unfold Nd.hearP
 split<;>rfl
 rfl
 split
 unfold Nd.hearP
 split<;>rfl
 split
 exact cA_ Kn.sh (zBP o _ b _ n)
 rfl
theorem zBc {G:Z_}{n:Nd}{b:BW}(h:PG G n)(c:InG G b.d):PG G (n.hearB b):=by
 unfold Nd.hearB
 split
 rename_i e
 rw[Bool.and_eq_true]at e;exact zAT h (zmN e.1) (λ_=>c);exact h
theorem zBX {G:Z_}{n:Nd}{o:No}{m:MC}(h:PG G n)(b:0<=m.fr/\m.fr<4)(c:m.ki=1->InG G m.b.d):PG G (n.hear o m):=by
 by_cases e:m.ki=1;unfold Nd.hear;rw[iP_ e];exact zBc h (c e);exact zAK (zfT o n m b) (by rw[zBW n o m b e]) h
def Nd.own1 (n:Nd):ByteArray:=zai (⟨n.nu,n.nx,n.txs.take 4⟩:BW).d
theorem zBx {G:Z_}{n:Nd}(o:No)(h:PG G n):PG (G++[n.own1]) n.gather:=by
 have d:InG (G++[n.own1]) (⟨n.nu,n.nx,n.txs.take 4⟩:BW).d:=List.mem_append_right _ (mS_.2 rfl);have b:=zBc (h.more (H:=[n.own1])) d;unfold Nd.gather
 split
 exact h.more
 split
 rename_i c
 exact zAK (zgK o ({ n.hearB ⟨n.nu,n.nx,n.txs.take 4⟩with nx:=n.nx+1,txs:=n.txs.drop 4 }:Nd) _ (.inl ⟨_,rfl,c⟩)) (by rw[zqT]) ⟨b.tape,b.recs,b.wai⟩;exact b
theorem zBn (n:Nd):n.work.k.sh=n.gather.k.sh:=by
 unfold Nd.work Nd.ask;rw[ze2];show(n.gather.due _).k.sh=_;unfold Nd.due
 split
 unfold Nd.offerNew
 split
 rw[zqT];rfl
 rfl
 split
 rfl
 rw[(znJ ⟨0,[]⟩ n.gather 4 (by omega)).2]
theorem zBY {G:Z_}{n:Nd}(o:No)(h:PG G n):PG (G++[n.own1]) n.work:=
 zAK ((ztD o n.gather).trans (ztF o _ _)) (cA_ List.length (zBn n)) (zBx o h)
structure FG (G:Z_)(f:Fl):Prop where
 nd:zah (λ_=>PG G) f
 away:∀m∈f.away,m.ki=1->InG G m.b.d
theorem FG.more {G H:Z_}{f:Fl}(h:FG G f):FG (G++H) f:=⟨⟨h.nd.1,λi c=>(h.nd.2 i c).more⟩,λm a b=>List.mem_append_left _ (h.away m a b)⟩
theorem zAY {G:Z_}{f:Fl}(h:zah (λ_=>PG G) f){i:Int}(b:0<=i/\i<4){m:MC}(d:0<=m.fr/\m.fr<4)(c:m.ki=1->InG G m.b.d):zah (λ_=>PG G) (f.come i m):=by
 unfold Fl.come
 split
 exact h.set b (zBX (h.2 i b) d c);exact h
theorem zBd {G:Z_}:∀(l:List MC) {f:Fl},zah (λ_=>PG G) f->(∀m∈l,m.post/\(m.ki=1->InG G m.b.d))->zah (λ_=>PG G) (comes f l)
 | [],_,h,_=>h
 | m::l,f,h,k=>zBd l (zAY h (k m (by simp)).1.2 (k m (by simp)).1.1 (k m (by simp)).2) (λx b=>k x (mC_ _ b))
theorem zBy {G:Z_}:∀(l:List MC) {f:Fl},(∀m∈f.away,m.ki=1->InG G m.b.d)->(∀m∈l,m.ki=1->InG G m.b.d)->∀m∈(l.foldl Fl.out f).away,m.ki=1->InG G m.b.d
 | [],_,h,_=>h
 | x::l,f,h,hl=>by
  refine zBy l (f:=f.out x) (λm b=>?_) (λm b=>hl m (mC_ _ b))
  have b:m∈zct f.away x:=b
  unfold zct at b
  split at b
  .rcases mA_.1 b with g|g
   .exact h m g
   .rw[mS_.1 g];exact hl x (by simp)
  .exact h m b
theorem zBG {G:Z_}{n:Nd}(h:PG G n)(p:Int):PG G (n.crash p):=by
 obtain⟨_,_,c,f,_⟩:=zc8 n p;refine⟨?_,λm b=>?_,λm b=>by rw[c]at b;cases b⟩;obtain⟨_,_,_,d,_,_,g,_⟩:=zc8 n p;rw[g,d];rw[f]at b;exact h.recs m ((zzT _ _).subset b)
theorem zBZ {G:Z_}{f:Fl}(h:FG G f)(j:∀m∈f.away,m.post){a:Ac}(o:a.ok):∃H:Z_,H.length<=1/\FG (G++H) (f.does a):=by
 have r:FG (G++[]) f:=h.more;obtain⟨_,_,p,q,t,_⟩:=o;have c:0<=a.i/\a.i<4:=⟨p,q⟩;have z:∀g:Fl,FG G g->∃H:Z_,H.length<=1/\FG (G++H) g:=λg k=>⟨[],by simp,k.more⟩;unfold Fl.does Fl.act
 split
 refine z _ ?_;unfold Fl.pick
 split
 exact h
 rename_i s
 have d:=zeU (Nat.mod_lt a.p.toNat (show 0<f.away.length by omega))
 split
 refine⟨h.nd.nd rfl,λm b=>?_⟩;have b:m∈zct f.away _:=b;unfold zct at b
 split at b
 rcases mA_.1 b with g|g;exact h.away m g;rw[mS_.1 g];exact h.away _ d;exact h.away m b
 split
 exact⟨zAY (h.nd.nd (g:={ f with away:=f.away.eraseIdx (a.p.toNat % f.away.length) }) rfl) (j _ d).2 (j _ d).1 (h.away _ d),by rw[zcj];exact λm b=>h.away m (List.mem_of_mem_eraseIdx b)⟩;exact⟨h.nd.nd rfl,λm b=>h.away m (List.mem_of_mem_eraseIdx b)⟩
 split
 refine z _ ⟨?_,by rw[zfw,zej];intro m b;cases b⟩;rw[zfw];exact zBd f.away (h.nd.nd (g:={ f with away:=[] }) rfl) (λm b=>⟨j m b,h.away m b⟩)
 split
 refine z _ ?_;unfold Fl.submit
 split
 exact⟨h.nd.nd rfl,h.away⟩
 split
 exact⟨zah.nd (h.nd.set c (show PG G { f.node a.i with txs:=(f.node a.i).txs++[a.t] } from⟨(h.nd.2 a.i c).tape,(h.nd.2 a.i c).recs,(h.nd.2 a.i c).wai⟩)) rfl,h.away⟩;exact⟨h.nd.nd rfl,h.away⟩
 split
 unfold Fl.forge
 split
 rename_i m b
 split
 exact z _ h;have l:FG (G++[zai m.b.d]) f:=h.more;exact⟨[zai m.b.d],by simp,zAY l.nd c (zhw b) (λ_=>List.mem_append_right _ (mS_.2 rfl)),by rw[zcj];exact l.away⟩;exact z _ h
 split
 refine z _ ?_;unfold Fl.start
 split
 exact h;exact⟨h.nd.set c ⟨(h.nd.2 a.i c).tape,(h.nd.2 a.i c).recs,(h.nd.2 a.i c).wai⟩,h.away⟩
 split
 split
 split
 exact⟨[(f.node a.i).own1],by simp,(FG.more h).nd.set c (zBY f.no (h.nd.2 a.i c)),(FG.more h).away⟩
 split
 refine z _ ⟨zah.nd (h.nd.set c (n:={ f.node a.i with wai:=[],syn:=(zae (f.node a.i).recs).length }) ⟨(h.nd.2 a.i c).tape,(h.nd.2 a.i c).recs,λm b=>by cases b⟩) (zdO _ _),?_⟩;exact zBy _ h.away (h.nd.2 a.i c).wai;exact z _ ⟨h.nd.set c (zBG (h.nd.2 a.i c) a.p),h.away⟩;exact z _ h;exact z _ h
theorem zCj (r:Int):FG [] (Fl.z r):=⟨⟨rfl,λi c=>by rw[zf1 r i c];exact⟨rfl,λm b=>(by cases b),λm b=>(by cases b)⟩⟩,λm b=>(by cases b)⟩
theorem zCb (r:Int):∀(l:List Ac),(∀a∈l,a.ok)->∃G:Z_,G.length<=l.length/\FG G ((Fl.z r).run l):=by
 suffices H:∀(l:List Ac) (f:Fl) (G:Z_),zcn f->FG G f->(∀a∈l,a.ok)->∃K:Z_,K.length<=G.length+l.length/\FG K (f.run l) by
  intro l b;obtain⟨K,d,c⟩:=H l _ [] (zcn.z r) (zCj r) b;exact⟨K,by simpa using d,c⟩
 intro l
 induction l with
 | nil=>exact λf G _ h _=>⟨G,nR_ _,h⟩
 | cons a l ih=>
  intro f G g h b;obtain⟨H,d,c⟩:=zBZ h g.aw (b a (by simp));obtain⟨K,j,m⟩:=ih (f.does a) _ (g.does (b a (by simp))) c (λx o=>b x (mC_ _ o));exact⟨K,by rw[lP_]at j;rw[List.length_cons];omega,m⟩
theorem zB0 (r:Int)(l:List Ac)(f:∀a∈l,a.ok){i:Int}(d:0<=i/\i<4):(((Fl.z r).run l).node i).k.sh.length<=l.length:=by
 obtain⟨G,b,c⟩:=zCb r l f;exact nT_ (c.nd.2 i d).few b
structure PB (c:Int)(n:Nd):Prop where
 tape:n.k=n.recs.foldl Kn.rcl Kn.z
 pos:1<=n.nx
 nx:n.nx<=10+c
 recs:∀m∈n.recs,m.ki=1->m.bnu<=9+c
 wai:∀m∈n.wai,m.ki=1->m.bnu<=9+c
theorem PB.le {c d:Int}{n:Nd}(h:PB c n)(e:c<=d):PB d n:=⟨h.tape,h.pos,by have:=h.nx;omega,λm a b=>by have:=h.recs m a b;omega,λm a b=>by have:=h.wai m a b;omega⟩
theorem PB.sh {c:Int}{n:Nd}(h:PB c n){b:BW}(d:b∈n.k.sh):b.nu<=9+c:=by
 rw[h.tape]at d;rcases zAG _ _ _ d with g|⟨m,f,e,rfl⟩;cases g;exact h.recs m f e
theorem zAU {c:Int}{n:Nd}{m:MC}{k:Kn}(h:PB c n)(e:n.k.rcl m=k)(b:m.ki=1->m.bnu<=9+c):PB c (n.log m k):=
 ⟨zdm (i:=0) h.tape e,h.pos,h.nx,λx d=>by
  rcases mA_.1 d with g|g
  .exact h.recs x g
  .rw[mS_.1 g];exact b,h.wai⟩
theorem zfR {c:Int}{n:Nd}(h:PB c n)(d:Int){m:MC}(b:m.ki=1->m.bnu<=9+c):PB c (n.send d m):=by
 unfold Nd.send
 split
 exact h;refine⟨h.tape,h.pos,h.nx,h.recs,λx f=>?_⟩;rcases mA_.1 f with g|g;exact h.wai x g;rw[mS_.1 g];exact b
theorem zAj {c:Int}{n:Nd}(h:PB c n){m:MC}(b:m.ki=1->m.bnu<=9+c):PB c (n.sendAll m):=by
 show PB c ((((n.send 0 m).send 1 m).send 2 m).send 3 m);exact zfR (zfR (zfR (zfR h 0 b) 1 b) 2 b) 3 b
theorem k2 {P:Prop}:(2:Int)=1->P:=λh=>absurd h (by decide)
theorem k3 {P:Prop}:(3:Int)=1->P:=λh=>absurd h (by decide)
theorem k4 {P:Prop}:(4:Int)=1->P:=λh=>absurd h (by decide)
theorem k5 {P:Prop}:(5:Int)=1->P:=λh=>absurd h (by decide)
theorem zAL {c:Int}(t:Int):∀(l:List (L_)) (n:Nd),PB c n->PB c (n.sendB t l)
 | [],_,h=>h
 | d::l,n,h=>by
  refine zAL t l (n.sendD t d) ?_
  unfold Nd.sendD
  split
  .rename_i b f
   exact zfR h t (λ_=>h.sh (zx7 f))
  .exact h
theorem zBo {c:Int}(t:Int):∀(l:List CV) (n:Nd),PB c n->PB c (n.tell t l)
 | [],_,h=>h
 | x::l,n,h=>zBo t l (n.tellC t x) (zfR (zAL t x.bl n h) t k4)
theorem zBe {c:Int}{n:Nd}{b:BW}(h:PB c n)(d:b.nu<=9+c):PB c (n.hearB b):=by
 unfold Nd.hearB
 split
 rename_i e
 rw[Bool.and_eq_true]at e;exact zAU h (zmN e.1) (λ_=>d);exact h
theorem zBH {c:Int}{n:Nd}(h:PB c n)(o:No)(x:CV):PB c (n.hearO o x):=by
 unfold Nd.hearO
 split
 exact h
 split
 exact h
 rename_i b
 have b:(zaf n.k.tab x).2.2=0:=by simpa using b
 split
 rename_i d
 split
 refine zfR (zAU h ?_ k3) _ k3;rw[zmP];rcases zgf b with⟨g,_⟩|⟨g,_,_⟩;rw[g]at d;omega;rw[g];exact h;exact zfR h _ k3
theorem zBf {c:Int}{n:Nd}(h:PB c n)(o:No)(x:CV):PB c (n.hearP o x):=by
 unfold Nd.hearP
 split
 rename_i b
 unfold Nd.proofs at b;simp only[Bool.and_eq_true,dE_]at b;exact zAU h (zmQ b.1.1) k4;exact h
theorem zAV {c:Int}{n:Nd}(h:PB c n)(v:L_):PB c { n with vot:=v }:=⟨h.tape,h.pos,h.nx,h.recs,h.wai⟩
theorem zB1 {c:Int}{n:Nd}(h:PB c n)(o:No){m:MC}(b:m.ki=1->m.bnu<=9+c):PB c (n.hear o m):=by
 unfold Nd.hear
 split
 rename_i e;exact zBe h (b e)
 split
 exact zBH h o _
 split
 unfold Nd.hearV
 split
 exact h
 split
 exact zAV h _
 split
 exact zAj (zBf (zAV h _) o _) k4;exact zAV h _
 split
 exact zBf h o _
 split
 exact zBo _ _ _ h;exact h
theorem zAM {c:Int}{n:Nd}(h:PB c n):∀j,PB c (n.againTo j)
 | 0=>h
 | j+1=>by
  show PB c (if(j:Int)∈n.vot then n.againTo j else((n.againTo j).sendB j n.k.own.bl).send j (zcl n.k.own))
  split
  .exact zAM h j
  .exact zfR (zAL _ _ _ (zAM h j)) _ k2
theorem zBz {c:Int}{n:Nd}(h:PB c n):PB (c+1) n.gather:=by
 have f:(⟨n.nu,n.nx,n.txs.take 4⟩:BW).nu<=9+(c+1):=by have:=h.nx;show n.nx<=_;omega
 have b:=zBe (h.le (d:=c+1) (by omega)) f;obtain⟨g,_⟩:=zvE n ⟨n.nu,n.nx,n.txs.take 4⟩;have j:=h.nx;have l:=h.pos;unfold Nd.gather
 split
 exact h.le (by omega)
 split
 exact zAj (show PB (c+1) ({ n.hearB ⟨n.nu,n.nx,n.txs.take 4⟩with nx:=n.nx+1,txs:=n.txs.drop 4 }:Nd)from⟨b.tape,by show 1<=n.nx+1;omega,by show n.nx+1<=_;omega,b.recs,b.wai⟩) (λ_=>f);exact b
theorem zB2 {c:Int}{n:Nd}(h:PB c n):PB (c+1) n.work:=by
 have f:=zBz h;unfold Nd.work;generalize n.gather=g at f;have b:PB (c+1) (g.due (zdi g.k.dag)):=by
  unfold Nd.due
  split
  unfold Nd.offerNew
  split
  rename_i e
  refine zAj (zAV (zAU f (zmO rfl (zgU e.1).2.1 e.1) k2) _) k2;exact f
  split
  exact f;exact zAM f 4
 unfold Nd.ask;generalize g.due (zdi g.k.dag)=d at b;refine zfR (n:={ d with trn:=d.turn }) ⟨b.tape,b.pos,b.nx,b.recs,b.wai⟩ _ k5
theorem zBA {c nu:Int}{l:List BW}(f:0<=9+c)(h:∀b∈l,b.nu<=9+c):1<=zd2 nu l/\zd2 nu l<=10+c:=by
 have k:∀(l:List BW) (g:Int),0<=g->g<=9+c->(∀b∈l,b.nu<=9+c)->0<=l.foldl (λg b=>if b.au=nu then max g b.nu else g) g/\l.foldl (λg b=>if b.au=nu then max g b.nu else g) g<=9+c:=by
  intro l
  induction l with
  | nil=>exact λg a b _=>⟨a,b⟩
  | cons x l ih=>
   intro g a b d;have m:=d x (by simp);refine ih _ ?_ ?_ (λy j=>d y (mC_ _ j))<;>(dsimp only;split<;>omega)
 have:=k l 0 (by omega) f h;unfold zd2;omega
theorem zBI {c:Int}{n:Nd}(z:0<=c)(h:PB c n)(p:Int):PB c (n.crash p):=by
 obtain⟨_,_,r,f,_,_,s,_⟩:=zc8 n p;have l:∀m∈n.kept p,m.ki=1->m.bnu<=9+c:=λm d=>h.recs m ((zzT _ _).subset d);have o:(n.crash p).k=(n.kept p).foldl Kn.rcl Kn.z:=s;have q:(n.crash p).nx=zd2 n.nu (n.crash p).k.sh:=rfl;have y:∀b∈(n.crash p).k.sh,b.nu<=9+c:=λb j=>by
  rw[o]at j;rcases zAG _ _ _ j with g|⟨m,d,e,rfl⟩;cases g;exact l m d e
 obtain⟨t,u⟩:=zBA (nu:=n.nu) (by omega) y;exact⟨by rw[o,f],by rw[q];exact t,by rw[q];exact u,by rw[f];exact l,λm d=>by rw[r]at d;cases d⟩
def zzw (a:Ac):Prop:=a.k=9->∀m,zh2 a.t=some m->m.ki=1->m.bnu<=9
structure FB (c:Int)(f:Fl):Prop where
 nd:zah (λ_=>PB c) f
 away:∀m∈f.away,m.ki=1->m.bnu<=9+c
theorem FB.le {c d:Int}{f:Fl}(h:FB c f)(e:c<=d):FB d f:=⟨⟨h.nd.1,λi g=>(h.nd.2 i g).le e⟩,λm a b=>by have:=h.away m a b;omega⟩
theorem zAZ {c:Int}{f:Fl}(h:zah (λ_=>PB c) f){i:Int}(b:0<=i/\i<4){m:MC}(d:m.ki=1->m.bnu<=9+c):zah (λ_=>PB c) (f.come i m):=by
 unfold Fl.come
 split
 exact h.set b (zB1 (h.2 i b) _ d);exact h
theorem zBg {c:Int}:∀(l:List MC) {f:Fl},zah (λ_=>PB c) f->(∀m∈l,m.post/\(m.ki=1->m.bnu<=9+c))->zah (λ_=>PB c) (comes f l)
 | [],_,h,_=>h
 | m::l,f,h,k=>zBg l (zAZ h (k m (by simp)).1.2 (k m (by simp)).2) (λx b=>k x (mC_ _ b))
theorem zBB {c:Int}:∀(l:List MC) {f:Fl},(∀m∈f.away,m.ki=1->m.bnu<=9+c)->(∀m∈l,m.ki=1->m.bnu<=9+c)->∀m∈(l.foldl Fl.out f).away,m.ki=1->m.bnu<=9+c
 | [],_,h,_=>h
 | x::l,f,h,hl=>by
  refine zBB l (f:=f.out x) (λm b=>?_) (λm b=>hl m (mC_ _ b))
  have b:m∈zct f.away x:=b
  unfold zct at b
  split at b
  .rcases mA_.1 b with g|g
   .exact h m g
   .rw[mS_.1 g];exact hl x (by simp)
  .exact h m b
theorem zB3 {c:Int}(r:0<=c){f:Fl}(h:FB c f)(l:∀m∈f.away,m.post){a:Ac}(p:a.ok)(u:zzw a):FB (c+1) (f.does a):=by
 obtain⟨_,_,s,t,A,_⟩:=p;have d:0<=a.i/\a.i<4:=⟨s,t⟩;have z:∀g:Fl,FB c g->FB (c+1) g:=λg k=>k.le (by omega);unfold Fl.does Fl.act
 split
 refine z _ ?_;unfold Fl.pick
 split
 exact h
 rename_i y
 have j:=zeU (Nat.mod_lt a.p.toNat (show 0<f.away.length by omega))
 split
 refine⟨h.nd.nd rfl,λm b=>?_⟩;have b:m∈zct f.away _:=b;unfold zct at b
 split at b
 rcases mA_.1 b with g|g;exact h.away m g;rw[mS_.1 g];exact h.away _ j;exact h.away m b
 split
 exact⟨zAZ (h.nd.nd (g:={ f with away:=f.away.eraseIdx (a.p.toNat % f.away.length) }) rfl) (l _ j).2 (h.away _ j),by rw[zcj];exact λm b=>h.away m (List.mem_of_mem_eraseIdx b)⟩;exact⟨h.nd.nd rfl,λm b=>h.away m (List.mem_of_mem_eraseIdx b)⟩
 split
 refine z _ ⟨?_,by rw[zfw,zej];intro m b;cases b⟩;rw[zfw];exact zBg f.away (h.nd.nd (g:={ f with away:=[] }) rfl) (λm b=>⟨l m b,h.away m b⟩)
 split
 refine z _ ?_;have q:=h.nd.2 a.i d;unfold Fl.submit
 split
 exact⟨h.nd.nd rfl,h.away⟩
 split
 exact⟨zah.nd (h.nd.set d (show PB c { f.node a.i with txs:=(f.node a.i).txs++[a.t] } from⟨q.tape,q.pos,q.nx,q.recs,q.wai⟩)) rfl,h.away⟩;exact⟨h.nd.nd rfl,h.away⟩
 split
 rename_i o
 unfold Fl.forge
 split
 rename_i m b
 split
 exact z _ h;exact z _ ⟨zAZ h.nd d (λe=>by have:=u o m b e;omega),by rw[zcj];exact h.away⟩;exact z _ h
 split
 refine z _ ?_;have q:=h.nd.2 a.i d;unfold Fl.start
 split
 exact h;exact⟨h.nd.set d ⟨q.tape,q.pos,q.nx,q.recs,q.wai⟩,h.away⟩
 split
 split
 have q:=h.nd.2 a.i d
 split
 exact⟨(z _ h).nd.set d (zB2 q),(z _ h).away⟩
 split
 refine z _ ⟨zah.nd (h.nd.set d (n:={ f.node a.i with wai:=[],syn:=(zae (f.node a.i).recs).length }) ⟨q.tape,q.pos,q.nx,q.recs,λm b=>by cases b⟩) (zdO _ _),?_⟩;exact zBB _ h.away q.wai;exact z _ ⟨h.nd.set d (zBI r q a.p),h.away⟩;exact z _ h;exact z _ h
theorem zCk (r:Int):FB 0 (Fl.z r):=⟨⟨rfl,λi c=>by rw[zf1 r i c];exact⟨rfl,by show(1:Int)<=1;decide,by show(1:Int)<=10+0;decide,λm b=>(by cases b),λm b=>(by cases b)⟩⟩,λm b=>(by cases b)⟩
theorem zBJ (r:Int)(l:List Ac)(b:∀a∈l,a.ok)(d:∀a∈l,zzw a){i:Int}(p:0<=i/\i<4):1<=(((Fl.z r).run l).node i).nx/\(((Fl.z r).run l).node i).nx<=10+l.length:=by
 suffices H:∀(l:List Ac) (f:Fl) (c:Int),0<=c->zcn f->FB c f->(∀a∈l,a.ok)->(∀a∈l,zzw a)->FB (c+l.length) (f.run l) by
  have h:=(H l _ 0 (by decide) (zcn.z r) (zCk r) b d).nd.2 i p;exact⟨h.pos,by have:=h.nx;omega⟩
 intro l
 induction l with
 | nil=>exact λf c _ _ h _ _=>h.le (by simp)
 | cons a l ih=>
  intro f c o j h b d;have m:=zB3 o h j.aw (b a (by simp)) (d a (by simp));refine(ih (f.does a) (c+1) (by omega) (j.does (b a (by simp))) m (λx g=>b x (mC_ _ g)) (λx g=>d x (mC_ _ g))).le ?_;rw[List.length_cons];omega
variable {ss:Z_}{au:Int}
theorem zgz (n:Nd)(d:Int)(m:MC):(n.send d m).txs=n.txs:=by unfold Nd.send;split<;>rfl
theorem zzX (n:Nd)(m:MC):(n.sendAll m).txs=n.txs:=by
 show((((n.send 0 m).send 1 m).send 2 m).send 3 m).txs=_;rw[zgz,zgz,zgz,zgz]
theorem zA1 (t:Int):∀(l:List (L_)) (n:Nd),(n.sendB t l).txs=n.txs
 | [],_=>rfl
 | d::l,n=>by
  refine(zA1 t l (n.sendD t d)).trans ?_
  unfold Nd.sendD
  split
  .exact zgz _ _ _
  .rfl
theorem zAF (n:Nd):∀j,(n.againTo j).txs=n.txs
 | 0=>rfl
 | j+1=>by
  show(if(j:Int)∈n.vot then n.againTo j else((n.againTo j).sendB j n.k.own.bl).send j (zcl n.k.own)).txs=_
  split
  .exact zAF n j
  .rw[zgz,zA1];exact zAF n j
theorem zBK (n:Nd):n.work.txs=n.gather.txs:=by
 unfold Nd.work Nd.ask;rw[zgz];show(n.gather.due _).txs=_;unfold Nd.due
 split
 unfold Nd.offerNew
 split
 rw[zzX];rfl
 rfl
 split
 rfl
 exact zAF _ _
theorem zBp {nx:Int}(d:zaO nx ss=0)(f:nx<=1048576)(c:ss≠[])(g:0<=au/\au<4):zb4 nx ss au=0:=by
 have b:ss.length≠0:=λe=>c (eN_ e);rw[zlA d,zcV,iN_ (by omega),iN_ b,iN_ (by omega)]
theorem zBq {nx:Int}(b:zaO nx []=0)(c:0<=au/\au<4):zb4 nx [] au≠0:=by
 rw[zlA b,zcV,iN_ (by omega),iP_ (show([]:Z_).length=0 from rfl)]
 decide
theorem zBC {n:Nd}(o:zjS i n)(m:zlJ i n)(l:0<=i/\i<4)(s:n.nx<=1000)(r:n.k.sh.length<=100) :
  (n.txs=[]->n.gather=n)/\(n.txs≠[]->n.gather.txs=n.txs.drop 4/\(n.gather.k.sh=n.k.sh++[⟨i,n.nx,n.txs.take 4⟩]\/(n.gather.k.sh=n.k.sh/\zb1 n.k.sh (⟨i,n.nx,n.txs.take 4⟩:BW).d=true))):=by
 have f:n.nu=i:=o.1.1;refine⟨λe=>?_,λe=>?_⟩;unfold Nd.gather;rw[iP_];have c:=m.pool;rw[e]at c|-;exact zBq c (by rw[f];exact l);have j:zb4 n.nx n.txs n.nu=0:=zBp m.pool (by omega) e (by rw[f];exact l);obtain⟨c,_⟩:=zxv j;have d:(⟨n.nu,n.nx,n.txs.take 4⟩:BW).f=0:=c;rw[f]at j d;unfold Nd.gather;rw[f,iN_ (by rw[j];decide)];generalize q:(⟨i,n.nx,n.txs.take 4⟩:BW)=b at d|-;cases hh:zb1 n.k.sh b.d with
 | true=>
  have g:n.hearB b=n:=by
   unfold Nd.hearB zbG;rw[iN_ (by rw[hh];simp)]
  rw[g,iP_ hh,zzX,zqT];exact⟨rfl,.inr ⟨rfl,rfl⟩⟩
 | false=>
  have p:=o.room (by omega) (zBm d);have g:n.hearB b=n.log (zed b) { n.k with sh:=n.k.sh++[b] }:=by
   unfold Nd.hearB zbG;rw[iP_];rw[hh,p,d]
   simp
   omega
  rw[g,iP_ (show zb1 (n.log (zed b) { n.k with sh:=n.k.sh++[b] }).k.sh b.d=true from zm9 (by show b∈n.k.sh++[b];simp)),zzX,zqT];exact⟨rfl,.inl rfl⟩
theorem zBi {b: Int} {i : Nat} (hi : i < 4) {l : List AV} (hl : ∀a ∈ l, a.e = 0 /\ a.t.size <= 4000) (hf : ∀a ∈ l, zzw a.ac) (h50 : l.length <= 50) {x y : Om}
    (hc : (⟨8, i, 0, ⟨#[]⟩⟩ : AV).e = 0 /\ (⟨8, i, 0, ⟨#[]⟩⟩ : AV).t.size <= 4000)
    (hx : x.v = ((Fl.z b).run ((l ++ [(⟨8, i, 0, ⟨#[]⟩⟩ : AV)]).map AV.ac)).told) (hy : y.v = ((Fl.z b).run ((l ++ [(⟨8, i, 0, ⟨#[]⟩⟩ : AV)] ++ [(⟨2, i, 0, ⟨#[]⟩⟩ : AV)]).map AV.ac)).told) :
    ((i : Int) = b \/ (x.y i).txs = [] -> (y.y i).txs = [] /\ (y.y i).bl.length = (x.y i).bl.length) /\
    ((i : Int) ≠ b -> (x.y i).txs ≠ [] -> (y.y i).txs = (x.y i).txs.drop 4 /\ ∃N : Int, 1 <= N /\ N <= l.length + 21 /\
      ((y.y i).bl.map (·.v) = (x.y i).bl.map (·.v) ++ [⟨i, N, (x.y i).txs.take 4⟩] \/ ((y.y i).bl.map (·.v) = (x.y i).bl.map (·.v) /\ zb1 ((x.y i).bl.map (·.v)) (⟨i, N, (x.y i).txs.take 4⟩ : BW).d = true))) := by
  have j : (0 : Int) <= i /\ (i : Int) < 4 := by omega
  have I : ∀a ∈ l ++ [(⟨8, i, 0, ⟨#[]⟩⟩ : AV)], a.e = 0 /\ a.t.size <= 4000 := zc9 hl (λa t => by rw [mS_.1 t]; exact hc)
  have q := ziz I
  have O : ∀a ∈ (l ++ [(⟨8, i, 0, ⟨#[]⟩⟩ : AV)]).map AV.ac, zzw a := λa t => by
    obtain⟨c, G, rfl⟩ := mM_.1 t
    rcases mA_.1 G with g | g
    · exact hf c g
    · rw [mS_.1 g]
      intro H
      exact absurd H (by show ¬ (8 : Int) = 9; decide)
  have J : ((l ++ [(⟨8, i, 0, ⟨#[]⟩⟩ : AV)]).map AV.ac).length = l.length + 1 := by simp
  have Y := zCa b _ q j
  have w2 := zB0 b _ q j
  obtain⟨Z, w4⟩ := zBJ b _ q O j
  have w5 : zlJ i (((Fl.z b).run ((l ++ [(⟨8, i, 0, ⟨#[]⟩⟩ : AV)]).map AV.ac)).node i) := (zah.run zA2 _ (zcn.z b) (zlJ.z b) q (λ_ _ _ => trivial)).2 i j
  rw [J]at w2 w4
  rw [zcP b (l ++ _) _]at hy
  have r : ((Fl.z b).run ((l ++ [(⟨8, i, 0, ⟨#[]⟩⟩ : AV)]).map AV.ac)).no.bad = b := zsR _ _
  have R : (i : Int) ≠ b -> ((Fl.z b).run ((l ++ [(⟨8, i, 0, ⟨#[]⟩⟩ : AV)]).map AV.ac)).runs i = true := λA => by
    rw [zcP b l _]
    have u : ((Fl.z b).run (l.map AV.ac)).no.bad = b := zsR _ _
    have p : ((Fl.z b).run (l.map AV.ac)).nd.length = 4 := zjf _ _
    show(((Fl.z b).run (l.map AV.ac)).does ⟨8, i, 0, ⟨#[]⟩⟩).runs i = true
    generalize (Fl.z b).run (l.map AV.ac) = f at u p
    have e : f.does ⟨8, i, 0, ⟨#[]⟩⟩ = f.start i := by
      rw [Fl.does, Fl.act, iN_ (by simp), iN_ (by simp), iN_ (by simp), iN_ (by simp), iP_ (by simp)]
    rw [e, Fl.start, iN_ (by rw [u]; exact A)]
    unfold Fl.runs
    rw [set_here _ p j]
    show(decide ((i : Int) ≠ f.no.bad) && true) = true
    rw [u, Bool.and_true]
    exact dT_ A
  have p : ((Fl.z b).run ((l ++ [(⟨8, i, 0, ⟨#[]⟩⟩ : AV)]).map AV.ac)).nd.length = 4 := zjf _ _
  generalize (Fl.z b).run ((l ++ [(⟨8, i, 0, ⟨#[]⟩⟩ : AV)]).map AV.ac) = f at*
  have M : f.run ([(⟨2, i, 0, ⟨#[]⟩⟩ : AV)].map AV.ac) = f.does ⟨2, i, 0, ⟨#[]⟩⟩ := rfl
  rw [M]at hy
  have D : f.does ⟨2, i, 0, ⟨#[]⟩⟩ = if f.runs i then f.set i (f.node i).work else f := by
    rw [Fl.does, Fl.act, iN_ (by simp), iN_ (by simp), iN_ (by simp), iN_ (by simp), iN_ (by simp), iP_ (by simp)]
    rfl
  have B := zb0 hx i hi
  have C := zb0 hy i hi
  have s : (x.y i).txs = (f.view ((i : Nat) : Int)).tx := cA_ Vw.tx B
  have m : (x.y i).bl.map (·.v) = (f.view ((i : Nat) : Int)).bs := cA_ Vw.bs B
  have ty : (y.y i).txs = ((f.does ⟨2, i, 0, ⟨#[]⟩⟩).view ((i : Nat) : Int)).tx := cA_ Vw.tx C
  have d : (y.y i).bl.map (·.v) = ((f.does ⟨2, i, 0, ⟨#[]⟩⟩).view ((i : Nat) : Int)).bs := cA_ Vw.bs C
  rw [D]at ty d
  by_cases hib : (i : Int) = b
  · have L : f.runs i = false := by unfold Fl.runs; rw [r, hib]; simp
    rw [L, iN_ (by decide)]at ty d
    refine⟨λ_ => ⟨?_, ?_⟩, λg => absurd hib g⟩
    · rw [ty]
      unfold Fl.view
      rw [iP_ (by rw [r]; exact hib)]
      rfl
    · have := cA_ List.length (d.trans m.symm)
      simpa using this
  · rw [R hib, iP_ rfl]at ty d
    have T : f.view ((i : Nat) : Int) = ⟨(f.node i).up, zdi (f.node i).k.dag, (f.node i).k.dag, (f.node i).k.sh, (f.node i).k.tab, (f.node i).txs⟩ := iN_ (by rw [r]; exact hib)
    have U : (f.set i (f.node i).work).view ((i : Nat) : Int) = ⟨(f.node i).work.up, zdi (f.node i).work.k.dag, (f.node i).work.k.dag, (f.node i).work.k.sh, (f.node i).work.k.tab, (f.node i).work.txs⟩ := by
      unfold Fl.view
      rw [iN_ (by show ¬ ((i : Nat) : Int) = f.no.bad; rw [r]; exact hib), set_here _ p j]
    rw [T]at s m
    rw [U]at ty d
    have s : (x.y i).txs = (f.node i).txs := s
    have m : (x.y i).bl.map (·.v) = (f.node i).k.sh := m
    have ty : (y.y i).txs = (f.node i).work.txs := ty
    have d : (y.y i).bl.map (·.v) = (f.node i).work.k.sh := d
    rw [zBK]at ty
    rw [zBn]at d
    obtain⟨E, F⟩ := zBC Y w5 j (by omega) (by omega)
    rw [s, m, ty, d]
    refine⟨λe => ?_, λ_ e => ?_⟩
    · have e := e.resolve_left hib
      have z := E e
      refine⟨by rw [z]; exact e, ?_⟩
      have := cA_ List.length d
      rw [z, <- m]at this
      simpa using this
    · obtain⟨V, o⟩ := F e
      refine⟨V, (f.node i).nx, Z, by omega, ?_⟩
      rcases o with o | ⟨o, X⟩
      · exact .inl o
      · exact .inr ⟨o, X⟩
theorem zBL {l:L_}(h:∀x∈l,0<=x/\x<=255):tbL (zai l)=l:=by
 rw[tbL,ByteArray.toList_eq,zgr,List.map_map]
 conv=>rhs;rw[<-List.map_id l]
 refine List.map_congr_left λx b=>?_;have:=h x b;simp only[Function.comp,id];rw[UInt8.toNat_ofNat',Nat.mod_eq_of_lt (by omega)];omega
theorem zB4 {a:AV}(h:a.k=9->zz2 a.t):zzw a.ac:=by
 intro c m b f;obtain⟨x,e,j,g,d⟩:=h c;have b:zh2 a.t=some m:=b;unfold zh2 at b
 split at b
 have b:=Option.some.inj b;rw[e,zBL j,g]at b;subst b;exact d f;cases b
variable {k:Nat}
theorem zBD (T:Z_):T.take (min T.length 4)=T.take 4:=by
 rcases Nat.le_total T.length 4 with h|h;rw[Nat.min_eq_left h,tL_ (nR_ _),tL_ h];rw[Nat.min_eq_right h]
theorem zBE (T:Z_):T.drop (min T.length 4)=T.drop 4:=by
 rcases Nat.le_total T.length 4 with h|h;rw[Nat.min_eq_left h,List.drop_of_length_le (nR_ _),List.drop_of_length_le h];rw[Nat.min_eq_right h]
def zAN (bl:List Bc)(i:Int)(ss:Z_)(j:Nat):Prop:=∃h:j<bl.length,(bl[j]).v.au=i/\(bl[j]).v.ss=ss
theorem zCc {nx n:Int}(b:zaO nx ss=0)(g:0<=i/\i<4)(l:1<=n/\n<=1048576)(j:0<k/\k<=4)(f:0<ss.length):(⟨i,n,ss.take k⟩:BW).f=0:=by
 have c:∀s∈ss,zbM s=true:=by
  unfold zaO at b
  split at b
  cases b
  split at b
  rename_i h;exact(zdJ.1 h).1
  cases b
 show zbk i n (ss.take k)=0;unfold zbk;rw[iN_ (by omega),iN_ (by rw[lT9_];omega),iP_];rw[List.all_eq_true];intro s d;exact c s (List.mem_of_mem_take d)
theorem zBr {b:Int}{i:Nat}(z:i<4){l:List AV}(C:∀a∈l,a.e=0/\a.t.size<=4000)(u:∀a∈l,zzw a.ac)(r:l.length<=50){x y:Om}
  (s:(⟨8,i,0,⟨#[]⟩⟩:AV).e=0/\(⟨8,i,0,⟨#[]⟩⟩:AV).t.size<=4000)
  (G:x.v=((Fl.z b).run ((l++[(⟨8,i,0,⟨#[]⟩⟩:AV)]).map AV.ac)).told) (H:y.v=((Fl.z b).run ((l++[(⟨8,i,0,⟨#[]⟩⟩:AV)]++[(⟨2,i,0,⟨#[]⟩⟩:AV)]).map AV.ac)).told) :
  ((i:Int)=b\/(x.y i).txs.length=0->(y.y i).txs.length=0/\(x.y i).bl.length=(y.y i).bl.length) /\
  ((i:Int)≠b->(x.y i).txs.length≠0->(y.y i).txs=(x.y i).txs.drop (min (x.y i).txs.length 4)/\(y.y i).bl.length<=(x.y i).bl.length+1/\((∀j,j<(y.y i).bl.length->¬zAN (y.y i).bl i ((x.y i).txs.take (min (x.y i).txs.length 4)) j)->∃N:Nat,1<=N/\N<=l.length+21/\∃k,∃h:k<(y.y i).bl.length,(((y.y i).bl)[k]).v.d=(⟨i,N,(x.y i).txs.take (min (x.y i).txs.length 4)⟩:BW).d)):=by
 obtain⟨g,m⟩:=zBi z C u r s G H;generalize x.y i=c at g m|-;generalize y.y i=d at g m|-;refine⟨λh=>?_,λh q=>?_⟩;obtain⟨a,b'⟩:=g (h.imp id eN_);exact⟨by rw[a];rfl,b'.symm⟩;obtain⟨a,N,I,J,f⟩:=m h (λe=>q (by rw[e];rfl));rw[zBD,zBE];refine⟨a,?_,λE=>?_⟩;rcases f with f|⟨f,-⟩;have:=cA_ List.length f;simp at this;omega;have:=cA_ List.length f;simp at this;omega;rcases f with f|⟨f,o⟩
 exfalso
 have D:=cA_ List.length f
 simp at D
 have p:c.bl.length<d.bl.length:=by omega
 refine E c.bl.length p ⟨p,?_⟩;have e:(d.bl.map (·.v))[c.bl.length]? = some ⟨i,N,c.txs.take 4⟩:=by rw[f,List.getElem?_append_right (by simp)];simp
 rw[List.getElem?_map,List.getElem?_eq_getElem p]at e;have e:=Option.some.inj e;rw[show(d.bl[c.bl.length]).v=_ from e];exact⟨rfl,rfl⟩;refine⟨N.toNat,by omega,by omega,?_⟩;rw[<-f]at o;unfold zb1 at o;obtain⟨v,F,t⟩:=aT_.1 o;obtain⟨k,A,rfl⟩:=List.getElem_of_mem F;have B:k<d.bl.length:=by simpa using A
 refine⟨k,B,?_⟩;have e:=ziD (zq8 _ _) (zq8 _ _) (of_decide_eq_true t);rw[List.getElem_map]at e;rw[show(N.toNat:Int)=N by omega];exact e
variable {w w':World}{T:TypeId}
theorem zBh (h:∃nx,zaO nx ss=0):ss.length<=40:=by
 obtain⟨nx,h⟩:=h;unfold zaO at h
 split at h
 cases h;omega
theorem zCd {x:Vm}(h:zfX w x):zgq w x.ba x.bl:=by
 obtain⟨f,d,b,-,c⟩:=zAH h.rb h.eb
 simp at b
 rw[b.1];exact c
theorem zB5 {c f:Nat}(h:zas w (some (p_ c f)) ss)(b:0<ss.length):c<w.heap.size:=by
 rcases h.cells with e|⟨g,j,e,d⟩;rw[e]at b;simp at b;cases e;exact bL_ (d 0 b)
theorem zBF {b:Nat}{x y z:Value}(q:R_ w b #[x,y,z] T):∀j u,[x,y,z][j]? = some u->w.cell? ((p_ b 0:Addr).add j)=some u:=by
 intro j u h;rw[zaP,zA_];exact zb q j u (by simpa using h)
def zAW (w:World)(b:Nat)(c:X_)(t:TypeId):Prop:=w.heap[b]? = some (.cells c t (0,0))
theorem zAW.below {b:Nat}{c:X_}{t:TypeId}(h:zAW w b c t)(d:B_ w w'):zAW w' b c t:=zk d h
def zd6 (bl:List Bc)(k:Nat):Bc:=bl.getD k ⟨⟨0,0,[]⟩,none,0⟩
theorem zAA (bl:List Bc)(k:Nat)(h:k<bl.length):zd6 bl k=bl[k]:=by simp[zd6,h]
theorem zB6 (b ys:L_)(f g:Q_)(n m c d:Nat)(w:World)(p:n=b.length)(o:m=ys.length)(j:zg w f c b)(l:zg w g d ys) :
  Calls prog 24 #[.slice f n c,.slice g m d] w λe w'=>e=.returned (.bool (decide (txL b=txL ys)))/\w=w':=by
 have r:=zd8 w f n c b p j;have s:=zd8 w g m d ys o l;have q:Hid (((zai b).toList == (zai ys).toList)=decide (txL b=txL ys)):=by
  show _=_;rw[txL,txL];by_cases h:(zai b).toList=(zai ys).toList;rw[dT_ h,h];simp;rw[dF_ h];simpa using h
 clear p o j l;generalize decide (txL b=txL ys)=D at*;generalize zai b=A at*;generalize zai ys=B at*;go_in;go_wp2_with fail
 go_ret;exact⟨zN (by rw[<-q.out]),rfl⟩
def zfF (bl:List Bc)(i k:Nat):Prop:=∀I K,K<I->I<bl.length->(I<i\/(I=i/\K<k))->(zd6 bl I).v.d=(zd6 bl K).v.d->(zd6 bl I).v=(zd6 bl K).v
structure zAX (bl:List Bc)(w w':World)(e:Ending):Prop where
 out:∃r:Bool,e=.returned (.bool r)/\(r=false->zfF bl bl.length 0)/\B_ w w'
theorem zfF.next {bl:List Bc}{i:Nat}(h:zfF bl i i):zfF bl (i+1) 0:=λI K b c d=>h I K b c (by omega)
theorem zfF.one {bl:List Bc}{i:Nat}(h:zfF bl i k)(e:(zd6 bl i).v.d=(zd6 bl k).v.d->(zd6 bl i).v=(zd6 bl k).v):zfF bl i (k+1):=λI K b c d=>by
 by_cases g:I=i/\K=k
 .rw[g.1,g.2];exact e
 .exact h I K b c (by omega)
theorem zBs (bl:List Bc)(ta:Q_)(m z:Nat)(w:World)(hm:m=bl.length)(aM:bl.length<=100000)(u:0<bl.length)(f:zgq w ta bl)(hf:∀b∈bl,b.v.f=0)(hT:za2 w) :
  Calls prog 15 #[O_,.slice ta m z] w λe w'=>zAX bl w w' e:=by
 subst hm;obtain⟨c,d,rfl,aB⟩:∃c d,ta=some (p_ c d)/\∀j (h:j<bl.length),_:=by
  rcases f.cells with h|h;rw[h]at u;simp at u;exact h
 have ag:Hid (∀j,j<bl.length->∀W:World,B_ w W->C_ W c (d+j*3) (I_ (zd6 bl j).v.au)/\C_ W c (d+j*3+1) (I_ (zd6 bl j).v.nu)/\C_ W c (d+j*3+2) (.slice (zd6 bl j).ta (zd6 bl j).v.ss.length (zd6 bl j).tc)):=by
  show ∀j,_;intro j hj W l;rw[zAA bl j hj];obtain⟨u,E,F⟩:=aB j hj;have ah:c<w.heap.size:=bL_ u;exact⟨(l.cell (p:=p_ c (d+j*3)) ah).trans u,(l.cell (p:=p_ c (d+j*3+1)) ah).trans E,(l.cell (p:=p_ c (d+j*3+2)) ah).trans F⟩
 have au:Hid (∀j,j<bl.length->∀W:World,B_ w W->zcN W (zd6 bl j)/\(zd6 bl j).v.f=0):=by
  show ∀j,_;intro j hj W l;rw[zAA bl j hj];exact⟨(f.each _ (gM_ hj)).below l,hf _ (gM_ hj)⟩
 have HT:Hid (∀W:World,B_ w W->za2 W):=by
  show ∀W,_;exact λW l=>hT.below l
 clear aB hT f hf;go_in;go_wp2_with fail
 go_loopw [5] (λj wr=>j=I_ 0/\B_ w wr) (λ_ _=>0)
 case atStart=>exact⟨rfl,bR_ _ _⟩
 refine kV_ ?A0 ?_;exact Value.slice (some (p_ c d)) bl.length z
 case round=>
  obtain⟨rfl,M⟩:=hrel;have aq:¬(0:Int)<0:=by omega
  go_wp2_with fail
  go_loopw [11] (λj wr=>∃i:Nat,i<=bl.length/\j=I_ i/\Hid (zfF bl i 0)/\B_ w wr) (λj _=>bl.length-(intOf j).toNat)
  case atStart=>exact⟨0,nZ_ _,rfl,(by show zfF _ _ _;intro I K E F h3;omega),M⟩
  case round=>
   obtain⟨i,hi,rfl,az,M⟩:=hrel;by_cases hiL:i<bl.length
   .have aK:(i:Int)<bl.length:=by omega
    go_wp2_with fail
    go_loopw [12] (λj wr=>∃k:Nat,k<=i/\j=I_ k/\Hid (zfF bl i k)/\B_ w wr) (λj _=>i-(intOf j).toNat)
    case atStart=>exact⟨0,nZ_ _,rfl,az,M⟩
    case round=>
     obtain⟨k,hk,rfl,an,ab⟩:=hrel;by_cases ah:k<i
     .have aq:(k:Int)<i:=by omega
      have ap:k<bl.length:=by omega
      have aL:(k:Int)<bl.length:=by omega
      obtain⟨x,ai⟩:∃x,zd6 bl i=x:=⟨_,rfl⟩;obtain⟨y,aj⟩:∃y,zd6 bl k=y:=⟨_,rfl⟩;obtain⟨c0,c1,c2⟩:=ag.out i hiL wr ab;rw[ai]at c0 c1 c2;have X:Hid (∀W:World,B_ w W->zcN W x/\x.v.f=0):=by
       show ∀W,_;intro W l;rw[<-ai];exact au.out i hiL W l
      have Y:Hid (∀W:World,B_ w W->zcN W y/\y.v.f=0):=by
       show ∀W,_;intro W l;rw[<-aj];exact au.out k ap W l
      refine kA_ ?B0 ?_;exact #[I_ x.v.au,I_ x.v.nu,.slice x.ta x.v.ss.length x.tc];have aF:Hid (∀W:World,B_ w W->Calls prog 26 #[.agg ?B0] W λe w'=>∃b,e=.returned (.tuple #[.slice (some (p_ b 0)) 32 32,I_ 0])/\W.heap.size<=b/\B_ W w'/\zg w' (some (p_ b 0)) 32 x.v.d):=by
       show ∀W,_;intro W l;obtain⟨y1,y2,y3,y4⟩:=zjR (X.out W l).2;exact zis x.v.au x.v.nu x.ta _ x.tc x.v.ss W rfl (X.out W l).1.strs (X.out W l).2 y1 (by omega) y3.2 (λs hs=>(y4 s hs).2) (X.out W l).1.lt (HT.out W l)
      refine kA_ ?C0 ?_;exact #[I_ y.v.au,I_ y.v.nu,.slice y.ta y.v.ss.length y.tc];have aG:Hid (∀W:World,B_ w W->Calls prog 26 #[.agg ?C0] W λe w'=>∃b,e=.returned (.tuple #[.slice (some (p_ b 0)) 32 32,I_ 0])/\W.heap.size<=b/\B_ W w'/\zg w' (some (p_ b 0)) 32 y.v.d):=by
       show ∀W,_;intro W l;obtain⟨y1,y2,y3,y4⟩:=zjR (Y.out W l).2;exact zis y.v.au y.v.nu y.ta _ y.tc y.v.ss W rfl (Y.out W l).1.strs (Y.out W l).2 y1 (by omega) y3.2 (λs hs=>(y4 s hs).2) (Y.out W l).1.lt (HT.out W l)
      have ax:Hid (x.v.ss.length<=1000/\y.v.ss.length<=1000):=by
       have a1:=(zjR (X.out wr ab).2).2.2.1;have a2:=(zjR (Y.out wr ab).2).2.2.1;exact⟨by omega,by omega⟩
      go_wp2_with fail
      refine(aF.out wr ab).mono ?_;rintro e w2⟨A,he,aI,aH,aC⟩;subst he;dsimp only;have al:=zm ab aH;clear c0 c1 c2;obtain⟨c0,c1,c2⟩:=ag.out k ap w2 al;rw[aj]at c0 c1 c2;go_wp2_with fail
      refine(aG.out w2 al).mono ?_;rintro e q⟨J,he,aJ,aA,aE⟩;subst he;dsimp only;have aa:=zm al aA;clear c0 c1 c2;have aD:=aC.below aA;obtain⟨B,am⟩:∃B:Bool,decide (txL x.v.d=txL y.v.d)=B:=⟨_,rfl⟩;refine kV_ ?D0 ?_;exact Value.slice (some (p_ A 0)) 32 32;refine kV_ ?E0 ?_;exact Value.slice (some (p_ J 0)) 32 32;have ak:Hid (∀V:World,B_ q V->Calls prog 24 #[?D0,?E0] V λe w'=>e=.returned (.bool B)/\V=w'):=by
       show ∀V,_;intro V hV;rw[<-am];exact zB6 _ _ (some (p_ A 0)) (some (p_ J 0)) 32 32 32 32 V (zhW _ _).symm (zhW _ _).symm (aD.below hV) (aE.below hV)
      obtain⟨Q,ao⟩:∃Q:Bool,decide (x.v.au=y.v.au/\x.v.nu=y.v.nu/\x.v.ss=y.v.ss)=Q:=⟨_,rfl⟩;have aw:Hid (∀V:World,B_ q V->Calls prog 27 #[.agg ?B0,.agg ?C0] V λe w'=>e=.returned (.bool Q)/\B_ V w'):=by
       show ∀V,_;intro V hV;have ay:=zm aa hV;rw[<-ao];exact zA3 x.v.au x.v.nu y.v.au y.v.nu x.v.ss y.v.ss x.ta y.ta _ _ x.tc y.tc V rfl rfl ax.out.1 ax.out.2 (X.out V ay).1.strs (Y.out V ay).1.strs
      have av:Hid (B=false\/Q=true->zfF bl i (k+1)):=by
       show _->_;intro h;refine zfF.one an.out ?_;rw[ai,aj];intro hd;rcases h with h|h;rw[<-am,hd,dT_ rfl]at h;cases h;rw[<-ao]at h;obtain⟨a1,a2,a3⟩:=of_decide_eq_true h;rcases hx:x.v with⟨p1,p2,p3⟩;rcases hy:y.v with⟨q1,q2,q3⟩;rw[hx,hy]at a1 a2 a3;have a1:p1=q1:=a1;have a2:p2=q2:=a2;have a3:p3=q3:=a3;rw[a1,a2,a3]
      obtain⟨N,O,R⟩:=ag.out i hiL q aa;obtain⟨u,E,F⟩:=ag.out k ap q aa;rw[ai]at N O R;rw[aj]at u E F;clear aC aE aD aI aJ am ao an;go_upto_region 19 with fail
      cases B with
      | false=>
       have o:=dB_ q;refine wR_ (S:=λw'=>True) (by kernel_rfl) ⟨⟩ (λg=>?_);generalize q.drew=V0 at o  g ⊢;refine tks_ 14 [(0,99,I_ 0),(1,100,.bool true),(2,101,.bool true),(3,102,I_ 0),(4,103,.bool true),(5,104,.bool true),(6,105,.bool true),(7,106,.slice (some (p_ A 0)) 32 32),(8,107,I_ 32),(9,108,.bool true),(10,109,.bool true),(11,110,.bool true),(12,111,.slice (some (p_ A 0)) 32 32),(13,112,.slice (some (p_ J 0)) 32 32)] g ?_;simp only[tkf_,zf];clear g;refine zno (λD G T=>?_);refine znp (λC r=>?_);have af:Hid (∀(V:World),B_ q V->D 0 #[true,true,true,true,true,true,true,true,true,true,true,true,true,true,true,true,true,true,true,true,true,true,true,true,true,true,true,true] ((((((((((((((C.put (some 113) (.bool false)).put (some 114) (.bool false)).put (some 115) (.bool false)).put (some 116) undef).put (some 117) undef).put (some 118) undef).put (some 119) undef).put (some 120) undef).put (some 121) undef).put (some 122) undef).put (some 123) undef).put (some 124) undef).put (some 125) undef).put (some 126) (.bool false)) V):=by
        show ∀V,_;intro V  f;refine G.out _ _ _ _ ?_;rw[<-r.out]
        try simp only[zf]
        refine wD_ (by kernel_rfl) ?_ _
        (try go_wp2_with fail)
        go_roundw
        case rel=>
         have ac:=zm aa f;have L:∃U:Nat,U<=i/\(Value.int .i64 ((k:Int)+1))=I_ U/\Hid (zfF bl i U)/\B_ w V:=⟨k+1,by omega,by go_num,av.out (.inl rfl),ac⟩
         first|exact L|((repeat apply Exists.intro);exact⟨L,rfl⟩)
        case measure=>simp[intOf];omega
       have ae:Hid (∀(V:World),B_ q V->D 14 #[true,true,true,true,true,true,true,true,true,true,true,true,true,true,false,false,false,false,false,false,false,false,false,false,false,false,false,false] C V):=by
        show ∀V,_;intro V  f;refine G.out _ _ _ _ ?_;rw[<-r.out]
        try simp only[zf]
        refine zE 14 rfl (λK H=>?_);refine zaJ (by rfl) 113 rfl 24 [.tmp 111,.tmp 112] #[56,56] rfl [?D0,?E0] rfl (eO_ func24) (λv w'=>v=.bool false/\V=w') ((ak.out V f).mono (λe w2 h=>⟨_,h.1,rfl,h.2⟩)) ?_;rintro v Z⟨rfl,ad⟩;subst ad;refine H.out _ _ ⟨⟩ (λg=>?_);simp only[zf];refine tks_ 13 [(15,114,.bool false),(16,115,.bool false),(17,116,undef),(18,117,undef),(19,118,undef),(20,119,undef),(21,120,undef),(22,121,undef),(23,122,undef),(24,123,undef),(25,124,undef),(26,125,undef),(27,126,.bool false)] g ?_;simp only[tkf_,zf];clear g;have h:=af.out V f;rw[<-r.out]at h
        (try simp only[zf]at h)
        (try simp only[zf])
        exact T.out _ _ _ _ h
       exact ae.out V0 o
      | true=>
       cases Q with
       | true=>
        have o:=dB_ q;refine wR_ (S:=λw'=>C_ w' c (d+i*3) (I_ x.v.au)/\C_ w' c (d+i*3+1) (I_ x.v.nu)/\C_ w' c (d+i*3+2) (.slice x.ta x.v.ss.length x.tc)/\C_ w' c (d+k*3) (I_ y.v.au)/\C_ w' c (d+k*3+1) (I_ y.v.nu)/\C_ w' c (d+k*3+2) (.slice y.ta y.v.ss.length y.tc)) (by kernel_rfl) ⟨zr o N,zr o O,zr o R,zr o u,zr o E,zr o F⟩ (λg=>?_);generalize q.drew=V0 at o  g ⊢;refine tks_ 14 [(0,99,I_ 0),(1,100,.bool true),(2,101,.bool true),(3,102,I_ 0),(4,103,.bool true),(5,104,.bool true),(6,105,.bool true),(7,106,.slice (some (p_ A 0)) 32 32),(8,107,I_ 32),(9,108,.bool true),(10,109,.bool true),(11,110,.bool true),(12,111,.slice (some (p_ A 0)) 32 32),(13,112,.slice (some (p_ J 0)) 32 32)] g ?_;simp only[tkf_,zf];clear g;refine zno (λD G T=>?_);refine znp (λC r=>?_);have ar:Hid (∀(V:World),B_ q V->D 0 #[true,true,true,true,true,true,true,true,true,true,true,true,true,true,true,true,true,true,true,true,true,true,true,true,true,true,true,true] ((((((((((((((C.put (some 113) (.bool true)).put (some 114) (.bool true)).put (some 115) (.bool true)).put (some 116) ?A0).put (some 117) (I_ (i:Int))).put (some 118) (P_ c (d+i*3))).put (some 119) (.agg ?B0)).put (some 120) ?A0).put (some 121) (I_ (k:Int))).put (some 122) (P_ c (d+k*3))).put (some 123) (.agg ?C0)).put (some 124) (.bool true)).put (some 125) (.bool false)).put (some 126) (.bool false)) V):=by
         show ∀V,_;intro V  f;refine G.out _ _ _ _ ?_;rw[<-r.out]
         try simp only[zf]
         refine wD_ (by kernel_rfl) ?_ _
         (try go_wp2_with fail)
         go_roundw
         case rel=>
          have ac:=zm aa f;have L:∃U:Nat,U<=i/\(Value.int .i64 ((k:Int)+1))=I_ U/\Hid (zfF bl i U)/\B_ w V:=⟨k+1,by omega,by go_num,av.out (.inr rfl),ac⟩
          first|exact L|((repeat apply Exists.intro);exact⟨L,rfl⟩)
         case measure=>simp[intOf];omega
        have af:Hid (∀(V:World),B_ q V->D 3 #[true,true,true,true,true,true,true,true,true,true,true,true,true,true,true,true,true,true,true,true,true,true,true,true,true,false,false,false] (((((((((((C.put (some 113) (.bool true)).put (some 114) (.bool true)).put (some 115) (.bool true)).put (some 116) ?A0).put (some 117) (I_ (i:Int))).put (some 118) (P_ c (d+i*3))).put (some 119) (.agg ?B0)).put (some 120) ?A0).put (some 121) (I_ (k:Int))).put (some 122) (P_ c (d+k*3))).put (some 123) (.agg ?C0)) V):=by
         show ∀V,_;intro V  f;refine G.out _ _ _ _ ?_;rw[<-r.out]
         try simp only[zf]
         refine zE 25 rfl (λK H=>?_);refine zaJ (by rfl) 124 rfl 27 [.tmp 119,.tmp 123] #[44,44] rfl [.agg ?B0,.agg ?C0] rfl (eO_ func27) (λv w'=>v=.bool true/\B_ V w') ((aw.out V f).mono (λe w2 h=>⟨_,h.1,rfl,h.2⟩)) ?_;rintro v Z⟨rfl,M⟩;have t:=zm f M;refine H.out _ _ ⟨zr t N,zr t O,zr t R,zr t u,zr t E,zr t F⟩ (λg=>?_);simp only[zf];refine tks_ 2 [(26,125,.bool false),(27,126,.bool false)] g ?_;simp only[tkf_,zf];clear g;have h:=ar.out Z t;rw[<-r.out]at h
         (try simp only[zf]at h)
         (try simp only[zf])
         exact T.out _ _ _ _ h
        have ae:Hid (∀(V:World),B_ q V->D 14 #[true,true,true,true,true,true,true,true,true,true,true,true,true,true,false,false,false,false,false,false,false,false,false,false,false,false,false,false] C V):=by
         show ∀V,_;intro V  f;refine G.out _ _ _ _ ?_;rw[<-r.out]
         try simp only[zf]
         refine zE 14 rfl (λK H=>?_);refine zaJ (by rfl) 113 rfl 24 [.tmp 111,.tmp 112] #[56,56] rfl [?D0,?E0] rfl (eO_ func24) (λv w'=>v=.bool true/\V=w') ((ak.out V f).mono (λe w2 h=>⟨_,h.1,rfl,h.2⟩)) ?_;rintro v Z⟨rfl,ad⟩;subst ad;refine H.out _ _ ⟨zr f N,zr f O,zr f R,zr f u,zr f E,zr f F⟩ (λg=>?_);simp only[zf];refine tks_ 10 [(15,114,.bool true),(16,115,.bool true),(17,116,.slice (some (p_ c d)) bl.length z),(18,117,I_ (i:Int)),(19,118,(P_ c (d+i*3))),(20,119,.agg ?B0),(21,120,.slice (some (p_ c d)) bl.length z),(22,121,I_ (k:Int)),(23,122,(P_ c (d+k*3))),(24,123,.agg ?C0)] g ?_;simp only[tkf_,zf];clear g;have h:=af.out V f;rw[<-r.out]at h
         (try simp only[zf]at h)
         (try simp only[zf])
         exact T.out _ _ _ _ h
        exact ae.out V0 o
       | false=>
        have o:=dB_ q;refine wR_ (S:=λw'=>C_ w' c (d+i*3) (I_ x.v.au)/\C_ w' c (d+i*3+1) (I_ x.v.nu)/\C_ w' c (d+i*3+2) (.slice x.ta x.v.ss.length x.tc)/\C_ w' c (d+k*3) (I_ y.v.au)/\C_ w' c (d+k*3+1) (I_ y.v.nu)/\C_ w' c (d+k*3+2) (.slice y.ta y.v.ss.length y.tc)) (by kernel_rfl) ⟨zr o N,zr o O,zr o R,zr o u,zr o E,zr o F⟩ (λg=>?_);generalize q.drew=V0 at o  g ⊢;refine tks_ 14 [(0,99,I_ 0),(1,100,.bool true),(2,101,.bool true),(3,102,I_ 0),(4,103,.bool true),(5,104,.bool true),(6,105,.bool true),(7,106,.slice (some (p_ A 0)) 32 32),(8,107,I_ 32),(9,108,.bool true),(10,109,.bool true),(11,110,.bool true),(12,111,.slice (some (p_ A 0)) 32 32),(13,112,.slice (some (p_ J 0)) 32 32)] g ?_;simp only[tkf_,zf];clear g;refine zno (λD G T=>?_);refine znp (λC r=>?_);have ar:Hid (∀(V:World),B_ q V->D 0 #[true,true,true,true,true,true,true,true,true,true,true,true,true,true,true,true,true,true,true,true,true,true,true,true,true,true,true,true] ((((((((((((((C.put (some 113) (.bool true)).put (some 114) (.bool true)).put (some 115) (.bool true)).put (some 116) ?A0).put (some 117) (I_ (i:Int))).put (some 118) (P_ c (d+i*3))).put (some 119) (.agg ?B0)).put (some 120) ?A0).put (some 121) (I_ (k:Int))).put (some 122) (P_ c (d+k*3))).put (some 123) (.agg ?C0)).put (some 124) (.bool false)).put (some 125) (.bool true)).put (some 126) (.bool true)) V):=by
         show ∀V,_;intro V  f;refine G.out _ _ _ _ ?_;rw[<-r.out]
         try simp only[zf]
         refine wD_ (by kernel_rfl) ?_ _;have ac:=zm aa f
         (try go_wp2_with fail)
         go_ret;exact⟨⟨true,rfl,(λe=>by cases e),ac⟩⟩
        have af:Hid (∀(V:World),B_ q V->D 3 #[true,true,true,true,true,true,true,true,true,true,true,true,true,true,true,true,true,true,true,true,true,true,true,true,true,false,false,false] (((((((((((C.put (some 113) (.bool true)).put (some 114) (.bool true)).put (some 115) (.bool true)).put (some 116) ?A0).put (some 117) (I_ (i:Int))).put (some 118) (P_ c (d+i*3))).put (some 119) (.agg ?B0)).put (some 120) ?A0).put (some 121) (I_ (k:Int))).put (some 122) (P_ c (d+k*3))).put (some 123) (.agg ?C0)) V):=by
         show ∀V,_;intro V  f;refine G.out _ _ _ _ ?_;rw[<-r.out]
         try simp only[zf]
         refine zE 25 rfl (λK H=>?_);refine zaJ (by rfl) 124 rfl 27 [.tmp 119,.tmp 123] #[44,44] rfl [.agg ?B0,.agg ?C0] rfl (eO_ func27) (λv w'=>v=.bool false/\B_ V w') ((aw.out V f).mono (λe w2 h=>⟨_,h.1,rfl,h.2⟩)) ?_;rintro v Z⟨rfl,M⟩;have t:=zm f M;refine H.out _ _ ⟨zr t N,zr t O,zr t R,zr t u,zr t E,zr t F⟩ (λg=>?_);simp only[zf];refine tks_ 2 [(26,125,.bool true),(27,126,.bool true)] g ?_;simp only[tkf_,zf];clear g;have h:=ar.out Z t;rw[<-r.out]at h
         (try simp only[zf]at h)
         (try simp only[zf])
         exact T.out _ _ _ _ h
        have ae:Hid (∀(V:World),B_ q V->D 14 #[true,true,true,true,true,true,true,true,true,true,true,true,true,true,false,false,false,false,false,false,false,false,false,false,false,false,false,false] C V):=by
         show ∀V,_;intro V  f;refine G.out _ _ _ _ ?_;rw[<-r.out]
         try simp only[zf]
         refine zE 14 rfl (λK H=>?_);refine zaJ (by rfl) 113 rfl 24 [.tmp 111,.tmp 112] #[56,56] rfl [?D0,?E0] rfl (eO_ func24) (λv w'=>v=.bool true/\V=w') ((ak.out V f).mono (λe w2 h=>⟨_,h.1,rfl,h.2⟩)) ?_;rintro v Z⟨rfl,ad⟩;subst ad;refine H.out _ _ ⟨zr f N,zr f O,zr f R,zr f u,zr f E,zr f F⟩ (λg=>?_);simp only[zf];refine tks_ 10 [(15,114,.bool true),(16,115,.bool true),(17,116,.slice (some (p_ c d)) bl.length z),(18,117,I_ (i:Int)),(19,118,(P_ c (d+i*3))),(20,119,.agg ?B0),(21,120,.slice (some (p_ c d)) bl.length z),(22,121,I_ (k:Int)),(23,122,(P_ c (d+k*3))),(24,123,.agg ?C0)] g ?_;simp only[tkf_,zf];clear g;have h:=af.out V f;rw[<-r.out]at h
         (try simp only[zf]at h)
         (try simp only[zf])
         exact T.out _ _ _ _ h
        exact ae.out V0 o
     obtain rfl:k=i:=by omega
     have aq:¬(k:Int)<k:=by omega
     go_wp2_with fail
     go_roundw
     case rel=>
      have L:∃i':Nat,i'<=bl.length/\(Value.int .i64 ((k:Int)+1))=I_ i'/\Hid (zfF bl i' 0)/\B_ w wr:=⟨k+1,by omega,by go_num,zfF.next an.out,ab⟩
      first|exact L|((repeat apply Exists.intro);exact⟨L,rfl⟩)
     case measure=>simp[intOf];omega
   obtain rfl:i=bl.length:=by omega
   have aq:¬(bl.length:Int)<bl.length:=by omega
   go_wp2_with fail
   go_ret;exact⟨⟨false,rfl,(λ_=>az.out),M⟩⟩
end Go.Proofs.YtffaeaonobmmjaaGreatDoor
