import Derived.Test.YtdnaljbnebnlhaaGreatDoorPk10
set_option maxRecDepth 100000
set_option maxHeartbeats 4000000
namespace Go.Proofs.YtdnaljbnebnlhaaGreatDoor
open Go.RowKit Tryz
variable {r:Int}
def zc6 (l:List CV)(rd:Int):Nat->List (List Int)
 | 0=>[]
 | n+1=>if 0<=cOf l n rd then zc6 l rd n++[(zaM l (cOf l n rd).toNat).d]else zc6 l rd n
def dgF (l:List CV)(rd:Int):List (List Int):=zc6 l rd 4
theorem zpX (l:List CV)(rd:Int)(n:Nat):(zc6 l rd n).length<=n:=by
 induction n with
 | zero=>simp[zc6]
 | succ n ih=>
  rw[zc6]
  split
  .simp;omega
  .omega
theorem ztw (l:List CV)(rd:Int)(n:Nat)(h:0<(zc6 l rd n).length):∃j,j<l.length/\(zaM l j).rd=rd:=by
 induction n with
 | zero=>simp[zc6]at h
 | succ n ih=>
  by_cases g:0<=cOf l n rd
  .have b:=zoq (zfp l n rd) l.length g;have c:=zlB l n rd;refine⟨(cOf l n rd).toNat,by omega,?_⟩;simp only[zfp,decide_eq_true_eq]at b;exact b.2
  .rw[zc6,if_neg g]at h;exact ih h
def cnt (l:List CV)(r:Int):Nat:=(l.filter λc=>decide (r<=c.rd)).length
theorem zx5 (l:List CV)(r:Int):cnt l (r+1)<=cnt l r:=by
 induction l with
 | nil=>simp[cnt]
 | cons c l ih=>
  simp only[cnt,List.filter_cons]at ih|-;by_cases h1:r+1<=c.rd
  .have b:r<=c.rd:=by omega
   simp[h1,b];exact ih
  .by_cases b:r<=c.rd
   .simp[h1,b];omega
   .simp[h1,b];exact ih
theorem zx6 (l:List CV)(r:Int)(h:∃j,j<l.length/\(zaM l j).rd=r):cnt l (r+1)<cnt l r:=by
 induction l with
 | nil=>obtain⟨j,g,_⟩:=h;simp at g
 | cons c l ih=>
  by_cases hc:c.rd=r
  .have:=zx5 l r;have d:¬r+1<=c.rd:=by omega
   have b:r<=c.rd:=by omega
   simp only[cnt,List.filter_cons]at this|-;simp[d,b];omega
  .obtain⟨j,g,e⟩:=h;have f:cnt l (r+1)<cnt l r:=by
    apply ih
    cases j with
    | zero=>exact absurd (by simpa[zaM]using e) hc
    | succ j=>exact⟨j,by simpa using g,by simpa[zaM]using e⟩
   simp only[cnt,List.filter_cons]at f|-;by_cases d:r+1<=c.rd
   .have b:r<=c.rd:=by omega
    simp[d,b];exact f
   .by_cases b:r<=c.rd
    .omega
    .simp[d,b];exact f
def zgS (l:List CV)(r:Int):Prop:=1<=r/\(∀k:Int,1<=k->k<r->3<=(dgF l k).length)/\(dgF l r).length<3
theorem zgS.one {l:List CV}{s:Int}(h:zgS l r)(g:zgS l s):r=s:=by
 obtain⟨d,f,m⟩:=h;obtain⟨b,c,j⟩:=g;rcases Int.lt_trichotomy r s with q|q|q
 .have:=c r d q;omega
 .exact q
 .have:=f s b q;omega
theorem zmk {c:CV}(h:c.f=0):1<=c.rd/\c.rd<=1048576:=(zbi (zfO (vl:=c.vl) h)).2.1
theorem zou {l:List CV}(h:zbV l=0)(j:Nat)(b:j<l.length):(zaM l j).f=0:=zx4 l j ((zgw h).2 j b)
variable {ls:List Ct}{ds:List zi}
theorem zov {l:List CV}(b:bss ds=l.map CV.d)(k:Nat)(h:k<ds.length):(zaM l k).d=(ds[k]).bs:=by
 have c:=congrArg List.length b;simp only[bss,List.length_map]at c;have h':k<l.length:=by omega
 have e:(bss ds)[k]? = (l.map CV.d)[k]?:=by rw[b]
 simp only[bss,List.getElem?_map,List.getElem?_eq_getElem h,List.getElem?_eq_getElem h',Option.map_some,Option.some.injEq]at e;rw[e];simp[zaM,h']
theorem zhZ {l:List CV}(b:bss ds=l.map CV.d):ds.length=l.length:=by
 have c:=congrArg List.length b
 simpa[bss]using c
theorem znZ (h:zbV (zI ls)=0):∀c∈ls,c.v.f=0:=by
 intro c d;obtain⟨j,b,rfl⟩:=List.getElem_of_mem d;rw[<-zk4 ls j b];exact zou h j (by rw[zbv];exact b)
theorem zlE (h:zbV (zI ls)=0):ls.length<=400:=by
 have:=(zgw h).1;rw[zbv]at this;exact this
theorem zw7 {c:CV}(h:c.f=0):c.bl.length<=3/\c.pl.length<=4/\c.vl.length<=4/\(∀b∈c.bl,b.length=32)/\(∀b∈c.pl,b.length=32):=by
 obtain⟨_,_,f,j,l,m⟩:=zbi (zfO (vl:=c.vl) h);refine⟨by simpa[pz]using f,by simpa[pz]using j,?_,λb d=>?_,λb d=>?_⟩
 .rw[CV.f,zap]at h
  split at h
  .rename_i g;exact absurd h g
  .split at h
   .cases h
   .omega
 .exact l ⟨none,0,b⟩ (by simp[pz,d])
 .exact m ⟨none,0,b⟩ (by simp[pz,d])
theorem zow {c:Ct}(h:c.v.f=0):c.bl.length<=1000/\c.pl.length<=1000/\c.vl.length<=4/\(∀p∈c.bl,p.bs.length<=140737488355328)/\(∀p∈c.pl,p.bs.length<=140737488355328):=by
 obtain⟨f,g,d,j,l⟩:=zw7 h;simp only[Ct.v,zcQ]at f g d;refine⟨by omega,by omega,d,λp b=>?_,λp b=>?_⟩
 .rw[j p.bs (List.mem_map.2 ⟨p,b,rfl⟩)];decide
 .rw[l p.bs (List.mem_map.2 ⟨p,b,rfl⟩)];decide
variable {rd au:Int}
theorem zox (l:List CV)(c:CV)(au rd:Int):cOf (l++[c]) au rd=if 0<=cOf l au rd then cOf l au rd else if c.au=au/\c.rd=rd then(l.length:Int)else -1:=by
 have b:zaC (zfp (l++[c]) au rd) l.length=zaC (zfp l au rd) l.length:=zrB _ _ _ (λj f=>by
  have e:zaM (l++[c]) j=zaM l j:=by simp[zaM,List.getD,List.getElem?_append_left f]
  rw[zfp,zfp,e])
 have d:zfp (l++[c]) au rd l.length=decide (c.au=au/\c.rd=rd):=by
  have e:zaM (l++[c]) l.length=c:=by simp[zaM]
  rw[zfp,e]
 rw[cOf,show(l++[c]).length=l.length+1 by simp,zaC,b,d];show(if 0<=cOf l au rd then cOf l au rd else _)=_;simp only[decide_eq_true_eq]
theorem zml (l:List CV)(r:Int):(dgF l r).length=(if 0<=cOf l 0 r then 1 else 0)+(if 0<=cOf l 1 r then 1 else 0)+(if 0<=cOf l 2 r then 1 else 0)+(if 0<=cOf l 3 r then 1 else 0):=by
 have h:∀n:Nat,(zc6 l r (n+1)).length=(zc6 l r n).length+(if 0<=cOf l (n:Int) r then 1 else 0):=λn=>by
  rw[zc6]
  split<;>simp
 rw[dgF,h 3,h 2,h 1,h 0];simp[zc6]
def zhn (l:List CV)(r:Int):Nat:=(l.filter λc=>decide (c.rd=r)).length
theorem zjQ (l:List CV)(c:CV)(r:Int):zhn (l++[c]) r=zhn l r+(if c.rd=r then 1 else 0):=by
 simp only[zhn,List.filter_append,lP_];by_cases h:c.rd=r<;>simp[h]
theorem zw8 (l:List CV)(c:CV)(r:Int)(h:cOf l c.au c.rd<0)(m:0<=c.au/\c.au<4):(dgF (l++[c]) r).length=(dgF l r).length+(if c.rd=r then 1 else 0):=by
 have d:∀a:Int,(if 0<=cOf (l++[c]) a r then 1 else 0:Nat)=(if 0<=cOf l a r then 1 else 0)+(if c.au=a/\c.rd=r then 1 else 0):=λa=>by
  rw[zox];by_cases h1:0<=cOf l a r
  .have b:¬(c.au=a/\c.rd=r):=λ⟨f,g⟩=>by rw[f,g]at h;omega
   simp[h1,b]
  .by_cases b:c.au=a/\c.rd=r
   .rw[if_neg h1,if_pos b,if_neg h1,if_pos b,if_pos (by omega)]
   .rw[if_neg h1,if_neg b,if_neg h1,if_neg b,if_neg (by decide)]
 rw[zml,zml,d,d,d,d];by_cases hr:c.rd=r
 .have j:c.au=0\/c.au=1\/c.au=2\/c.au=3:=by omega
  rcases j with e|e|e|e<;>simp[e,hr]<;>omega
 .simp[hr]
theorem zvy {c:CV}(h:c.f=0):0<=c.au/\c.au<4:=(zbi (zfO (vl:=c.vl) h)).1
theorem zoy {l:List CV}{pl:List (List Int)}(h:zfc l au rd pl=0):cOf l au rd<0:=by
 rw[zfc]at h
 split at h
 .cases h
 .omega
theorem zoz {l:List CV}(h:zbV l=0)(r:Int)(k:Nat)(d:k<=l.length):(dgF (l.take k) r).length=zhn (l.take k) r:=by
 induction k with
 | zero=>rw[List.take_zero,zml];rfl
 | succ k ih=>
  have c:k<l.length:=by omega
  have b:=(zgw h).2 k c;simp only[zgH,Bool.or_eq_false_iff,decide_eq_false_iff_not,ne_eq,Decidable.not_not]at b;have e:l.take (k+1)=l.take k++[zaM l k]:=by
   rw[tS_ c];simp[zaM,c]
  rw[e,zw8 _ _ _ (zoy b.2) (zvy b.1),zjQ,ih (by omega)]
theorem zqQ {l:List CV}(h:zbV l=0)(r:Int):(dgF l r).length=zhn l r:=by
 have:=zoz h r l.length (nR_ _)
 rwa [List.take_length]at this
def za8 (l:List CV)(c:CV):Int:=if c.f≠0 then c.f else if zfc l c.au c.rd c.pl≠0 then zfc l c.au c.rd c.pl else if 400<=l.length then 6 else 0
theorem zg5 {l:List CV}{c:CV}(h:za8 l c=0):c.f=0/\zfc l c.au c.rd c.pl=0/\l.length<400:=by
 rw[za8]at h;by_cases h1:c.f=0
 .rw[if_neg (λg=>g h1)]at h;by_cases h2:zfc l c.au c.rd c.pl=0
  .rw[if_neg (λg=>g h2)]at h;by_cases h3:400<=l.length
   .rw[if_pos h3]at h;cases h
   .exact⟨h1,h2,by omega⟩
  .rw[if_pos h2]at h;exact absurd h h2
 .rw[if_pos h1]at h;exact absurd h h1
theorem zvz {l:List CV}(h:∀k,k<l.length->za8 (l.take k) (zaM l k)=0):zbV l=0:=by
 have f:∀k,k<l.length->zgH l k=false:=λk j=>by
  obtain⟨b,c,_⟩:=zg5 (h k j);simp[zgH,b,c]
 refine zw6 l ?_ f;rcases Nat.lt_or_ge 400 l.length with g|g
 .obtain⟨_,_,d⟩:=zg5 (h 400 g);rw[lT9_]at d;omega
 .exact g
variable {ss:List ByteArray}
theorem zjR {b:Int}(h:zbk au b ss=0):(0<=au/\au<4)/\(1<=b/\b<=1048576)/\(1<=ss.length/\ss.length<=4)/\∀s∈ss,1<=s.size/\s.size<=20:=by
 unfold zbk at h
 split at h
 .cases h
 .split at h
  .cases h
  .split at h
   .rename_i f g c
    refine⟨by omega,by omega,by omega,λs d=>?_⟩;have:=List.all_eq_true.1 c s d
    simpa[zbM]using this
   .cases h
variable {w:World}{ops:Array Oper}{Q:Exit->Act->World->Prop}{a:Act}
def tb (s:ByteArray):List Int:=s.data.toList.map λb=>(b.toNat:Int)
theorem zeK (s:ByteArray):(tb s).length=s.size:=by simp[tb]
theorem zpY (s:ByteArray):Lib.strCells s=ub (tb s):=by simp[Lib.strCells,ub,tb]
theorem znH (w:World)(ty:TypeId)(base:Nat)(v:Value)(n:Nat)(bs:List Int)(b:w.ownsRow base 5 1 v n (ub bs))(s:ByteArray)(y:n+s.size<=140737488355328)(E:base<=w.heap.size) :
  ∃d w',(Builtin.append_ #[51,9] ty #[v,.string s]).run prog w=.ok d w'/\w'.ownsRow base 5 1 d (n+s.size) (ub (bs++tb s))/\zV w v w' d:=by
 obtain⟨i,f,r,m,t⟩:=info_parts zek;have z:n+s.size<=maxLen:=by unfold maxLen;omega
 obtain⟨d,w',l,B,C,_⟩:=Lib.run_append_own_string (P:=prog) w base 51 9 ty 5 i underlying51 underlying9 f r m t v n (ub bs) b s z y E;refine⟨d,w',l,by rw[show ub (bs++tb s)=ub bs++ub (tb s) by simp[ub],<-zpY];exact B,⟨C,?_⟩⟩;intro q p;rcases b.2 with⟨rfl,G⟩|⟨g,o,A,rfl,O,F,L,M,D,N⟩
 .subst G;have H:bs=[]:=by have:=b.1;rw[zcb]at this;exact eN_ (by omega)
  subst H;obtain⟨R,w2,c,J,_,_⟩:=Lib.run_append_own_string (P:=prog) w w.heap.size 51 9 ty 5 i underlying51 underlying9 f r m t (O_) 0 [] (oN_ _ _ _ _) s z y (nR_ _);have e:=l.symm.trans c;cases e;exact .inr (J.lt q p).1
 .by_cases hroom:n+s.size<=o
  .have c:=Lib.run_append_room_string (P:=prog) w 51 9 ty 5 i underlying51 underlying9 f m g n o A F s hroom (by simp at D;omega);have e:=l.symm.trans c;cases e;exact .inl p
  .have I:∀j u,(ub bs)[j]? = some u->w.cell? ((⟨g,0,none⟩:Addr).add j)=some u:=b.cells (g:=g) rfl;have c:=Lib.run_append_grow_string (P:=prog) w 51 9 ty 5 i (.int .u8 0) underlying51 underlying9 f r ⟨g,0,none⟩ n o (ub bs) (by rw[m];simpa using b.1) I s (by omega) (by omega) (by rw[t];exact growslice_fits (by omega) (by omega));have e:=l.symm.trans c;cases e;cases p;exact .inr (nR_ _)
theorem zkx {rest:List Oper}{o:Oper}(l:o.guard=none)(c x:Operand)
  (p:o.op=.call { callee:=.builtin .append,args:=#[c,x],argTypes:=#[51,9] })
  (base:Nat) (v:Value) (n:Nat) (bs:List Int) (t:a.eval c=v) (q:w.ownsRow base 5 1 v n (ub bs)) (s:ByteArray) (u:a.eval x=.string s) (m:n+s.size<=140737488355328) (j:base<=w.heap.size)
  (h:∀b w',w'.ownsRow base 5 1 b (n+s.size) (ub (bs++tb s))->zV w v w' b->wpList prog ops Q rest (a.put o.dst b) w'):wpList prog ops Q (o::rest) a w:=by
 refine wpList_plain l λK g=>?_;obtain⟨b,w',r,d,f⟩:=znH w o.type base v n bs q s m j;unfold Oper.wp execOp;simp only[p,resolve,invoke,builtin,Sem.run_bind,Sem.run_pure,Result.andThen_ok,List.map_toArray,List.map_cons,List.map_nil,t,u,r];exact g _ _ (h b w' d f)
def zbc:List ByteArray->List Int
 | []=>[]
 | s::l=>(s.size:Int)::(tb s++zbc l)
theorem zm7 (l:List ByteArray)(s:ByteArray):zbc (l++[s])=zbc l++((s.size:Int)::tb s):=by
 induction l with
 | nil=>simp[zbc]
 | cons x l ih=>simp[zbc,ih]
theorem zmm (l:List ByteArray)(h:∀s∈l,s.size<=20):(zbc l).length<=21*l.length:=by
 induction l with
 | nil=>simp[zbc]
 | cons x l ih=>
  have c:=h x (by simp);have d:=ih (λs b=>h s (by simp[b]));simp[zbc,zeK];omega
def zbY (au nu:Int)(ss:List ByteArray):List Int:=[au]++rd3 nu++[(ss.length:Int)]++zbc ss
theorem zhE (base:Nat)(v:Value)(k:Nat)(bs:List Int)(au b:Int)(f:Option Addr)(n u:Nat)(ss:List ByteArray)(w:World)(ha:0<=au/\au<4)(hr:0<=b/\b<=1048576)(hn:n=ss.length)(hl:ss.length<=4)(hz:∀s∈ss,s.size<=20)(hs:zas w f ss)(am:∀c l,f=some ⟨c,l,none⟩->c<w.heap.size/\v.ownBlock≠some c)
  (d:w.ownsRow base 5 1 v k (ub bs)) (o:base<=w.heap.size) (hk:k<=90000) :
  Calls prog 35 #[v,.agg #[I_ au,I_ b,.slice f n u]] w λe w'=>∃N,e=.returned N/\w'.ownsRow base 5 1 N (k+(zbY au b ss).length) (ub (bs++zbY au b ss))/\zV w v w' N:=by
 subst hn;obtain⟨i,E,J,L,M⟩:=info_parts zek;obtain⟨av,aw⟩:=ha;have ai:v.ownBlock≠some w.heap.size:=λe=>by have:=(d.lt _ e).2;omega
 go_in;go_wp2_with (at_builtin;refine wpList_append_own_at _ rfl _ _ 51 rfl base 5 i (.int .u8 0) 1 1 underlying51 E J L M rfl (by decide) _ k _ rfl (oA_ (oA_ d _) _) ⟨w.heap.size+1,0,none⟩ 1 1 [.int .u8 au] rfl rfl (by have:=zag (w.alloc (.cells #[I_ au,I_ b,.slice f ss.length u] 58)) [.int .u8 au] 5;rw[zG]at this;exact this) (zds [_]) (by unfold maxLen;omega) (by omega) (zB (zB o _) _) ?_;intro O w1 ad aa _ X;have p:=zV.of aa X;have z:=p.row (hX_ w _ _) ai;have c1:w1.cell? ⟨w.heap.size,1,none⟩=some (I_ b):=zb z 1 _ rfl)
 have an:w1.ownsRow base 5 1 O (k+1) (ub (bs++[au])):=by simpa[ub]using ad
 have H:O.ownBlock≠some w.heap.size:=λe=>by
  rcases p.fresh _ e with g|g
  .exact ai g
  .rw[zG,zG]at g;omega
 have B:=p.alloc.alloc;clear ad aa X p;refine(zeA base O (k+1) _ b _ hr an (nT_ o B.grown.size) (by omega)).mono ?_;rintro e w2⟨v2,rfl,ae,q⟩;have A:=q.row z H;have c2:=zb A 2 (.slice f ss.length u) rfl;have I:v2.ownBlock≠some w.heap.size:=λe=>by
  rcases q.fresh _ e with g|g
  .exact H g
  .have:=ze z;omega
 have C:=B.trans q;clear z c1;go_wp2_with (at_builtin;refine wpList_append_own_at _ rfl _ _ 51 rfl base 5 i (.int .u8 0) 1 1 underlying51 E J L M rfl (by decide) _ (k+1+3) _ rfl (oA_ ae _) ⟨w2.heap.size,0,none⟩ 1 1 [.int .u8 (ss.length:Int)] rfl rfl (zag _ _ _) (zds [_]) (by unfold maxLen;omega) (by omega) (zB (nT_ o C.grown.size) _) ?_;intro v3 w3 af ab _ Y;have r:=(zV.of ab Y).alloc;have r3:=r.row A I;have c3:w3.cell? ⟨w.heap.size,2,none⟩=some (.slice f ss.length u):=zb r3 2 _ rfl)
 have ag:w3.ownsRow base 5 1 v3 (k+1+3+1) (ub (bs++[au]++rd3 b++[(ss.length:Int)])):=by simpa[ub]using af
 have R:=C.trans r;have ar:v3.ownBlock≠some w.heap.size:=λe=>by
  rcases r.fresh _ e with g|g
  .exact I g
  .have:=ze A;omega
 clear A c2 af ab Y r ae q B C I H;go_loopw [27,0] (λj t wr=>∃m:Nat,m<=ss.length/\j=I_ m/\wr.ownsRow base 5 1 t (k+1+3+1+(zbc (ss.take m)).length) (ub (bs++[au]++rd3 b++[(ss.length:Int)]++zbc (ss.take m)))/\zV w v wr t) (λj _ _=>ss.length-(intOf j).toNat)
 case atStart=>exact⟨0,nZ_ _,rfl,by simpa[zbc]using ag,R⟩
 case round=>
  clear ag R r3 c3 ar;obtain⟨m,hm,rfl,d,G⟩:=hrel;by_cases hlt:m<ss.length
  .obtain⟨c,l,rfl,hc⟩:∃c l,f=some ⟨c,l,none⟩/\∀j,j<ss.length->w.cell? ⟨c,l+j,none⟩=some (.string (ss.getD j ByteArray.empty)):=by
    rcases hs.cells with h|h
    .rw[h]at hlt;simp at hlt
    .exact h
   have D:=hc m hlt;have ck:wr.cell? ⟨c,l+m,none⟩=some (.string (ss.getD m ByteArray.empty)):=(cB_ (G.grown.block c (bL_ D) (λe=>(am c l rfl).2 e.symm))).trans D;have aq:(ss.getD m ByteArray.empty).size<=20:=hz _ (by simp[List.getD,hlt]);have F:Hid (zbc (ss.take (m+1))=zbc (ss.take m)++(((ss.getD m ByteArray.empty).size:Int)::tb (ss.getD m ByteArray.empty))):=by
    show _=_;rw[tS_ hlt,zm7];simp only[List.getD,List.getElem?_eq_getElem hlt,Option.getD_some]
   have ak:(zbc (ss.take m)).length<=84:=by
    have h1:=zmm (ss.take m) (λs h=>hz s (List.mem_of_mem_take h));have h2:(ss.take m).length<=4:=by rw[lT9_];omega
    omega
   have al:(m:Int)<ss.length:=by omega
   clear hc D;generalize ss.getD m ByteArray.empty=x at ck F aq;generalize zbc (ss.take m)=T at d F ak;have aj:base<=wr.heap.size:=nT_ o G.grown.size;go_wp2_with (at_builtin;first|(refine wpList_append_own_at _ rfl _ _ 51 rfl base 5 i (.int .u8 0) 1 1 underlying51 E J L M rfl (by decide) _ (k+1+3+1+T.length) _ rfl (oA_ d _) ⟨wr.heap.size,0,none⟩ 1 1 [.int .u8 (x.size:Int)] rfl rfl (zag _ _ _) (zds [_]) (by unfold maxLen;omega) (by omega) (zB aj _) ?_;intro v4 w4 ah ac _ Z;have U:=G.trans (zV.of ac Z).alloc;have ao:w4.ownsRow base 5 1 v4 (k+1+3+1+T.length+1) (ub (bs++[au]++rd3 b++[(ss.length:Int)]++T++[(x.size:Int)])):=(by simpa[ub]using ah);clear ah ac Z)|(refine zkx rfl _ _ rfl base _ (k+1+3+1+T.length+1) _ rfl ao x rfl (by omega) (nT_ o U.grown.size) ?_;intro v5 w5 ap G5))
   go_roundw
   case rel=>
    have V:∃y:Nat,y<=ss.length/\(Value.int .i64 ((m:Int)+1))=I_ y/\w5.ownsRow base 5 1 v5 (k+1+3+1+(zbc (ss.take y)).length) (ub (bs++[au]++rd3 b++[(ss.length:Int)]++zbc (ss.take y)))/\zV w v w5 v5:=
     ⟨m+1,by omega,by go_num,by rw[F.out];simp only[lP_,List.length_cons,zeK];rw[show k+1+3+1+(T.length+(x.size+1))=k+1+3+1+T.length+1+x.size by omega];simpa using ap,U.trans G5⟩
    first|exact V|((repeat apply Exists.intro);exact⟨V,rfl⟩)
   case measure=>simp[intOf];omega
  .obtain rfl:m=ss.length:=by omega
   rw[tL_ (nR_ _)]at d;have al:¬(ss.length:Int)<ss.length:=by omega
   go_wp2_with fail
   go_ret;refine⟨_,rfl,?_,G⟩;have e:k+(zbY au b ss).length=k+1+3+1+(zbc ss).length:=by simp[zbY,rd3];omega
   rw[e,show bs++zbY au b ss=bs++[au]++rd3 b++[(ss.length:Int)]++zbc ss by simp[zbY]];exact d
end Go.Proofs.YtdnaljbnebnlhaaGreatDoor
