import Derived.Test.YtdnaljbnebnlhaaGreatDoorPk8
set_option maxRecDepth 100000
set_option maxHeartbeats 4000000
namespace Go.Proofs.YtdnaljbnebnlhaaGreatDoor
open Go.RowKit Go.Maps Go.WideMaps Tryz
variable {g:GV}
theorem ziJ {α β:Type}{f:α->Option β}:∀(L:List α),(∀x∈L,∃y,f x=some y)->∃ys,L.mapM f=some ys
 | [],_=>⟨[],rfl⟩
 | x::r,h=>by
  obtain⟨y,b⟩:=h x (by simp)
  obtain⟨ys,c⟩:=ziJ r (λz d=>h z (by simp[d]))
  exact⟨y::ys,by rw[List.mapM_cons,b,c];rfl⟩
theorem zy1:laidOutB prog=true:=by kernel_rfl
theorem zzB:(314:TypeId)<prog.types.size:=of_decide_eq_true (by kernel_rfl)
theorem ztm:prog.cellsOf 314=35:=by kernel_rfl
theorem ztn:prog.cellsOf 312=32:=by kernel_rfl
theorem zok:prog.cellsOf 3=1:=by kernel_rfl
theorem zx2:prog.cellsOf 5=1:=by kernel_rfl
theorem zvj:prog.keyType 314=true:=by kernel_rfl
theorem zy2:(match prog.underlying 314 with|some (.array _ _)|some (.struct _)=>true|_=>false)=true:=by kernel_rfl
theorem zy3:KeyLaw prog 314:=deep_law_laid zy1 (m:=3) (by omega) zzB (by kernel_rfl) zy2
theorem zvk:Keyed prog 314:=Keyed.of_law zy3
def mkv (g:GV):List Value:=.int .i64 g.1::.int .i64 g.2.1::.int .i64 g.2.2.1::ub g.2.2.2
theorem zwZ {h:GV}(e:mkv g=mkv h):g=h:=by
 obtain⟨a,b,c,l⟩:=g;obtain⟨a',b',c',l'⟩:=h;simp only[mkv,List.cons.injEq,Value.int.injEq,true_and]at e;obtain⟨rfl,rfl,rfl,e⟩:=e;have d:∀(x y:List Int),ub x=ub y->x=y:=by
  intro x
  induction x with
  | nil=>intro y h;cases y with
   | nil=>rfl
   | cons _ _=>simp[ub]at h
  | cons p x ih=>intro y h;cases y with
   | nil=>simp[ub]at h
   | cons q y=>
    simp only[ub,List.map_cons,List.cons.injEq,Value.int.injEq,true_and]at h;rw[h.1,ih y h.2]
 rw[d _ _ e]
theorem zto (h:gF g=0):(0<=g.1/\g.1<4)/\(0<=g.2.1/\g.2.1<4)/\(1<=g.2.2.1/\g.2.2.1<=1048576)/\g.2.2.2.length=32:=by
 unfold gF zhD at h
 split at h
 .cases h
 .rename_i b
  unfold zbf at h
  split at h
  .cases h
  .rename_i c
   split at h
   .cases h
   .rename_i d
    omega
theorem zk1 (d:Nat)(a:Int)(h:0<=a/\a<=1048576):prog.keyLits (d+1) 3 [.int .i64 a]=some [.int .i64 a]:=by
 have b:(Lit.int .i64 a).wf=true:=WalkArith.wf_i64 (by omega);simp[Program.keyLits,underlying3,b]
theorem zw0 (d:Nat)(a:Int)(h:0<=a/\a<=255):prog.keyLits (d+1) 5 [.int .u8 a]=some [.int .u8 a]:=by
 have b:(Lit.int .u8 a).wf=true:=by rw[Lit.wf,Bool.and_eq_true,decide_eq_true_eq,decide_eq_true_eq];exact⟨h.1,h.2⟩
 simp[Program.keyLits,underlying5,b]
theorem zvl (d:Nat)(l:List Int)(b:l.length=32)(m:zaN l):∃p,prog.keyLits (d+2) 312 (ub l)=some p:=by
 have g:(ub l).length=32:=by simp[ub,b]
 obtain⟨ys,o⟩:=ziJ (f:=λi=>prog.keyLits (d+1) 5 (((ub l).drop (i*prog.cellsOf 5)).take (prog.cellsOf 5))) (List.range 32) (λi j=>by
  have c:i<l.length:=by rw[b];exact List.mem_range.1 j
  refine⟨[.int .u8 (l[i])],?_⟩;have e:((ub l).drop (i*prog.cellsOf 5)).take (prog.cellsOf 5)=[.int .u8 (l[i])]:=by
   rw[zx2,Nat.mul_one,List.drop_eq_getElem_cons (by rw[g,<-b];exact c)];simp[ub]
  show prog.keyLits (d+1) _ _=_;rw[e];exact zw0 d _ (m _ (gM_ c)))
 refine⟨ys.flatten,?_⟩;unfold Program.keyLits;simp only[underlying312];rw[if_pos (by rw[g,ztn]),o]
 rfl
theorem zvm (g:GV)(h:gF g=0)(r:zaN g.2.2.2):∃G,keyOf prog 314 (.agg (mkv g).toArray)=some G:=by
 obtain⟨s,t,u,m⟩:=zto h;obtain⟨a,b,c,l⟩:=g;dsimp only at s t u m r;have p:(ub l).length=32:=by simpa[ub]using m
 have q:(mkv (a,b,c,l)).length=35:=by simp[mkv,p]
 have I:52-49<=prog.types.size+1:=of_decide_eq_true (by kernel_rfl);obtain⟨d,B⟩:∃d,prog.types.size+1=d+3:=⟨prog.types.size+1-3,by omega⟩;have D:(Value.agg (mkv (a,b,c,l)).toArray).formed prog 314=true:=by
  simp[Value.formed,underlying314,ztm,q]
 obtain⟨j,E⟩:∃j,prog.keyLits (d+3) 314 (mkv (a,b,c,l))=some j:=by
  unfold Program.keyLits;simp only[underlying314];rw[if_pos ⟨by rw[q,ztm],by simp⟩];obtain⟨ds,C⟩:=zvl d l m r;have H:∀L:List Field,(∀f∈L,∃y,prog.keyLits (d+2) f.type (((mkv (a,b,c,l)).drop f.offset).take (prog.cellsOf f.type))=some y)->∃j,(L.mapM λf:Field=>prog.keyLits (d+2) f.type (((mkv (a,b,c,l)).drop f.offset).take (prog.cellsOf f.type))).map List.flatten=some j:=by
   intro L z;obtain⟨ys,F⟩:=ziJ L z;rw[F];exact⟨_,rfl⟩
  refine H _ (λf o=>?_)
  simp at o
  rcases o with rfl|rfl|rfl|rfl
  .exact⟨_,by simpa[zok,mkv]using zk1 (d+1) a (by omega)⟩
  .exact⟨_,by simpa[zok,mkv]using zk1 (d+1) b (by omega)⟩
  .exact⟨_,by simpa[zok,mkv]using zk1 (d+1) c (by omega)⟩
  .refine⟨ds,?_⟩;simp only[ztn,mkv,List.drop_succ_cons,List.drop_zero];rw[tL_ (by rw[p];exact nR_ _)];exact C
 refine⟨.string (keyBytes j),?_⟩;have A:(Value.agg (mkv (a,b,c,l)).toArray).cells.toList=mkv (a,b,c,l):=by simp[Value.cells]
 unfold keyOf;rw[A,B,E,D,zvj];simp[underlying314]
def zlv (K:GV->Lit):Prop:=∀g:GV,gF g=0->zaN g.2.2.2->keyOf prog 314 (.agg (mkv g).toArray)=some (K g)
theorem zpU:∃K:GV->Lit,zlv K:=by
 refine⟨λg=>(keyOf prog 314 (.agg (mkv g).toArray)).getD (.bool true),λg h c=>?_⟩;obtain⟨d,b⟩:=zvm g h c;show _=some ((keyOf prog 314 (.agg (mkv g).toArray)).getD (.bool true));rw[b];rfl
theorem zvn {K:GV->Lit}(d:zlv K){g h:GV}(l:gF g=0)(o:zaN g.2.2.2)(m:gF h=0)(p:zaN h.2.2.2)(e:K g=K h):g=h:=by
 have b:=d g l o;have f:=d h m p;rw[e]at b;have c:=zvk.inj b f;simp only[Value.agg.injEq]at c;have j:(mkv g)=(mkv h):=by simpa using c
 exact zwZ j
theorem zqO:∀(b L:List Lit),(b.foldl addKey L).length<=L.length+b.length
 | [],L=>by simp
 | x::r,L=>by
  have:=zqO r (addKey L x)
  have c:(addKey L x).length<=L.length+1:=by unfold addKey;split<;>simp
  simp only[List.foldl_cons,List.length_cons]
  omega
theorem zol:∀(d L:List Lit),(∀x∈d,WideAt.IsKeyLit x)->((d.foldl addKey L).length=L.length+d.length↔d.Nodup/\∀x∈d,x ∉ L)
 | [],L,_=>by simp
 | x::r,L,hk=>by
  have m:=hk x (by simp)
  simp only[List.foldl_cons,List.length_cons,List.nodup_cons]
  by_cases h:L.any (λy=>y.sameKey x)=true
  .have e:addKey L x=L:=by unfold addKey;rw[if_pos h]
   rw[e]
   have f:=zqO r L
   obtain⟨y,c,l⟩:=List.any_eq_true.1 h
   have p:y=x:=WideAt.sameKey_eq l
   subst p
   constructor
   .intro j;omega
   .intro j;exact absurd c (j.2 y (by simp))
  .have e:addKey L x=L++[x]:=by unfold addKey;rw[if_neg h]
   rw[e,show L.length+(r.length+1)=(L++[x]).length+r.length by simp;omega,zol r (L++[x]) (λy c=>hk y (by simp[c]))]
   have o:x ∉ L:=λb=>h (List.any_eq_true.2 ⟨x,b,WideAt.sameKey_self m⟩)
   constructor
   .rintro⟨f,g⟩
    refine⟨⟨λb=>g x b (by simp),f⟩,λy c=>?_⟩
    rcases List.mem_cons.1 c with rfl|c
    .exact o
    .exact λb=>g y c (by simp[b])
   .rintro⟨⟨f,g⟩,h3⟩
    refine⟨g,λy c b=>?_⟩
    rcases List.mem_append.1 b with b|b
    .exact h3 y (by simp[c]) b
    .obtain rfl:y=x:=by simpa using b
     exact f c
theorem znD {K:GV->Lit}(d:zlv K){l:List GV}(c:∀g∈l,gF g=0/\zaN g.2.2.2):(l.map K).Nodup↔l.Nodup:=by
 rw[List.nodup_iff_pairwise_ne,List.nodup_iff_pairwise_ne,List.pairwise_map]
 constructor
 .intro h;exact h.imp (λ{a b} hne e=>hne (by rw[e]))
 .intro h;exact List.Pairwise.imp_of_mem (λ{a b} ha hb hne e=>hne (zvn d (c a ha).1 (c a ha).2 (c b hb).1 (c b hb).2 e)) h
theorem zru {K:GV->Lit}(c:zlv K){l:List GV}(b:∀g∈l,gF g=0/\zaN g.2.2.2):Maps.size (setOf (H:=Unit) (.agg []) (l.map K))=l.length↔l.Nodup:=by
 have d:∀x∈l.map K,WideAt.IsKeyLit x:=by
  intro x j;obtain⟨g,f,rfl⟩:=List.mem_map.1 j;exact zvk.key (c g (b g f).1 (b g f).2)
 rw[size_setOf _ _ d];have h:=zol (l.map K) [] d;simp only[List.length_nil,Nat.zero_add,List.length_map,List.not_mem_nil,not_false_eq_true,implies_true,and_true]at h;rw[h,znD c b]
variable {w:World}{ops:Array Oper}{Q:Exit->Act->World->Prop}{a:Act}
theorem zfb {rest:List Oper}{o:Oper}(q:Region.wanted o (yielded ops a.tmps)=true)(ty:TypeId)(x:Operand)(m:o.op=.load ty x)
  (g:Nat) (r:a.eval x=(P_ g 0)) (t:TypeId) (cs:Array Value) (b:Nat×Nat) (d:TypeDesc) (j:w.heap[g]? = some (.cells cs t b))
  (p:prog.underlying ty=some d) (f:(match d with|.struct _|.array _ _=>true|_=>false)=true) (l:(prog.info? ty).map (·.size)=some cs.size)
  (h:wpList prog ops Q rest (a.put o.dst (.agg cs)) w):wpList prog ops Q (o::rest) a w:=by
 refine wpList_step λK c=>?_;rw[if_pos q];exact wp_load_row ty x m g r t cs b d j p (by cases d<;>first|exact f|rfl) l (c _ _ h)
theorem zL {o:Oper}(ty:TypeId)(x:Operand)(l:o.op=.load ty x)
  (g:Nat) (p:a.eval x=(P_ g 0)) (t:TypeId) (cs:Array Value) (b:Nat×Nat) (d:TypeDesc) (f:w.heap[g]? = some (.cells cs t b))
  (m:prog.underlying ty=some d) (c:(match d with|.struct _|.array _ _=>true|_=>false)=true) (j:(prog.info? ty).map (·.size)=some cs.size) :
  (execOp a.eval o).run prog w=.ok (.value (.agg cs)) w:=by
 unfold execOp;simp only[l,p,Instr.loadAt,Instr.sureAddr,Sem.run_bind,Sem.run_pure,Result.andThen_ok,run_loadVar_row w g t ty cs b d f m (by cases d<;>first|exact c|rfl) j]
variable {w':World}{n:Nat}
theorem zvo (n:Int)(w:World):(Instr.makeMap 311 (some (I_ n))).run prog w=.ok (.map (some w.heap.size)) (w.alloc (.map #[] 0)):=by
 simp[Instr.makeMap,run_underlying underlying311,Result.andThen]
 rfl
theorem zw1 (p q r:Int)(l:List Int):(mkv (p,q,r,l)).length=3+l.length:=by simp[mkv,ub];omega
theorem zw2 (g:GV):∀v∈mkv g,v.oneCell'=true:=by
 intro v b;simp only[mkv,List.mem_cons]at b;rcases b with rfl|rfl|rfl|b
 .rfl
 .rfl
 .rfl
 .obtain⟨x,_,rfl⟩:=List.mem_map.1 b
  rfl
theorem zwF:(prog.info? 314).map (·.size)=some 35:=by kernel_rfl
theorem zx3 (p q r:Int)(w:World):(Instr.build 314 #[(0,I_ p),(1,I_ q),(2,I_ r)]).run prog w=.ok (.agg (mkv (p,q,r,List.replicate 32 0)).toArray) w:=by kernel_rfl
theorem zy4 (w:World):∃Z:Array Value,Z.size=35/\(Instr.alloc 314 true (.tuple #[])).run prog w=.ok (P_ w.heap.size 0) (w.alloc (.cells Z 314)):=⟨(mkv (0,0,0,List.replicate 32 0)).toArray,by simp[mkv,ub],by kernel_rfl⟩
theorem znE {rest:List Oper}{o:Oper}(c:o.guard=none)(x y z:Operand)(d:o.op=.build 314 #[(0,x),(1,y),(2,z)])
  (p q r:Int) (g:a.eval x=I_ p) (j:a.eval y=I_ q) (l:a.eval z=I_ r)
  (h:wpList prog ops Q rest (a.put o.dst (.agg (mkv (p,q,r,List.replicate 32 0)).toArray)) w):wpList prog ops Q (o::rest) a w:=by
 refine wpList_plain c λK b=>?_;have f:=zx3 p q r w;unfold Oper.wp;simp[execOp,d,g,j,l,f,Result.andThen];exact b _ _ h
theorem znF {rest:List Oper}{o:Oper}(d:o.guard=none)(f:o.op=.alloc 314)
  (h:∀w',(∃Z:Array Value,Z.size=35/\R_ w' w.heap.size Z 314)->B_ w w'->wpList prog ops Q rest (a.put o.dst (P_ w.heap.size 0)) w'):wpList prog ops Q (o::rest) a w:=by
 refine wpList_plain d λK b=>?_;obtain⟨Z,c,g⟩:=zy4 w;unfold Oper.wp;simp[execOp,f,g,Result.andThen];exact b _ _ (h _ ⟨Z,c,hN_ w _⟩ ((bR_ _ _).alloc (nR_ _) _))
theorem znG {rest:List Oper}{o:Oper}(t:o.guard=none)(s:o.dst=none)(x y:Operand)(A:o.op=.store 314 x y)
  (g:Nat) (v:GV) (z:v.2.2.2.length=32) (D:a.eval x=(P_ g 0)) (E:a.eval y=.agg (mkv v).toArray) (F:∃Z:Array Value,Z.size=35/\R_ w g Z 314)
  (B:Nat) (w0:World) (m:Below B w0 w) (d:B<=g)
  (h:∀w',Hid (R_ w' g ((mkv v).toArray) 314)->Below B w0 w'->wpList prog ops Q rest a w'):wpList prog ops Q (o::rest) a w:=by
 refine wpList_plain t λK f=>?_;obtain⟨Z,j,c⟩:=F;have b:(mkv v).toArray.size=35:=by obtain⟨p,q,r,l⟩:=v;simpa[z]using zw1 p q r l
 refine wp_store_row _ x y A g (mkv v).toArray D E _ Z c (by rw[b];exact zwF) (by rw[j,b]) (by rw[<-Array.all_toList];exact List.all_eq_true.2 (λu C=>zw2 v u (by simpa using C))) ?_;rw[s];exact f _ _ (h _ (show _=_ from setRow_heap w g _ _ _ _ c) (below_setRow m d _))
theorem zm0 {k:TypeId}{R:Value->Option (DataW Unit×List MemPlace)}{b:Nat}{D:DataW Unit}(h:w.ownsMap prog k R b n D)(j:B_ w w'):w'.ownsMap prog k R b n D:=by
 have l:=h.lt;obtain⟨d,c,f,F,m,g⟩:=h;exact⟨d,c,(j.block b l).trans f,F,m,g⟩
theorem zrv (p q r:Int)(l z:List Int)(c:l.length=z.length):splice (mkv (p,q,r,z)) 3 (ub l)=mkv (p,q,r,l):=by
 have b:(ub z).drop (ub l).length=[]:=List.drop_eq_nil_of_le (by simp[ub,c]);simp only[splice,mkv,List.take_succ_cons,List.take_zero,List.cons_append,List.nil_append];rw[show 3+(ub l).length=(ub l).length+1+1+1 by omega,List.drop_succ_cons,List.drop_succ_cons,List.drop_succ_cons,b,List.append_nil]
theorem zjl (b:List Sg)(N:Option Addr)(n am:Nat)(w:World)(hn:n=b.length)(hl:b.length<=2932031007400)(hp:zcz w N b)(C:∀s∈b,gF s.v=0) :
  Calls prog 238 #[.slice N n am] w λe w'=>e=.returned (.bool (decide (gvs b).Nodup))/\B_ w w':=by
 subst hn;obtain⟨K,X⟩:=zpU;have ax:=zvo;have O:Hid (∀s∈b,gF s.v=0):=C;clear C;go_in;go_wp2_with fail
 go_loopw [12] (λi wr=>∃m:Nat,m<=b.length/\i=I_ m/\wr.ownsMap prog 314 (unitElem (H:=Unit)) w.heap.size m (setOf (.agg []) ((gvs (b.take m)).map K))/\B_ w wr) (λi _=>b.length-(intOf i).toNat)
 case atStart=>exact⟨0,nZ_ _,rfl,World.ownsMap_made _ _ _ _,(bR_ _ _).alloc (nR_ _) _⟩
 case round=>
  obtain⟨m,hm,rfl,I,B⟩:=hrel;by_cases hlt:m<b.length
  .have L:=hp.below B;obtain⟨r,u,rfl,Y⟩:∃r u,N=some ⟨r,u,none⟩/\∀j (h:j<b.length),wr.cell? ⟨r,u+j*4,none⟩=some (I_ (b[j]).nd)/\wr.cell? ⟨r,u+j*4+1,none⟩=some (I_ (b[j]).au)/\wr.cell? ⟨r,u+j*4+2,none⟩=some (I_ (b[j]).rd)/\wr.cell? ⟨r,u+j*4+3,none⟩=some (.slice (b[j]).p.sa (b[j]).p.bs.length (b[j]).p.cap):=by
    rcases L.cells with h|h
    .rw[h]at hlt;simp at hlt
    .exact h
   obtain⟨c0,c1,c2,c3⟩:=Y m hlt;have hx:=L.each (b[m]) (gM_ hlt);have ab:Hid (gF (b[m]).v=0):=O.out _ (gM_ hlt);have aw:(m:Int)<b.length:=by omega
   have HS:Hid (setOf (H:=Unit) (.agg []) ((gvs (b.take (m+1))).map K)=(setOf (.agg []) ((gvs (b.take m)).map K)).put (K (b[m]).v) (.agg [])):=by
    show _=_;rw[<-setOf_snoc,tS_ hlt];simp only[gvs,List.map_append,List.map_cons,List.map_nil]
   clear Y L;generalize b[m]=t at*;go_upto_region 5 with fail
   refine kO_ ?A0 ?_;exact Obj.cells #[I_ t.nd,I_ t.au,I_ t.rd,.slice t.p.sa t.p.bs.length t.p.cap] 55;have F:=B.alloc B.size ?A0;have T:=(bR_ wr.heap.size wr).alloc (nR_ _) ?A0;have q:=hN_ wr ?A0;have M:(wr.alloc ?A0).heap.size=wr.heap.size+1:=by simp
   have J:=I.alloc ?A0;generalize wr.alloc ?A0=d at F T q M J|-;have d0:=zb q 0 _ rfl;have d1:=zb q 1 _ rfl;have d2:=zb q 2 _ rfl;have d3:=zb q 3 _ rfl;go_upto_region 6 with(first
    | (refine znE rfl _ _ _ rfl _ _ _ rfl rfl rfl ?_)
    | (refine znF rfl rfl ?_;intro w2 ao an)
    | (refine znG rfl rfl _ _ rfl d.heap.size (t.nd,t.au,t.rd,List.replicate 32 0) rfl rfl rfl ao d.heap.size d an (nR_ _) ?_;intro D ah A))
   go_frame
   have ad:D.heap[wr.heap.size]? = _:=(A.block wr.heap.size (by omega)).trans q;have Z:Hid (zg D t.p.sa t.p.cap t.p.bs):=(hx.1.below T).below A;have e3:=zb ad 3 _ rfl;have aa:=zto ab.out;have c:t.p.bs.length=32:=aa.2.2.2;have af:(ub t.p.bs).length=32:=by simp[ub,c]
   have ay:=zm0 J A;obtain⟨o,p,ac,ae⟩:∃o p,t.p.sa=some ⟨o,p,none⟩/\∀j v,(ub t.p.bs)[j]? = some v->D.cell? ((⟨o,p,none⟩:Addr).add j)=some v:=by
    rcases Z.out.bytes with f|⟨o,p,f,E⟩
    .rw[f]at c;simp at c
    .refine⟨o,p,f,λj v l=>?_⟩;have y:j<t.p.bs.length:=by
      rcases Nat.lt_or_ge j t.p.bs.length with g|g
      .exact g
      .rw[List.getElem?_eq_none (by simpa[ub]using g)]at l;cases l
     rw[zaP,E j y];simp only[ub,List.getElem?_map,List.getElem?_eq_getElem y,Option.map_some]at l;simp[y,l]
   rw[ac,c]at e3;have ak:Hid (splice (mkv (t.nd,t.au,t.rd,List.replicate 32 0)) 3 (ub t.p.bs)=mkv (t.nd,t.au,t.rd,t.p.bs)):=zrv _ _ _ _ _ (by rw[c];simp);have al:Hid (∀j v,(ub t.p.bs)[j]? = some v->D.cell? ((⟨o,p,none⟩:Addr).add j)=some v):=ae;have ag:Hid (t.p.bs.length=32):=c;have R:Hid ((ub t.p.bs).length=32):=af;clear ae c af ac ad Z aa;go_region_law (refine step_copy_splice rfl _ _ _ _ rfl 5 underlying51 (by kernel_rfl) _ _ _ _ _ _ rfl rfl d.heap.size 3 (mkv (t.nd,t.au,t.rd,List.replicate 32 0)) 314 ah.out (ub t.p.bs) (by rw[R.out];rfl) (λ_=>⟨by rw[M],_,rfl,al.out⟩) (by rw[R.out];simp[mkv,ub]) (by intro v l;obtain⟨x,_,rfl⟩:=List.mem_map.1 l;rfl) d.heap.size d A.drew (nR_ _) ?_;intro w4 ai U)
   have aj:Hid (R_ w4 (wr.heap.size+1) ((mkv t.v).toArray) 314):=by
    show _=_;rw[<-M,ai.out,ak.out]
    rfl
   have ar:=zm0 J U;have aq:keyOf prog 314 (.agg (mkv t.v).toArray)=some (K t.v):=X _ ab.out hx.2;have V:B_ w w4:=F.trans (U.mono F.size);have av:(prog.info? 314).map (·.size)=some (mkv t.v).toArray.size:=by
    rw[zwF];simp[mkv,ub,ag.out,Sg.v]
   go_wp2_with (first
    | (refine zfb rfl _ _ rfl (wr.heap.size+1) rfl 314 (mkv t.v).toArray (0,0) _ aj.out underlying314 rfl av ?_)
    | (at_mapUpdate;refine wpList_mapUpdate_own _ rfl _ _ _ 311 rfl 314 315 zvk underlying311 (unitElem (H:=Unit)) w.heap.size m _ rfl ar (by unfold maxLen;omega) _ _ _ rfl rfl aq _ [] unitElem_mk ?_;intro w5 au ap))
   go_roundw
   case rel=>exact⟨m+1,by omega,by go_num,by rw[HS.out];exact au,V.grown ap V.size (λj y=>by cases y;exact nR_ _)⟩
   case measure=>simp[intOf];omega
  .obtain rfl:m=b.length:=by omega
   have G:Hid ((Maps.size (setOf (H:=Unit) (.agg []) ((gvs b).map K))=b.length↔(gvs b).Nodup)):=by
    show _↔_;rw[<-zfM b];refine zru X (λg C=>?_);obtain⟨s,hs,rfl⟩:=List.mem_map.1 C;exact⟨O.out s hs,(hp.each s hs).2⟩
   rw[List.take_length]at I;generalize hz:Maps.size (setOf (H:=Unit) (.agg []) ((gvs b).map K))=z at G;have HZ:Hid (Maps.size (setOf (H:=Unit) (.agg []) ((gvs b).map K))=z):=hz;clear hz;go_wp2_with (first
    | (at_len;refine wpList_len_own _ rfl _ 311 rfl 314 315 underlying311 (unitElem (H:=Unit)) w.heap.size b.length _ rfl I ?_;rw[HZ.out]))
   go_ret;refine⟨zN ?_,B⟩;by_cases hN:(gvs b).Nodup
   .have f:=G.out.2 hN;simp[f,hN]
   .have f:¬z=b.length:=λE=>hN (G.out.1 E);have h7:¬(z:Int)=b.length:=by omega
    simp[h7,hN]
theorem ztp (s:Sg)(w:World):Calls prog 237 #[.agg #[I_ s.nd,I_ s.au,I_ s.rd,.slice s.p.sa s.p.bs.length s.p.cap]] w λe w'=>e=.returned (.bool (decide (gF s.v≠0)))/\B_ w w':=by
 refine kA_ ?A0 ?_;exact #[I_ s.nd,I_ s.au,I_ s.rd,.slice s.p.sa s.p.bs.length s.p.cap];have c:=(bR_ w.heap.size w).alloc (nR_ _) (.cells ?A0 55);have b:∀W:World,Calls prog 217 #[.agg ?A0] W λe w'=>e=.returned (I_ (gF s.v))/\B_ W w':=λW=>zgF _ _ _ _ _ _ W;generalize d:gF s.v=x at b;have g:Hid (gF s.v=x):=d;clear d;go_in;go_wp2_with (go_at_call 217;refine(b _).mono ?_;rintro e w'⟨rfl,f⟩)
 go_ret;refine⟨zN ?_,c.trans (f.mono c.size)⟩;by_cases h:x=0<;>simp[h]
theorem zm1 (c:List Sg):(c.any λs=>decide (gF s.v≠0))=true↔¬∀g∈gvs c,gF g=0:=by
 rw[List.any_eq_true]
 constructor
 .rintro⟨s,b,h⟩ k;exact(by simpa using h:gF s.v≠0) (k s.v (List.mem_map.2 ⟨s,b,rfl⟩))
 .intro h;rw[<-List.any_eq_true (p:=λs:Sg=>decide (gF s.v≠0))];cases hh:(c.any λs=>decide (gF s.v≠0))with
  | true=>rfl
  | false=>
   rw[List.any_eq_false]at hh;refine absurd (λg d=>?_) h;obtain⟨s,b,rfl⟩:=List.mem_map.1 d
   simpa using hh s b
theorem zjm (b:List Sg)(f:Option Addr)(n j:Nat)(w:World)(B:n=b.length)(y:b.length<=2932031007400)(z:zcz w f b) :
  Calls prog 216 #[.slice f n j] w λe w'=>e=.returned (I_ (zbF (gvs b)))/\B_ w w':=by
 subst B;have l:=zfa 237 #[] (λs=>decide (gF s.v≠0)) (eO_ func237) b f _ j w rfl y z (λs _ W _=>ztp s W);by_cases hb:∀g∈gvs b,gF g=0
 .have u:(b.any λs=>decide (gF s.v≠0))=false:=by
   cases h:(b.any λs=>decide (gF s.v≠0))with
   | false=>rfl
   | true=>exact absurd hb ((zm1 b).1 h)
  rw[u]at l;by_cases hd:(gvs b).Nodup;have m:Hid (zbF (gvs b)=0):=ztl ⟨hb,hd⟩
  rotate_left
  have m:Hid (zbF (gvs b)=12):=zoj hd
  rotate_left
  all_goals have o:∀s∈b,gF s.v=0:=λs A=>hb s.v (List.mem_map.2 ⟨s,A,rfl⟩)
  have q:∀W:World,B_ w W->Calls prog 238 #[.slice f b.length j] W λe w'=>e=.returned (.bool true)/\B_ W w':=λW r=>by
   have:=zjl b f _ j W rfl y (z.below r) o;rw[dT_ hd]at this;exact this
  rotate_left
  have q:∀W:World,B_ w W->Calls prog 238 #[.slice f b.length j] W λe w'=>e=.returned (.bool false)/\B_ W w':=λW r=>by
   have:=zjl b f _ j W rfl y (z.below r) o;rw[dF_ hd]at this;exact this
  rotate_left
  all_goals
   clear u hb hd o;go_in;go_wp2_with fail
   refine l.mono ?_;rintro _ p⟨rfl,c⟩;dsimp only;go_wp2_with fail
   refine(q p c).mono ?_;rintro _ w2⟨rfl,t⟩;dsimp only;go_wp2_with fail
   go_ret;exact⟨zt m.out.symm,c.trans (t.mono c.size)⟩
 .have m:Hid (zbF (gvs b)=12):=by
   show _=_;rw[zbF,if_neg (λh=>hb h.1)]
  rw[(zm1 b).2 hb]at l;clear hb;go_in;go_wp2_with fail
  refine l.mono ?_;rintro _ p⟨rfl,c⟩;dsimp only;go_wp2_with fail
  go_ret;exact⟨zt m.out.symm,c⟩
theorem zw3 {b ys:List Int}(c:zaN b)(d:zaN ys):txL b=txL ys↔b=ys:=by
 constructor
 .intro h;exact ziD c d (zhf h)
 .intro h;rw[h]
theorem zrw (s t:Sg)(g:Nat)(w:World)(l:zg w s.p.sa s.p.cap s.p.bs/\zaN s.p.bs)(m:zg w t.p.sa t.p.cap t.p.bs/\zaN t.p.bs)(q:R_ w g #[I_ t.nd,I_ t.au,I_ t.rd,.slice t.p.sa t.p.bs.length t.p.cap] 55) :
  Calls prog 240 #[.agg #[I_ s.nd,I_ s.au,I_ s.rd,.slice s.p.sa s.p.bs.length s.p.cap],(P_ g 0)] w λe w'=>e=.returned (.bool (decide (s.v=t.v)))/\B_ w w':=by
 refine kA_ ?A0 ?_;exact #[I_ s.nd,I_ s.au,I_ s.rd,.slice s.p.sa s.p.bs.length s.p.cap];have d:=(bR_ w.heap.size w).alloc (nR_ _) (.cells ?A0 55);have D:=hN_ w (.cells ?A0 55);have j:=zR (o:=.cells ?A0 55) q;have b:Hid (s.v=t.v↔s.nd=t.nd/\s.au=t.au/\s.rd=t.rd/\txL s.p.bs=txL t.p.bs):=by
  show _↔_;rw[zw3 l.2 m.2];simp[Sg.v]
 have f:=zeI s.p.bs t.p.bs s.p.sa t.p.sa _ _ s.p.cap t.p.cap _ rfl rfl (l.1.below d) (m.1.below d);have u:=zb j 0 _ rfl;have z:=zb j 1 _ rfl;have A:=zb j 2 _ rfl;have B:=zb j 3 _ rfl;by_cases h1:s.nd=t.nd
 .by_cases h2:s.au=t.au
  .by_cases h3:s.rd=t.rd;have c:Hid (decide (s.v=t.v)=decide (txL s.p.bs=txL t.p.bs)):=by
    show _=_;simp[b.out,h1,h2,h3]
   generalize decide (txL s.p.bs=txL t.p.bs)=y at f c
   rotate_left
   have c:Hid (decide (s.v=t.v)=false):=by
    show _=_;simp[b.out,h3]
   rotate_left
   all_goals
    have p:(s.nd == t.nd)=true:=by simp[h1]
    have r:(s.au == t.au)=true:=by simp[h2]
   .have C:(s.rd == t.rd)=true:=by simp[h3]
    clear b h1 h2 h3;go_in;go_wp2_with (go_at_call 120;refine f.mono ?_;rintro e E⟨rfl,rfl⟩)
    go_ret;exact⟨zN c.out.symm,d⟩
   .clear b f h1 h2;go_in;go_wp2_with fail
    go_ret;exact⟨zN c.out.symm,d⟩
  .have c:Hid (decide (s.v=t.v)=false):=by
    show _=_;simp[b.out,h2]
   have p:(s.nd == t.nd)=true:=by simp[h1]
   clear b f h1;go_in;go_wp2_with fail
   go_ret;exact⟨zN c.out.symm,d⟩
 .have c:Hid (decide (s.v=t.v)=false):=by
   show _=_;simp[b.out,h1]
  clear b f;go_in;go_wp2_with fail
  go_ret;exact⟨zN c.out.symm,d⟩
theorem zvp (c:List Sg)(t:Sg):(c.any λs=>decide (s.v=t.v))=decide (t.v∈gvs c):=by
 rw[Bool.eq_iff_iff,List.any_eq_true,decide_eq_true_eq,gvs,List.mem_map]
 constructor
 all_goals rintro⟨s,b,h⟩;exact⟨s,b,by simpa using h⟩
theorem zmf (b:List Sg)(l:Option Addr)(n c:Nat)(t:Sg)(w:World)(C:n=b.length)(B:b.length<=2932031007400)(D:zcz w l b)(p:zg w t.p.sa t.p.cap t.p.bs/\zaN t.p.bs) :
  Calls prog 219 #[.slice l n c,.agg #[I_ t.nd,I_ t.au,I_ t.rd,.slice t.p.sa t.p.bs.length t.p.cap]] w λe w'=>e=.returned (.bool (decide (t.v∈gvs b)))/\B_ w w':=by
 subst C;have E:∀(fn:Fn) (first c:Array Value) (w:World),(Instr.makeFunc fn first c).run prog w=.ok (.func fn first c) w:=λ_ _ _ _=>rfl;refine kO_ ?A0 ?_;exact Obj.cells #[I_ t.nd,I_ t.au,I_ t.rd,.slice t.p.sa t.p.bs.length t.p.cap] 55;have d:=(bR_ w.heap.size w).alloc (nR_ _) ?A0;have q:=hN_ w ?A0;go_in;go_wp2_with fail
 generalize w.alloc ?A0=y at d q|-;have j:=D.below d;have f:=zfa 240 #[P_ w.heap.size 0] (λs=>decide (s.v=t.v)) (eO_ func240) b l _ c y rfl B j (λs o W g=>zrw s t _ W ⟨(j.each s o).1.below g,(j.each s o).2⟩ ⟨(p.1.below d).below g,p.2⟩ (zk g q));rw[zvp]at f;generalize m:decide (t.v∈gvs b)=r at f;have u:Hid (decide (t.v∈gvs b)=r):=m;clear m;refine f.mono ?_;rintro _ F⟨rfl,z⟩;dsimp only;go_wp2_with fail
 go_ret;exact⟨zN u.out.symm,d.trans (z.mono d.size)⟩
def zcM (l:List GV)(bad:Int):Int:=if zbF l≠0 then 12 else if ¬(-1<=bad/\bad<=3)then 2 else 0
def zce (l:List GV)(bad:Int)(g:GV):Bool×Int:=if zcM l bad≠0 then(false,zcM l bad)else if gF g≠0 then(false,gF g)else(decide (g.1=bad)||decide (g∈l),0)
def zec (l:List GV)(g:GV):List GV×Int:=if zbF l≠0 then([],12)else if gF g≠0 then([],gF g)else if g∈l then(l,0)else(l++[g],0)
theorem zvq {l:List GV}{b:Int}(h:zbF l=12):zcM l b=12:=by simp[zcM,h]
theorem zrx {l:List GV}{b:Int}(h:zbF l=0)(c:¬(-1<=b/\b<=3)):zcM l b=2:=by rw[zcM,if_neg (by simpa using h),if_pos c]
theorem zw4 {l:List GV}{b:Int}(h:zbF l=0)(c:-1<=b/\b<=3):zcM l b=0:=by rw[zcM,if_neg (by simpa using h),if_neg (by simpa using c)]
theorem zpV {l:List GV}{b:Int}(h:zcM l b≠0):zce l b g=(false,zcM l b):=by rw[zce,if_pos h]
theorem zom {l:List GV}{b:Int}(h:zcM l b=0)(c:gF g≠0):zce l b g=(false,gF g):=by rw[zce,if_neg (by simpa using h),if_pos c]
theorem zlw {l:List GV}{b:Int}(h:zcM l b=0)(c:gF g=0):zce l b g=(decide (g.1=b)||decide (g∈l),0):=by rw[zce,if_neg (by simpa using h),if_neg (by simpa using c)]
theorem zvr {l:List GV}(h:zbF l=12):zec l g=([],12):=by rw[zec,if_pos (by rw[h];decide)]
theorem ztq {l:List GV}(h:zbF l=0)(b:gF g≠0):zec l g=([],gF g):=by rw[zec,if_neg (by simpa using h),if_pos b]
theorem zvs {l:List GV}(h:zbF l=0)(b:gF g=0)(c:g∈l):zec l g=(l,0):=by rw[zec,if_neg (by simpa using h),if_neg (by simpa using b),if_pos c]
theorem zvt {l:List GV}(h:zbF l=0)(b:gF g=0)(c:¬g∈l):zec l g=(l++[g],0):=by rw[zec,if_neg (by simpa using h),if_neg (by simpa using b),if_neg c]
theorem zkF (c:List Sg)(l:Option Addr)(n o:Nat)(b:Int)(w:World)(r:n=c.length)(q:c.length<=2932031007400)(s:zcz w l c) :
  Calls prog 224 #[.slice l n o,I_ b] w λe w'=>e=.returned (I_ (zcM (gvs c) b))/\B_ w w':=by
 subst r;have g:=zjm c l _ o w rfl q s;rcases zmZ (gvs c)with h0|h0
 .rw[h0]at g;by_cases hb:-1<=b/\b<=3
  .have j:Hid (zcM (gvs c) b=0):=zw4 h0 hb;by_cases h1:b=-1;subst h1
   all_goals
    clear h0;go_in;go_wp2_with fail
    refine g.mono ?_;rintro _ m⟨rfl,d⟩;dsimp only
   .go_wp2_with fail
    go_ret;exact⟨zt j.out.symm,d⟩
   .have p:(b != -1)=true:=by simpa using h1
    go_wp2_with (go_at_call 239;refine(zgR _ true _ (by rw[dT_ (by omega)])).mono ?_;rintro e w'⟨rfl,rfl⟩)
    go_ret;exact⟨zt j.out.symm,d⟩
  .have j:Hid (zcM (gvs c) b=2):=zrx h0 hb;clear h0;go_in;go_wp2_with fail
   refine g.mono ?_;rintro _ m⟨rfl,d⟩;dsimp only;have p:(b != -1)=true:=by simp;omega
   go_wp2_with (go_at_call 239;refine(zgR _ false _ (by rw[dF_ (by omega)])).mono ?_;rintro e w'⟨rfl,rfl⟩)
   go_ret;exact⟨zt j.out.symm,d⟩
 .have j:Hid (zcM (gvs c) b=12):=zvq h0;rw[h0]at g;clear h0;go_in;go_wp2_with fail
  refine g.mono ?_;rintro _ m⟨rfl,d⟩;dsimp only;go_wp2_with fail
  go_ret;exact⟨zt j.out.symm,d⟩
theorem zgG (au rd:Int)(o:Option Addr)(p:Nat)(bl:List zi)(r:Option Addr)(s:Nat)(pl:List zi)(m:Option Addr)(C:Nat)(vl:List Int)(w:World)(L:zx w o p bl)(N:zx w r s pl)(O:zax w m vl)(aa:vl.length<=9000000000000000000) :
  Calls prog 79 #[.agg #[I_ au,I_ rd,.slice o bl.length p,.slice r pl.length s,.slice m vl.length C]] w λe w'=>e=.returned (I_ (zap au rd bl pl vl))/\B_ w w':=by
 have D:=zC w (.cells #[I_ au,I_ rd,.slice o bl.length p,.slice r pl.length s,.slice m vl.length C] 64);go_in;go_wp2_with fail
 refine(zeB au rd o p bl r s pl _ (L.below D) (N.below D)).mono ?_;rintro _ T⟨rfl,c⟩;dsimp only;have R:=zbK c;replace c:=zS c;have U:=zb R 4 (.slice m vl.length C) rfl;by_cases h1:zO au rd bl pl=0
 .rw[h1];by_cases h2:4<vl.length
  .have b:Hid (zap au rd bl pl vl=1):=by show _=_;rw[zap,if_neg (by simp[h1]),if_pos h2]
   have I:(4:Int)<vl.length:=by omega
   go_wp2_with fail
   go_ret;exact⟨zt b.out.symm,c⟩
  .have b:Hid (zap au rd bl pl vl=zep vl):=by show _=_;rw[zap,if_neg (by simp[h1]),if_neg h2]
   have I:¬(4:Int)<vl.length:=by omega
   clear h1;go_wp2_with fail
   go_loop [19] (λi=>∃k:Nat,k<=vl.length/\i=I_ k/\vTo vl k=0) (λi=>vl.length-(intOf i).toNat)
   case atStart=>exact⟨0,nZ_ _,rfl,rfl⟩
   case round=>
    obtain⟨k,X,rfl,l⟩:=hrel;by_cases hlt:k<vl.length
    .obtain⟨A,B,rfl,q⟩:∃A B,m=some ⟨A,B,none⟩/\∀j,j<vl.length->T.cell? ⟨A,B+j,none⟩=some (I_ (vl.getD j 0)):=by
      rcases(O.below c).cells with h|h
      .rw[h]at hlt;simp at hlt
      .exact h
     have E:=q k hlt;have Z:(k:Int)<vl.length:=by omega
     have f:Hid (vAt vl k≠0->zep vl=vAt vl k):=by
      show _->_;intro h;rw[zep,zxW vl k hlt l h,if_pos h]
     have g:Hid (vAt vl k=0->vTo vl (k+1)=0):=by
      show _->_;intro h;rw[vTo,l,h];rfl
     have d:Hid (vAt vl k=if ¬(0<=vl.getD k 0/\vl.getD k 0<4)then 2 else if 0<k/\vl.getD k 0<=vl.getD (k-1) 0 then 9 else 0):=rfl;by_cases hkz:k=0
     .subst hkz;clear q;rw[Nat.add_zero]at E;generalize vl.getD 0 0=x at*;by_cases hn:0<=x/\x<4;have u:=g.out (by rw[d.out,if_neg (by simp[hn]),if_neg (by omega)]);clear f g d
      rotate_left
      have t:Hid (zap au rd bl pl vl=2):=by
       show _=_;have:vAt vl 0=2:=by rw[d.out,if_pos hn]
       rw[b.out,f.out (by rw[this];decide),this]
      clear f g d b
      rotate_left
      all_goals go_wp2_with (go_at_call 49;first|(refine(zaS _ _ (by omega)).mono ?_;rintro e w'⟨rfl,rfl⟩)|(refine(zaD _ _ (by omega)).mono ?_;rintro e w'⟨rfl,rfl⟩))
      .go_round
       case rel=>exact⟨0+1,by omega,by go_num,u⟩
       case measure=>simp[intOf];omega
      .go_ret;exact⟨zt t.out.symm,c⟩
     .have V:=q (k-1) (by omega);have Y:(0:Int)<k:=by omega
      have t0:((k:Int)-1).toNat=k-1:=by omega
      have ab:IntKind.i64.wrap ((k:Int)-1)=(k:Int)-1:=by rw[IntKind.wrap_i64];omega
      have z0:(0:Int)<=(k:Int)-1:=by omega
      have z1:(k:Int)-1<vl.length:=by omega
      clear q;generalize vl.getD k 0=x at*;generalize vl.getD (k-1) 0=y at*;by_cases hn:0<=x/\x<4
      .by_cases hxy:x<=y;have H:Hid (zap au rd bl pl vl=9):=by
        show _=_;have:vAt vl k=9:=by rw[d.out,if_neg (by simp[hn]),if_pos (by omega)]
        rw[b.out,f.out (by rw[this];decide),this]
       clear f g d b
       rotate_left
       have u:=g.out (by rw[d.out,if_neg (by simp[hn]),if_neg (by omega)]);clear f g d
       rotate_left
       all_goals go_wp2_with (go_at_call 49;first|(refine(zaS _ _ (by omega)).mono ?_;rintro e w'⟨rfl,rfl⟩)|(refine(zaD _ _ (by omega)).mono ?_;rintro e w'⟨rfl,rfl⟩))
       .go_ret;exact⟨zt H.out.symm,c⟩
       .go_round
        case rel=>exact⟨k+1,by omega,by go_num,u⟩
        case measure=>simp[intOf];omega
      .have t:Hid (zap au rd bl pl vl=2):=by
        show _=_;have:vAt vl k=2:=by rw[d.out,if_pos hn]
        rw[b.out,f.out (by rw[this];decide),this]
       clear f g d b;go_wp2_with (go_at_call 49;first|(refine(zaS _ _ (by omega)).mono ?_;rintro e w'⟨rfl,rfl⟩)|(refine(zaD _ _ (by omega)).mono ?_;rintro e w'⟨rfl,rfl⟩))
       go_ret;exact⟨zt t.out.symm,c⟩
    .obtain rfl:k=vl.length:=by omega
     by_cases h3:vl.length<3
     .have G:Hid (zap au rd bl pl vl=10):=by show _=_;rw[b.out,zep,if_neg (by simp[l]),if_pos h3]
      have J:(vl.length:Int)<3:=by omega
      clear b l;go_wp2_with fail
      go_ret;exact⟨zt G.out.symm,c⟩
     .have F:Hid (zap au rd bl pl vl=0):=by show _=_;rw[b.out,zep,if_neg (by simp[l]),if_neg h3]
      have J:¬(vl.length:Int)<3:=by omega
      clear b l;go_wp2_with fail
      go_ret;exact⟨zt F.out.symm,c⟩
 .have b:Hid (zap au rd bl pl vl=zO au rd bl pl):=by show _=_;rw[zap,if_pos h1]
  generalize zO au rd bl pl=z at*;go_wp2_with fail
  go_ret;exact⟨zt b.out.symm,c⟩
variable {B rc:Nat}{bs:List Int}{ra:Option Addr}
theorem ze1 (h:zg w ra rc bs)(g:∀c d,ra=some ⟨c,d,none⟩->B<=c)(b j:Nat)(v:Value)(m:b<B):zg (w.setCell ⟨b,j,none⟩ v) ra rc bs:=by
 refine⟨h.le,h.max,h.some,h.nil,?_⟩;rcases h.bytes with f|⟨c,d,e,f⟩
 .exact .inl f
 .exact .inr ⟨c,d,e,λk l=>(World.cell?_setCell_far _ _ _ _ (by have:=g c d e;show b≠c;omega)).trans (f k l)⟩
theorem zry (au rd:Int)(c:Option Addr)(d:Nat)(bl:List zi)(f:Option Addr)(g:Nat)(pl:List zi)(w:World)(h:HAt w c d bl f g pl)(y:zO au rd bl pl=0)(G:zbJ w) :
  Calls prog 228 #[.agg #[I_ au,I_ rd,.slice c bl.length d,.slice f pl.length g]] w λe w'=>∃b,e=.returned (.tuple #[.agg #[I_ au,I_ rd,.slice (some ⟨b,0,none⟩) 32 32],I_ 0])/\w.heap.size<=b/\b<w'.heap.size/\zg w' (some ⟨b,0,none⟩) 32 (zaE au rd bl pl)/\B_ w w':=by
 refine kO_ ?A0 ?_;exact Obj.cells #[I_ au,I_ rd,.slice c bl.length d,.slice f pl.length g] 61;refine kO_ ?B0 ?_;exact Obj.cells #[I_ 0,I_ 0,O_] 53;have l:B_ w ((w.alloc ?A0).alloc ?B0):=((bR_ _ _).alloc (nR_ _) _).alloc (by simp) _;have B:=hX_ w ?A0 ?B0;have s:((w.alloc ?A0).alloc ?B0).heap[w.heap.size+1]? = some (.cells #[I_ 0,I_ 0,O_] 53 (0,0)):=by
  have:=hN_ (w.alloc ?A0) ?B0;rw[zG]at this;exact this
 go_in;go_wp2_with fail
 generalize (w.alloc ?A0).alloc ?B0=u at l B s|-;refine(zea (h.below l) y (G.below l)).mono ?_;rintro e J⟨b,rfl,z,o,A⟩;have q:w.heap.size+1<u.heap.size:=ze s;have C:=zk o B;have j:=zk o s;have L:=zb C 0 (I_ au) rfl;have M:=zb C 1 (I_ rd) rfl;have D:=zb j 0 _ rfl;have E:=zb j 1 _ rfl;have F:=zb j 2 _ rfl;have N:=zd j 0;have O:=zd j 1;have R:=zd j 2;have H:=zm l o;have I:b<J.heap.size:=by
  rcases A.bytes with p|⟨m,t,e,p⟩
  .have:=zbD au rd bl pl;rw[p]at this;simp at this
  .cases e;exact bL_ (p 0 (by rw[zbD];decide))
 clear y;go_wp2_with fail
 refine bodyPost_ret (v:=.tuple #[.agg #[I_ au,I_ rd,.slice (some ⟨b,0,none⟩) 32 32],I_ 0]) (by simp[results,results228,go_sem,D,E,F]) rfl ⟨b,rfl,nT_ l.size z,by simpa using I,?_,?_⟩
 .have r:∀m t,(some ⟨b,0,none⟩:Option Addr)=some ⟨m,t,none⟩->u.heap.size<=m:=λm t e=>by cases e;exact z
  exact ze1 (ze1 (ze1 A r _ _ _ q) r _ _ _ q) r _ _ _ q
 .exact((H.setCell (Nat.le_succ _) _).setCell (Nat.le_succ _) _).setCell (Nat.le_succ _) _
end Go.Proofs.YtdnaljbnebnlhaaGreatDoor
