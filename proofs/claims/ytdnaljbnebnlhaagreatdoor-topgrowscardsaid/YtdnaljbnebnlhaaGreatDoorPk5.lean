import Derived.Test.YtdnaljbnebnlhaaGreatDoorPk4
set_option maxRecDepth 100000
set_option maxHeartbeats 4000000
namespace Go.Proofs.YtdnaljbnebnlhaaGreatDoor
open Go.RowKit Tryz
structure MC where
 (fr tt ki bau bnu:Int) (ss:List ByteArray) (hau hrd:Int) (bl pl:List (List Int)) (sau srd:Int) (ds:List Int) (cau crd:Int) (cbl cpl:List (List Int)) (vl:List Int) (ro:Int)
def MV.c (x:MV):MC:=⟨x.m.fr,x.m.tt,x.m.ki,x.m.bau,x.m.bnu,x.ss,x.m.hau,x.m.hrd,x.bl.map (·.bs),x.pl.map (·.bs),x.m.sau,x.m.srd,x.ds,x.m.cau,x.m.crd,x.cbl.map (·.bs),x.cpl.map (·.bs),x.vl,x.m.ro⟩
def pM (s:St):MC:=
 if nB 1 s=1 then⟨nB 1 (nx 1 s),nB 1 (nx 1 (nx 1 s)),nB 1 s,nB 1 (nx 1 (nx 1 (nx 1 s))),nB 3 (nx 1 (nx 1 (nx 1 (nx 1 s)))),bT (nx 1 (bS3 (nx 1 (nx 1 (nx 1 s))))) (bN (nx 1 (nx 1 (nx 1 s)))),0,0,[],[],0,0,[],0,0,[],[],[],0⟩
 else if nB 1 s=2 then⟨nB 1 (nx 1 s),nB 1 (nx 1 (nx 1 s)),nB 1 s,0,0,[],nB 1 (nx 1 (nx 1 (nx 1 s))),nB 3 (nx 1 (nx 1 (nx 1 (nx 1 s)))),dgs (nx 3 (nx 1 (nx 1 (nx 1 (nx 1 s))))),dgs (dgS (nx 3 (nx 1 (nx 1 (nx 1 (nx 1 s)))))),0,0,[],0,0,[],[],[],0⟩
 else if nB 1 s=3 then⟨nB 1 (nx 1 s),nB 1 (nx 1 (nx 1 s)),nB 1 s,0,0,[],0,0,[],[],nB 1 (nx 1 (nx 1 (nx 1 s))),nB 3 (nx 1 (nx 1 (nx 1 (nx 1 s)))),tT 32 (nx 3 (nx 1 (nx 1 (nx 1 (nx 1 s))))),0,0,[],[],[],0⟩
 else if nB 1 s=4 then⟨nB 1 (nx 1 s),nB 1 (nx 1 (nx 1 s)),nB 1 s,0,0,[],0,0,[],[],0,0,[],nB 1 (nx 1 (nx 1 (nx 1 s))),nB 3 (nx 1 (nx 1 (nx 1 (nx 1 s)))),dgs (nx 3 (nx 1 (nx 1 (nx 1 (nx 1 s))))),dgs (dgS (nx 3 (nx 1 (nx 1 (nx 1 (nx 1 s)))))),nV (nx 1 (hS4 (nx 1 (nx 1 (nx 1 s))))) (cN (nx 1 (nx 1 (nx 1 s)))),0⟩
 else⟨nB 1 (nx 1 s),nB 1 (nx 1 (nx 1 s)),nB 1 s,0,0,[],0,0,[],[],0,0,[],0,0,[],[],[],nB 3 (nx 1 (nx 1 (nx 1 s)))⟩
def mS (s:St):St:=
 if nB 1 s=1 then bL (nx 1 (bS3 (nx 1 (nx 1 (nx 1 s))))) (bN (nx 1 (nx 1 (nx 1 s))))else if nB 1 s=2 then dgS (dgS (nx 3 (nx 1 (nx 1 (nx 1 (nx 1 s))))))else if nB 1 s=3 then nx 32 (nx 3 (nx 1 (nx 1 (nx 1 (nx 1 s)))))else if nB 1 s=4 then nL (nx 1 (hS4 (nx 1 (nx 1 (nx 1 s))))) (cN (nx 1 (nx 1 (nx 1 s))))else nx 3 (nx 1 (nx 1 (nx 1 s)))
variable {bs:List Int}
theorem zkB (k:Int)(r:Bool)(w:World)(h:r=decide (1<=k/\k<=5)):Calls prog 47 #[I_ k] w λe w'=>e=.returned (.bool r)/\w=w':=by
 by_cases h1:1<=k
 .by_cases h2:k<=5;obtain rfl:r=true:=by simp[h,h1,h2]
  rotate_left
  obtain rfl:r=false:=by simp[h,h2]
  rotate_left
  all_goals
   clear h;go_in
   go_wp2
   go_ret;exact⟨rfl,rfl⟩
 .obtain rfl:r=false:=by simp[h,h1]
  clear h;go_in
  go_wp2
  go_ret;exact⟨rfl,rfl⟩
def zbt (bs:List Int):Int:=if 4000<bs.length then 1 else if bs=[]then 5 else if ¬(1<=bs.getD 0 0/\bs.getD 0 0<=5)then 3 else if(mS (bs,false)).2=true then 5 else if(mS (bs,false)).1≠[]then 4 else 0
theorem zta (h:bs≠[]):nB 1 (bs,false)=bs.getD 0 0:=by
 cases bs with
 | nil=>exact absurd rfl h
 | cons a l=>
  have e:tT 1 (a::l,false)=[a]:=(zke (n:=1) (l:=a::l) (by simp)).1;rw[nB,e];simp[zbe]
theorem zak {fn:Func}{p q:Tmp}{ty:TypeId}(h:fn.results=#[.cell p ty,.tmp q])(b:Array Value)(w:World)(g:Nat)(t:TypeId)(cs:Array Value)(c:Nat×Nat)(d:TypeDesc)(v:Value)
  (f:b.getD p undef=(P_ g 0)/\b.getD q undef=v) (l:w.heap[g]? = some (.cells cs t c))
  (s:prog.underlying ty=some d) (j:(match d with|.struct _|.array _ _=>true|_=>false)=true) (m:(prog.info? ty).map (·.size)=some cs.size) :
  (results fn b).run prog w=.ok (.tuple #[.agg cs,v]) w:=by
 have o:b[p]?.getD undef=(P_ g 0):=by simpa using f.1
 have r:b[q]?.getD undef=v:=by simpa using f.2
 simp[results,h,o,r,asAddr,run_loadVar_row w g t ty cs c d l s (by cases d<;>first|exact j|rfl) m]
def rd3 (n:Int):List Int:=[n / 65536,n / 256 % 256,n % 256]
theorem zeA (base:Nat)(v:Value)(k:Nat)(bs:List Int)(n:Int)(w:World)(j:0<=n/\n<=1048576)(l:w.ownsRow base 5 1 v k (ub bs))(c:base<=w.heap.size)(s:k<=100000) :
  Calls prog 39 #[v,I_ n] w λe w'=>∃b,e=.returned b/\w'.ownsRow base 5 1 b (k+3) (ub (bs++rd3 n))/\zV w v w' b:=by
 obtain⟨i,g,o,p,q⟩:=info_parts zek;obtain⟨t,u⟩:=j;go_in;go_wp2_with (at_builtin;(refine wpList_append_own_at _ rfl _ _ 51 rfl base 5 i (.int .u8 0) 1 1 underlying51 g o p q rfl (by decide) _ k _ rfl (oA_ l _) ⟨w.heap.size,0,none⟩ 3 3 [.int .u8 (n / 65536),.int .u8 (n / 256 % 256),.int .u8 (n % 256)] rfl rfl (zag _ _ _) (zds [_,_,_]) (by unfold maxLen;omega) (by omega) (zB c _) ?_;intro r y m f _ d))
 go_ret;exact⟨r,rfl,by simpa[ub,rd3]using m,(zV.of f d).alloc⟩
variable {w w':World}{qs:List zi}{ra:Option Addr}{rc:Nat}{v':Value}
structure Off (w:World)(v:Value)(ra:Option Addr)(qs:List zi):Prop where
 row:∀sb so,ra=some ⟨sb,so,none⟩->sb<w.heap.size/\v.ownBlock≠some sb
 each:∀p∈qs,∀sb so,p.sa=some ⟨sb,so,none⟩->sb<w.heap.size/\v.ownBlock≠some sb
theorem zV.off {v:Value}(h:zV w v w' v')(d:Off w v ra qs):Off w' v' ra qs:=by
 have f:∀b,b<w.heap.size/\v.ownBlock≠some b->b<w'.heap.size/\v'.ownBlock≠some b:=λb ⟨j,l⟩=>
  ⟨nL_ j h.grown.size,λe=>by
   rcases h.fresh b e with g|g
   .exact l g
   .omega⟩
 exact⟨λb c e=>f b (d.row b c e),λp m b c e=>f b (d.each p m b c e)⟩
theorem zV.list {v:Value}(h:zV w v w' v')(b:zx w ra rc qs)(g:Off w v ra qs):zx w' ra rc qs:=by
 refine⟨b.le,b.max,b.small,b.some,⟨?_,λp m=>h.slice (b.parts.each p m) (λc f e=>(g.each p m c f e).2)⟩⟩;rcases b.parts.cells with d|⟨c,f,rfl,d⟩
 .exact .inl d
 .exact .inr ⟨c,f,rfl,λj l=>(cB_ (h.grown.block c (bL_ (d j l)) (λe=>(g.row c f rfl).2 e.symm))).trans (d j l)⟩
theorem Off.alloc {v:Value}(h:Off w v ra qs)(o:Obj):Off (w.alloc o) v ra qs:=
 ⟨λb c e=>⟨by have:=(h.row b c e).1;rw[zG];omega,(h.row b c e).2⟩,λp d b c e=>⟨by have:=(h.each p d b c e).1;rw[zG];omega,(h.each p d b c e).2⟩⟩
structure zfo (w:World)(v:Value)(ra:Option Addr)(qs:List zi):Prop where
 row:∀sb so,ra=some ⟨sb,so,none⟩->qs≠[]->sb<w.heap.size/\v.ownBlock≠some sb
 each:∀p∈qs,∀sb so,p.sa=some ⟨sb,so,none⟩->p.bs≠[]->sb<w.heap.size/\v.ownBlock≠some sb
theorem Off.weak {v:Value}(h:Off w v ra qs):zfo w v ra qs:=⟨λb c e _=>h.row b c e,λp d b c e _=>h.each p d b c e⟩
theorem zV.offW {v:Value}(h:zV w v w' v')(d:zfo w v ra qs):zfo w' v' ra qs:=by
 have f:∀b,b<w.heap.size/\v.ownBlock≠some b->b<w'.heap.size/\v'.ownBlock≠some b:=λb ⟨j,l⟩=>
  ⟨nL_ j h.grown.size,λe=>by
   rcases h.fresh b e with g|g
   .exact l g
   .omega⟩
 exact⟨λb c e n=>f b (d.row b c e n),λp m b c e n=>f b (d.each p m b c e n)⟩
theorem zV.listW {v:Value}(h:zV w v w' v')(b:zx w ra rc qs)(m:zfo w v ra qs):zx w' ra rc qs:=by
 refine⟨b.le,b.max,b.small,b.some,⟨?_,λp o=>?_⟩⟩
 .rcases b.parts.cells with f|⟨d,l,rfl,f⟩
  .exact .inl f
  .exact .inr ⟨d,l,rfl,λj g=>(cB_ (h.grown.block d (bL_ (f j g)) (λe=>(m.row d l rfl (λq=>by rw[q]at g;simp at g)).2 e.symm))).trans (f j g)⟩
 .have c:=b.parts.each p o;by_cases hz:p.bs=[]
  .exact⟨c.le,c.max,c.some,c.nil,.inl hz⟩
  .exact h.slice c (λd l e=>(m.each p o d l e hz).2)
theorem zfo.alloc {v:Value}(h:zfo w v ra qs)(o:Obj):zfo (w.alloc o) v ra qs:=
 ⟨λb c e n=>⟨by have:=(h.row b c e n).1;rw[zG];omega,(h.row b c e n).2⟩,λp d b c e n=>⟨by have:=(h.each p d b c e n).1;rw[zG];omega,(h.each p d b c e n).2⟩⟩
theorem zjG {v:Value}(h:zx w ra rc qs)(j:w.heap.size<=w'.heap.size)(l:∀d,d<w.heap.size->v.ownBlock≠some d):zfo w' v ra qs:=by
 refine⟨λd q e n=>?_,λp o d q e n=>?_⟩
 .rcases h.parts.cells with c|⟨g,r,b,c⟩
  .exact absurd c n
  .obtain rfl:g=d:=by rw[e]at b;simp at b;exact b.1.symm
   have f:=bL_ (c 0 (by cases qs with|nil=>exact absurd rfl n|cons _ _=>simp));exact⟨nL_ f j,l _ f⟩
 .rcases(h.parts.each p o).bytes with c|⟨g,r,b,c⟩
  .exact absurd c n
  .obtain rfl:g=d:=by rw[e]at b;simp at b;exact b.1.symm
   have f:=bL_ (c 0 (by cases m:p.bs with|nil=>exact absurd m n|cons _ _=>simp));exact⟨nL_ f j,l _ f⟩
def zat:List zi->List Int
 | []=>[]
 | p::l=>p.bs++zat l
theorem zrm (l:List zi)(p:zi):zat (l++[p])=zat l++p.bs:=by
 induction l with
 | nil=>simp[zat]
 | cons x l ih=>simp[zat,ih]
theorem zdY (l:List zi)(h:∀p∈l,p.bs.length=32):(zat l).length=32*l.length:=by
 induction l with
 | nil=>simp[zat]
 | cons x l ih=>
  have b:=h x (by simp);have c:=ih (λs d=>h s (by simp[d]));simp[zat,b,c];omega
def zbh (l:List zi):List Int:=(l.length:Int)::zat l
theorem zhA (base:Nat)(v:Value)(k:Nat)(bs:List Int)(g:Option Addr)(n y:Nat)(b:List zi)(w:World)(Z:n=b.length)(hl:b.length<=4)(z:∀p∈b,p.bs.length=32)(R:zx w g y b)(V:zfo w v g b)
  (c:w.ownsRow base 5 1 v k (ub bs)) (A:base<=w.heap.size) (hk:k<=90000) :
  Calls prog 65 #[v,.slice g n y] w λe w'=>∃s,e=.returned s/\w'.ownsRow base 5 1 s (k+(zbh b).length) (ub (bs++zbh b))/\zV w v w' s:=by
 subst Z;obtain⟨i,X,ab,ac,ad⟩:=info_parts zek;go_in;go_wp2_with (at_builtin;refine wpList_append_own_at _ rfl _ _ 51 rfl base 5 i (.int .u8 0) 1 1 underlying51 X ab ac ad rfl (by decide) _ k _ rfl (oA_ c _) ⟨w.heap.size,0,none⟩ 1 1 [.int .u8 (b.length:Int)] rfl rfl (zag _ _ _) (zds [_]) (by unfold maxLen;omega) (by omega) (zB A _) ?_;intro v1 w1 F E _ C;have u:=(zV.of E C).alloc)
 have H:w1.ownsRow base 5 1 v1 (k+1) (ub (bs++[(b.length:Int)])):=by simpa[ub]using F
 clear F E C;go_loopw [15,0] (λj t wr=>∃(m:Nat) (d:Value),m<=b.length/\j=I_ m/\d=t/\wr.ownsRow base 5 1 d (k+1+(zat (b.take m)).length) (ub (bs++[(b.length:Int)]++zat (b.take m)))/\zV w v wr d) (λj _ _=>b.length-(intOf j).toNat)
 case atStart=>exact⟨0,_,nZ_ _,rfl,rfl,by simpa[zat]using H,u⟩
 case round=>
  clear H u;obtain⟨m,d,hm,rfl,rfl,c,G⟩:=hrel;by_cases hlt:m<b.length
  .have l:=G.listW R V;obtain⟨o,q,rfl,D⟩:∃o q,g=some ⟨o,q,none⟩/\∀j (h:j<b.length),wr.cell? ⟨o,q+j,none⟩=some (.slice (b[j]).sa (b[j]).bs.length (b[j]).cap):=by
    rcases l.parts.cells with h|h
    .subst h;simp at hlt
    .exact h
   have ck:=D m hlt;have hp:=l.parts.each b[m] (gM_ hlt);have I:=z b[m] (gM_ hlt);have J:Hid (zat (b.take (m+1))=zat (b.take m)++(b[m]).bs):=by
    show _=_;rw[tS_ hlt,zrm]
   have U:(zat (b.take m)).length<=128:=by
    rw[zdY _ (λp h=>z p (List.mem_of_mem_take h)),lT9_];omega
   have Y:(m:Int)<b.length:=by omega
   clear D l;generalize b[m]=p at*;generalize zat (b.take m)=T at c J U;have O:base<=wr.heap.size:=nT_ A G.grown.size;have ae:Hid (p.bs.length=32):=I;have af:p.bs.length<=32:=by omega
   clear I;go_wp2_with (at_builtin;refine zft rfl _ _ rfl base d (k+1+T.length) _ rfl c p.sa p.bs.length p.cap p.bs rfl rfl hp (by omega) O ?_;intro L M aa N)
   go_roundw
   case rel=>
    have B:∃(f:Nat) (r:Value),f<=b.length/\(Value.int .i64 ((m:Int)+1))=I_ f/\r=L/\M.ownsRow base 5 1 r (k+1+(zat (b.take f)).length) (ub (bs++[(b.length:Int)]++zat (b.take f)))/\zV w v M r:=
     ⟨m+1,L,by omega,by go_num,rfl,by rw[J.out,lP_,<-Nat.add_assoc];simpa using aa,G.trans N⟩
    first|exact B|((repeat apply Exists.intro);exact⟨B,rfl⟩)
   case measure=>simp[intOf];omega
  .obtain rfl:m=b.length:=by omega
   rw[tL_ (nR_ _)]at c;have Y:¬(b.length:Int)<b.length:=by omega
   go_wp2_with fail
   go_ret;refine⟨_,rfl,?_,G⟩;rw[show k+(zbh b).length=k+1+(zat b).length by simp[zbh];omega,show bs++zbh b=bs++[(b.length:Int)]++zat b by simp[zbh]];exact c
def zaZ (au rd:Int)(bl pl:List zi):List Int:=[au]++rd3 rd++zbh bl++zbh pl
theorem zf8 (base:Nat)(v:Value)(k:Nat)(bs:List Int)(au rd:Int)(b:Option Addr)(A d:Nat)(bl:List zi)(c:Option Addr)(M f:Nat)(pl:List zi)(w:World)(Z:0<=au/\au<4)(hr:0<=rd/\rd<=1048576)(ab:A=bl.length)(aj:M=pl.length)(aa:bl.length<=4)(ai:pl.length<=4)(F:∀p∈bl,p.bs.length=32)(ah:∀p∈pl,p.bs.length=32)
  (X:zx w b d bl) (C:zfo w v b bl) (Y:zx w c f pl) (D:zfo w v c pl)
  (H:w.ownsRow base 5 1 v k (ub bs)) (o:base<=w.heap.size) (hk:k<=80000) :
  Calls prog 36 #[v,.agg #[I_ au,I_ rd,.slice b A d,.slice c M f]] w λe w'=>∃t,e=.returned t/\w'.ownsRow base 5 1 t (k+(zaZ au rd bl pl).length) (ub (bs++zaZ au rd bl pl))/\zV w v w' t:=by
 subst ab aj;obtain⟨i,hi,al,am,an⟩:=info_parts zek;obtain⟨ao,ap⟩:=Z;have L:v.ownBlock≠some w.heap.size:=λe=>by have:=(H.lt _ e).2;omega
 go_in;go_wp2_with (at_builtin;refine wpList_append_own_at _ rfl _ _ 51 rfl base 5 i (.int .u8 0) 1 1 underlying51 hi al am an rfl (by decide) _ k _ rfl (oA_ (oA_ H _) _) ⟨w.heap.size+1,0,none⟩ 1 1 [.int .u8 au] rfl rfl (by have:=zag (w.alloc (.cells #[I_ au,I_ rd,.slice b bl.length d,.slice c pl.length f] 61)) [.int .u8 au] 5;rw[zG]at this;exact this) (zds [_]) (by unfold maxLen;omega) (by omega) (zB (zB o _) _) ?_;intro u O I G _ E;have m:=zV.of G E;have q:=m.row (hX_ w _ _) L;have T:O.cell? ⟨w.heap.size,1,none⟩=some (I_ rd):=zb q 1 _ rfl)
 have ad:O.ownsRow base 5 1 u (k+1) (ub (bs++[au])):=by simpa[ub]using I
 have J:u.ownBlock≠some w.heap.size:=λe=>by
  rcases m.fresh _ e with g|g
  .exact L g
  .rw[zG,zG]at g;omega
 have y:=m.alloc.alloc;clear I G E m;refine(zeA base u (k+1) _ rd _ hr ad (nT_ o y.grown.size) (by omega)).mono ?_;rintro e w2⟨N,rfl,ae,r⟩;have s:=r.row q J;have U:=zb s 2 (.slice b bl.length d) rfl;have ak:N.ownBlock≠some w.heap.size:=λe=>by
  rcases r.fresh _ e with g|g
  .exact J g
  .have:=ze q;omega
 have j:=y.trans r;have B:=zhA base N (k+1+3) _ b _ d bl w2 rfl aa F (j.listW X C) (j.offW C) ae (nT_ o j.grown.size) (by omega);clear q T;go_wp2_with fail
 refine B.mono ?_;rintro e w3⟨v3,rfl,af,z⟩;have r3:=z.row s ak;have c3:=zb r3 3 (.slice c pl.length f) rfl;have l:=j.trans z;have ac:=zdY bl F;have V:=zhA base v3 (k+1+3+(zbh bl).length) _ c _ f pl w3 rfl ai ah (l.listW Y D) (l.offW D) af (nT_ o l.grown.size) (by simp[zbh];omega);clear s U B ac;go_wp2_with fail
 refine V.mono ?_;rintro e w4⟨v4,rfl,ag,R⟩;go_wp2_with fail
 go_ret;refine⟨v4,rfl,?_,l.trans R⟩;rw[show k+(zaZ au rd bl pl).length=k+1+3+(zbh bl).length+(zbh pl).length by simp[zaZ,rd3];omega,show bs++zaZ au rd bl pl=bs++[au]++rd3 rd++zbh bl++zbh pl by simp[zaZ]];exact ag
theorem zkW (base:Nat)(v:Value)(k:Nat)(bs:List Int)(au rd:Int)(b:Option Addr)(f d:Nat)(bl:List zi)(c:Option Addr)(j g:Nat)(pl:List zi)(w:World)(t:0<=au/\au<4)(F:0<=rd/\rd<=1048576)(z:f=bl.length)(E:j=pl.length)(y:bl.length<=4)(D:pl.length<=4)(u:∀p∈bl,p.bs.length=32)(C:∀p∈pl,p.bs.length=32)
  (o:zx w b d bl) (r:Off w v b bl) (q:zx w c g pl) (s:Off w v c pl)
  (B:w.ownsRow base 5 1 v k (ub bs)) (m:base<=w.heap.size) (A:k<=80000) :
  Calls prog 36 #[v,.agg #[I_ au,I_ rd,.slice b f d,.slice c j g]] w λe w'=>∃l,e=.returned l/\w'.ownsRow base 5 1 l (k+(zaZ au rd bl pl).length) (ub (bs++zaZ au rd bl pl))/\zV w v w' l:=
 zf8 base v k bs au rd b f d bl c j g pl w t F z E y D u C o r.weak q s.weak B m A
def zfj (ps:List zi)(q:zi)(k:Nat):Bool:=(List.range k).any λj=>decide (txL (zcT ps j).bs=txL q.bs)
theorem ztb (b:List zi)(q:zi)(k m:Nat)(c:m<k)(h:txL (zcT b m).bs=txL q.bs):zfj b q k=true:=by
 simp only[zfj,List.any_eq_true];exact⟨m,by simpa using c,by simpa using h⟩
theorem zvd (b:List zi)(q:zi)(k:Nat)(h:∀j,j<k->¬txL (zcT b j).bs=txL q.bs):zfj b q k=false:=by
 simp only[zfj,List.any_eq_false];intro j c
 simpa using h j (by simpa using c)
theorem znA (b:List zi)(q:zi)(y:Option Addr)(k z g:Nat)(w:World)(D:k<=b.length)(I:k<=9000000000000000000)(u:zbT w y b)(E:zg w q.sa q.cap q.bs)(B:w.cell? ⟨g,0,none⟩=some (.slice q.sa q.bs.length q.cap)) :
  Calls prog 159 #[.slice y k z,.func (.func 119) #[] #[P_ g 0]] w λe w'=>w=w'/\∃r:Int,e=.returned (I_ r)/\((zfj b q k=true/\0<=r)\/(zfj b q k=false/\r=-1)):=by
 go_in;go_wp2_with fail
 go_loop [8] (λi=>∃m:Nat,m<=k/\i=I_ m/\∀j,j<m->¬txL (zcT b j).bs=txL q.bs) (λi=>k-(intOf i).toNat)
 case atStart=>exact⟨0,nZ_ _,rfl,λj C=>by omega⟩
 case round=>
  obtain⟨m,L,rfl,s⟩:=hrel;by_cases hlt:m<k
  .rcases u.cells with c|⟨M,N,rfl,c⟩
   .subst c;simp at D;omega
   have l:m<b.length:=by omega
   have H:=c m l;have F:=u.each (b[m]) (gM_ l);have J:(m:Int)<k:=by omega
   have t:=zgQ b m l;have f:Hid (txL (b[m]).bs=txL q.bs->zfj b q k=true):=by
    show _->_;intro h;exact ztb b q k m hlt (by rw[t];exact h)
   have d:Hid (¬txL (b[m]).bs=txL q.bs->∀j,j<m+1->¬txL (zcT b j).bs=txL q.bs):=by
    show _->_;intro h j C;rcases Nat.lt_or_ge j m with g|g
    .exact s j g
    .obtain rfl:j=m:=by omega
     rw[t];exact h
   clear s t c;generalize b[m]=p at*;go_wp2_with fail
   refine(zn8 p.bs q.bs p.sa q.sa _ _ p.cap q.cap g w rfl rfl F E B).mono ?_;rintro _ O⟨rfl,rfl⟩;dsimp only;by_cases h:txL p.bs=txL q.bs
   .have G:=f.out h;rw[dT_ h];clear f d h;go_wp2_with fail
    go_ret;exact⟨rfl,(m:Int),rfl,.inl ⟨G,by omega⟩⟩
   .have o:=d.out h;rw[dF_ h];clear f d h;go_wp2_with fail
    go_round
    case rel=>exact⟨m+1,by omega,by go_num,o⟩
    case measure=>simp[intOf];omega
  .obtain rfl:m=k:=by omega
   have o:Hid (zfj b q m=false):=zvd b q m s;go_wp2_with fail
   go_ret;refine⟨rfl,(-1:Int),rfl,?_⟩;exact .inr ⟨o.out,rfl⟩
theorem zkX (b:List zi)(q:zi)(d:Option Addr)(k f g:Nat)(w:World)(o:k<=b.length)(p:k<=9000000000000000000)(s:zbT w d b)(t:zg w q.sa q.cap q.bs)(m:w.cell? ⟨g,0,none⟩=some (.slice q.sa q.bs.length q.cap)) :
  Calls prog 121 #[.slice d k f,.func (.func 119) #[] #[P_ g 0]] w λe w'=>e=.returned (.bool (zfj b q k))/\w=w':=by
 go_in;go_wp2_with fail
 refine(znA b q d k f g w o p s t m).mono ?_;rintro e u⟨rfl,r,l,j⟩;subst l;dsimp only;rcases j with⟨c,j⟩|⟨c,rfl⟩
 all_goals
  go_wp2_with fail
  go_ret;exact⟨zN (by rw[c]),rfl⟩
theorem zhi (b:List zi)(s:Option Addr)(n c:Nat)(w:World)(H:n=b.length)(N:n<=c)(_hcm:c<=9223372036854775807)(U:n<=9000000000000000000)(J:c=0\/∃g j,s=some ⟨g,j,none⟩)(I:zbT w s b) :
  Calls prog 95 #[.slice s n c] w λe w'=>e=.returned (I_ (zb8 b))/\B_ w w':=by
 subst H;have T:∀(fn:Fn) (first c:Array Value) (w:World),(Instr.makeFunc fn first c).run prog w=.ok (.func fn first c) w:=λ_ _ _ _=>rfl;go_in;go_wp2_with fail
 go_loopw [8] (λi wr=>∃k:Nat,k<=b.length/\i=I_ k/\zbn b k=0/\B_ w wr) (λi _=>b.length-(intOf i).toNat)
 case atStart=>exact⟨0,nZ_ _,rfl,rfl,bR_ _ _⟩
 case round=>
  obtain⟨k,G,rfl,t,d⟩:=hrel;by_cases hlt:k<b.length
  .obtain⟨g,j,rfl⟩:∃g j,s=some ⟨g,j,none⟩:=by
    rcases J with h|h
    .omega
    .exact h
   have q:=I.below d;have r:=q.each (b[k]) (gM_ hlt);have C:=zgQ b k hlt;have L:wr.cell? ⟨g,j+k,none⟩=some (.slice (b[k]).sa (b[k]).bs.length (b[k]).cap):=by
    rcases q.cells with y|⟨X,Y,e,y⟩
    .rw[y]at hlt;simp at hlt
    .cases e;exact y k hlt
   have R:(k:Int)<b.length:=by omega
   have O:(k:Int)<=c:=by omega
   have f:Hid (zcF b k=if(b[k]).bs.length≠32 then 4 else if zfj b (b[k]) k then 7 else 0):=by
    show _=_;rw[zcF,zgm,C]
    rfl
   have l:Hid (zcF b k≠0->zb8 b=zcF b k):=by
    show _->_;exact zwQ b k hlt t
   have o:Hid (zcF b k=0->zbn b (k+1)=0):=by
    show _->_;intro h;rw[zbn,t,h];rfl
   clear C;have V:(b[k]).bs.length<=9223372036854775807:=nT_ r.le r.max;generalize b[k]=p at*;by_cases h32:p.bs.length=32
   .have A:=zC wr (.cells #[.slice p.sa 32 p.cap] 51);have B:(wr.alloc (.cells #[.slice p.sa 32 p.cap] 51)).cell? ⟨wr.heap.size,0,none⟩=some (.slice p.sa p.bs.length p.cap):=by
     rw[h32];exact zhz _ _ _ 0 _ rfl
    have m:=zkX b p (some ⟨g,j,none⟩) k c wr.heap.size _ G (by omega) (q.below A) (r.below A) B;clear B r q;by_cases hT:zfj b p k=true;rw[hT]at m;have F:zb8 b=7:=by
     have:zcF b k=7:=by rw[f.out,if_neg (by simp[h32]),hT];rfl
     rw[l.out (by rw[this];decide),this]
    clear f l o hT
    rotate_left
    have u:zfj b p k=false:=by simpa using hT
    rw[u]at m;have D:=o.out (by rw[f.out,if_neg (by simp[h32]),u];rfl);clear f l o hT u
    rotate_left
    all_goals
     go_wp2_with fail
     refine m.mono ?_;rintro _ w2⟨rfl,rfl⟩;dsimp only;go_wp2_with fail
    .go_ret;exact⟨zt F.symm,d.alloc d.size _⟩
    .go_roundw
     case rel=>exact⟨k+1,by omega,by go_num,D,d.alloc d.size _⟩
     case measure=>simp[intOf];omega
   .have M:¬(p.bs.length:Int)=32:=by omega
    have E:zb8 b=4:=by
     have:zcF b k=4:=by rw[f.out,if_pos h32]
     rw[l.out (by rw[this];decide),this]
    clear f l o;go_wp2_with fail
    go_ret;exact⟨zt E.symm,d.alloc d.size _⟩
  .obtain rfl:k=b.length:=by omega
   go_wp2_with fail
   go_ret;exact⟨zt t.symm,d⟩
theorem zkY (rd:Int)(n:Nat)(w:World)(f:n<=1000) :
  Calls prog 96 #[I_ rd,I_ n] w λe w'=>e=.returned (I_ (zb9 rd n))/\w=w':=by
 by_cases h1:rd=1;subst h1;by_cases h2:0<n;have b:Hid (zb9 1 n=10):=by show _=_;simp[zb9,h2]
 have c:(0:Int)<n:=by omega
 rotate_left
 have b:Hid (zb9 1 n=0):=by show _=_;simp[zb9,h2]
 have c:¬(0:Int)<n:=by omega
 rotate_left
 by_cases h2:1<rd;by_cases h3:n<3;have b:Hid (zb9 rd n=10):=by show _=_;simp[zb9,h2,h3]
 have d:(n:Int)<3:=by omega
 rotate_left
 have b:Hid (zb9 rd n=0):=by show _=_;simp[zb9,h1,h3]
 have d:¬(n:Int)<3:=by omega
 rotate_left
 have b:Hid (zb9 rd n=0):=by show _=_;simp[zb9,h1,h2]
 rotate_left
 all_goals
  go_in;go_wp2_with fail
  go_ret;exact⟨zt b.out.symm,rfl⟩
theorem zeB (au rd:Int)(o:Option Addr)(p:Nat)(bl:List zi)(g:Option Addr)(j:Nat)(pl:List zi)(w:World)(c:zx w o p bl)(d:zx w g j pl) :
  Calls prog 63 #[.agg #[I_ au,I_ rd,.slice o bl.length p,.slice g pl.length j]] w λe w'=>e=.returned (I_ (zO au rd bl pl))/\B_ w w':=by
 have D:=c.le;have E:=c.max;have F:=c.small;have G:=d.le;have H:=d.max;have I:=d.small;have l:=zC w (.cells #[I_ au,I_ rd,.slice o bl.length p,.slice g pl.length j] 61);by_cases ha:0<=au/\au<4
 .by_cases hr:1<=rd/\rd<=1048576
  .by_cases hz:3<bl.length\/4<pl.length
   .have b:Hid (zO au rd bl pl=1):=by show _=_;rw[zO,if_neg (by simp[ha,hr]),if_pos hz]
    by_cases hz1:3<bl.length;have u:(3:Int)<bl.length:=by omega
    rotate_left
    have u:¬(3:Int)<bl.length:=by omega
    have A:(4:Int)<pl.length:=by omega
    rotate_left
    all_goals
     go_in;go_wp2_with (first|(go_at_call 49;first|(refine(zaS _ _ (by omega)).mono ?_;rintro e w'⟨rfl,rfl⟩)|(refine(zaD _ _ (by omega)).mono ?_;rintro e w'⟨rfl,rfl⟩))|(go_at_call 80;first|(refine(zbB _ _ (by omega)).mono ?_;rintro e w'⟨rfl,rfl⟩)|(refine(zbj _ _ (by omega)).mono ?_;rintro e w'⟨rfl,rfl⟩)))
     go_ret;exact⟨zt b.out.symm,l⟩
   .have b:Hid (zO au rd bl pl=if zb8 bl≠0 then zb8 bl else if zb8 pl≠0 then zb8 pl else zb9 rd pl.length):=by show _=_;rw[zO,if_neg (by simp[ha,hr]),if_neg hz]
    have u:¬(3:Int)<bl.length:=by omega
    have A:¬(4:Int)<pl.length:=by omega
    go_in;go_wp2_with (first|(go_at_call 49;first|(refine(zaS _ _ (by omega)).mono ?_;rintro e w'⟨rfl,rfl⟩)|(refine(zaD _ _ (by omega)).mono ?_;rintro e w'⟨rfl,rfl⟩))|(go_at_call 80;first|(refine(zbB _ _ (by omega)).mono ?_;rintro e w'⟨rfl,rfl⟩)|(refine(zbj _ _ (by omega)).mono ?_;rintro e w'⟨rfl,rfl⟩)))
    refine(zhi bl o _ p _ rfl c.le c.max c.small c.some (c.parts.below l)).mono ?_;rintro _ J⟨rfl,f⟩;dsimp only;have q:=zbK f;replace f:=zS f;have y:=zb q 3 (.slice g pl.length j) rfl;by_cases h1:zb8 bl=0
    .rw[h1]at b|-;go_wp2_with fail
     refine(zhi pl g _ j _ rfl d.le d.max d.small d.some (d.parts.below f)).mono ?_;rintro _ w2⟨rfl,t⟩;dsimp only;have r:=zk t q;have s:=zm f t;have B:=zb r 1 (I_ rd) rfl;have C:w2.cell? ⟨w.heap.size,3,none⟩=some (.slice g pl.length j):=zb r 3 _ rfl;clear y q r;by_cases h2:zb8 pl=0
     .rw[h2]at b|-;go_wp2_with fail
      refine(zkY rd pl.length w2 (by omega)).mono ?_;rintro _ L⟨rfl,rfl⟩;dsimp only;go_wp2_with fail
      go_ret;exact⟨zt (by rw[b.out];rfl),s⟩
     .rw[if_neg (by simp),if_pos h2]at b;generalize zb8 pl=z at*;go_wp2_with fail
      go_ret;exact⟨zt b.out.symm,s⟩
    .rw[if_pos h1]at b;generalize zb8 bl=z at*;go_wp2_with fail
     go_ret;exact⟨zt b.out.symm,f⟩
  .have b:Hid (zO au rd bl pl=2):=by show _=_;simp[zO,hr]
   go_in;go_wp2_with (first|(go_at_call 49;first|(refine(zaS _ _ (by omega)).mono ?_;rintro e w'⟨rfl,rfl⟩)|(refine(zaD _ _ (by omega)).mono ?_;rintro e w'⟨rfl,rfl⟩))|(go_at_call 80;first|(refine(zbB _ _ (by omega)).mono ?_;rintro e w'⟨rfl,rfl⟩)|(refine(zbj _ _ (by omega)).mono ?_;rintro e w'⟨rfl,rfl⟩)))
   go_ret;exact⟨zt b.out.symm,l⟩
 .have b:Hid (zO au rd bl pl=2):=by show _=_;simp[zO,ha]
  go_in;go_wp2_with (first|(go_at_call 49;first|(refine(zaS _ _ (by omega)).mono ?_;rintro e w'⟨rfl,rfl⟩)|(refine(zaD _ _ (by omega)).mono ?_;rintro e w'⟨rfl,rfl⟩))|(go_at_call 80;first|(refine(zbB _ _ (by omega)).mono ?_;rintro e w'⟨rfl,rfl⟩)|(refine(zbj _ _ (by omega)).mono ?_;rintro e w'⟨rfl,rfl⟩)))
  go_ret;exact⟨zt b.out.symm,l⟩
variable {B:Nat}
def ua (vs:List Int):Array Value:=(vs.map (Value.int .u32)).toArray
theorem zcd (b:List Int):(ua b).size=b.length:=by simp[ua]
theorem zdZ (b:List Int)(i:Nat)(h:i<b.length):(ua b)[i]? = some (.int .u32 (b.getD i 0)):=by
 simp[ua,List.getD,h]
theorem zel (b:List Int)(i:Nat)(x:Int):(ua b).setIfInBounds i (.int .u32 x)=ua (b.set i x):=by
 simp[ua,List.map_set]
theorem zfI (b:List Int):(ua b).all (·.oneCell')=true:=by
 simp only[ua,List.all_toArray,List.all_map,List.all_eq_true];intro x _;rfl
theorem z16:ua (List.replicate 16 0)=#[.int .u32 0,.int .u32 0,.int .u32 0,.int .u32 0,.int .u32 0,.int .u32 0,.int .u32 0,.int .u32 0,.int .u32 0,.int .u32 0,.int .u32 0,.int .u32 0,.int .u32 0,.int .u32 0,.int .u32 0,.int .u32 0]:=rfl
def zn9 (n:Int)(x:Int):Int:=bits .or .u32 (x*2 ^ (32-n).toNat % 4294967296) (x / 2 ^ n.toNat)
def mA1 (a b x:Int):Int:=(a+(b+x)) % 4294967296
def mD1 (a b d x:Int):Int:=zn9 16 (bits .xor .u32 d (mA1 a b x))
def mC1 (a b c d x:Int):Int:=(c+mD1 a b d x) % 4294967296
def mB1 (a b c d x:Int):Int:=zn9 12 (bits .xor .u32 b (mC1 a b c d x))
def mA (a b c d x y:Int):Int:=(a+(b+x)+(mB1 a b c d x+y)) % 4294967296
def mD (a b c d x y:Int):Int:=zn9 8 (bits .xor .u32 (mD1 a b d x) (mA a b c d x y))
def mC (a b c d x y:Int):Int:=(c+mD1 a b d x+mD a b c d x y) % 4294967296
def mB (a b c d x y:Int):Int:=zn9 7 (bits .xor .u32 (mB1 a b c d x) (mC a b c d x y))
def zoa (vs:List Int)(i j k l:Nat)(x y:Int):List Int:=
 (((vs.set i (mA (vs.getD i 0) (vs.getD j 0) (vs.getD k 0) (vs.getD l 0) x y)).set j (mB (vs.getD i 0) (vs.getD j 0) (vs.getD k 0) (vs.getD l 0) x y)).set k (mC (vs.getD i 0) (vs.getD j 0) (vs.getD k 0) (vs.getD l 0) x y)).set l (mD (vs.getD i 0) (vs.getD j 0) (vs.getD k 0) (vs.getD l 0) x y)
theorem zpN (b:List Int)(i j k l:Nat)(x y:Int):(zoa b i j k l x y).length=b.length:=by simp[zoa]
def fw:List Int:=[1779033703,3144134277,1013904242,2773480762,1359893119,2600822924,528734635,1541459225]
def zgt (w:World):Prop:=∀i,i<8->w.cell? ⟨1,i,none⟩=some (.int .u32 (fw.getD i 0))
theorem zgt.below (h:zgt w)(c:Below B w w')(b:1<B):zgt w':=λi d=>(c.cell (p:=⟨1,i,none⟩) b).trans (h i d)
theorem zgt.lt (h:zgt w):1<w.heap.size:=block_lt_of_cell (h 0 (by decide))
def zhT:List Nat:=[0,1,2,3,4,5,6,7,8,9,10,11,12,13,14,15,14,10,4,8,9,15,13,6,1,12,0,2,11,7,5,3,11,8,12,0,5,2,15,13,10,14,3,6,7,1,9,4,7,9,3,1,13,12,11,14,2,6,5,10,4,0,15,8,9,0,5,7,2,4,10,15,14,1,11,12,6,8,3,13,2,12,6,10,0,11,8,3,4,13,7,5,15,14,1,9,12,5,1,15,14,13,4,10,0,7,6,3,9,2,8,11,13,11,7,14,12,1,3,9,5,0,15,4,8,6,2,10,6,15,14,9,11,3,0,8,12,2,13,7,1,4,10,5,10,2,8,4,7,6,1,5,15,11,9,14,3,12,13,0]
def zaH:List Nat:=[0,4,8,12,1,5,9,13,2,6,10,14,3,7,11,15,0,5,10,15,1,6,11,12,2,7,8,13,3,4,9,14]
def zxY (w:World):Prop:=∀i,i<160->w.cell? ⟨2,i,none⟩=some (.int .u8 (zhT.getD i 0:Nat))
def zyZ (w:World):Prop:=∀i,i<32->w.cell? ⟨3,i,none⟩=some (.int .u8 (zaH.getD i 0:Nat))
structure zbJ (w:World):Prop where
 words:zgt w
 orders:zxY w
 lanes:zyZ w
theorem zbJ.lt (h:zbJ w):1<w.heap.size/\2<w.heap.size/\3<w.heap.size:=
 ⟨h.words.lt,block_lt_of_cell (h.orders 0 (by decide)),block_lt_of_cell (h.lanes 0 (by decide))⟩
theorem zbJ.below (h:zbJ w)(b:B_ w w'):zbJ w':=
 ⟨h.words.below b h.lt.1,λi c=>(b.cell (p:=⟨2,i,none⟩) h.lt.2.1).trans (h.orders i c),λi c=>(b.cell (p:=⟨3,i,none⟩) h.lt.2.2).trans (h.lanes i c)⟩
theorem zqN (i:Nat)(h:i<160):zhT.getD i 0<16:=by
 have:∀i,i<160->zhT.getD i 0<16:=by decide +kernel
 exact this i h
theorem zve (i:Nat)(h:i<8):zaH.getD (i*4) 0<16/\zaH.getD (i*4+1) 0<16/\zaH.getD (i*4+2) 0<16/\zaH.getD (i*4+3) 0<16 /\
  ¬zaH.getD (i*4) 0=zaH.getD (i*4+1) 0/\¬zaH.getD (i*4) 0=zaH.getD (i*4+2) 0/\¬zaH.getD (i*4) 0=zaH.getD (i*4+3) 0 /\
  ¬zaH.getD (i*4+1) 0=zaH.getD (i*4+2) 0/\¬zaH.getD (i*4+1) 0=zaH.getD (i*4+3) 0/\¬zaH.getD (i*4+2) 0=zaH.getD (i*4+3) 0:=by
 have:∀i,i<8->zaH.getD (i*4) 0<16/\zaH.getD (i*4+1) 0<16/\zaH.getD (i*4+2) 0<16/\zaH.getD (i*4+3) 0<16 /\
  ¬zaH.getD (i*4) 0=zaH.getD (i*4+1) 0/\¬zaH.getD (i*4) 0=zaH.getD (i*4+2) 0/\¬zaH.getD (i*4) 0=zaH.getD (i*4+3) 0 /\
  ¬zaH.getD (i*4+1) 0=zaH.getD (i*4+2) 0/\¬zaH.getD (i*4+1) 0=zaH.getD (i*4+3) 0/\¬zaH.getD (i*4+2) 0=zaH.getD (i*4+3) 0:=by decide
 exact this i h
def zbr (bs:List Int):Nat->List Int
 | 0=>List.replicate 16 0
 | k+1=>(zbr bs k).set (k / 4) (bits .or .u32 ((zbr bs k).getD (k / 4) 0) (bs.getD k 0 % 4294967296*2 ^ (8*(k % 4)) % 4294967296))
theorem zeY (bs:List Int)(k:Nat):(zbr bs k).length=16:=by
 induction k with
 | zero=>rfl
 | succ k ih=>simp[zbr,ih]
def zav (s:List Int):Nat->List Int
 | 0=>s++List.replicate 8 0
 | k+1=>(zav s k).set (8+k) (fw.getD k 0)
theorem zeC (s:List Int)(b:s.length=8)(k:Nat):(zav s k).length=16:=by
 induction k with
 | zero=>simp[zav,b]
 | succ k ih=>simp[zav,ih]
def zf9 (s:List Int)(taken:Int):List Int:=(zav s 8).set 12 (bits .xor .u32 ((zav s 8).getD 12 0) (taken % 4294967296))
def zbg (s:List Int)(taken:Int)(last:Bool):List Int:=
 if last then(zf9 s taken).set 14 (bits .xor .u32 IntKind.u32.max ((zav s 8).getD 14 0))else zf9 s taken
theorem zmc (s:List Int)(b:s.length=8)(c:Int):(zf9 s c).length=16:=by simp[zf9,zeC s b]
theorem zd0 (s:List Int)(c:s.length=8)(d:Int)(b:Bool):(zbg s d b).length=16:=by cases b<;>simp[zbg,zmc s c]
def zcJ:Nat->List Int
 | 0=>List.replicate 8 0
 | k+1=>(zcJ k).set k (fw.getD k 0)
theorem zga (k:Nat):(zcJ k).length=8:=by
 induction k with
 | zero=>rfl
 | succ k ih=>simp[zcJ,ih]
def zdG:List Int:=(zcJ 8).set 0 (bits .xor .u32 ((zcJ 8).getD 0 0) 16842784)
theorem zem:zdG.length=8:=by simp[zdG,zga]
def zob (m:List Int)(r i:Nat)(v:List Int):List Int:=
 zoa v (zaH.getD (i*4) 0) (zaH.getD (i*4+1) 0) (zaH.getD (i*4+2) 0) (zaH.getD (i*4+3) 0) (m.getD (zhT.getD (r*16+2*i) 0) 0) (m.getD (zhT.getD (r*16+(2*i+1)) 0) 0)
def zeZ (m:List Int)(r:Nat)(v:List Int):Nat->List Int
 | 0=>v
 | k+1=>zob m r k (zeZ m r v k)
def zcK (m v:List Int):Nat->List Int
 | 0=>v
 | r+1=>zeZ m r (zcK m v r) 8
theorem zid (m:List Int)(r:Nat)(v:List Int)(k:Nat):(zeZ m r v k).length=v.length:=by
 induction k with
 | zero=>rfl
 | succ k ih=>simp[zeZ,zob,zpN,ih]
theorem zhB (m v:List Int)(r:Nat):(zcK m v r).length=v.length:=by
 induction r with
 | zero=>rfl
 | succ r ih=>simp[zcK,zid,ih]
def zcU (s v:List Int):Nat->List Int
 | 0=>s
 | k+1=>(zcU s v k).set k (bits .xor .u32 ((zcU s v k).getD k 0) (bits .xor .u32 (v.getD k 0) (v.getD (k+8) 0)))
theorem zjj (s v:List Int)(k:Nat):(zcU s v k).length=s.length:=by
 induction k with
 | zero=>rfl
 | succ k ih=>simp[zcU,ih]
def ze0 (s bs:List Int)(taken:Int)(last:Bool):List Int:=
 zcU s (zcK (zbr bs bs.length) (zbg s taken last) 10) 8
theorem zjH (s bs:List Int)(c:Int)(b:Bool):(ze0 s bs c b).length=s.length:=zjj _ _ _
def zdg (s:List Int):Nat->List Int
 | 0=>[]
 | k+1=>zdg s k++[s.getD k 0 % 256,s.getD k 0 / 256 % 256,s.getD k 0 / 65536 % 256,s.getD k 0 / 16777216 % 256]
theorem zoc (s:List Int)(k:Nat):(zdg s k).length=4*k:=by
 induction k with
 | zero=>rfl
 | succ k ih=>simp[zdg,ih];omega
end Go.Proofs.YtdnaljbnebnlhaaGreatDoor
