import Derived.Test.YtdnaljbnebnlhaaGreatDoorPk31
set_option maxRecDepth 100000
set_option maxHeartbeats 4000000
namespace Go.Proofs.YtdnaljbnebnlhaaGreatDoor
open Go.RowKit Tryz
def txS (s:ByteArray):ByteArray:=if s.size=0 then⟨#[120]⟩else s.extract 0 (min s.size 20)
theorem zwl (s:ByteArray):1<=(txS s).size/\(txS s).size<=20:=by
 unfold txS;by_cases h:s.size=0
 .rw[if_pos h];exact⟨by decide,by decide⟩
 .rw[if_neg h];simp;omega
theorem zks {a b:ByteArray}(h:a=b):Ending.returned (.string a)=.returned (.string b):=by rw[h]
theorem zxG (s:ByteArray)(w:World)(c:s.size<=maxLen) :
  Calls prog 99 #[.string s,I_ 20] w λe w'=>e=.returned (.string (s.extract 0 (min s.size 20)))/\w=w':=by
 unfold maxLen at c;by_cases h:s.size<=20
 .have b:min s.size 20=s.size:=by omega
  rw[b];go_in;go_wp2_with fail
  go_ret;exact⟨zks (by first|(simp;done)|(rw[show min (s.size:Int) 20=s.size by omega];simp)),rfl⟩
 .have b:min s.size 20=20:=by omega
  rw[b];go_in;go_wp2_with fail
  go_ret
  first|exact⟨rfl,rfl⟩|exact⟨zks (by rw[show min (s.size:Int) 20=20 by omega];rfl),rfl⟩
theorem zl6 (s:ByteArray):s.toList.isEmpty=true↔s.size=0:=by
 rw[List.isEmpty_iff,<-List.length_eq_zero_iff,ByteArray.toList_eq,Array.length_toList,ByteArray.size_data]
theorem zyL (s:ByteArray)(w:World)(f:s.size<=maxLen) :
  Calls prog 66 #[.string s] w λe w'=>e=.returned (.string (txS s))/\w=w':=by
 by_cases h:s.size=0;have c:s.toList.isEmpty=true:=(zl6 s).2 h;have b:Hid (txS s=⟨#[120]⟩):=by show _=_;rw[txS,if_pos h]
 clear h;go_in
 rotate_left
 have c:s.toList.isEmpty=false:=by
  rw[Bool.eq_false_iff];exact λe=>h ((zl6 s).1 e)
 have b:Hid (txS s=s.extract 0 (min s.size 20)):=by show _=_;rw[txS,if_neg h]
 go_in;go_wp2_with fail
 refine(zxG s w f).mono ?_;rintro _ g⟨rfl,rfl⟩;dsimp only
 rotate_left
 all_goals
  go_wp2_with fail
  go_ret;exact⟨zks b.out.symm,rfl⟩
def zdl (ss:List ByteArray):List ByteArray:=if ss=[]then [⟨#[116]⟩]else(ss.take 4).map txS
theorem zuF (z c b rc:Int)(y:Option Addr)(o:Nat)(ss:List ByteArray)(w:World)(V:I64 c)(X:I64 b)(A:zf7 w y o ss) :
  Calls prog 40 #[.agg #[I_ z,I_ c,I_ b,I_ rc,.slice y ss.length o]] w λe w'=>∃O R,e=.returned (.agg #[I_ (pk c 4),I_ (1+pk b 9),.slice O (zdl ss).length R])/\w'.ownsRow w.heap.size 9 1 (.slice O (zdl ss).length R) (zdl ss).length (sv (zdl ss))/\B_ w w':=by
 obtain⟨aD,aE⟩:=zW c 4 (by decide);obtain⟨aF,aG⟩:=zW b 9 (by decide);have ax:=A.le;have aA:=A.reach;have M:=hX_ w (.cells #[I_ z,I_ c,I_ b,I_ rc,.slice y ss.length o] 80) (.cells #[I_ 0,I_ 0,O_] 58);have k1:=zb M 1 _ rfl;have k2:=zb M 2 _ rfl;have hw:IntKind.i64.wrap (1+pk b 9)=1+pk b 9:=by rw[IntKind.wrap_i64];omega
 go_in;go_upto_region 1 with(fail)
 go_cut [3] (λv F=>v=(P_ (w.heap.size+2) 0)/\B_ w F/\R_ F w.heap.size #[I_ z,I_ c,I_ b,I_ rc,.slice y ss.length o] 80/\R_ F (w.heap.size+1) #[I_ 0,I_ 0,O_] 58/\R_ F (w.heap.size+2) #[I_ (pk c 4),I_ (1+pk b 9),O_] 58)
 case first=>
  go_region_held3 (λw'=>w'.cell? ⟨w.heap.size,1,none⟩=some (I_ c)/\w'.cell? ⟨w.heap.size,2,none⟩=some (I_ b)) (go_keep) (first|(go_at_call 27;refine(zaV _ _ _ (by first|exact V.1|exact X.1) (by first|exact V.2|exact X.2) (by omega) (by omega)).mono ?_;rintro e E⟨rfl,rfl⟩))
  all_goals
   go_wp2_with fail
   go_meet
   case rel=>
    refine⟨rfl,((((bR_ _ _).alloc (nR_ _) _).alloc (by simp) _).alloc (by simp;omega) _).drew,?_,?_,?_⟩
    .exact zR (zR (hN_ w _))
    .exact zR (zco _ _ _ (by simp))
    .exact zco _ _ _ (by simp)
 case rest=>
  obtain⟨rfl,d,D,g,l⟩:=hcut;clear k1 k2 M hw;obtain⟨i,hi,aq,ar,au⟩:=info_parts zkf;have L:=ze l;go_wp2_with fail
  go_loopw [4] (λj wr=>∃(k:Nat) (v:Value),k<=ss.length/\k<=4/\j=I_ k/\B_ w wr/\R_ wr w.heap.size #[I_ z,I_ c,I_ b,I_ rc,.slice y ss.length o] 80/\R_ wr (w.heap.size+1) #[I_ 0,I_ 0,O_] 58/\R_ wr (w.heap.size+2) #[I_ (pk c 4),I_ (1+pk b 9),v] 58/\wr.ownsRow (w.heap.size+3) 9 1 v k (sv ((ss.take k).map txS))) (λj _=>ss.length-(intOf j).toNat)
  case atStart=>exact⟨0,_,nZ_ _,nZ_ _,rfl,d,D,g,l,oN_ _ _ _ _⟩
  case round=>
   clear d D g l L;obtain⟨k,v,hk,aw,rfl,d,D,g,l,p⟩:=hrel;have c4:=zb D 4 (.slice y ss.length o) rfl;have o2:wr.cell? ⟨w.heap.size+2,2,none⟩=some v:=zb l 2 _ rfl;have aC:=zd l 2;have L:w.heap.size+2<wr.heap.size:=ze l;by_cases f:k<ss.length/\k<4
   .obtain⟨f,ay⟩:=f;obtain⟨m,r,rfl,Z⟩:∃m r,y=some ⟨m,r,none⟩/\∀j,j<ss.length->wr.cell? ⟨m,r+j,none⟩=some (.string (ss.getD j ByteArray.empty)):=by
     rcases(A.strs.below d).cells with h|h
     .rw[h]at f;simp at f
     .exact h
    have T:=Z k f;have ad:(ss.getD k ByteArray.empty).size<=maxLen:=A.strs.size _ (by simp[List.getD,f]);have aa:(k:Int)<ss.length:=by omega
    have az:(k:Int)<4:=by omega
    have ac:Hid ((ss.take (k+1)).map txS=(ss.take k).map txS++[txS (ss.getD k ByteArray.empty)]):=by
     show _=_;rw[tS_ f,List.map_append];simp only[List.map_cons,List.map_nil,List.getD,List.getElem?_eq_getElem f,Option.getD_some]
    have ao:v.ownBlock≠some (w.heap.size+2):=λe=>by have:=(p.lt _ e).1;omega
    clear Z;generalize ss.getD k ByteArray.empty=x at T ac ad;go_wp2_with fail
    have hA:B_ wr (wr.alloc (.cells #[.string (txS x)] 9)).drew:=((bR_ _ _).alloc (nR_ _) _).drew;have ae:(wr.alloc (.cells #[.string (txS x)] 9)).drew.heap[w.heap.size]? = some (.cells #[I_ z,I_ c,I_ b,I_ rc,.slice (some ⟨m,r,none⟩) ss.length o] 80 (0,0)):=zR D;have af:(wr.alloc (.cells #[.string (txS x)] 9)).drew.heap[w.heap.size+1]? = some (.cells #[I_ 0,I_ 0,O_] 58 (0,0)):=zR g;have ag:(wr.alloc (.cells #[.string (txS x)] 9)).drew.heap[w.heap.size+2]? = some (.cells #[I_ (pk c 4),I_ (1+pk b 9),v] 58 (0,0)):=zR l;have am:v.ownBlock≠some w.heap.size:=λe=>by have:=(p.lt _ e).1;omega
    have an:v.ownBlock≠some (w.heap.size+1):=λe=>by have:=(p.lt _ e).1;omega
    have U:(wr.alloc (.cells #[.string (txS x)] 9)).drew.cell? ⟨m,r+k,none⟩=some (.string x):=zr hA T;have aB:m<w.heap.size:=by
     rcases A.strs.cells with h|⟨aJ,aK,e,h⟩
     .rw[h]at f;simp at f
     .cases e;exact bL_ (h k f)
    have aj:=eO_ func66;go_region_law (first|(refine zdF rfl 66 _ _ rfl [.string x] rfl aj (λu E=>u=.string (txS x)/\E=_) ((zyL x _ ad).mono (λe E ⟨he,ap⟩=>⟨_,he,rfl,ap.symm⟩)) ?_;rintro u E⟨rfl,rfl⟩)|(refine zlq rfl _ _ 45 rfl (w.heap.size+3) 9 i (.string ByteArray.empty) 1 16 underlying45 hi aq ar au rfl (by decide) _ k _ rfl (oA_ p.drew _) ⟨wr.heap.size,0,none⟩ 1 1 [.string (txS x)] rfl rfl (zag _ _ _) (zs7 [_]) (by unfold maxLen;omega) (by omega) (zB L _) ?_;intro v1 w2 ab B;have s0:=(B.block _ (ze ae) (λe=>am e.symm)).trans ae;have s1:=(B.block _ (ze af) (λe=>an e.symm)).trans af;have N:=(B.block _ (ze ag) (λe=>ao e.symm)).trans ag;have p2:w2.cell? ⟨w.heap.size+2,2,none⟩=some v:=zb N 2 _ rfl;have p4:w2.cell? ⟨w.heap.size,4,none⟩=some (.slice (some ⟨m,r,none⟩) ss.length o):=zb s0 4 _ rfl;have aI:w2.cell? ⟨m,r+k,none⟩=some (.string x):=(cB_ (B.block m (bL_ U) (λe=>by have:=(p.lt _ e.symm).1;omega))).trans U;have aH:=zd N 2;obtain⟨s,t,hq⟩:=zH ab;subst hq))
    all_goals
     go_wp2_with fail
     go_roundw
     case rel=>
      have ai:B_ w w2:=Below.grown (d.drew.alloc d.size _) B (zB d.size _) (λq e=>by have:=(p.lt q e).1;omega);have Y:∃(C:Nat) (v':Value),C<=ss.length/\C<=4/\(Value.int .i64 ((k:Int)+1))=I_ C/\B_ w (w2.setCell ⟨w.heap.size+2,2,none⟩ (.slice s (k+1) t))/\(w2.setCell ⟨w.heap.size+2,2,none⟩ (.slice s (k+1) t)).heap[w.heap.size]? = some (.cells #[I_ z,I_ c,I_ b,I_ rc,.slice (some ⟨m,r,none⟩) ss.length o] 80 (0,0))/\(w2.setCell ⟨w.heap.size+2,2,none⟩ (.slice s (k+1) t)).heap[w.heap.size+1]? = some (.cells #[I_ 0,I_ 0,O_] 58 (0,0))/\(w2.setCell ⟨w.heap.size+2,2,none⟩ (.slice s (k+1) t)).heap[w.heap.size+2]? = some (.cells #[I_ (pk c 4),I_ (1+pk b 9),v'] 58 (0,0))/\(w2.setCell ⟨w.heap.size+2,2,none⟩ (.slice s (k+1) t)).ownsRow (w.heap.size+3) 9 1 v' C (sv ((ss.take C).map txS)):=
       ⟨k+1,.slice s (k+1) t,by omega,by omega,by go_num,ai.setCell (by simp) _,zh s0 (by omega),zh s1 (by omega),by simpa using hS_ _ _ 2 _ _ (.slice s (k+1) t) N,by rw[ac.out];exact zQ (by simpa[sv]using ab) _ _ _ (by omega)⟩
      first|exact Y|((repeat apply Exists.intro);exact⟨Y,rfl⟩)
     case measure=>simp[intOf];omega
   .obtain⟨za,zc,hz⟩:=zH p;subst hz;have p0:=zb l 0 (I_ (pk c 4)) rfl;have p1:=zb l 1 (I_ (1+pk b 9)) rfl;have G:=zb g 0 (I_ 0) rfl;have H:=zb g 1 (I_ 0) rfl;have I:=zb g 2 (O_) rfl;have ah:w.heap.size+1<wr.heap.size:=by omega
    have f0:=zd g 0;have f1:=zd g 1;have f2:=zd g 2;by_cases h0:k=0
    .subst h0;have al:ss=[]:=eN_ (by omega);subst al;go_wp2_with fail
     refine bP_ (v:=.agg #[I_ (pk c 4),I_ (1+pk b 9),.slice (some ⟨wr.heap.size,0,none⟩) 1 1]) (by simp[results,results40,go_sem,G,H,I,ah]) rfl ⟨_,_,rfl,?_,?_⟩
     .have hO:=World.ownsRow_lit (base:=w.heap.size) (e:=9) (size:=1) ((((wr.setCell ⟨w.heap.size+2,2,none⟩ (.slice (some ⟨wr.heap.size,0,none⟩) 1 1)).setCell ⟨w.heap.size+1,0,none⟩ (I_ (pk c 4))).setCell ⟨w.heap.size+1,1,none⟩ (I_ (1+pk b 9))).setCell ⟨w.heap.size+1,2,none⟩ (.slice (some ⟨wr.heap.size,0,none⟩) 1 1)) (sv [⟨#[116]⟩]).toArray 1 (by simpa using d.size) (by decide) rfl
      simpa[zdl,sv]using hO
     .exact((((d.setCell (by simp) _).setCell (by simp) _).setCell (by simp) _).setCell (by simp) _).alloc (by simpa using d.size) _
    .have av:¬(k:Int)=0:=by omega
     have J:Hid (zdl ss=(ss.take k).map txS):=by
      show _=_;have ak:ss≠[]:=λe=>by subst e;simp at hk;omega
      have:ss.take 4=ss.take k:=by
       by_cases h4:k=4
       .rw[h4]
       .have:k=ss.length:=by omega
        rw[tL_ (by omega),tL_ (by omega)]
      rw[zdl,if_neg ak,this]
     have hl:Hid (k=(zdl ss).length):=by show _=_;rw[J.out];simp;omega
     by_cases h4:k<ss.length;obtain rfl:k=4:=by omega
     have aa:(4:Int)<ss.length:=by omega
     go_wp2_with fail
     refine bP_ (v:=.agg #[I_ (pk c 4),I_ (1+pk b 9),.slice za 4 zc]) (by simp[results,results40,go_sem,G,H,I]) rfl ?_
     rotate_left
     have aa:¬(k:Int)<ss.length:=by omega
     go_wp2_with fail
     refine bP_ (v:=.agg #[I_ (pk c 4),I_ (1+pk b 9),.slice za k zc]) (by simp[results,results40,go_sem,G,H,I]) rfl ?_
     rotate_left
     all_goals
      rw[<-hl.out,J.out];exact⟨_,_,rfl,ownsRow_base' (zQ (zQ (zQ p _ _ _ (by omega)) _ _ _ (by omega)) _ _ _ (by omega)) (by omega),(((d.setCell (by simp) _).setCell (by simp) _).setCell (by simp) _)⟩
theorem zmH (ss:List ByteArray):(1<=(zdl ss).length/\(zdl ss).length<=4)/\∀s∈zdl ss,1<=s.size/\s.size<=20:=by
 unfold zdl;by_cases h:ss=[]
 .rw[if_pos h];exact⟨by simp,λs b=>by simp at b;subst b;decide⟩
 .rw[if_neg h];have:0<ss.length:=List.length_pos_iff.2 h;refine⟨by simp;omega,λs b=>?_⟩;simp only[List.mem_map]at b;obtain⟨x,_,rfl⟩:=b;exact zwl x
theorem zsv (b c:Int)(ss:List ByteArray):zbk (pk b 4) (1+pk c 9) (zdl ss)=0:=by
 obtain⟨l,m⟩:=zW b 4 (by decide);obtain⟨o,p⟩:=zW c 9 (by decide);obtain⟨⟨g,j⟩,d⟩:=zmH ss;rw[zbk,if_neg (by omega),if_neg (by omega),if_pos];rw[List.all_eq_true];exact λs f=>by simpa[zbM]using d s f
def zbx (n m:Int):List Int:=(((List.replicate 32 0).set 0 (pk n 256)).set 1 (m % 256)).set 31 1
theorem zht (n m:Int):(zbx n m).length=32:=by simp[zbx]
theorem zwm (w:World):(Instr.makeSlice 51 (I_ 32) (I_ 32)).run prog w=.ok (.slice (some ⟨w.heap.size,0,none⟩) 32 32) (w.alloc (.cells (ub (List.replicate 32 0)).toArray 5)):=by kernel_rfl
theorem zph (l:List Int)(i:Nat)(x:Int):(ub l).set i (.int .u8 x)=ub (l.set i x):=by simp[ub,List.map_set]
theorem zlj (n m:Int)(w:World)(c:I64 n) :
  Calls prog 42 #[I_ n,I_ m] w λe w'=>e=.returned (.slice (some ⟨w.heap.size,0,none⟩) 32 32)/\w'.ownsRow w.heap.size 5 1 (.slice (some ⟨w.heap.size,0,none⟩) 32 32) 32 (ub (zbx n m))/\B_ w w':=by
 have q:=λw=>zwm w;have b:=World.ownsRow_lit (base:=w.heap.size) (e:=5) (size:=1) w (ub (List.replicate 32 0)).toArray 32 (nR_ _) (by decide) rfl;have f:=(World.ownsRow.cellAt b 0 (by omega));have g:=(World.ownsRow.cellAt b 1 (by omega));have j:=(World.ownsRow.cellAt b 31 (by omega));have l:=World.ownsRow.frozenAt b 0;have o:=World.ownsRow.frozenAt b 1;have p:=World.ownsRow.frozenAt b 31;obtain⟨r,s⟩:=zW n 256 (by decide);have d:=World.ownsRow_lit (base:=w.heap.size) (e:=5) (size:=1) w (ub (zbx n m)).toArray 32 (nR_ _) (by decide) (by simp[ub,zbx]);go_in;go_wp2_with (go_at_call 27;refine(zaV n 256 _ c.1 c.2 (by decide) (by decide)).mono ?_;rintro e w'⟨rfl,rfl⟩)
 go_ret;refine⟨rfl,?_,(bR_ _ _).alloc (nR_ _) _⟩;rw[zph,zph,zph];exact d
variable {w w':World}{B base rc:Nat}{qs:List zi}{ra:Option Addr}{xs:List Value}
def zhR (rc:Int):List (List Int):=(List.range (pk rc 4).toNat).map λ(i:Nat)=>zbx rc i
def zfY (ra rb rc:Int):List (List Int):=if pk rb 9=0 then []else(List.range (3+pk rc 2).toNat).map λ(i:Nat)=>zbx ra (10+i)
theorem z8.farH {v:Value}(h:z8 w B v qs)(b j:Nat)(x:Value)(t:b<B):z8 (w.setCell ⟨b,j,none⟩ x) B v qs:=λp s=>by
 obtain⟨c,l⟩:=h p s
 refine⟨⟨c.le,c.max,c.some,c.nil,?_⟩,λd f e=>?_⟩
 .rcases c.bytes with g|⟨d,f,e,g⟩
  .exact .inl g
  .exact .inr ⟨d,f,e,λk r=>(World.cell?_setCell_far _ _ _ _ (by have:=(l d f e).1;show b≠d;omega)).trans (g k r)⟩
 .obtain⟨m,o,q⟩:=l d f e
  exact⟨m,by simpa using o,q⟩
theorem Off.far {v:Value}(h:Off w v ra qs)(b j:Nat)(x:Value):Off (w.setCell ⟨b,j,none⟩ x) v ra qs:=
 ⟨λc d e=>⟨by simpa using(h.row c d e).1,(h.row c d e).2⟩,λp f c d e=>⟨by simpa using(h.each p f c d e).1,(h.each p f c d e).2⟩⟩
theorem Off.below {v:Value}(h:Off w v ra qs)(d:B_ w w'):Off w' v ra qs:=
 ⟨λb c e=>⟨nL_ (h.row b c e).1 d.size,(h.row b c e).2⟩,λp f b c e=>⟨nL_ (h.each p f b c e).1 d.size,(h.each p f b c e).2⟩⟩
theorem zkS {m:Nat}{e:TypeId}(h:w.ownsRow base e 1 (.slice ra m rc) m xs)(d:z8 w base (.slice ra m rc) qs):Off w (O_) ra qs:=
 ⟨λb c e=>⟨by subst e;exact(h.lt b rfl).2,λe=>by cases e⟩,λp f b c e=>⟨((d p f).2 b c e).2.1,λe=>by cases e⟩⟩
theorem znt (w:World)(B:Nat)(v:Value):z8 w B v []:=λp b=>by cases b
theorem zkT (X b c rc:Int)(Y:Option Addr)(n T:Nat)(w:World)(h2:I64 b)(h3:I64 c)(H:I64 rc) :
  Calls prog 41 #[.agg #[I_ X,I_ b,I_ c,I_ rc,.slice Y n T]] w λe w'=>∃t G bl pa pc pl,e=.returned (.agg #[I_ (pk b 4),I_ (1+pk c 9),.slice t (List.length bl) G,.slice pa (List.length pl) pc])/\zx w' t G bl/\zx w' pa pc pl/\Off w' (O_) t bl/\Off w' (O_) pa pl/\bl.map (·.bs)=zhR rc/\pl.map (·.bs)=zfY b c rc/\B_ w w'/\za1 w.heap.size t bl/\za1 w.heap.size pa pl:=by
 obtain⟨aV,aW⟩:=zW b 4 (by decide);obtain⟨aX,aY⟩:=zW c 9 (by decide);obtain⟨aZ,a0⟩:=zW rc 4 (by decide);obtain⟨a1,a2⟩:=zW rc 2 (by decide);have q0:=hX_ w (.cells #[I_ X,I_ b,I_ c,I_ rc,.slice Y n T] 80) (.cells #[I_ 0,I_ 0,O_,O_] 61);have k1:=zb q0 1 _ rfl;have k2:=zb q0 2 _ rfl;have hw:IntKind.i64.wrap (1+pk c 9)=1+pk c 9:=by rw[IntKind.wrap_i64];omega
 go_in;go_upto_region 1 with(fail)
 go_cut [3] (λv wx=>v=(P_ (w.heap.size+2) 0)/\B_ w wx/\R_ wx w.heap.size #[I_ X,I_ b,I_ c,I_ rc,.slice Y n T] 80/\R_ wx (w.heap.size+1) #[I_ 0,I_ 0,O_,O_] 61/\R_ wx (w.heap.size+2) #[I_ (pk b 4),I_ (1+pk c 9),O_,O_] 61)
 case first=>
  go_region_held3 (λw'=>w'.cell? ⟨w.heap.size,1,none⟩=some (I_ b)/\w'.cell? ⟨w.heap.size,2,none⟩=some (I_ c)) (go_keep) (first|(go_at_call 27;refine(zaV _ _ _ (by first|exact h2.1|exact h3.1) (by first|exact h2.2|exact h3.2) (by omega) (by omega)).mono ?_;rintro e d⟨rfl,rfl⟩))
  all_goals
   go_wp2_with fail
   go_meet
   case rel=>
    refine⟨rfl,((((bR_ _ _).alloc (nR_ _) _).alloc (by simp) _).alloc (by simp;omega) _).drew,?_,?_,?_⟩
    .exact zR (zR (hN_ w _))
    .exact zR (zco _ _ _ (by simp))
    .exact zco _ _ _ (by simp)
 case rest=>
  obtain⟨rfl,D,I,f,r⟩:=hcut;clear k1 k2 q0 hw;obtain⟨i,hi,az,aA,aB⟩:=info_parts zhc;have ax:=eO_ func42;have aq:Hid _:=ax;clear ax;go_wp2_with fail
  go_loopw [4] (λj wr=>∃(k:Nat) (v:Value) (B:List zi),(k:Int)<=pk rc 4/\j=I_ k/\B_ w wr/\R_ wr w.heap.size #[I_ X,I_ b,I_ c,I_ rc,.slice Y n T] 80/\R_ wr (w.heap.size+1) #[I_ 0,I_ 0,O_,O_] 61/\R_ wr (w.heap.size+2) #[I_ (pk b 4),I_ (1+pk c 9),v,O_] 61/\wr.ownsRow (w.heap.size+3) 51 1 v k (pv B)/\z8 wr (w.heap.size+3) v B/\Hid (B.map (·.bs)=(List.range k).map λ(i:Nat)=>zbx rc i)) (λj _=>(pk rc 4-intOf j).toNat)
  case atStart=>exact⟨0,_,[],by omega,rfl,D,I,f,r,oN_ _ _ _ _,znt _ _ _,by show _=_;simp⟩
  case round=>
   clear D I f r;obtain⟨k,v,B,hk,rfl,D,I,f,r,A,N,V⟩:=hrel;have c3:=zb I 3 (I_ rc) rfl;have o2:wr.cell? ⟨w.heap.size+2,2,none⟩=some v:=zb r 2 _ rfl;have aL:=zd r 2;have hN:w.heap.size+2<wr.heap.size:=ze r;by_cases hlt:(k:Int)<pk rc 4
   .have an:v.ownBlock≠some (w.heap.size+2):=λe=>by have:=(A.lt _ e).1;omega
    have al:v.ownBlock≠some w.heap.size:=λe=>by have:=(A.lt _ e).1;omega
    have am:v.ownBlock≠some (w.heap.size+1):=λe=>by have:=(A.lt _ e).1;omega
    go_wp2_with (go_at_call 27;refine(zaV rc 4 _ H.1 H.2 (by omega) (by omega)).mono ?_;rintro e d⟨rfl,rfl⟩)
    go_region_law (first|(refine zdF rfl 42 _ _ rfl [I_ rc,I_ k] rfl aq.out (λu d=>u=.slice (some ⟨wr.heap.size,0,none⟩) 32 32/\d.ownsRow wr.heap.size 5 1 u 32 (ub (zbx rc k))/\B_ wr d) ((zlj rc k _ H).mono (λe d ⟨he,L,o⟩=>⟨_,he,rfl,L,zbE o⟩)) ?_;rintro u d⟨rfl,L,o⟩;have s0:=zk o I;have s1:=zk o f;have M:=zk o r;have p2:d.cell? ⟨w.heap.size+2,2,none⟩=some v:=zb M 2 _ rfl;have p3:d.cell? ⟨w.heap.size,3,none⟩=some (I_ rc):=zb s0 3 _ rfl;have a3:=zd M 2;have ad:w.heap.size+2<d.heap.size:=ze M;have ac:=zw A o)|(refine zcc rfl _ _ 59 rfl (w.heap.size+3) 51 i (O_) 1 24 underlying59 hi az aA aB rfl (by decide) _ k _ rfl (oA_ ac _) ⟨d.heap.size,0,none⟩ 1 1 [.slice (some ⟨wr.heap.size,0,none⟩) 32 32] rfl rfl (zag _ _ _) (by intro u hu;simp at hu;subst hu;rfl) (by unfold maxLen;omega) (by omega) (zB ad _) ?_;intro v1 s ab C;have t0:=C.row (zR s0) al;have t1:=C.row (zR s1) am;have Z:=C.row (zR M) an;have g2:s.cell? ⟨w.heap.size+2,2,none⟩=some v:=zb Z 2 _ rfl;have aN:=zd Z 2;obtain⟨g,l,hq⟩:=zH ab;subst hq))
    all_goals
     go_wp2_with fail
     go_roundw
     case rel=>
      have ai:B_ w s:=(D.trans (o.mono D.size)).trans (C.alloc.below (nT_ D.size o.size) (λq e=>by have:=(ac.lt q e).1;omega));have ak:=(zc0 L).2;have ah:=N.more (q:=⟨some ⟨wr.heap.size,0,none⟩,32,zbx rc k⟩) (by omega) A o L ak C;have hR:∃(k':Nat) (R:Value) (ap:List zi),(k':Int)<=pk rc 4/\(Value.int .i64 ((k:Int)+1))=I_ k'/\B_ w (s.setCell ⟨w.heap.size+2,2,none⟩ (.slice g (k+1) l))/\(s.setCell ⟨w.heap.size+2,2,none⟩ (.slice g (k+1) l)).heap[w.heap.size]? = some (.cells #[I_ X,I_ b,I_ c,I_ rc,.slice Y n T] 80 (0,0))/\(s.setCell ⟨w.heap.size+2,2,none⟩ (.slice g (k+1) l)).heap[w.heap.size+1]? = some (.cells #[I_ 0,I_ 0,O_,O_] 61 (0,0))/\(s.setCell ⟨w.heap.size+2,2,none⟩ (.slice g (k+1) l)).heap[w.heap.size+2]? = some (.cells #[I_ (pk b 4),I_ (1+pk c 9),R,O_] 61 (0,0))/\(s.setCell ⟨w.heap.size+2,2,none⟩ (.slice g (k+1) l)).ownsRow (w.heap.size+3) 51 1 R k' (pv ap)/\z8 (s.setCell ⟨w.heap.size+2,2,none⟩ (.slice g (k+1) l)) (w.heap.size+3) R ap/\Hid (ap.map (·.bs)=(List.range k').map λ(i:Nat)=>zbx rc i):=
       ⟨k+1,.slice g (k+1) l,B++[⟨some ⟨wr.heap.size,0,none⟩,32,zbx rc k⟩],by omega,by go_num,ai.setCell (by simp) _,zh t0 (by omega),zh t1 (by omega),by simpa using hS_ _ _ 2 _ _ (.slice g (k+1) l) Z,zQ (by simpa[pv,zi.val,zht]using ab) _ _ _ (by omega),ah.farH _ _ _ (by omega),by show _=_;rw[List.map_append,V.out,List.range_succ,List.map_append];rfl⟩
      first|exact hR|((repeat apply Exists.intro);exact⟨hR,rfl⟩)
     case measure=>simp[intOf];omega
   .have U:(k:Int)=pk rc 4:=by omega
    obtain⟨t,G,hv,hl,hL,E⟩:=zcI A N;subst hv;have ae:=hL (by omega);have ag:=zkS A N;have aw:Hid (B.map (·.bs)=zhR rc):=by show _=_;rw[V.out,zhR,<-U];rfl
    have Hl:Hid (k=B.length):=hl;have Hk:Hid ((k:Int)=pk rc 4):=U;have aQ:k<=3:=by omega
    clear hl U hL V;have d0:=zb f 0 (I_ 0) rfl;have d1:=zb f 1 (I_ 0) rfl;have d2:=zb f 2 (O_) rfl;have d3:=zb f 3 (O_) rfl;have f0:=zd f 0;have f1:=zd f 1;have f2:=zd f 2;have f3:=zd f 3;have e0:=zb r 0 (I_ (pk b 4)) rfl;have e1:=zb r 1 (I_ (1+pk c 9)) rfl;have e3:=zb r 3 (O_) rfl;by_cases hrd:pk c 9=0;have aj:Hid (zfY b c rc=[]):=by show _=_;rw[zfY,if_pos hrd]
    have aK:¬(1:Int)<1+pk c 9:=by omega
    have aM:Hid (pk c 9=0):=hrd;clear hrd
    rotate_left
    have aK:(1:Int)<1+pk c 9:=by omega
    have aj:Hid (zfY b c rc=(List.range (3+pk rc 2).toNat).map λ(i:Nat)=>zbx b (10+i)):=by show _=_;rw[zfY,if_neg hrd]
    rotate_left
    all_goals go_wp2_with (go_at_call 27;refine(zaV rc 4 _ H.1 H.2 (by omega) (by omega)).mono ?_;rintro e d⟨rfl,rfl⟩)
    .have J:w.heap.size+1<w.heap.size+3:=by omega
     refine bP_ (v:=.agg #[I_ (pk b 4),I_ (1+pk c 9),.slice t k G,O_]) (by simp[results,results41,go_sem,d0,d1,d2,d3]) rfl ?_;refine⟨t,G,B,none,0,[],by rw[<-Hl.out];rfl,?_,?_,?_,?_,aw.out,by rw[aj.out];rfl,?_,⟨λy z e=>by have:=E.row y z e;omega,λp F y z e=>by have:=E.each p F y z e;omega⟩,⟨(λy z e=>by cases e),(λp F=>by cases F)⟩⟩
     .exact(((ae.setCell E _ _ _ J).setCell E _ _ _ J).setCell E _ _ _ J).setCell E _ _ _ J
     .exact⟨nR_ _,by decide,by decide,.inl rfl,⟨.inl rfl,λp F=>by cases F⟩⟩
     .exact(((ag.far _ _ _).far _ _ _).far _ _ _).far _ _ _
     .exact⟨(λy z e=>by cases e),(λp F=>by cases F)⟩
     .exact((((D.setCell (by simp) _).setCell (by simp) _).setCell (by simp) _).setCell (by simp) _)
    .rename World=>wl
     have ay:Off wl (O_) t B:=ag;have aT:w.heap.size+3<=wl.heap.size:=hN;go_loopw [5] (λj wr=>∃(m:Nat) (v:Value) (O:List zi),(m:Int)<=3+pk rc 2/\j=I_ m/\B_ w wr/\R_ wr w.heap.size #[I_ X,I_ b,I_ c,I_ rc,.slice Y n T] 80/\R_ wr (w.heap.size+1) #[I_ 0,I_ 0,O_,O_] 61/\R_ wr (w.heap.size+2) #[I_ (pk b 4),I_ (1+pk c 9),.slice t k G,v] 61/\wr.ownsRow wl.heap.size 51 1 v m (pv O)/\z8 wr wl.heap.size v O/\Hid (O.map (·.bs)=(List.range m).map λ(i:Nat)=>zbx b (10+i))/\zx wr t G B/\Off wr v t B/\wl.heap.size<=wr.heap.size) (λj _=>(3+pk rc 2-intOf j).toNat)
     case atStart=>exact⟨0,_,[],by omega,rfl,D,I,f,r,oN_ _ _ _ _,znt _ _ _,(by show _=_;simp),ae,ay,nR_ _⟩
     case round=>
      clear D I f r N A ae ag ay c3 o2 aL hN d0 d1 d2 d3 f0 f1 f2 f3 e0 e1 e3;obtain⟨m,v,O,hm,rfl,D,I,f,r,A,N,V,au,af,ar⟩:=hrel;have c3:=zb I 3 (I_ rc) rfl;have c1:=zb I 1 (I_ b) rfl;have o3:wr.cell? ⟨w.heap.size+2,3,none⟩=some v:=zb r 3 _ rfl;have aU:=zd r 3;have hN:w.heap.size+2<wr.heap.size:=ze r;by_cases hlt:(m:Int)<3+pk rc 2;have an:v.ownBlock≠some (w.heap.size+2):=λe=>by have:=(A.lt _ e).1;omega
      have al:v.ownBlock≠some w.heap.size:=λe=>by have:=(A.lt _ e).1;omega
      have am:v.ownBlock≠some (w.heap.size+1):=λe=>by have:=(A.lt _ e).1;omega
      have aS:IntKind.i64.wrap (10+(m:Int))=10+(m:Int):=by rw[IntKind.wrap_i64];omega
      rotate_left
      have U:(m:Int)=3+pk rc 2:=by omega
      obtain⟨g,l,hv,hl,hL,aa⟩:=zcI A N;subst hv;have aF:=hL (by omega);have aI:=zkS A N;have aJ:Hid (O.map (·.bs)=zfY b c rc):=by show _=_;rw[V.out,aj.out,<-U];rfl
      have aC:Hid (m=O.length):=hl;have aG:Off wr (O_) t B:=⟨λy z e=>⟨(af.row y z e).1,λe=>by cases e⟩,λp F y z e=>⟨(af.each p F y z e).1,λe=>by cases e⟩⟩;have aR:m<=4:=by omega
      have Hm:Hid ((m:Int)=3+pk rc 2):=U;clear hl U hL V;have d0:=zb f 0 (I_ 0) rfl;have d1:=zb f 1 (I_ 0) rfl;have d2:=zb f 2 (O_) rfl;have d3:=zb f 3 (O_) rfl;have f0:=zd f 0;have f1:=zd f 1;have f2:=zd f 2;have f3:=zd f 3;have e0:=zb r 0 (I_ (pk b 4)) rfl;have e1:=zb r 1 (I_ (1+pk c 9)) rfl;have e2:=zb r 2 (.slice t k G) rfl
      rotate_left
      all_goals go_wp2_with (go_at_call 27;refine(zaV rc 2 _ H.1 H.2 (by omega) (by omega)).mono ?_;rintro e d⟨rfl,rfl⟩)
      .go_region_law (first|(refine zdF rfl 42 _ _ rfl [I_ b,I_ (10+(m:Int))] rfl aq.out (λu d=>u=.slice (some ⟨wr.heap.size,0,none⟩) 32 32/\d.ownsRow wr.heap.size 5 1 u 32 (ub (zbx b (10+m)))/\B_ wr d) ((zlj b (10+m) _ h2).mono (λe d ⟨he,L,o⟩=>⟨_,he,rfl,L,zbE o⟩)) ?_;rintro u d⟨rfl,L,o⟩;have s0:=zk o I;have s1:=zk o f;have M:=zk o r;have p3:d.cell? ⟨w.heap.size+2,3,none⟩=some v:=zb M 3 _ rfl;have p1:d.cell? ⟨w.heap.size,1,none⟩=some (I_ b):=zb s0 1 _ rfl;have a4:=zd M 3;have aP:w.heap.size+2<d.heap.size:=ze M;have ad:wl.heap.size<=d.heap.size:=nT_ ar o.size;have ac:=zw A o)|(refine zcc rfl _ _ 59 rfl wl.heap.size 51 i (O_) 1 24 underlying59 hi az aA aB rfl (by decide) _ m _ rfl (oA_ ac _) ⟨d.heap.size,0,none⟩ 1 1 [.slice (some ⟨wr.heap.size,0,none⟩) 32 32] rfl rfl (zag _ _ _) (by intro u hu;simp at hu;subst hu;rfl) (by unfold maxLen;omega) (by omega) (zB ad _) ?_;intro v1 s ab C;have t0:=C.row (zR s0) al;have t1:=C.row (zR s1) am;have Z:=C.row (zR M) an;have g3:s.cell? ⟨w.heap.size+2,3,none⟩=some v:=zb Z 3 _ rfl;have aO:=zd Z 3;obtain⟨g,l,hq⟩:=zH ab;subst hq))
       all_goals
        go_wp2_with fail
        go_roundw
        case rel=>
         have ai:B_ w s:=(D.trans (o.mono D.size)).trans (C.alloc.below (nT_ D.size o.size) (λq e=>by have:=(ac.lt q e).1;omega));have ak:=(zc0 L).2;have ah:=N.more (q:=⟨some ⟨wr.heap.size,0,none⟩,32,zbx b (10+m)⟩) ar A o L ak C;have aD:=zC d (.cells #[.slice (some ⟨wr.heap.size,0,none⟩) 32 32] 51);have av:=(af.below o).alloc (.cells #[.slice (some ⟨wr.heap.size,0,none⟩) 32 32] 51);have aE:=C.list ((au.below o).below aD) av;have aH:=C.off av;have hR:∃(m':Nat) (R:Value) (ao:List zi),(m':Int)<=3+pk rc 2/\(Value.int .i64 ((m:Int)+1))=I_ m'/\B_ w (s.setCell ⟨w.heap.size+2,3,none⟩ (.slice g (m+1) l))/\(s.setCell ⟨w.heap.size+2,3,none⟩ (.slice g (m+1) l)).heap[w.heap.size]? = some (.cells #[I_ X,I_ b,I_ c,I_ rc,.slice Y n T] 80 (0,0))/\(s.setCell ⟨w.heap.size+2,3,none⟩ (.slice g (m+1) l)).heap[w.heap.size+1]? = some (.cells #[I_ 0,I_ 0,O_,O_] 61 (0,0))/\(s.setCell ⟨w.heap.size+2,3,none⟩ (.slice g (m+1) l)).heap[w.heap.size+2]? = some (.cells #[I_ (pk b 4),I_ (1+pk c 9),.slice t k G,R] 61 (0,0))/\(s.setCell ⟨w.heap.size+2,3,none⟩ (.slice g (m+1) l)).ownsRow wl.heap.size 51 1 R m' (pv ao)/\z8 (s.setCell ⟨w.heap.size+2,3,none⟩ (.slice g (m+1) l)) wl.heap.size R ao/\Hid (ao.map (·.bs)=(List.range m').map λ(i:Nat)=>zbx b (10+i))/\zx (s.setCell ⟨w.heap.size+2,3,none⟩ (.slice g (m+1) l)) t G B/\Off (s.setCell ⟨w.heap.size+2,3,none⟩ (.slice g (m+1) l)) R t B/\wl.heap.size<=(s.setCell ⟨w.heap.size+2,3,none⟩ (.slice g (m+1) l)).heap.size:=
          ⟨m+1,.slice g (m+1) l,O++[⟨some ⟨wr.heap.size,0,none⟩,32,zbx b (10+m)⟩],by omega,by go_num,ai.setCell (by simp) _,zh t0 (by omega),zh t1 (by omega),by simpa using hS_ _ _ 3 _ _ (.slice g (m+1) l) Z,zQ (by simpa[pv,zi.val,zht]using ab) _ _ _ (by omega),ah.farH _ _ _ (by omega),(by show _=_;rw[List.map_append,V.out,List.range_succ,List.map_append];rfl),aE.setCell E _ _ _ (by omega),aH.far _ _ _,by simpa using nT_ (zB ad _) C.grown.size⟩
         first|exact hR|((repeat apply Exists.intro);exact⟨hR,rfl⟩)
        case measure=>simp[intOf];omega
      .have J:w.heap.size+1<w.heap.size+3:=by omega
       have g2:w.heap.size+1<wl.heap.size:=by omega
       refine bP_ (v:=.agg #[I_ (pk b 4),I_ (1+pk c 9),.slice t k G,.slice g m l]) (by simp[results,results41,go_sem,d0,d1,d2,d3]) rfl ?_;refine⟨t,G,B,g,l,O,by rw[<-Hl.out,<-aC.out],?_,?_,?_,?_,aw.out,aJ.out,?_,⟨λy z e=>by have:=E.row y z e;omega,λp F y z e=>by have:=E.each p F y z e;omega⟩,⟨λy z e=>by have:=aa.row y z e;omega,λp F y z e=>by have:=aa.each p F y z e;omega⟩⟩
       .exact(((au.setCell E _ _ _ J).setCell E _ _ _ J).setCell E _ _ _ J).setCell E _ _ _ J
       .exact(((aF.setCell aa _ _ _ g2).setCell aa _ _ _ g2).setCell aa _ _ _ g2).setCell aa _ _ _ g2
       .exact(((aG.far _ _ _).far _ _ _).far _ _ _).far _ _ _
       .exact(((aI.far _ _ _).far _ _ _).far _ _ _).far _ _ _
       .exact((((D.setCell (by simp) _).setCell (by simp) _).setCell (by simp) _).setCell (by simp) _)
variable {i:Int}
theorem zhu (n m:Int):∀x∈zbx n m,0<=x/\x<=255:=by
 obtain⟨c,d⟩:=zW n 256 (by decide);intro x b;rcases List.mem_or_eq_of_mem_set b with b|rfl
 .rcases List.mem_or_eq_of_mem_set b with b|rfl
  .rcases List.mem_or_eq_of_mem_set b with b|rfl
   .rw[List.mem_replicate]at b;omega
   .omega
  .omega
 .omega
theorem zuG {a:Int}{j:Int}(c:0<=i/\i<256)(d:0<=j/\j<256)(h:zbx a i=zbx a j):i=j:=by
 have b:(zbx a i)[1]? = (zbx a j)[1]?:=by rw[h]
 simp[zbx]at b;omega
theorem znu (b:List zi)(a c:Int)(n:Nat)(r:0<=c/\c+n<=256)(h:b.map (·.bs)=(List.range n).map λ(i:Nat)=>zbx a (c+i)):zb8 b=0:=by
 have s:b.length=n:=by have:=congrArg List.length h;simpa using this
 have d:∀k,k<b.length->(zcT b k).bs=zbx a (c+k):=by
  intro k f;rw[zgQ b k f];have l:(b.map (·.bs))[k]? = ((List.range n).map λ(i:Nat)=>zbx a (c+i))[k]?:=by rw[h]
  simp[f,show k<n by omega]at l;exact l
 have o:∀k,k<=b.length->zbn b k=0:=by
  intro k
  induction k with
  | zero=>intro _;rfl
  | succ k ih=>
   intro f;rw[zbn,ih (by omega)];simp only[ne_eq,not_true_eq_false,if_false];have q:zgm b k=false:=by
    rw[zgm,List.any_eq_false];intro j p;rw[List.mem_range]at p;rw[d j (by omega),d k (by omega)];intro e;have g:=of_decide_eq_true e;unfold txL at g;have m:zbx a (c+j)=zbx a (c+k):=ziD (zhu _ _) (zhu _ _) (zhf g);have:=zuG (by omega) (by omega) m;omega
   rw[zcF,d k (by omega),zht,q]
   simp
 exact o b.length (nR_ _)
theorem zkU (c d rc:Int)(bl pl:List zi)(f:bl.map (·.bs)=zhR rc)(b:pl.map (·.bs)=zfY c d rc):zO (pk c 4) (1+pk d 9) bl pl=0:=by
 obtain⟨o,p⟩:=zW c 4 (by decide);obtain⟨q,r⟩:=zW d 9 (by decide);obtain⟨s,t⟩:=zW rc 4 (by decide);obtain⟨u,y⟩:=zW rc 2 (by decide);have m:bl.length=(pk rc 4).toNat:=by have:=congrArg List.length f;simpa[zhR]using this
 have g:zb8 bl=0:=znu bl rc 0 (pk rc 4).toNat (by omega) (by rw[f,zhR];simp);by_cases h0:pk d 9=0
 .rw[zfY,if_pos h0]at b;have j:pl=[]:=by simpa using b
  subst j;rw[zO,if_neg (by omega),if_neg (by simp;omega),if_neg (by simp[g]),if_neg (by simp[zb8,zbn])];simp[zb9,h0]
 .rw[zfY,if_neg h0]at b;have j:pl.length=(3+pk rc 2).toNat:=by have:=congrArg List.length b;simpa using this
  have l:zb8 pl=0:=znu pl c 10 (3+pk rc 2).toNat (by omega) b;rw[zO,if_neg (by omega),if_neg (by omega),if_neg (by simp[g]),if_neg (by simp[l]),zb9,if_neg (by omega)]
def zbW (k:Int):Nat->List Int
 | 0=>[]
 | i+1=>if(i:Int)=k then zbW k i else zbW k i++[(i:Int)]
def zdB (n:Int):List Int:=zbW (pk n 5) 4
theorem zsw (k:Int)(i:Nat):(zbW k i).length<=i:=by
 induction i with
 | zero=>simp[zbW]
 | succ i ih=>
  rw[zbW]
  split
  .omega
  .simp;omega
theorem zsx (n:Int)(w:World)(u:I64 n) :
  Calls prog 43 #[I_ n] w λe w'=>∃v,e=.returned v/\w'.ownsRow w.heap.size 3 1 v (zdB n).length (iv (zdB n))/\B_ w w':=by
 obtain⟨O,R⟩:=zW n 5 (by decide);obtain⟨i,D,F,G,H⟩:=info_parts zu4;have s:=λI=>zaV n 5 I u.1 u.2 (by decide) (by decide);unfold zdB;generalize pk n 5=k at*;have z:Hid _:=s;clear s;go_in;go_wp2_with (go_at_call 27;refine(z.out _).mono ?_;rintro e U⟨rfl,rfl⟩)
 go_loopw [5,4] (λj t wr=>∃(m:Nat) (d:Value),m<=4/\j=I_ m/\d=t/\wr.ownsRow w.heap.size 3 1 d (zbW k m).length (iv (zbW k m))/\B_ w wr) (λj _ _=>4-(intOf j).toNat)
 case atStart=>exact⟨0,_,nZ_ _,rfl,rfl,oN_ _ _ _ _,bR_ _ _⟩
 case round=>
  obtain⟨m,d,N,rfl,rfl,l,g⟩:=hrel;by_cases hlt:m<4
  .have M:(m:Int)<4:=by omega
   have L:=zsw k m;by_cases he:(m:Int)=k
   .have p:Hid (zbW k (m+1)=zbW k m):=by show _=_;rw[zbW,if_pos he]
    have B:((m:Int) == k)=true:=by simpa using he
    have J:Hid ((m:Int)=k):=he;clear he;go_wp2_with fail
    go_roundw
    case rel=>
     have c:∃(b:Nat) (f:Value),b<=4/\(Value.int .i64 ((m:Int)+1))=I_ b/\f=d/\wr.ownsRow w.heap.size 3 1 f (zbW k b).length (iv (zbW k b))/\B_ w wr:=⟨m+1,d,by omega,by go_num,rfl,by rw[p.out];exact l,g⟩
     first|exact c|((repeat apply Exists.intro);exact⟨c,rfl⟩)
    case measure=>simp[intOf];omega
   .have p:Hid (zbW k (m+1)=zbW k m++[(m:Int)]):=by show _=_;rw[zbW,if_neg he]
    have B:((m:Int) == k)=false:=by simpa using he
    generalize zbW k m=T at*;have o:=g.size;go_wp2_with (at_builtin;refine wpList_append_own_at _ rfl _ _ 62 rfl w.heap.size 3 i (I_ 0) 1 8 underlying62 D F G H rfl (by decide) _ T.length _ rfl (oA_ l _) ⟨wr.heap.size,0,none⟩ 1 1 [I_ (m:Int)] rfl rfl (zag _ _ _) (zs5 [_]) (by unfold maxLen;omega) (by omega) (zB o _) ?_;intro y r E C _ _)
    go_roundw
    case rel=>
     have A:B_ w r:=Below.grown (g.alloc o _) C (zB o _) (λq e=>(l.lt q e).1);have c:∃(b:Nat) (f:Value),b<=4/\(Value.int .i64 ((m:Int)+1))=I_ b/\f=y/\r.ownsRow w.heap.size 3 1 f (zbW k b).length (iv (zbW k b))/\B_ w r:=⟨m+1,y,by omega,by go_num,rfl,by rw[p.out];simpa[iv]using E,A⟩
     first|exact c|((repeat apply Exists.intro);exact⟨c,rfl⟩)
    case measure=>simp[intOf];omega
  .obtain rfl:m=4:=by omega
   go_wp2_with fail
   go_ret;exact⟨_,rfl,l,g⟩
theorem zpi (rc:Int):∃b c d f,zdB rc=b::c::d::f/\0<=b/\b<c/\c<4/\zep (zdB rc)=0/\b<4/\(zdB rc).length<=4:=by
 obtain⟨g,j⟩:=zW rc 5 (by decide);unfold zdB;generalize pk rc 5=k at*;have h:k=0\/k=1\/k=2\/k=3\/k=4:=by omega
 rcases h with rfl|rfl|rfl|rfl|rfl
 .exact⟨1,2,3,[],by decide,by decide,by decide,by decide,by decide,by decide,by decide⟩
 .exact⟨0,2,3,[],by decide,by decide,by decide,by decide,by decide,by decide,by decide⟩
 .exact⟨0,1,3,[],by decide,by decide,by decide,by decide,by decide,by decide,by decide⟩
 .exact⟨0,1,2,[],by decide,by decide,by decide,by decide,by decide,by decide,by decide⟩
 .exact⟨0,1,2,[3],by decide,by decide,by decide,by decide,by decide,by decide,by decide⟩
end Go.Proofs.YtdnaljbnebnlhaaGreatDoor
