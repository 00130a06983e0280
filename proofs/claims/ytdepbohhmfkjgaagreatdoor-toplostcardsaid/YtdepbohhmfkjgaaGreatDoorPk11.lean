import Derived.Test.YtdepbohhmfkjgaaGreatDoorPk10
set_option maxRecDepth 100000
set_option maxHeartbeats 4000000
namespace Go.Proofs.YtdepbohhmfkjgaaGreatDoor
open Go.RowKit Go.Maps Go.WideMaps Tryz
variable {w w':World}{n:Nat}{ops:Array Oper}{Q:Exit→Act→World→Prop}{a:Act}
theorem zs9 (n:Int)(w:World):(Instr.makeMap 304 (some (I_ n))).run prog w=.ok (.map (some w.heap.size)) (w.alloc (.map #[] 0)):=by
 simp[Instr.makeMap,run_underlying underlying304,Result.andThen]
 rfl
theorem zuF (p q r:Int)(l:List Int):(mkv (p,q,r,l)).length=3+l.length:=by simp[mkv,ub];omega
theorem zuG (g:GV):∀ v∈mkv g,v.oneCell'=true:=by
 intro v b;simp only[mkv,List.mem_cons] at b;rcases b with rfl|rfl|rfl|b
 ·rfl
 ·rfl
 ·rfl
 ·obtain ⟨x,_,rfl⟩:=List.mem_map.1 b
  rfl
theorem zug:(prog.info? 307).map (·.size)=some 35:=by kernel_rfl
theorem zvA (p q r:Int)(w:World):(Instr.build 307 #[(0,I_ p),(1,I_ q),(2,I_ r)]).run prog w=.ok (.agg (mkv (p,q,r,List.replicate 32 0)).toArray) w:=by kernel_rfl
theorem zwp (w:World):∃ Z:Array Value,Z.size=35∧(Instr.alloc 307 true (.tuple #[])).run prog w=.ok (P_ w.heap.size 0) (w.alloc (.cells Z 307)):=⟨(mkv (0,0,0,List.replicate 32 0)).toArray,by simp[mkv,ub],by kernel_rfl⟩
theorem zl1 {rest:List Oper}{o:Oper}(c:o.guard=none)(x y z:Operand)(d:o.op=.build 307 #[(0,x),(1,y),(2,z)])
  (p q r:Int) (g:a.eval x=I_ p) (j:a.eval y=I_ q) (l:a.eval z=I_ r)
  (h:wpList prog ops Q rest (a.put o.dst (.agg (mkv (p,q,r,List.replicate 32 0)).toArray)) w):wpList prog ops Q (o::rest) a w:=by
 refine wpList_plain c fun K b=>?_;have f:=zvA p q r w;unfold Oper.wp;simp[execOp,d,g,j,l,f,Result.andThen];exact b _ _ h
theorem zl2 {rest:List Oper}{o:Oper}(d:o.guard=none)(f:o.op=.alloc 307)
  (h:∀ w',(∃ Z:Array Value,Z.size=35∧R_ w' w.heap.size Z 307)→B_ w w'→wpList prog ops Q rest (a.put o.dst (P_ w.heap.size 0)) w'):wpList prog ops Q (o::rest) a w:=by
 refine wpList_plain d fun K b=>?_;obtain ⟨Z,c,g⟩:=zwp w;unfold Oper.wp;simp[execOp,f,g,Result.andThen];exact b _ _ (h _ ⟨Z,c,hN_ w _⟩ ((bR_ _ _).alloc (nR_ _) _))
theorem zl3 {rest:List Oper}{o:Oper}(t:o.guard=none)(s:o.dst=none)(x y:Operand)(A:o.op=.store 307 x y)
  (g:Nat) (v:GV) (z:v.2.2.2.length=32) (D:a.eval x=(P_ g 0)) (E:a.eval y=.agg (mkv v).toArray) (F:∃ Z:Array Value,Z.size=35∧R_ w g Z 307)
  (B:Nat) (w0:World) (m:Below B w0 w) (d:B≤g)
  (h:∀ w',Hid (R_ w' g ((mkv v).toArray) 307)→Below B w0 w'→wpList prog ops Q rest a w'):wpList prog ops Q (o::rest) a w:=by
 refine wpList_plain t fun K f=>?_;obtain ⟨Z,j,c⟩:=F;have b:(mkv v).toArray.size=35:=by obtain ⟨p,q,r,l⟩:=v;simpa[z] using zuF p q r l
 refine wp_store_row _ x y A g (mkv v).toArray D E _ Z c (by rw[b];exact zug) (by rw[j,b]) (by rw[←Array.all_toList];exact List.all_eq_true.2 (fun u C=>zuG v u (by simpa using C))) ?_;rw[s];exact f _ _ (h _ (show _=_ from setRow_heap w g _ _ _ _ c) (below_setRow m d _))
theorem zlw {k:TypeId}{R:Value→Option (DataW Unit×List MemPlace)}{b:Nat}{D:DataW Unit}(h:w.ownsMap prog k R b n D)(j:B_ w w'):w'.ownsMap prog k R b n D:=by
 have l:=h.lt;obtain ⟨d,c,f,F,m,g⟩:=h;exact ⟨d,c,(j.block b l).trans f,F,m,g⟩
theorem zps (p q r:Int)(l z:List Int)(c:l.length=z.length):splice (mkv (p,q,r,z)) 3 (ub l)=mkv (p,q,r,l):=by
 have b:(ub z).drop (ub l).length=[]:=List.drop_eq_nil_of_le (by simp[ub,c]);simp only[splice,mkv,List.take_succ_cons,List.take_zero,List.cons_append,List.nil_append];rw[show 3+(ub l).length=(ub l).length+1+1+1 by omega,List.drop_succ_cons,List.drop_succ_cons,List.drop_succ_cons,b,List.append_nil]
theorem zh7 (b:List Sg)(N:Option Addr)(n am:Nat)(w:World)(hn:n=b.length)(hl:b.length≤2932031007400)(hp:zcf w N b)(C:∀ s∈b,gF s.v=0) :
  Calls prog 230 #[.slice N n am] w fun e w'=>e=.returned (.bool (decide (zA b).Nodup))∧B_ w w':=by
 subst hn;obtain ⟨K,X⟩:=zn0;have ax:=zs9;have O:Hid (∀ s∈b,gF s.v=0):=C;clear C;go_in;go_wp2_with fail
 go_loopw [12] (fun i wr=>∃ m:Nat,m≤b.length∧i=I_ m∧wr.ownsMap prog 307 (unitElem (H:=Unit)) w.heap.size m (setOf (.agg []) ((zA (b.take m)).map K))∧B_ w wr) (fun i _=>b.length-(intOf i).toNat)
 case atStart=>exact ⟨0,nZ_ _,rfl,World.ownsMap_made _ _ _ _,(bR_ _ _).alloc (nR_ _) _⟩
 case round=>
  obtain ⟨m,hm,rfl,I,B⟩:=hrel;by_cases hlt:m<b.length
  ·have L:=hp.below B;obtain ⟨r,u,rfl,Y⟩:∃ r u,N=some ⟨r,u,none⟩∧∀ j (h:j<b.length),C_ wr r (u+j*4) (I_ (b[j]).nd)∧C_ wr r (u+j*4+1) (I_ (b[j]).au)∧C_ wr r (u+j*4+2) (I_ (b[j]).rd)∧C_ wr r (u+j*4+3) (.slice (b[j]).p.sa (b[j]).p.bs.length (b[j]).p.cap):=by
    rcases L.cells with h|h
    ·rw[h] at hlt;simp at hlt
    ·exact h
   obtain ⟨c0,c1,c2,c3⟩:=Y m hlt;have hx:=L.each (b[m]) (gM_ hlt);have ab:Hid (gF (b[m]).v=0):=O.out _ (gM_ hlt);have aw:(m:Int)<b.length:=by omega
   have HS:Hid (setOf (H:=Unit) (.agg []) ((zA (b.take (m+1))).map K)=(setOf (.agg []) ((zA (b.take m)).map K)).put (K (b[m]).v) (.agg [])):=by
    show _=_;rw[←setOf_snoc,tS_ hlt];simp only[zA,List.map_append,List.map_cons,List.map_nil]
   clear Y L;generalize b[m]=t at *;go_upto_region 5 with fail
   refine kO_ ?A0 ?_;exact Obj.cells #[I_ t.nd,I_ t.au,I_ t.rd,.slice t.p.sa t.p.bs.length t.p.cap] 227;have F:=B.alloc B.size ?A0;have T:=(bR_ wr.heap.size wr).alloc (nR_ _) ?A0;have q:=hN_ wr ?A0;have M:(wr.alloc ?A0).heap.size=wr.heap.size+1:=by simp
   have J:=I.alloc ?A0;generalize wr.alloc ?A0=d at F T q M J ⊢;have d0:=zb q 0 _ rfl;have d1:=zb q 1 _ rfl;have d2:=zb q 2 _ rfl;have d3:=zb q 3 _ rfl;go_upto_region 6 with (first
    | (refine zl1 rfl _ _ _ rfl _ _ _ rfl rfl rfl ?_)
    | (refine zl2 rfl rfl ?_;intro w2 ao an)
    | (refine zl3 rfl rfl _ _ rfl d.heap.size (t.nd,t.au,t.rd,List.replicate 32 0) rfl rfl rfl ao d.heap.size d an (nR_ _) ?_;intro D ah A))
   go_frame
   have ad:D.heap[wr.heap.size]? = _:=(A.block wr.heap.size (by omega)).trans q;have Z:Hid (zf D t.p.sa t.p.cap t.p.bs):=(hx.1.below T).below A;have e3:=zb ad 3 _ rfl;have aa:=zrc ab.out;have c:t.p.bs.length=32:=aa.2.2.2;have af:(ub t.p.bs).length=32:=by simp[ub,c]
   have ay:=zlw J A;obtain ⟨o,p,ac,ae⟩:∃ o p,t.p.sa=some ⟨o,p,none⟩∧∀ j v,(ub t.p.bs)[j]? = some v→D.cell? ((⟨o,p,none⟩:Addr).add j)=some v:=by
    rcases Z.out.bytes with f|⟨o,p,f,E⟩
    ·rw[f] at c;simp at c
    ·refine ⟨o,p,f,fun j v l=>?_⟩;have y:j<t.p.bs.length:=by
      rcases Nat.lt_or_ge j t.p.bs.length with g|g
      ·exact g
      ·rw[List.getElem?_eq_none (by simpa[ub] using g)] at l;cases l
     rw[zaN,E j y];simp only[ub,List.getElem?_map,List.getElem?_eq_getElem y,Option.map_some] at l;simp[y,l]
   rw[ac,c] at e3;have ak:Hid (splice (mkv (t.nd,t.au,t.rd,List.replicate 32 0)) 3 (ub t.p.bs)=mkv (t.nd,t.au,t.rd,t.p.bs)):=zps _ _ _ _ _ (by rw[c];simp);have al:Hid (∀ j v,(ub t.p.bs)[j]? = some v→D.cell? ((⟨o,p,none⟩:Addr).add j)=some v):=ae;have ag:Hid (t.p.bs.length=32):=c;have R:Hid ((ub t.p.bs).length=32):=af;clear ae c af ac ad Z aa;go_region_law (refine step_copy_splice rfl _ _ _ _ rfl 5 underlying64 (by kernel_rfl) _ _ _ _ _ _ rfl rfl d.heap.size 3 (mkv (t.nd,t.au,t.rd,List.replicate 32 0)) 307 ah.out (ub t.p.bs) (by rw[R.out];rfl) (fun _=>⟨by rw[M],_,rfl,al.out⟩) (by rw[R.out];simp[mkv,ub]) (by intro v l;obtain ⟨x,_,rfl⟩:=List.mem_map.1 l;rfl) d.heap.size d A.drew (nR_ _) ?_;intro w4 ai U)
   have aj:Hid (R_ w4 (wr.heap.size+1) ((mkv t.v).toArray) 307):=by
    show _=_;rw[←M,ai.out,ak.out]
    rfl
   have ar:=zlw J U;have aq:keyOf prog 307 (.agg (mkv t.v).toArray)=some (K t.v):=X _ ab.out hx.2;have V:B_ w w4:=F.trans (U.mono F.size);have av:(prog.info? 307).map (·.size)=some (mkv t.v).toArray.size:=by
    rw[zug];simp[mkv,ub,ag.out,Sg.v]
   go_wp2_with (first
    | (refine zeq rfl _ _ rfl (wr.heap.size+1) rfl 307 (mkv t.v).toArray (0,0) _ aj.out underlying307 rfl av ?_)
    | (at_mapUpdate;refine wpList_mapUpdate_own _ rfl _ _ _ 304 rfl 307 308 zs5 underlying304 (unitElem (H:=Unit)) w.heap.size m _ rfl ar (by unfold maxLen;omega) _ _ _ rfl rfl aq _ [] unitElem_mk ?_;intro w5 au ap))
   go_roundw
   case rel=>exact ⟨m+1,by omega,by go_num,by rw[HS.out];exact au,V.grown ap V.size (fun j y=>by cases y;exact nR_ _)⟩
   case measure=>simp[intOf];omega
  ·obtain rfl:m=b.length:=by omega
   have G:Hid ((Maps.size (setOf (H:=Unit) (.agg []) ((zA b).map K))=b.length↔(zA b).Nodup)):=by
    show _↔_;rw[←zeY b];refine zpr X (fun g C=>?_);obtain ⟨s,hs,rfl⟩:=List.mem_map.1 C;exact ⟨O.out s hs,(hp.each s hs).2⟩
   rw[List.take_length] at I;generalize hz:Maps.size (setOf (H:=Unit) (.agg []) ((zA b).map K))=z at G;have HZ:Hid (Maps.size (setOf (H:=Unit) (.agg []) ((zA b).map K))=z):=hz;clear hz;go_wp2_with (first
    | (at_len;refine wpList_len_own _ rfl _ 304 rfl 307 308 underlying304 (unitElem (H:=Unit)) w.heap.size b.length _ rfl I ?_;rw[HZ.out]))
   go_ret;refine ⟨zS ?_,B⟩;by_cases hN:(zA b).Nodup
   ·have f:=G.out.2 hN;simp[f,hN]
   ·have f:¬z=b.length:=fun E=>hN (G.out.1 E);have h7:¬(z:Int)=b.length:=by omega
    simp[h7,hN]
theorem zrd (s:Sg)(w:World):Calls prog 229 #[.agg #[I_ s.nd,I_ s.au,I_ s.rd,.slice s.p.sa s.p.bs.length s.p.cap]] w fun e w'=>e=.returned (.bool (decide (gF s.v≠0)))∧B_ w w':=by
 refine kA_ ?A0 ?_;exact #[I_ s.nd,I_ s.au,I_ s.rd,.slice s.p.sa s.p.bs.length s.p.cap];have c:=(bR_ w.heap.size w).alloc (nR_ _) (.cells ?A0 227);have b:∀ W:World,Calls prog 207 #[.agg ?A0] W fun e w'=>e=.returned (I_ (gF s.v))∧B_ W w':=fun W=>zfJ _ _ _ _ _ _ W;generalize d:gF s.v=x at b;have g:Hid (gF s.v=x):=d;clear d;go_in;go_wp2_with (go_at_call 207;refine (b _).mono ?_;rintro e w' ⟨rfl,f⟩)
 go_ret;refine ⟨zS ?_,c.trans (f.mono c.size)⟩;by_cases h:x=0<;>simp[h]
theorem zlx (c:List Sg):(c.any fun s=>decide (gF s.v≠0))=true↔¬∀ g∈zA c,gF g=0:=by
 rw[List.any_eq_true]
 constructor
 ·rintro ⟨s,b,h⟩ k;exact (by simpa using h:gF s.v≠0) (k s.v (List.mem_map.2 ⟨s,b,rfl⟩))
 ·intro h;rw[←List.any_eq_true (p:=fun s:Sg=>decide (gF s.v≠0))];cases hh:(c.any fun s=>decide (gF s.v≠0)) with
  | true=>rfl
  | false=>
   rw[List.any_eq_false] at hh;refine absurd (fun g d=>?_) h;obtain ⟨s,b,rfl⟩:=List.mem_map.1 d
   simpa using hh s b
theorem zh8 (b:List Sg)(f:Option Addr)(n j:Nat)(w:World)(B:n=b.length)(y:b.length≤2932031007400)(z:zcf w f b) :
  Calls prog 206 #[.slice f n j] w fun e w'=>e=.returned (I_ (zbu (zA b)))∧B_ w w':=by
 subst B;have l:=zep 229 #[] (fun s=>decide (gF s.v≠0)) (eO_ func229) b f _ j w rfl y z (fun s _ W _=>zrd s W);by_cases hb:∀ g∈zA b,gF g=0
 ·have u:(b.any fun s=>decide (gF s.v≠0))=false:=by
   cases h:(b.any fun s=>decide (gF s.v≠0)) with
   | false=>rfl
   | true=>exact absurd hb ((zlx b).1 h)
  rw[u] at l;by_cases hd:(zA b).Nodup;have m:Hid (zbu (zA b)=0):=zqX ⟨hb,hd⟩
  rotate_left
  have m:Hid (zbu (zA b)=12):=zmB hd
  rotate_left
  all_goals have o:∀ s∈b,gF s.v=0:=fun s A=>hb s.v (List.mem_map.2 ⟨s,A,rfl⟩)
  have q:∀ W:World,B_ w W→Calls prog 230 #[.slice f b.length j] W fun e w'=>e=.returned (.bool true)∧B_ W w':=fun W r=>by
   have:=zh7 b f _ j W rfl y (z.below r) o;rw[dT_ hd] at this;exact this
  rotate_left
  have q:∀ W:World,B_ w W→Calls prog 230 #[.slice f b.length j] W fun e w'=>e=.returned (.bool false)∧B_ W w':=fun W r=>by
   have:=zh7 b f _ j W rfl y (z.below r) o;rw[dF_ hd] at this;exact this
  rotate_left
  all_goals
   clear u hb hd o;go_in;go_wp2_with fail
   refine l.mono ?_;rintro _ p ⟨rfl,c⟩;dsimp only;go_wp2_with fail
   refine (q p c).mono ?_;rintro _ w2 ⟨rfl,t⟩;dsimp only;go_wp2_with fail
   go_ret;exact ⟨zp m.out.symm,c.trans (t.mono c.size)⟩
 ·have m:Hid (zbu (zA b)=12):=by
   show _=_;rw[zbu,if_neg (fun h=>hb h.1)]
  rw[(zlx b).2 hb] at l;clear hb;go_in;go_wp2_with fail
  refine l.mono ?_;rintro _ p ⟨rfl,c⟩;dsimp only;go_wp2_with fail
  go_ret;exact ⟨zp m.out.symm,c⟩
theorem zuH {b ys:List Int}(c:zaF b)(d:zaF ys):txL b=txL ys↔b=ys:=by
 constructor
 ·intro h;exact zjF c d (zg3 h)
 ·intro h;rw[h]
theorem zpt (s t:Sg)(g:Nat)(w:World)(l:zf w s.p.sa s.p.cap s.p.bs∧zaF s.p.bs)(m:zf w t.p.sa t.p.cap t.p.bs∧zaF t.p.bs)(q:R_ w g #[I_ t.nd,I_ t.au,I_ t.rd,.slice t.p.sa t.p.bs.length t.p.cap] 227) :
  Calls prog 232 #[.agg #[I_ s.nd,I_ s.au,I_ s.rd,.slice s.p.sa s.p.bs.length s.p.cap],(P_ g 0)] w fun e w'=>e=.returned (.bool (decide (s.v=t.v)))∧B_ w w':=by
 refine kA_ ?A0 ?_;exact #[I_ s.nd,I_ s.au,I_ s.rd,.slice s.p.sa s.p.bs.length s.p.cap];have d:=(bR_ w.heap.size w).alloc (nR_ _) (.cells ?A0 227);have D:=hN_ w (.cells ?A0 227);have j:=zP (o:=.cells ?A0 227) q;have b:Hid (s.v=t.v↔s.nd=t.nd∧s.au=t.au∧s.rd=t.rd∧txL s.p.bs=txL t.p.bs):=by
  show _↔_;rw[zuH l.2 m.2];simp[Sg.v]
 have f:=zd0 s.p.bs t.p.bs s.p.sa t.p.sa _ _ s.p.cap t.p.cap _ rfl rfl (l.1.below d) (m.1.below d);have u:=zb j 0 _ rfl;have z:=zb j 1 _ rfl;have A:=zb j 2 _ rfl;have B:=zb j 3 _ rfl;by_cases h1:s.nd=t.nd
 ·by_cases h2:s.au=t.au
  ·by_cases h3:s.rd=t.rd;have c:Hid (decide (s.v=t.v)=decide (txL s.p.bs=txL t.p.bs)):=by
    show _=_;simp[b.out,h1,h2,h3]
   generalize decide (txL s.p.bs=txL t.p.bs)=y at f c
   rotate_left
   have c:Hid (decide (s.v=t.v)=false):=by
    show _=_;simp[b.out,h3]
   rotate_left
   all_goals
    have p:(s.nd == t.nd)=true:=by simp[h1]
    have r:(s.au == t.au)=true:=by simp[h2]
   ·have C:(s.rd == t.rd)=true:=by simp[h3]
    clear b h1 h2 h3;go_in;go_wp2_with (go_at_call 137;refine f.mono ?_;rintro e E ⟨rfl,rfl⟩)
    go_ret;exact ⟨zS c.out.symm,d⟩
   ·clear b f h1 h2;go_in;go_wp2_with fail
    go_ret;exact ⟨zS c.out.symm,d⟩
  ·have c:Hid (decide (s.v=t.v)=false):=by
    show _=_;simp[b.out,h2]
   have p:(s.nd == t.nd)=true:=by simp[h1]
   clear b f h1;go_in;go_wp2_with fail
   go_ret;exact ⟨zS c.out.symm,d⟩
 ·have c:Hid (decide (s.v=t.v)=false):=by
   show _=_;simp[b.out,h1]
  clear b f;go_in;go_wp2_with fail
  go_ret;exact ⟨zS c.out.symm,d⟩
theorem zta (c:List Sg)(t:Sg):(c.any fun s=>decide (s.v=t.v))=decide (t.v∈zA c):=by
 rw[Bool.eq_iff_iff,List.any_eq_true,decide_eq_true_eq,zA,List.mem_map]
 constructor
 all_goals rintro ⟨s,b,h⟩;exact ⟨s,b,by simpa using h⟩
theorem zkR (b:List Sg)(l:Option Addr)(n c:Nat)(t:Sg)(w:World)(C:n=b.length)(B:b.length≤2932031007400)(D:zcf w l b)(p:zf w t.p.sa t.p.cap t.p.bs∧zaF t.p.bs) :
  Calls prog 209 #[.slice l n c,.agg #[I_ t.nd,I_ t.au,I_ t.rd,.slice t.p.sa t.p.bs.length t.p.cap]] w fun e w'=>e=.returned (.bool (decide (t.v∈zA b)))∧B_ w w':=by
 subst C;have E:∀ (fn:Fn) (first c:Array Value) (w:World),(Instr.makeFunc fn first c).run prog w=.ok (.func fn first c) w:=fun _ _ _ _=>rfl;refine kO_ ?A0 ?_;exact Obj.cells #[I_ t.nd,I_ t.au,I_ t.rd,.slice t.p.sa t.p.bs.length t.p.cap] 227;have d:=(bR_ w.heap.size w).alloc (nR_ _) ?A0;have q:=hN_ w ?A0;go_in;go_wp2_with fail
 generalize w.alloc ?A0=y at d q ⊢;have j:=D.below d;have f:=zep 232 #[P_ w.heap.size 0] (fun s=>decide (s.v=t.v)) (eO_ func232) b l _ c y rfl B j (fun s o W g=>zpt s t _ W ⟨(j.each s o).1.below g,(j.each s o).2⟩ ⟨(p.1.below d).below g,p.2⟩ (zn g q));rw[zta] at f;generalize m:decide (t.v∈zA b)=r at f;have u:Hid (decide (t.v∈zA b)=r):=m;clear m;refine f.mono ?_;rintro _ F ⟨rfl,z⟩;dsimp only;go_wp2_with fail
 go_ret;exact ⟨zS u.out.symm,d.trans (z.mono d.size)⟩
def zcp (l:List GV)(bad:Int):Int:=if zbu l≠0 then 12 else if ¬(-1≤bad∧bad≤3) then 2 else 0
def zb4 (l:List GV)(bad:Int)(g:GV):Bool×Int:=if zcp l bad≠0 then (false,zcp l bad) else if gF g≠0 then (false,gF g) else (decide (g.1=bad)||decide (g∈l),0)
def zdD (l:List GV)(g:GV):List GV×Int:=if zbu l≠0 then ([],12) else if gF g≠0 then ([],gF g) else if g∈l then (l,0) else (l++[g],0)
theorem ztb {l:List GV}{b:Int}(h:zbu l=12):zcp l b=12:=by simp[zcp,h]
theorem zpu {l:List GV}{b:Int}(h:zbu l=0)(c:¬(-1≤b∧b≤3)):zcp l b=2:=by rw[zcp,if_neg (by simpa using h),if_pos c]
theorem zuI {l:List GV}{b:Int}(h:zbu l=0)(c:-1≤b∧b≤3):zcp l b=0:=by rw[zcp,if_neg (by simpa using h),if_neg (by simpa using c)]
theorem zn1 {l:List GV}{b:Int}{g:GV}(h:zcp l b≠0):zb4 l b g=(false,zcp l b):=by rw[zb4,if_pos h]
theorem zmO {l:List GV}{b:Int}{g:GV}(h:zcp l b=0)(c:gF g≠0):zb4 l b g=(false,gF g):=by rw[zb4,if_neg (by simpa using h),if_pos c]
theorem zj9 {l:List GV}{b:Int}{g:GV}(h:zcp l b=0)(c:gF g=0):zb4 l b g=(decide (g.1=b)||decide (g∈l),0):=by rw[zb4,if_neg (by simpa using h),if_neg (by simpa using c)]
theorem ztc {l:List GV}{g:GV}(h:zbu l=12):zdD l g=([],12):=by rw[zdD,if_pos (by rw[h];decide)]
theorem zre {l:List GV}{g:GV}(h:zbu l=0)(b:gF g≠0):zdD l g=([],gF g):=by rw[zdD,if_neg (by simpa using h),if_pos b]
theorem ztd {l:List GV}{g:GV}(h:zbu l=0)(b:gF g=0)(c:g∈l):zdD l g=(l,0):=by rw[zdD,if_neg (by simpa using h),if_neg (by simpa using b),if_pos c]
theorem zte {l:List GV}{g:GV}(h:zbu l=0)(b:gF g=0)(c:¬g∈l):zdD l g=(l++[g],0):=by rw[zdD,if_neg (by simpa using h),if_neg (by simpa using b),if_neg c]
theorem zjl (c:List Sg)(l:Option Addr)(n o:Nat)(b:Int)(w:World)(r:n=c.length)(q:c.length≤2932031007400)(s:zcf w l c) :
  Calls prog 213 #[.slice l n o,I_ b] w fun e w'=>e=.returned (I_ (zcp (zA c) b))∧B_ w w':=by
 subst r;have g:=zh8 c l _ o w rfl q s;rcases zlr (zA c) with h0|h0
 ·rw[h0] at g;by_cases hb:-1≤b∧b≤3
  ·have j:Hid (zcp (zA c) b=0):=zuI h0 hb;by_cases h1:b=-1;subst h1
   all_goals
    clear h0;go_in;go_wp2_with fail
    refine g.mono ?_;rintro _ m ⟨rfl,d⟩;dsimp only
   ·go_wp2_with fail
    go_ret;exact ⟨zp j.out.symm,d⟩
   ·have p:(b != -1)=true:=by simpa using h1
    go_wp2_with (go_at_call 231;refine (zfV _ true _ (by rw[dT_ (by omega)])).mono ?_;rintro e w' ⟨rfl,rfl⟩)
    go_ret;exact ⟨zp j.out.symm,d⟩
  ·have j:Hid (zcp (zA c) b=2):=zpu h0 hb;clear h0;go_in;go_wp2_with fail
   refine g.mono ?_;rintro _ m ⟨rfl,d⟩;dsimp only;have p:(b != -1)=true:=by simp;omega
   go_wp2_with (go_at_call 231;refine (zfV _ false _ (by rw[dF_ (by omega)])).mono ?_;rintro e w' ⟨rfl,rfl⟩)
   go_ret;exact ⟨zp j.out.symm,d⟩
 ·have j:Hid (zcp (zA c) b=12):=ztb h0;rw[h0] at g;clear h0;go_in;go_wp2_with fail
  refine g.mono ?_;rintro _ m ⟨rfl,d⟩;dsimp only;go_wp2_with fail
  go_ret;exact ⟨zp j.out.symm,d⟩
theorem zfK (au rd:Int)(o:Option Addr)(p:Nat)(bl:List zi)(r:Option Addr)(s:Nat)(pl:List zi)(m:Option Addr)(C:Nat)(vl:List Int)(w:World)(L:zy w o p bl)(N:zy w r s pl)(O:zav w m vl)(aa:vl.length≤9000000000000000000) :
  Calls prog 77 #[.agg #[I_ au,I_ rd,.slice o bl.length p,.slice r pl.length s,.slice m vl.length C]] w fun e w'=>e=.returned (I_ (zai au rd bl pl vl))∧B_ w w':=by
 have D:=zO w (.cells #[I_ au,I_ rd,.slice o bl.length p,.slice r pl.length s,.slice m vl.length C] 59);go_in;go_wp2_with fail
 refine (zdT au rd o p bl r s pl _ (L.below D) (N.below D)).mono ?_;rintro _ T ⟨rfl,c⟩;dsimp only;have R:=zbN c;replace c:=zV c;have U:=zb R 4 (.slice m vl.length C) rfl;by_cases h1:zK au rd bl pl=0
 ·rw[h1];by_cases h2:4<vl.length
  ·have b:Hid (zai au rd bl pl vl=1):=by show _=_;rw[zai,if_neg (by simp[h1]),if_pos h2]
   have I:(4:Int)<vl.length:=by omega
   go_wp2_with fail
   go_ret;exact ⟨zp b.out.symm,c⟩
  ·have b:Hid (zai au rd bl pl vl=zdN vl):=by show _=_;rw[zai,if_neg (by simp[h1]),if_neg h2]
   have I:¬(4:Int)<vl.length:=by omega
   clear h1;go_wp2_with fail
   go_loop [19] (fun i=>∃ k:Nat,k≤vl.length∧i=I_ k∧vTo vl k=0) (fun i=>vl.length-(intOf i).toNat)
   case atStart=>exact ⟨0,nZ_ _,rfl,rfl⟩
   case round=>
    obtain ⟨k,X,rfl,l⟩:=hrel;by_cases hlt:k<vl.length
    ·obtain ⟨A,B,rfl,q⟩:∃ A B,m=some ⟨A,B,none⟩∧∀ j,j<vl.length→C_ T A (B+j) (I_ (vl.getD j 0)):=by
      rcases (O.below c).cells with h|h
      ·rw[h] at hlt;simp at hlt
      ·exact h
     have E:=q k hlt;have Z:(k:Int)<vl.length:=by omega
     have f:Hid (vAt vl k≠0→zdN vl=vAt vl k):=by
      show _→_;intro h;rw[zdN,zvq vl k hlt l h,if_pos h]
     have g:Hid (vAt vl k=0→vTo vl (k+1)=0):=by
      show _→_;intro h;rw[vTo,l,h];rfl
     have d:Hid (vAt vl k=if ¬(0≤vl.getD k 0∧vl.getD k 0<4) then 2 else if 0<k∧vl.getD k 0≤vl.getD (k-1) 0 then 9 else 0):=rfl;by_cases hkz:k=0
     ·subst hkz;clear q;rw[Nat.add_zero] at E;generalize vl.getD 0 0=x at *;by_cases hn:0≤x∧x<4;have u:=g.out (by rw[d.out,if_neg (by simp[hn]),if_neg (by omega)]);clear f g d
      rotate_left
      have t:Hid (zai au rd bl pl vl=2):=by
       show _=_;have:vAt vl 0=2:=by rw[d.out,if_pos hn]
       rw[b.out,f.out (by rw[this];decide),this]
      clear f g d b
      rotate_left
      all_goals go_wp2_with (go_at_call 55;first|(refine (zaJ _ _ (by omega)).mono ?_;rintro e w' ⟨rfl,rfl⟩)|(refine (zax _ _ (by omega)).mono ?_;rintro e w' ⟨rfl,rfl⟩))
      ·go_round
       case rel=>exact ⟨0+1,by omega,by go_num,u⟩
       case measure=>simp[intOf];omega
      ·go_ret;exact ⟨zp t.out.symm,c⟩
     ·have V:=q (k-1) (by omega);have Y:(0:Int)<k:=by omega
      have t0:((k:Int)-1).toNat=k-1:=by omega
      have ab:IntKind.i64.wrap ((k:Int)-1)=(k:Int)-1:=by rw[IntKind.wrap_i64];omega
      have z0:(0:Int)≤(k:Int)-1:=by omega
      have z1:(k:Int)-1<vl.length:=by omega
      clear q;generalize vl.getD k 0=x at *;generalize vl.getD (k-1) 0=y at *;by_cases hn:0≤x∧x<4
      ·by_cases hxy:x≤y;have H:Hid (zai au rd bl pl vl=9):=by
        show _=_;have:vAt vl k=9:=by rw[d.out,if_neg (by simp[hn]),if_pos (by omega)]
        rw[b.out,f.out (by rw[this];decide),this]
       clear f g d b
       rotate_left
       have u:=g.out (by rw[d.out,if_neg (by simp[hn]),if_neg (by omega)]);clear f g d
       rotate_left
       all_goals go_wp2_with (go_at_call 55;first|(refine (zaJ _ _ (by omega)).mono ?_;rintro e w' ⟨rfl,rfl⟩)|(refine (zax _ _ (by omega)).mono ?_;rintro e w' ⟨rfl,rfl⟩))
       ·go_ret;exact ⟨zp H.out.symm,c⟩
       ·go_round
        case rel=>exact ⟨k+1,by omega,by go_num,u⟩
        case measure=>simp[intOf];omega
      ·have t:Hid (zai au rd bl pl vl=2):=by
        show _=_;have:vAt vl k=2:=by rw[d.out,if_pos hn]
        rw[b.out,f.out (by rw[this];decide),this]
       clear f g d b;go_wp2_with (go_at_call 55;first|(refine (zaJ _ _ (by omega)).mono ?_;rintro e w' ⟨rfl,rfl⟩)|(refine (zax _ _ (by omega)).mono ?_;rintro e w' ⟨rfl,rfl⟩))
       go_ret;exact ⟨zp t.out.symm,c⟩
    ·obtain rfl:k=vl.length:=by omega
     by_cases h3:vl.length<3
     ·have G:Hid (zai au rd bl pl vl=10):=by show _=_;rw[b.out,zdN,if_neg (by simp[l]),if_pos h3]
      have J:(vl.length:Int)<3:=by omega
      clear b l;go_wp2_with fail
      go_ret;exact ⟨zp G.out.symm,c⟩
     ·have F:Hid (zai au rd bl pl vl=0):=by show _=_;rw[b.out,zdN,if_neg (by simp[l]),if_neg h3]
      have J:¬(vl.length:Int)<3:=by omega
      clear b l;go_wp2_with fail
      go_ret;exact ⟨zp F.out.symm,c⟩
 ·have b:Hid (zai au rd bl pl vl=zK au rd bl pl):=by show _=_;rw[zai,if_pos h1]
  generalize zK au rd bl pl=z at *;go_wp2_with fail
  go_ret;exact ⟨zp b.out.symm,c⟩
variable {B rc:Nat}{bs:List Int}{ra:Option Addr}
theorem zej (h:zf w ra rc bs)(g:∀ c d,ra=some ⟨c,d,none⟩→B≤c)(b j:Nat)(v:Value)(m:b<B):zf (w.setCell ⟨b,j,none⟩ v) ra rc bs:=by
 refine ⟨h.le,h.max,h.some,h.nil,?_⟩;rcases h.bytes with f|⟨c,d,e,f⟩
 ·exact .inl f
 ·exact .inr ⟨c,d,e,fun k l=>(World.cell?_setCell_far _ _ _ _ (by have:=g c d e;show b≠c;omega)).trans (f k l)⟩
theorem zpv (au rd:Int)(c:Option Addr)(d:Nat)(bl:List zi)(f:Option Addr)(g:Nat)(pl:List zi)(w:World)(h:HAt w c d bl f g pl)(y:zK au rd bl pl=0)(G:zby w) :
  Calls prog 217 #[.agg #[I_ au,I_ rd,.slice c bl.length d,.slice f pl.length g]] w fun e w'=>∃ b,e=.returned (.tuple #[.agg #[I_ au,I_ rd,.slice (some ⟨b,0,none⟩) 32 32],I_ 0])∧w.heap.size≤b∧b<w'.heap.size∧zf w' (some ⟨b,0,none⟩) 32 (zay au rd bl pl)∧B_ w w':=by
 refine kO_ ?A0 ?_;exact Obj.cells #[I_ au,I_ rd,.slice c bl.length d,.slice f pl.length g] 56;refine kO_ ?B0 ?_;exact Obj.cells #[I_ 0,I_ 0,O_] 66;have l:B_ w ((w.alloc ?A0).alloc ?B0):=((bR_ _ _).alloc (nR_ _) _).alloc (by simp) _;have B:=hX_ w ?A0 ?B0;have s:((w.alloc ?A0).alloc ?B0).heap[w.heap.size+1]? = some (.cells #[I_ 0,I_ 0,O_] 66 (0,0)):=by
  have:=hN_ (w.alloc ?A0) ?B0;rw[zI] at this;exact this
 go_in;go_wp2_with fail
 generalize (w.alloc ?A0).alloc ?B0=u at l B s ⊢;refine (zdz (h.below l) y (G.below l)).mono ?_;rintro e J ⟨b,rfl,z,o,A⟩;have q:w.heap.size+1<u.heap.size:=ze s;have C:=zn o B;have j:=zn o s;have L:=zb C 0 (I_ au) rfl;have M:=zb C 1 (I_ rd) rfl;have D:=zb j 0 _ rfl;have E:=zb j 1 _ rfl;have F:=zb j 2 _ rfl;have N:=zd j 0;have O:=zd j 1;have R:=zd j 2;have H:=zq l o;have I:b<J.heap.size:=by
  rcases A.bytes with p|⟨m,t,e,p⟩
  ·have:=zbs au rd bl pl;rw[p] at this;simp at this
  ·cases e;exact bL_ (p 0 (by rw[zbs];decide))
 clear y;go_wp2_with fail
 refine bodyPost_ret (v:=.tuple #[.agg #[I_ au,I_ rd,.slice (some ⟨b,0,none⟩) 32 32],I_ 0]) (by simp[results,results217,go_sem,D,E,F]) rfl ⟨b,rfl,nT_ l.size z,by simpa using I,?_,?_⟩
 ·have r:∀ m t,(some ⟨b,0,none⟩:Option Addr)=some ⟨m,t,none⟩→u.heap.size≤m:=fun m t e=>by cases e;exact z
  exact zej (zej (zej A r _ _ _ q) r _ _ _ q) r _ _ _ q
 ·exact ((H.setCell (Nat.le_succ _) _).setCell (Nat.le_succ _) _).setCell (Nat.le_succ _) _
variable {k:Nat}
def zjK (f:FuncId)(caps:Array Value)(P:Int→Bool)(vl:List Int)(w:World):Prop:=
 ∀ x∈vl,∀ W:World,B_ w W→Calls prog f (#[I_ x]++caps) W fun e w'=>e=.returned (.bool (P x))∧B_ W w'
theorem zix {α:Type}{l:List α}{x:α}(b:k<l.length):x∈l.take (k+1)↔x∈l.take k∨x=l[k]:=by
 rw[tS_ b,List.mem_append,List.mem_singleton]
theorem zkS (f:FuncId)(q:Array Value)(P:Int→Bool)(O:∀ A w,(callFunc f A).run prog w=.ok (.enter f A) w)(vl:List Int)(z:Option Addr)(n I:Nat)(w:World)(c:n=vl.length)(R:vl.length≤9000000000000000000)(M:zav w z vl)(B:zjK f q P vl w) :
  Calls prog 204 #[.slice z n I,.func (.func f) #[] q] w fun e w'=>B_ w w'∧∃ r:Int,e=.returned (I_ r)∧((vl.any P=true∧0≤r)∨(vl.any P=false∧r=-1)):=by
 subst c;have G:Hid (zjK f q P vl w):=B;clear B;go_in;go_wp2_with fail
 go_loopw [8] (fun i wr=>∃ m:Nat,m≤vl.length∧i=I_ m∧(∀ s∈vl.take m,P s=false)∧B_ w wr) (fun i _=>vl.length-(intOf i).toNat)
 case atStart=>exact ⟨0,nZ_ _,rfl,(fun s b=>by simp at b),bR_ _ _⟩
 case round=>
  obtain ⟨m,U,rfl,d,g⟩:=hrel;by_cases hlt:m<vl.length
  ·have F:=M.below g;obtain ⟨u,y,rfl,D⟩:∃ u y,z=some ⟨u,y,none⟩∧∀ j,j<vl.length→C_ wr u (y+j) (I_ (vl.getD j 0)):=by
    rcases F.cells with h|h
    ·rw[h] at hlt;simp at hlt
    ·exact h
   have H:=D m hlt;have E:vl.getD m 0=vl[m]:=by simp[List.getD,hlt]
   rw[E] at H;have T:(m:Int)<vl.length:=by omega
   have p:Hid (P (vl[m])=true→vl.any P=true):=by
    show _→_;intro h;exact List.any_eq_true.2 ⟨_,gM_ hlt,h⟩
   have o:Hid (P (vl[m])=false→∀ s∈vl.take (m+1),P s=false):=by
    show _→_;intro h s b;rw[zix hlt] at b;rcases b with b|rfl
    ·exact d s b
    ·exact h
   have l:=G.out (vl[m]) (gM_ hlt) wr g;clear D d F E;generalize vl[m]=t at *;go_wp2_with fail
   refine l.mono ?_;rintro _ V ⟨rfl,J⟩;dsimp only;have C:=zq g J;cases hP:P t with
   | true=>
    have N:Hid _:=p.out hP;clear p o hP l;go_wp2_with fail
    go_ret;exact ⟨C,(m:Int),rfl,.inl ⟨N.out,by omega⟩⟩
   | false=>
    have c:Hid _:=o.out hP;clear p o hP l;go_wp2_with fail
    go_roundw
    case rel=>exact ⟨m+1,by omega,by go_num,c.out,C⟩
    case measure=>simp[intOf];omega
  ·obtain rfl:m=vl.length:=by omega
   have c:Hid (vl.any P=false):=by
    show _=_;rw[tL_ (nR_ _)] at d;rw[List.any_eq_false];intro s b;rw[d s b];simp
   clear d;go_wp2_with fail
   go_ret;exact ⟨g,(-1:Int),rfl,.inr ⟨c.out,rfl⟩⟩
theorem zfR (f:FuncId)(d:Array Value)(P:Int→Bool)(t:∀ j w,(callFunc f j).run prog w=.ok (.enter f j) w)(vl:List Int)(g:Option Addr)(n l:Nat)(w:World)(y:n=vl.length)(u:vl.length≤9000000000000000000)(z:zav w g vl)(m:zjK f d P vl w) :
  Calls prog 169 #[.slice g n l,.func (.func f) #[] d] w fun e w'=>e=.returned (.bool (vl.any P))∧B_ w w':=by
 subst y;have q:=zkS f d P t vl g _ l w rfl u z m;clear m;go_in;go_wp2_with fail
 refine q.mono ?_;rintro e A ⟨o,r,s,p⟩;subst s;dsimp only;rcases p with ⟨b,p⟩|⟨b,rfl⟩
 all_goals
  have c:Hid _:=b;clear b;go_wp2_with fail
  go_ret;exact ⟨zS (by rw[c.out]),o⟩
def zdb (l:List GV)(bad au rd:Int)(dg:List Int)(nd:Int):Bool:=decide (nd≠bad)&&!decide ((nd,au,rd,dg)∈l)
def zeB (l:List GV)(bad au rd:Int)(cf:Int)(dg vl:List Int):Int:=if zcp l bad≠0 then zcp l bad else if cf≠0 then cf else if zdb l bad au rd dg au||vl.any (zdb l bad au rd dg) then 11 else 0
theorem ztf (s:List Int)(k:Nat):zaF (zcM s k):=by
 induction k with
 | zero=>intro x b;cases b
 | succ k ih=>
  intro x b;rw[zcM] at b;rcases List.mem_append.1 b with h|h
  ·exact ih x h
  ·simp at h
   omega
theorem zi0 (au rd:Int)(bl pl:List zi):zaF (zay au rd bl pl):=ztf _ _
theorem zrf (g:List Sg)(o:Option Addr)(q:Nat)(j au rd d:Int)(b c:Nat)(f:List Int)(L G S:Nat)(w:World)(u:g.length≤2932031007400)(z:zcf w o g)(A:zf w (some ⟨b,0,none⟩) c f)(r:f.length=32)(B:zaF f)
  (C:R_ w G #[I_ j] 3) (D:R_ w L #[.slice o g.length q] 31) (m:R_ w S #[I_ au,I_ rd,.slice (some ⟨b,0,none⟩) 32 c] 66) :
  Calls prog 218 #[I_ d,(P_ G 0),(P_ L 0),(P_ S 0)] w fun e w'=>e=.returned (.bool (zdb (zA g) j au rd f d))∧B_ w w':=by
 have E:=zb C 0 _ rfl;have F:=zb D 0 _ rfl;have H:=zb m 0 _ rfl;have I:=zb m 1 _ rfl;have J:=zb m 2 _ rfl;by_cases hn:d=j
 ·have l:Hid (zdb (zA g) j au rd f d=false):=by show _=_;simp[zdb,hn]
  have y:(d != j)=false:=by simpa using hn
  clear hn;go_in;go_wp2_with fail
  go_ret;exact ⟨zS l.out.symm,bR_ _ _⟩
 ·have l:Hid (zdb (zA g) j au rd f d=!decide ((d,au,rd,f)∈zA g)):=by show _=_;simp[zdb,hn]
  have y:(d != j)=true:=by simpa using hn
  have p:=zkR g o _ q ⟨d,au,rd,⟨some ⟨b,0,none⟩,c,f⟩⟩ w rfl u z ⟨A,B⟩;simp only[r,Sg.v] at p;clear hn r;go_in;go_wp2_with fail
  refine p.mono ?_;rintro _ M ⟨rfl,s⟩;dsimp only;go_wp2_with fail
  go_ret;exact ⟨zS (by rw[l.out];exact congrArg _ (decide_eq_decide.2 Iff.rfl)),s⟩
theorem zpw (c:List Sg)(H:Option Addr)(n J:Nat)(f au rd:Int)(B:Option Addr)(C:Nat)(bl:List zi)(F:Option Addr)(G:Nat)(pl:List zi)(I:Option Addr)(M:Nat)(vl:List Int)(w:World)(hn:n=c.length)(hl:c.length≤2932031007400)(m:zcf w H c)(h:HAt w B C bl F G pl)(p:zav w I vl)(am:vl.length≤9000000000000000000)(q:zby w) :
  Calls prog 184 #[.slice H n J,I_ f,.agg #[I_ au,I_ rd,.slice B bl.length C,.slice F pl.length G,.slice I vl.length M]] w fun e w'=>e=.returned (I_ (zeB (zA c) f au rd (zai au rd bl pl vl) (zay au rd bl pl) vl))∧B_ w w':=by
 subst hn;have a1:=hN_ w (.cells #[.slice H c.length J] 31);have a2:=hN_ (w.alloc (.cells #[.slice H c.length J] 31)) (.cells #[I_ f] 3);refine kA_ ?A0 ?_;exact #[I_ au,I_ rd,.slice B bl.length C,.slice F pl.length G,.slice I vl.length M];refine kW_ ?B0 ?_;exact (w.alloc (.cells #[.slice H c.length J] 31)).alloc (.cells #[I_ f] 3);have a3:=hN_ ?B0 (.cells ?A0 59);rw[zI] at a2;rw[zI,zI] at a3;have z:=zP (o:=.cells ?A0 59) (zP (o:=.cells #[I_ f] 3) a1);have A:=zP (o:=.cells ?A0 59) a2;have j:=a3;clear a1 a2 a3;have N:B_ w ((?B0).alloc (.cells ?A0 59)):=(((bR_ _ _).alloc (nR_ _) _).alloc (by simp) _).alloc (by simp;omega) _;go_in;go_wp2_with fail
 generalize (?B0).alloc (.cells ?A0 59)=W0 at N z A j ⊢;have d:=N;replace m:=m.below N;replace h:=h.below N;replace p:=p.below N;replace q:=q.below N;clear N;have U:=zjl c H _ J f W0 rfl hl m;by_cases hs:zcp (zA c) f=0;rw[hs] at U;have ak:Hid (zcp (zA c) f=0):=hs;clear hs
 rotate_left
 have D:Hid (zeB (zA c) f au rd (zai au rd bl pl vl) (zay au rd bl pl) vl=zcp (zA c) f):=by show _=_;rw[zeB,if_pos hs]
 generalize Y:zcp (zA c) f=y at U hs;have ai:Hid (zcp (zA c) f=y):=Y;clear Y;have hy:(y != 0)=true:=by simpa using hs
 rotate_left
 all_goals
  refine U.mono ?_;rintro _ w1 ⟨rfl,t⟩;dsimp only
 ·clear U;replace z:=zn t z;replace A:=zn t A;replace j:=zn t j;replace m:=m.below t;replace h:=h.below t;replace p:=p.below t;replace q:=q.below t;replace d:=d.trans (t.mono d.size);have V:=zfK au rd B C bl F G pl I M vl w1 h.lb h.lp p am;by_cases hc:zai au rd bl pl vl=0;rw[hc] at V;have an:Hid (zai au rd bl pl vl=0):=hc;have al:zK au rd bl pl=0:=by
   unfold zai at hc
   split at hc
   ·exact absurd hc (by assumption)
   ·rename_i g;simpa using g
  have ao:Hid (zK au rd bl pl=0):=al;clear hc al
  rotate_left
  have D:Hid (zeB (zA c) f au rd (zai au rd bl pl vl) (zay au rd bl pl) vl=zai au rd bl pl vl):=by show _=_;rw[zeB,if_neg (by simpa using ak.out),if_pos hc]
  generalize Y:zai au rd bl pl vl=y at V hc;have ai:Hid (zai au rd bl pl vl=y):=Y;clear Y;have hy:(y != 0)=true:=by simpa using hc
  rotate_left
  all_goals
   have ab:=zb j 0 _ rfl;have ac:=zb j 1 _ rfl;have ad:=zb j 2 _ rfl;have ae:=zb j 3 _ rfl;have af:=zb j 4 _ rfl;go_wp2_with fail
   refine V.mono ?_;rintro _ w2 ⟨rfl,u⟩;dsimp only
  ·clear V;clear ab ac ad ae af;replace z:=zn u z;replace A:=zn u A;replace j:=zn u j;replace m:=m.below u;replace h:=h.below u;replace p:=p.below u;replace q:=q.below u;replace d:=d.trans (u.mono d.size);have ab:=zb j 0 _ rfl;have ac:=zb j 1 _ rfl;have ad:=zb j 2 _ rfl;have ae:=zb j 3 _ rfl;have af:=zb j 4 _ rfl;go_wp2_with fail
   refine (zpv au rd B C bl F G pl w2 h ao.out q).mono ?_;rintro e w3 ⟨b,l,aA,aB,aj,L⟩;subst l;dsimp only;clear ab ac ad ae af;replace z:=zn L z;replace A:=zn L A;replace j:=zn L j;replace m:=m.below L;replace h:=h.below L;replace p:=p.below L;replace q:=q.below L;replace d:=d.trans (L.mono d.size);refine kA_ ?C0 ?_;exact #[I_ au,I_ rd,.slice (some ⟨b,0,none⟩) 32 32];have s:=(bR_ w3.heap.size w3).alloc (nR_ _) (.cells ?C0 66);have q9:=hN_ w3 (.cells ?C0 66);have O:=zP (o:=.cells ?C0 66) j;have av:=zb O 0 _ rfl;have aw:=zb O 1 _ rfl;have ax:=zb O 2 _ rfl;have ay:=zb O 3 _ rfl;have az:=zb O 4 _ rfl;go_wp2_with fail
   clear av aw ax ay az O;generalize hG:w3.alloc (.cells ?C0 66)=w4 at s q9 ⊢;clear hG;replace z:=zn s z;replace A:=zn s A;replace j:=zn s j;replace m:=m.below s;replace h:=h.below s;replace p:=p.below s;replace q:=q.below s;replace aj:=aj.below s;replace d:=d.trans (s.mono d.size);generalize ap:w3.heap.size=S9 at q9 ⊢;clear ap;have HA:∀ R,∀ W,B_ w4 W→Calls prog 218 #[I_ R,(P_ (w.heap.size+1) 0),(P_ w.heap.size 0),(P_ S9 0)] W fun e w'=>e=.returned (.bool (zdb (zA c) f au rd (zay au rd bl pl) R))∧B_ W w':=fun R W E=>
    zrf c H J f au rd R b 32 (zay au rd bl pl) w.heap.size (w.heap.size+1) S9 W hl (m.below E) (aj.below E) (zbs _ _ _ _) (zi0 _ _ _ _) (zn E A) (zn E z) (zn E q9)
   have ah:=fun W (E:B_ w4 W)=>zfR 218 #[P_ (w.heap.size+1) 0,(P_ w.heap.size 0),(P_ S9 0)] (zdb (zA c) f au rd (zay au rd bl pl)) (eO_ func218) vl I _ M W rfl am (p.below E) (fun R _ W2 aq=>HA R W2 (E.trans (aq.mono E.size)));have T:=HA au w4 (bR_ _ _);have aa:Hid (zeB (zA c) f au rd (zai au rd bl pl vl) (zay au rd bl pl) vl=if zdb (zA c) f au rd (zay au rd bl pl) au||vl.any (zdb (zA c) f au rd (zay au rd bl pl)) then 11 else 0):=by
    show _=_;rw[zeB,if_neg (by simpa using ak.out),if_neg (by simpa using an.out)]
   clear HA;cases hz:zdb (zA c) f au rd (zay au rd bl pl) au with
   | true=>
    rw[hz] at T;have D:Hid (zeB (zA c) f au rd (zai au rd bl pl vl) (zay au rd bl pl) vl=11):=by show _=_;rw[aa.out,hz];rfl
    clear hz aa ah;refine T.mono ?_;rintro _ w5 ⟨rfl,X⟩;dsimp only;go_wp2_with fail
    go_ret;exact ⟨zp D.out.symm,d.trans (X.mono d.size)⟩
   | false=>
    rw[hz] at T;refine T.mono ?_;rintro _ w5 ⟨rfl,X⟩;dsimp only;have ag:=ah w5 X;have Z:=zn X j;have aC:=zb Z 0 _ rfl;have aD:=zb Z 1 _ rfl;have aE:=zb Z 2 _ rfl;have aF:=zb Z 3 _ rfl;have aG:=zb Z 4 _ rfl;have D:Hid (zeB (zA c) f au rd (zai au rd bl pl vl) (zay au rd bl pl) vl=if vl.any (zdb (zA c) f au rd (zay au rd bl pl)) then 11 else 0):=by show _=_;rw[aa.out,hz];rfl
    clear hz aa ah T;generalize vl.any (zdb (zA c) f au rd (zay au rd bl pl))=r at ag D;replace d:=d.trans (X.mono d.size);go_wp2_with fail
    refine ag.mono ?_;rintro _ w6 ⟨rfl,ar⟩;dsimp only;replace d:=d.trans (ar.mono d.size);clear ag;cases r with
    | true=>
     go_wp2_with fail
     go_ret;exact ⟨zp D.out.symm,d⟩
    | false=>
     go_wp2_with fail
     go_ret;exact ⟨zp D.out.symm,d⟩
  ·go_wp2_with fail
   go_ret;exact ⟨zp (D.out.trans ai.out).symm,d.trans (u.mono d.size)⟩
 ·go_wp2_with fail
  go_ret;exact ⟨zp (D.out.trans ai.out).symm,d.trans (t.mono d.size)⟩
end Go.Proofs.YtdepbohhmfkjgaaGreatDoor
