import Derived.Test.YtdepbohhmfkjgaaGreatDoorPk3
import Derived.BigQuiet
import Derived.Laws.CopyOwn
set_option maxRecDepth 100000
set_option maxHeartbeats 4000000
namespace Go.Proofs.YtdepbohhmfkjgaaGreatDoor
open Go.RowKit Tryz
variable {w w':World}{qs:List zi}{ra:Option Addr}{rc:Nat}{v':Value}
structure Off (w:World)(v:Value)(ra:Option Addr)(qs:List zi):Prop where
 row:∀ sb so,ra=some ⟨sb,so,none⟩→sb<w.heap.size∧v.ownBlock≠some sb
 each:∀ p∈qs,∀ sb so,p.sa=some ⟨sb,so,none⟩→sb<w.heap.size∧v.ownBlock≠some sb
theorem zR.off {v:Value}(h:zR w v w' v')(d:Off w v ra qs):Off w' v' ra qs:=by
 have f:∀ b,b<w.heap.size∧v.ownBlock≠some b→b<w'.heap.size∧v'.ownBlock≠some b:=fun b ⟨j,l⟩=>
  ⟨nL_ j h.grown.size,fun e=>by
   rcases h.fresh b e with g|g
   ·exact l g
   ·omega⟩
 exact ⟨fun b c e=>f b (d.row b c e),fun p m b c e=>f b (d.each p m b c e)⟩
theorem zR.list {v:Value}(h:zR w v w' v')(b:zy w ra rc qs)(g:Off w v ra qs):zy w' ra rc qs:=by
 refine ⟨b.le,b.max,b.small,b.some,⟨?_,fun p m=>h.slice (b.parts.each p m) (fun c f e=>(g.each p m c f e).2)⟩⟩;rcases b.parts.cells with d|⟨c,f,rfl,d⟩
 ·exact .inl d
 ·exact .inr ⟨c,f,rfl,fun j l=>(cB_ (h.grown.block c (bL_ (d j l)) (fun e=>(g.row c f rfl).2 e.symm))).trans (d j l)⟩
theorem Off.alloc {v:Value}(h:Off w v ra qs)(o:Obj):Off (w.alloc o) v ra qs:=
 ⟨fun b c e=>⟨by have:=(h.row b c e).1;rw[zI];omega,(h.row b c e).2⟩,fun p d b c e=>⟨by have:=(h.each p d b c e).1;rw[zI];omega,(h.each p d b c e).2⟩⟩
structure zeE (w:World)(v:Value)(ra:Option Addr)(qs:List zi):Prop where
 row:∀ sb so,ra=some ⟨sb,so,none⟩→qs≠[]→sb<w.heap.size∧v.ownBlock≠some sb
 each:∀ p∈qs,∀ sb so,p.sa=some ⟨sb,so,none⟩→p.bs≠[]→sb<w.heap.size∧v.ownBlock≠some sb
theorem Off.weak {v:Value}(h:Off w v ra qs):zeE w v ra qs:=⟨fun b c e _=>h.row b c e,fun p d b c e _=>h.each p d b c e⟩
theorem zR.offW {v:Value}(h:zR w v w' v')(d:zeE w v ra qs):zeE w' v' ra qs:=by
 have f:∀ b,b<w.heap.size∧v.ownBlock≠some b→b<w'.heap.size∧v'.ownBlock≠some b:=fun b ⟨j,l⟩=>
  ⟨nL_ j h.grown.size,fun e=>by
   rcases h.fresh b e with g|g
   ·exact l g
   ·omega⟩
 exact ⟨fun b c e n=>f b (d.row b c e n),fun p m b c e n=>f b (d.each p m b c e n)⟩
theorem zR.listW {v:Value}(h:zR w v w' v')(b:zy w ra rc qs)(m:zeE w v ra qs):zy w' ra rc qs:=by
 refine ⟨b.le,b.max,b.small,b.some,⟨?_,fun p o=>?_⟩⟩
 ·rcases b.parts.cells with f|⟨d,l,rfl,f⟩
  ·exact .inl f
  ·exact .inr ⟨d,l,rfl,fun j g=>(cB_ (h.grown.block d (bL_ (f j g)) (fun e=>(m.row d l rfl (fun q=>by rw[q] at g;simp at g)).2 e.symm))).trans (f j g)⟩
 ·have c:=b.parts.each p o;by_cases hz:p.bs=[]
  ·exact ⟨c.le,c.max,c.some,c.nil,.inl hz⟩
  ·exact h.slice c (fun d l e=>(m.each p o d l e hz).2)
theorem zeE.alloc {v:Value}(h:zeE w v ra qs)(o:Obj):zeE (w.alloc o) v ra qs:=
 ⟨fun b c e n=>⟨by have:=(h.row b c e n).1;rw[zI];omega,(h.row b c e n).2⟩,fun p d b c e n=>⟨by have:=(h.each p d b c e n).1;rw[zI];omega,(h.each p d b c e n).2⟩⟩
theorem zih {v:Value}(h:zy w ra rc qs)(j:w.heap.size≤w'.heap.size)(l:∀ d,d<w.heap.size→v.ownBlock≠some d):zeE w' v ra qs:=by
 refine ⟨fun d q e n=>?_,fun p o d q e n=>?_⟩
 ·rcases h.parts.cells with c|⟨g,r,b,c⟩
  ·exact absurd c n
  ·obtain rfl:g=d:=by rw[e] at b;simp at b;exact b.1.symm
   have f:=bL_ (c 0 (by cases qs with|nil=>exact absurd rfl n|cons _ _=>simp));exact ⟨nL_ f j,l _ f⟩
 ·rcases (h.parts.each p o).bytes with c|⟨g,r,b,c⟩
  ·exact absurd c n
  ·obtain rfl:g=d:=by rw[e] at b;simp at b;exact b.1.symm
   have f:=bL_ (c 0 (by cases m:p.bs with|nil=>exact absurd m n|cons _ _=>simp));exact ⟨nL_ f j,l _ f⟩
def zam:List zi→List Int
 | []=>[]
 | p::l=>p.bs++zam l
theorem zpd (l:List zi)(p:zi):zam (l++[p])=zam l++p.bs:=by
 induction l with
 | nil=>simp[zam]
 | cons x l ih=>simp[zam,ih]
theorem zdo (l:List zi)(h:∀ p∈l,p.bs.length=32):(zam l).length=32*l.length:=by
 induction l with
 | nil=>simp[zam]
 | cons x l ih=>
  have b:=h x (by simp);have c:=ih (fun s d=>h s (by simp[d]));simp[zam,b,c];omega
def za6 (l:List zi):List Int:=(l.length:Int)::zam l
theorem zgu (base:Nat)(v:Value)(k:Nat)(bs:List Int)(g:Option Addr)(n y:Nat)(b:List zi)(w:World)(Z:n=b.length)(hl:b.length≤4)(z:∀ p∈b,p.bs.length=32)(R:zy w g y b)(V:zeE w v g b)
  (c:w.ownsRow base 5 1 v k (ub bs)) (A:base≤w.heap.size) (hk:k≤90000) :
  Calls prog 59 #[v,.slice g n y] w fun e w'=>∃ s,e=.returned s∧w'.ownsRow base 5 1 s (k+(za6 b).length) (ub (bs++za6 b))∧zR w v w' s:=by
 subst Z;obtain ⟨i,X,ab,ac,ad⟩:=info_parts zdI;go_in;go_wp2_with (at_builtin;refine wpList_append_own_at _ rfl _ _ 64 rfl base 5 i (.int .u8 0) 1 1 underlying64 X ab ac ad rfl (by decide) _ k _ rfl (oA_ c _) ⟨w.heap.size,0,none⟩ 1 1 [.int .u8 (b.length:Int)] rfl rfl (z8 _ _ _) (zcU [_]) (by unfold maxLen;omega) (by omega) (zz A _) ?_;intro v1 w1 F E _ C;have u:=(zR.of E C).alloc)
 have H:w1.ownsRow base 5 1 v1 (k+1) (ub (bs++[(b.length:Int)])):=by simpa[ub] using F
 clear F E C;go_loopw [15,0] (fun j t wr=>∃ (m:Nat) (d:Value),m≤b.length∧j=I_ m∧d=t∧wr.ownsRow base 5 1 d (k+1+(zam (b.take m)).length) (ub (bs++[(b.length:Int)]++zam (b.take m)))∧zR w v wr d) (fun j _ _=>b.length-(intOf j).toNat)
 case atStart=>exact ⟨0,_,nZ_ _,rfl,rfl,by simpa[zam] using H,u⟩
 case round=>
  clear H u;obtain ⟨m,d,hm,rfl,rfl,c,G⟩:=hrel;by_cases hlt:m<b.length
  ·have l:=G.listW R V;obtain ⟨o,q,rfl,D⟩:∃ o q,g=some ⟨o,q,none⟩∧∀ j (h:j<b.length),C_ wr o (q+j) (.slice (b[j]).sa (b[j]).bs.length (b[j]).cap):=by
    rcases l.parts.cells with h|h
    ·subst h;simp at hlt
    ·exact h
   have ck:=D m hlt;have hp:=l.parts.each b[m] (gM_ hlt);have I:=z b[m] (gM_ hlt);have J:Hid (zam (b.take (m+1))=zam (b.take m)++(b[m]).bs):=by
    show _=_;rw[tS_ hlt,zpd]
   have U:(zam (b.take m)).length≤128:=by
    rw[zdo _ (fun p h=>z p (List.mem_of_mem_take h)),lT9_];omega
   have Y:(m:Int)<b.length:=by omega
   clear D l;generalize b[m]=p at *;generalize zam (b.take m)=T at c J U;have O:base≤wr.heap.size:=nT_ A G.grown.size;have ae:Hid (p.bs.length=32):=I;have af:p.bs.length≤32:=by omega
   clear I;go_wp2_with (at_builtin;refine zeJ rfl _ _ rfl base d (k+1+T.length) _ rfl c p.sa p.bs.length p.cap p.bs rfl rfl hp (by omega) O ?_;intro L M aa N)
   go_roundw
   case rel=>
    have B:∃ (f:Nat) (r:Value),f≤b.length∧(Value.int .i64 ((m:Int)+1))=I_ f∧r=L∧M.ownsRow base 5 1 r (k+1+(zam (b.take f)).length) (ub (bs++[(b.length:Int)]++zam (b.take f)))∧zR w v M r:=
     ⟨m+1,L,by omega,by go_num,rfl,by rw[J.out,lP_,←Nat.add_assoc];simpa using aa,G.trans N⟩
    first|exact B|((repeat apply Exists.intro);exact ⟨B,rfl⟩)
   case measure=>simp[intOf];omega
  ·obtain rfl:m=b.length:=by omega
   rw[tL_ (nR_ _)] at c;have Y:¬(b.length:Int)<b.length:=by omega
   go_wp2_with fail
   go_ret;refine ⟨_,rfl,?_,G⟩;rw[show k+(za6 b).length=k+1+(zam b).length by simp[za6];omega,show bs++za6 b=bs++[(b.length:Int)]++zam b by simp[za6]];exact c
def zaQ (au rd:Int)(bl pl:List zi):List Int:=[au]++rd3 rd++za6 bl++za6 pl
theorem zfe (base:Nat)(v:Value)(k:Nat)(bs:List Int)(au rd:Int)(b:Option Addr)(A d:Nat)(bl:List zi)(c:Option Addr)(M f:Nat)(pl:List zi)(w:World)(Z:0≤au∧au<4)(hr:0≤rd∧rd≤1048576)(ab:A=bl.length)(aj:M=pl.length)(aa:bl.length≤4)(ai:pl.length≤4)(F:∀ p∈bl,p.bs.length=32)(ah:∀ p∈pl,p.bs.length=32)
  (X:zy w b d bl) (C:zeE w v b bl) (Y:zy w c f pl) (D:zeE w v c pl)
  (H:w.ownsRow base 5 1 v k (ub bs)) (o:base≤w.heap.size) (hk:k≤80000) :
  Calls prog 33 #[v,.agg #[I_ au,I_ rd,.slice b A d,.slice c M f]] w fun e w'=>∃ t,e=.returned t∧w'.ownsRow base 5 1 t (k+(zaQ au rd bl pl).length) (ub (bs++zaQ au rd bl pl))∧zR w v w' t:=by
 subst ab aj;obtain ⟨i,hi,al,am,an⟩:=info_parts zdI;obtain ⟨ao,ap⟩:=Z;have L:v.ownBlock≠some w.heap.size:=fun e=>by have:=(H.lt _ e).2;omega
 go_in;go_wp2_with (at_builtin;refine wpList_append_own_at _ rfl _ _ 64 rfl base 5 i (.int .u8 0) 1 1 underlying64 hi al am an rfl (by decide) _ k _ rfl (oA_ (oA_ H _) _) ⟨w.heap.size+1,0,none⟩ 1 1 [.int .u8 au] rfl rfl (by have:=z8 (w.alloc (.cells #[I_ au,I_ rd,.slice b bl.length d,.slice c pl.length f] 56)) [.int .u8 au] 5;rw[zI] at this;exact this) (zcU [_]) (by unfold maxLen;omega) (by omega) (zz (zz o _) _) ?_;intro u O I G _ E;have m:=zR.of G E;have q:=m.row (hX_ w _ _) L;have T:C_ O w.heap.size 1 (I_ rd):=zb q 1 _ rfl)
 have ad:O.ownsRow base 5 1 u (k+1) (ub (bs++[au])):=by simpa[ub] using I
 have J:u.ownBlock≠some w.heap.size:=fun e=>by
  rcases m.fresh _ e with g|g
  ·exact L g
  ·rw[zI,zI] at g;omega
 have y:=m.alloc.alloc;clear I G E m;refine (zdS base u (k+1) _ rd _ hr ad (nT_ o y.grown.size) (by omega)).mono ?_;rintro e w2 ⟨N,rfl,ae,r⟩;have s:=r.row q J;have U:=zb s 2 (.slice b bl.length d) rfl;have ak:N.ownBlock≠some w.heap.size:=fun e=>by
  rcases r.fresh _ e with g|g
  ·exact J g
  ·have:=ze q;omega
 have j:=y.trans r;have B:=zgu base N (k+1+3) _ b _ d bl w2 rfl aa F (j.listW X C) (j.offW C) ae (nT_ o j.grown.size) (by omega);clear q T;go_wp2_with fail
 refine B.mono ?_;rintro e w3 ⟨v3,rfl,af,z⟩;have r3:=z.row s ak;have c3:=zb r3 3 (.slice c pl.length f) rfl;have l:=j.trans z;have ac:=zdo bl F;have V:=zgu base v3 (k+1+3+(za6 bl).length) _ c _ f pl w3 rfl ai ah (l.listW Y D) (l.offW D) af (nT_ o l.grown.size) (by simp[za6];omega);clear s U B ac;go_wp2_with fail
 refine V.mono ?_;rintro e w4 ⟨v4,rfl,ag,R⟩;go_wp2_with fail
 go_ret;refine ⟨v4,rfl,?_,l.trans R⟩;rw[show k+(zaQ au rd bl pl).length=k+1+3+(za6 bl).length+(za6 pl).length by simp[zaQ,rd3];omega,show bs++zaQ au rd bl pl=bs++[au]++rd3 rd++za6 bl++za6 pl by simp[zaQ]];exact ag
theorem zjA (base:Nat)(v:Value)(k:Nat)(bs:List Int)(au rd:Int)(b:Option Addr)(f d:Nat)(bl:List zi)(c:Option Addr)(j g:Nat)(pl:List zi)(w:World)(t:0≤au∧au<4)(F:0≤rd∧rd≤1048576)(z:f=bl.length)(E:j=pl.length)(y:bl.length≤4)(D:pl.length≤4)(u:∀ p∈bl,p.bs.length=32)(C:∀ p∈pl,p.bs.length=32)
  (o:zy w b d bl) (r:Off w v b bl) (q:zy w c g pl) (s:Off w v c pl)
  (B:w.ownsRow base 5 1 v k (ub bs)) (m:base≤w.heap.size) (A:k≤80000) :
  Calls prog 33 #[v,.agg #[I_ au,I_ rd,.slice b f d,.slice c j g]] w fun e w'=>∃ l,e=.returned l∧w'.ownsRow base 5 1 l (k+(zaQ au rd bl pl).length) (ub (bs++zaQ au rd bl pl))∧zR w v w' l:=
 zfe base v k bs au rd b f d bl c j g pl w t F z E y D u C o r.weak q s.weak B m A
def zez (ps:List zi)(q:zi)(k:Nat):Bool:=(List.range k).any fun j=>decide (txL (zcu ps j).bs=txL q.bs)
theorem zqP (b:List zi)(q:zi)(k m:Nat)(c:m<k)(h:txL (zcu b m).bs=txL q.bs):zez b q k=true:=by
 simp only[zez,List.any_eq_true];exact ⟨m,by simpa using c,by simpa using h⟩
theorem zsP (b:List zi)(q:zi)(k:Nat)(h:∀ j,j<k→¬txL (zcu b j).bs=txL q.bs):zez b q k=false:=by
 simp only[zez,List.any_eq_false];intro j c
 simpa using h j (by simpa using c)
theorem zlW (b:List zi)(q:zi)(y:Option Addr)(k z g:Nat)(w:World)(D:k≤b.length)(I:k≤9000000000000000000)(u:zbG w y b)(E:zf w q.sa q.cap q.bs)(B:C_ w g 0 (.slice q.sa q.bs.length q.cap)) :
  Calls prog 178 #[.slice y k z,.func (.func 136) #[] #[P_ g 0]] w fun e w'=>w=w'∧∃ r:Int,e=.returned (I_ r)∧((zez b q k=true∧0≤r)∨(zez b q k=false∧r=-1)):=by
 go_in;go_wp2_with fail
 go_loop [8] (fun i=>∃ m:Nat,m≤k∧i=I_ m∧∀ j,j<m→¬txL (zcu b j).bs=txL q.bs) (fun i=>k-(intOf i).toNat)
 case atStart=>exact ⟨0,nZ_ _,rfl,fun j C=>by omega⟩
 case round=>
  obtain ⟨m,L,rfl,s⟩:=hrel;by_cases hlt:m<k
  ·rcases u.cells with c|⟨M,N,rfl,c⟩
   ·subst c;simp at D;omega
   have l:m<b.length:=by omega
   have H:=c m l;have F:=u.each (b[m]) (gM_ l);have J:(m:Int)<k:=by omega
   have t:=zfT b m l;have f:Hid (txL (b[m]).bs=txL q.bs→zez b q k=true):=by
    show _→_;intro h;exact zqP b q k m hlt (by rw[t];exact h)
   have d:Hid (¬txL (b[m]).bs=txL q.bs→∀ j,j<m+1→¬txL (zcu b j).bs=txL q.bs):=by
    show _→_;intro h j C;rcases Nat.lt_or_ge j m with g|g
    ·exact s j g
    ·obtain rfl:j=m:=by omega
     rw[t];exact h
   clear s t c;generalize b[m]=p at *;go_wp2_with fail
   refine (zmm p.bs q.bs p.sa q.sa _ _ p.cap q.cap g w rfl rfl F E B).mono ?_;rintro _ O ⟨rfl,rfl⟩;dsimp only;by_cases h:txL p.bs=txL q.bs
   ·have G:=f.out h;rw[dT_ h];clear f d h;go_wp2_with fail
    go_ret;exact ⟨rfl,(m:Int),rfl,.inl ⟨G,by omega⟩⟩
   ·have o:=d.out h;rw[dF_ h];clear f d h;go_wp2_with fail
    go_round
    case rel=>exact ⟨m+1,by omega,by go_num,o⟩
    case measure=>simp[intOf];omega
  ·obtain rfl:m=k:=by omega
   have o:Hid (zez b q m=false):=zsP b q m s;go_wp2_with fail
   go_ret;refine ⟨rfl,(-1:Int),rfl,?_⟩;exact .inr ⟨o.out,rfl⟩
theorem zjB (b:List zi)(q:zi)(d:Option Addr)(k f g:Nat)(w:World)(o:k≤b.length)(p:k≤9000000000000000000)(s:zbG w d b)(t:zf w q.sa q.cap q.bs)(m:C_ w g 0 (.slice q.sa q.bs.length q.cap)) :
  Calls prog 138 #[.slice d k f,.func (.func 136) #[] #[P_ g 0]] w fun e w'=>e=.returned (.bool (zez b q k))∧w=w':=by
 go_in;go_wp2_with fail
 refine (zlW b q d k f g w o p s t m).mono ?_;rintro e u ⟨rfl,r,l,j⟩;subst l;dsimp only;rcases j with ⟨c,j⟩|⟨c,rfl⟩
 all_goals
  go_wp2_with fail
  go_ret;exact ⟨zS (by rw[c]),rfl⟩
theorem zgc (b:List zi)(s:Option Addr)(n c:Nat)(w:World)(H:n=b.length)(N:n≤c)(_hcm:c≤9223372036854775807)(U:n≤9000000000000000000)(J:c=0∨∃ g j,s=some ⟨g,j,none⟩)(I:zbG w s b) :
  Calls prog 99 #[.slice s n c] w fun e w'=>e=.returned (I_ (zbV b))∧B_ w w':=by
 subst H;have T:∀ (fn:Fn) (first c:Array Value) (w:World),(Instr.makeFunc fn first c).run prog w=.ok (.func fn first c) w:=fun _ _ _ _=>rfl;go_in;go_wp2_with fail
 go_loopw [8] (fun i wr=>∃ k:Nat,k≤b.length∧i=I_ k∧zbd b k=0∧B_ w wr) (fun i _=>b.length-(intOf i).toNat)
 case atStart=>exact ⟨0,nZ_ _,rfl,rfl,bR_ _ _⟩
 case round=>
  obtain ⟨k,G,rfl,t,d⟩:=hrel;by_cases hlt:k<b.length
  ·obtain ⟨g,j,rfl⟩:∃ g j,s=some ⟨g,j,none⟩:=by
    rcases J with h|h
    ·omega
    ·exact h
   have q:=I.below d;have r:=q.each (b[k]) (gM_ hlt);have C:=zfT b k hlt;have L:C_ wr g (j+k) (.slice (b[k]).sa (b[k]).bs.length (b[k]).cap):=by
    rcases q.cells with y|⟨X,Y,e,y⟩
    ·rw[y] at hlt;simp at hlt
    ·cases e;exact y k hlt
   have R:(k:Int)<b.length:=by omega
   have O:(k:Int)≤c:=by omega
   have f:Hid (zci b k=if (b[k]).bs.length≠32 then 4 else if zez b (b[k]) k then 7 else 0):=by
    show _=_;rw[zci,zfn,C]
    rfl
   have l:Hid (zci b k≠0→zbV b=zci b k):=by
    show _→_;exact zuq b k hlt t
   have o:Hid (zci b k=0→zbd b (k+1)=0):=by
    show _→_;intro h;rw[zbd,t,h];rfl
   clear C;have V:(b[k]).bs.length≤9223372036854775807:=nT_ r.le r.max;generalize b[k]=p at *;by_cases h32:p.bs.length=32
   ·have A:=zO wr (.cells #[.slice p.sa 32 p.cap] 64);have B:(wr.alloc (.cells #[.slice p.sa 32 p.cap] 64)).cell? ⟨wr.heap.size,0,none⟩=some (.slice p.sa p.bs.length p.cap):=by
     rw[h32];exact zgt _ _ _ 0 _ rfl
    have m:=zjB b p (some ⟨g,j,none⟩) k c wr.heap.size _ G (by omega) (q.below A) (r.below A) B;clear B r q;by_cases hT:zez b p k=true;rw[hT] at m;have F:zbV b=7:=by
     have:zci b k=7:=by rw[f.out,if_neg (by simp[h32]),hT];rfl
     rw[l.out (by rw[this];decide),this]
    clear f l o hT
    rotate_left
    have u:zez b p k=false:=by simpa using hT
    rw[u] at m;have D:=o.out (by rw[f.out,if_neg (by simp[h32]),u];rfl);clear f l o hT u
    rotate_left
    all_goals
     go_wp2_with fail
     refine m.mono ?_;rintro _ w2 ⟨rfl,rfl⟩;dsimp only;go_wp2_with fail
    ·go_ret;exact ⟨zp F.symm,d.alloc d.size _⟩
    ·go_roundw
     case rel=>exact ⟨k+1,by omega,by go_num,D,d.alloc d.size _⟩
     case measure=>simp[intOf];omega
   ·have M:¬(p.bs.length:Int)=32:=by omega
    have E:zbV b=4:=by
     have:zci b k=4:=by rw[f.out,if_pos h32]
     rw[l.out (by rw[this];decide),this]
    clear f l o;go_wp2_with fail
    go_ret;exact ⟨zp E.symm,d.alloc d.size _⟩
  ·obtain rfl:k=b.length:=by omega
   go_wp2_with fail
   go_ret;exact ⟨zp t.symm,d⟩
theorem zjC (rd:Int)(n:Nat)(w:World)(f:n≤1000) :
  Calls prog 100 #[I_ rd,I_ n] w fun e w'=>e=.returned (I_ (zbW rd n))∧w=w':=by
 by_cases h1:rd=1;subst h1;by_cases h2:0<n;have b:Hid (zbW 1 n=10):=by show _=_;simp[zbW,h2]
 have c:(0:Int)<n:=by omega
 rotate_left
 have b:Hid (zbW 1 n=0):=by show _=_;simp[zbW,h2]
 have c:¬(0:Int)<n:=by omega
 rotate_left
 by_cases h2:1<rd;by_cases h3:n<3;have b:Hid (zbW rd n=10):=by show _=_;simp[zbW,h2,h3]
 have d:(n:Int)<3:=by omega
 rotate_left
 have b:Hid (zbW rd n=0):=by show _=_;simp[zbW,h1,h3]
 have d:¬(n:Int)<3:=by omega
 rotate_left
 have b:Hid (zbW rd n=0):=by show _=_;simp[zbW,h1,h2]
 rotate_left
 all_goals
  go_in;go_wp2_with fail
  go_ret;exact ⟨zp b.out.symm,rfl⟩
theorem zdT (au rd:Int)(o:Option Addr)(p:Nat)(bl:List zi)(g:Option Addr)(j:Nat)(pl:List zi)(w:World)(c:zy w o p bl)(d:zy w g j pl) :
  Calls prog 75 #[.agg #[I_ au,I_ rd,.slice o bl.length p,.slice g pl.length j]] w fun e w'=>e=.returned (I_ (zK au rd bl pl))∧B_ w w':=by
 have D:=c.le;have E:=c.max;have F:=c.small;have G:=d.le;have H:=d.max;have I:=d.small;have l:=zO w (.cells #[I_ au,I_ rd,.slice o bl.length p,.slice g pl.length j] 56);by_cases ha:0≤au∧au<4
 ·by_cases hr:1≤rd∧rd≤1048576
  ·by_cases hz:3<bl.length∨4<pl.length
   ·have b:Hid (zK au rd bl pl=1):=by show _=_;rw[zK,if_neg (by simp[ha,hr]),if_pos hz]
    by_cases hz1:3<bl.length;have u:(3:Int)<bl.length:=by omega
    rotate_left
    have u:¬(3:Int)<bl.length:=by omega
    have A:(4:Int)<pl.length:=by omega
    rotate_left
    all_goals
     go_in;go_wp2_with (first|(go_at_call 55;first|(refine (zaJ _ _ (by omega)).mono ?_;rintro e w' ⟨rfl,rfl⟩)|(refine (zax _ _ (by omega)).mono ?_;rintro e w' ⟨rfl,rfl⟩))|(go_at_call 78;first|(refine (zbo _ _ (by omega)).mono ?_;rintro e w' ⟨rfl,rfl⟩)|(refine (za8 _ _ (by omega)).mono ?_;rintro e w' ⟨rfl,rfl⟩)))
     go_ret;exact ⟨zp b.out.symm,l⟩
   ·have b:Hid (zK au rd bl pl=if zbV bl≠0 then zbV bl else if zbV pl≠0 then zbV pl else zbW rd pl.length):=by show _=_;rw[zK,if_neg (by simp[ha,hr]),if_neg hz]
    have u:¬(3:Int)<bl.length:=by omega
    have A:¬(4:Int)<pl.length:=by omega
    go_in;go_wp2_with (first|(go_at_call 55;first|(refine (zaJ _ _ (by omega)).mono ?_;rintro e w' ⟨rfl,rfl⟩)|(refine (zax _ _ (by omega)).mono ?_;rintro e w' ⟨rfl,rfl⟩))|(go_at_call 78;first|(refine (zbo _ _ (by omega)).mono ?_;rintro e w' ⟨rfl,rfl⟩)|(refine (za8 _ _ (by omega)).mono ?_;rintro e w' ⟨rfl,rfl⟩)))
    refine (zgc bl o _ p _ rfl c.le c.max c.small c.some (c.parts.below l)).mono ?_;rintro _ J ⟨rfl,f⟩;dsimp only;have q:=zbN f;replace f:=zV f;have y:=zb q 3 (.slice g pl.length j) rfl;by_cases h1:zbV bl=0
    ·rw[h1] at b ⊢;go_wp2_with fail
     refine (zgc pl g _ j _ rfl d.le d.max d.small d.some (d.parts.below f)).mono ?_;rintro _ w2 ⟨rfl,t⟩;dsimp only;have r:=zn t q;have s:=zq f t;have B:=zb r 1 (I_ rd) rfl;have C:C_ w2 w.heap.size 3 (.slice g pl.length j):=zb r 3 _ rfl;clear y q r;by_cases h2:zbV pl=0
     ·rw[h2] at b ⊢;go_wp2_with fail
      refine (zjC rd pl.length w2 (by omega)).mono ?_;rintro _ L ⟨rfl,rfl⟩;dsimp only;go_wp2_with fail
      go_ret;exact ⟨zp (by rw[b.out];rfl),s⟩
     ·rw[if_neg (by simp),if_pos h2] at b;generalize zbV pl=z at *;go_wp2_with fail
      go_ret;exact ⟨zp b.out.symm,s⟩
    ·rw[if_pos h1] at b;generalize zbV bl=z at *;go_wp2_with fail
     go_ret;exact ⟨zp b.out.symm,f⟩
  ·have b:Hid (zK au rd bl pl=2):=by show _=_;simp[zK,hr]
   go_in;go_wp2_with (first|(go_at_call 55;first|(refine (zaJ _ _ (by omega)).mono ?_;rintro e w' ⟨rfl,rfl⟩)|(refine (zax _ _ (by omega)).mono ?_;rintro e w' ⟨rfl,rfl⟩))|(go_at_call 78;first|(refine (zbo _ _ (by omega)).mono ?_;rintro e w' ⟨rfl,rfl⟩)|(refine (za8 _ _ (by omega)).mono ?_;rintro e w' ⟨rfl,rfl⟩)))
   go_ret;exact ⟨zp b.out.symm,l⟩
 ·have b:Hid (zK au rd bl pl=2):=by show _=_;simp[zK,ha]
  go_in;go_wp2_with (first|(go_at_call 55;first|(refine (zaJ _ _ (by omega)).mono ?_;rintro e w' ⟨rfl,rfl⟩)|(refine (zax _ _ (by omega)).mono ?_;rintro e w' ⟨rfl,rfl⟩))|(go_at_call 78;first|(refine (zbo _ _ (by omega)).mono ?_;rintro e w' ⟨rfl,rfl⟩)|(refine (za8 _ _ (by omega)).mono ?_;rintro e w' ⟨rfl,rfl⟩)))
  go_ret;exact ⟨zp b.out.symm,l⟩
variable {B:Nat}
def ua (vs:List Int):Array Value:=(vs.map (Value.int .u32)).toArray
theorem zb0 (b:List Int):(ua b).size=b.length:=by simp[ua]
theorem zdp (b:List Int)(i:Nat)(h:i<b.length):(ua b)[i]? = some (.int .u32 (b.getD i 0)):=by
 simp[ua,List.getD,h]
theorem zdJ (b:List Int)(i:Nat)(x:Int):(ua b).setIfInBounds i (.int .u32 x)=ua (b.set i x):=by
 simp[ua,List.map_set]
theorem zeT (b:List Int):(ua b).all (·.oneCell')=true:=by
 simp only[ua,List.all_toArray,List.all_map,List.all_eq_true];intro x _;rfl
theorem z16:ua (List.replicate 16 0)=#[.int .u32 0,.int .u32 0,.int .u32 0,.int .u32 0,.int .u32 0,.int .u32 0,.int .u32 0,.int .u32 0,.int .u32 0,.int .u32 0,.int .u32 0,.int .u32 0,.int .u32 0,.int .u32 0,.int .u32 0,.int .u32 0]:=rfl
def zmn (n:Int)(x:Int):Int:=bits .or .u32 (x*2 ^ (32-n).toNat % 4294967296) (x / 2 ^ n.toNat)
def mA1 (a b x:Int):Int:=(a+(b+x)) % 4294967296
def mD1 (a b d x:Int):Int:=zmn 16 (bits .xor .u32 d (mA1 a b x))
def mC1 (a b c d x:Int):Int:=(c+mD1 a b d x) % 4294967296
def mB1 (a b c d x:Int):Int:=zmn 12 (bits .xor .u32 b (mC1 a b c d x))
def mA (a b c d x y:Int):Int:=(a+(b+x)+(mB1 a b c d x+y)) % 4294967296
def mD (a b c d x y:Int):Int:=zmn 8 (bits .xor .u32 (mD1 a b d x) (mA a b c d x y))
def mC (a b c d x y:Int):Int:=(c+mD1 a b d x+mD a b c d x y) % 4294967296
def mB (a b c d x y:Int):Int:=zmn 7 (bits .xor .u32 (mB1 a b c d x) (mC a b c d x y))
def zmo (vs:List Int)(i j k l:Nat)(x y:Int):List Int:=
 (((vs.set i (mA (vs.getD i 0) (vs.getD j 0) (vs.getD k 0) (vs.getD l 0) x y)).set j (mB (vs.getD i 0) (vs.getD j 0) (vs.getD k 0) (vs.getD l 0) x y)).set k (mC (vs.getD i 0) (vs.getD j 0) (vs.getD k 0) (vs.getD l 0) x y)).set l (mD (vs.getD i 0) (vs.getD j 0) (vs.getD k 0) (vs.getD l 0) x y)
theorem znN (b:List Int)(i j k l:Nat)(x y:Int):(zmo b i j k l x y).length=b.length:=by simp[zmo]
def fw:List Int:=[1779033703,3144134277,1013904242,2773480762,1359893119,2600822924,528734635,1541459225]
def zfu (w:World):Prop:=∀ i,i<8→C_ w 1 i (.int .u32 (fw.getD i 0))
theorem zfu.below (h:zfu w)(c:Below B w w')(b:1<B):zfu w':=fun i d=>(c.cell (p:=⟨1,i,none⟩) b).trans (h i d)
theorem zfu.lt (h:zfu w):1<w.heap.size:=block_lt_of_cell (h 0 (by decide))
def zhs:List Nat:=[0,1,2,3,4,5,6,7,8,9,10,11,12,13,14,15,14,10,4,8,9,15,13,6,1,12,0,2,11,7,5,3,11,8,12,0,5,2,15,13,10,14,3,6,7,1,9,4,7,9,3,1,13,12,11,14,2,6,5,10,4,0,15,8,9,0,5,7,2,4,10,15,14,1,11,12,6,8,3,13,2,12,6,10,0,11,8,3,4,13,7,5,15,14,1,9,12,5,1,15,14,13,4,10,0,7,6,3,9,2,8,11,13,11,7,14,12,1,3,9,5,0,15,4,8,6,2,10,6,15,14,9,11,3,0,8,12,2,13,7,1,4,10,5,10,2,8,4,7,6,1,5,15,11,9,14,3,12,13,0]
def zaE:List Nat:=[0,4,8,12,1,5,9,13,2,6,10,14,3,7,11,15,0,5,10,15,1,6,11,12,2,7,8,13,3,4,9,14]
def zvs (w:World):Prop:=∀ i,i<160→C_ w 2 i (.int .u8 (zhs.getD i 0:Nat))
def zwi (w:World):Prop:=∀ i,i<32→C_ w 3 i (.int .u8 (zaE.getD i 0:Nat))
structure zby (w:World):Prop where
 words:zfu w
 orders:zvs w
 lanes:zwi w
theorem zby.lt (h:zby w):1<w.heap.size∧2<w.heap.size∧3<w.heap.size:=
 ⟨h.words.lt,block_lt_of_cell (h.orders 0 (by decide)),block_lt_of_cell (h.lanes 0 (by decide))⟩
theorem zby.below (h:zby w)(b:B_ w w'):zby w':=
 ⟨h.words.below b h.lt.1,fun i c=>(b.cell (p:=⟨2,i,none⟩) h.lt.2.1).trans (h.orders i c),fun i c=>(b.cell (p:=⟨3,i,none⟩) h.lt.2.2).trans (h.lanes i c)⟩
theorem zoJ (i:Nat)(h:i<160):zhs.getD i 0<16:=by
 have:∀ i,i<160→zhs.getD i 0<16:=by decide +kernel
 exact this i h
theorem zsQ (i:Nat)(h:i<8):zaE.getD (i*4) 0<16∧zaE.getD (i*4+1) 0<16∧zaE.getD (i*4+2) 0<16∧zaE.getD (i*4+3) 0<16 ∧
  ¬zaE.getD (i*4) 0=zaE.getD (i*4+1) 0∧¬zaE.getD (i*4) 0=zaE.getD (i*4+2) 0∧¬zaE.getD (i*4) 0=zaE.getD (i*4+3) 0 ∧
  ¬zaE.getD (i*4+1) 0=zaE.getD (i*4+2) 0∧¬zaE.getD (i*4+1) 0=zaE.getD (i*4+3) 0∧¬zaE.getD (i*4+2) 0=zaE.getD (i*4+3) 0:=by
 have:∀ i,i<8→zaE.getD (i*4) 0<16∧zaE.getD (i*4+1) 0<16∧zaE.getD (i*4+2) 0<16∧zaE.getD (i*4+3) 0<16 ∧
  ¬zaE.getD (i*4) 0=zaE.getD (i*4+1) 0∧¬zaE.getD (i*4) 0=zaE.getD (i*4+2) 0∧¬zaE.getD (i*4) 0=zaE.getD (i*4+3) 0 ∧
  ¬zaE.getD (i*4+1) 0=zaE.getD (i*4+2) 0∧¬zaE.getD (i*4+1) 0=zaE.getD (i*4+3) 0∧¬zaE.getD (i*4+2) 0=zaE.getD (i*4+3) 0:=by decide
 exact this i h
def zbe (bs:List Int):Nat→List Int
 | 0=>List.replicate 16 0
 | k+1=>(zbe bs k).set (k / 4) (bits .or .u32 ((zbe bs k).getD (k / 4) 0) (bs.getD k 0 % 4294967296*2 ^ (8*(k % 4)) % 4294967296))
theorem zef (bs:List Int)(k:Nat):(zbe bs k).length=16:=by
 induction k with
 | zero=>rfl
 | succ k ih=>simp[zbe,ih]
def zan (s:List Int):Nat→List Int
 | 0=>s++List.replicate 8 0
 | k+1=>(zan s k).set (8+k) (fw.getD k 0)
theorem zdU (s:List Int)(b:s.length=8)(k:Nat):(zan s k).length=16:=by
 induction k with
 | zero=>simp[zan,b]
 | succ k ih=>simp[zan,ih]
def zff (s:List Int)(taken:Int):List Int:=(zan s 8).set 12 (bits .xor .u32 ((zan s 8).getD 12 0) (taken % 4294967296))
def za5 (s:List Int)(taken:Int)(last:Bool):List Int:=
 if last then (zff s taken).set 14 (bits .xor .u32 IntKind.u32.max ((zan s 8).getD 14 0)) else zff s taken
theorem zkK (s:List Int)(b:s.length=8)(c:Int):(zff s c).length=16:=by simp[zff,zdU s b]
theorem zdq (s:List Int)(c:s.length=8)(d:Int)(b:Bool):(za5 s d b).length=16:=by cases b<;>simp[za5,zkK s c]
def zcm:Nat→List Int
 | 0=>List.replicate 8 0
 | k+1=>(zcm k).set k (fw.getD k 0)
theorem zfg (k:Nat):(zcm k).length=8:=by
 induction k with
 | zero=>rfl
 | succ k ih=>simp[zcm,ih]
def zc6:List Int:=(zcm 8).set 0 (bits .xor .u32 ((zcm 8).getD 0 0) 16842784)
theorem zdK:zc6.length=8:=by simp[zc6,zfg]
def zmp (m:List Int)(r i:Nat)(v:List Int):List Int:=
 zmo v (zaE.getD (i*4) 0) (zaE.getD (i*4+1) 0) (zaE.getD (i*4+2) 0) (zaE.getD (i*4+3) 0) (m.getD (zhs.getD (r*16+2*i) 0) 0) (m.getD (zhs.getD (r*16+(2*i+1)) 0) 0)
def zeg (m:List Int)(r:Nat)(v:List Int):Nat→List Int
 | 0=>v
 | k+1=>zmp m r k (zeg m r v k)
def zcn (m v:List Int):Nat→List Int
 | 0=>v
 | r+1=>zeg m r (zcn m v r) 8
theorem zg2 (m:List Int)(r:Nat)(v:List Int)(k:Nat):(zeg m r v k).length=v.length:=by
 induction k with
 | zero=>rfl
 | succ k ih=>simp[zeg,zmp,znN,ih]
theorem zgv (m v:List Int)(r:Nat):(zcn m v r).length=v.length:=by
 induction r with
 | zero=>rfl
 | succ r ih=>simp[zcn,zg2,ih]
def zcv (s v:List Int):Nat→List Int
 | 0=>s
 | k+1=>(zcv s v k).set k (bits .xor .u32 ((zcv s v k).getD k 0) (bits .xor .u32 (v.getD k 0) (v.getD (k+8) 0)))
theorem zh3 (s v:List Int)(k:Nat):(zcv s v k).length=s.length:=by
 induction k with
 | zero=>rfl
 | succ k ih=>simp[zcv,ih]
def zeh (s bs:List Int)(taken:Int)(last:Bool):List Int:=
 zcv s (zcn (zbe bs bs.length) (za5 s taken last) 10) 8
theorem zii (s bs:List Int)(c:Int)(b:Bool):(zeh s bs c b).length=s.length:=zh3 _ _ _
def zcM (s:List Int):Nat→List Int
 | 0=>[]
 | k+1=>zcM s k++[s.getD k 0 % 256,s.getD k 0 / 256 % 256,s.getD k 0 / 65536 % 256,s.getD k 0 / 16777216 % 256]
theorem zmq (s:List Int)(k:Nat):(zcM s k).length=4*k:=by
 induction k with
 | zero=>rfl
 | succ k ih=>simp[zcM,ih];omega
theorem zsR (x n:Int)(w:World)(h:n=16∨n=12∨n=8∨n=7) :
  Calls prog 264 #[.int .u32 x,I_ n] w fun e w'=>e=.returned (.int .u32 (zmn n x))∧w'=w:=by
 have b:bits .and .u64 (IntKind.u64.wrap (-16)) 31=16:=by decide
 have c:bits .and .u64 (IntKind.u64.wrap (-12)) 31=20:=by decide
 have d:bits .and .u64 (IntKind.u64.wrap (-8)) 31=24:=by decide
 have f:bits .and .u64 (IntKind.u64.wrap (-7)) 31=25:=by decide
 rcases h with rfl|rfl|rfl|rfl
 all_goals
  go_in
  go_wp2
  go_ret;exact ⟨rfl,rfl⟩
theorem zqQ (bv l0 l1 l2 l3 : Nat) (a b c d x y : Int) (w : World) (hbv : bv < w.heap.size)
   (h0 : l0 < 16) (h1 : l1 < 16) (h2 : l2 < 16) (h3 : l3 < 16)
   (n01 : ¬ l0 = l1) (n02 : ¬ l0 = l2) (n03 : ¬ l0 = l3) (n12 : ¬ l1 = l2) (n13 : ¬ l1 = l3) (n23 : ¬ l2 = l3)
   (ha : C_ w bv l0 (.int .u32 a)) (hb : C_ w bv l1 (.int .u32 b)) (hc : C_ w bv l2 (.int .u32 c)) (hd : C_ w bv l3 (.int .u32 d))
   (fa : ∀ j, w.frozen? ⟨bv, j, none⟩ = false) :
    Calls prog 255 #[P_ bv 0, .agg #[.int .u8 l0, .int .u8 l1, .int .u8 l2, .int .u8 l3], .int .u32 x, .int .u32 y] w fun e w' => e = .returned (.tuple #[]) ∧ ∃ n, w' = (((((w.alloc (.cells #[.int .u8 l0, .int .u8 l1, .int .u8 l2, .int .u8 l3] 300)).drewN n).setCell ⟨bv, l0, none⟩ (.int .u32 (mA a b c d x y))).setCell ⟨bv, l1, none⟩ (.int .u32 (mB a b c d x y))).setCell ⟨bv, l2, none⟩ (.int .u32 (mC a b c d x y))).setCell ⟨bv, l3, none⟩ (.int .u32 (mD a b c d x y)) := by
  have f : (l0 : Int) < 16 := by omega
  have g : (l1 : Int) < 16 := by omega
  have l : (l2 : Int) < 16 := by omega
  have m : (l3 : Int) < 16 := by omega
  go_enter func255, ntmps255
  go_wp2
  go_quiet (fail)
  go_wp2_with (go_at_call 264; refine (zsR _ _ _ (by decide)).mono ?_; rintro e w' ⟨rfl, rfl⟩)
  go_region
  go_end0
  exact ⟨rfl, _, rfl⟩
theorem zur (vs : List Int) (bv l0 l1 l2 l3 : Nat) (x y : Int) (w : World) (hl : vs.length = 16) (hb : R_ w bv (ua vs) 295)
   (h0 : l0 < 16) (h1 : l1 < 16) (h2 : l2 < 16) (h3 : l3 < 16)
   (n01 : ¬ l0 = l1) (n02 : ¬ l0 = l2) (n03 : ¬ l0 = l3) (n12 : ¬ l1 = l2) (n13 : ¬ l1 = l3) (n23 : ¬ l2 = l3) :
    Calls prog 255 #[P_ bv 0, .agg #[.int .u8 l0, .int .u8 l1, .int .u8 l2, .int .u8 l3], .int .u32 x, .int .u32 y] w fun e w' => e = .returned (.tuple #[]) ∧ Upd bv (.cells (ua (zmo vs l0 l1 l2 l3 x y)) 295 (0, 0)) w w' := by
  have b : ∀ j, j < 16 → C_ w bv j (.int .u32 (vs.getD j 0)) := fun j c => by
    rw [cell_of_row w bv j _ _ _ hb, zdp _ _ (by omega)]
  refine (zqQ bv l0 l1 l2 l3 _ _ _ _ x y w (ze hb) h0 h1 h2 h3 n01 n02 n03 n12 n13 n23 (b _ h0) (b _ h1) (b _ h2) (b _ h3) (fun j => frozen_of_row w bv j _ _ hb)).mono ?_
  rintro e w' ⟨rfl, n, rfl⟩
  refine ⟨rfl, ?_⟩
  have h := (((((Upd.refl hb).alloc (.cells #[.int .u8 l0, .int .u8 l1, .int .u8 l2, .int .u8 l3] 300)).drewN n).setCell l0 (.int .u32 (mA (vs.getD l0 0) (vs.getD l1 0) (vs.getD l2 0) (vs.getD l3 0) x y))).setCell l1 (.int .u32 (mB (vs.getD l0 0) (vs.getD l1 0) (vs.getD l2 0) (vs.getD l3 0) x y))).setCell l2 (.int .u32 (mC (vs.getD l0 0) (vs.getD l1 0) (vs.getD l2 0) (vs.getD l3 0) x y)) |>.setCell l3 (.int .u32 (mD (vs.getD l0 0) (vs.getD l1 0) (vs.getD l2 0) (vs.getD l3 0) x y))
  rw [zdJ, zdJ, zdJ, zdJ] at h
  exact h
theorem zj1 (bs:List Int):(prog.info? 294).map (·.size)=some (ua (zbe bs bs.length)).size:=by
 rw[zb0,zef];kernel_rfl
theorem zlk (bs:List Int):(ua (List.replicate 16 0)).size=(ua (zbe bs bs.length)).size:=by
 rw[zb0,zb0,zef];rfl
theorem zqR (bs:List Int)(o:Option Addr)(r:Nat)(w:World)(B:bs.length≤64)(b:zaV w o bs) :
  Calls prog 254 #[.slice o bs.length r] w fun e w'=>e=.returned (.agg (ua (zbe bs bs.length)))∧B_ w w':=by
 go_in
 go_wp2
 go_loopw [8] (fun i wr=>∃ k:Nat,k≤bs.length∧i=I_ k∧B_ w wr∧R_ wr (w.heap.size+1) (ua (zbe bs k)) 294∧R_ wr w.heap.size (ua (List.replicate 16 0)) 294) (fun i _=>bs.length-(intOf i).toNat)
 case atStart=>exact ⟨0,nZ_ _,rfl,((bR_ _ _).alloc (nR_ _) _).alloc (by simp) _,heap_alloc2_new _ _ _,heap_alloc2_old _ _ _⟩
 case round=>
  obtain ⟨k,A,rfl,f,d,c⟩:=hrel;by_cases hlt:k<bs.length
  ·rcases b with b|⟨l,q,rfl,b⟩
   ·subst b;simp at hlt
   have y:l<w.heap.size:=block_lt_of_cell (b k hlt);have s:C_ wr l (q+k) (.int .u8 (bs.getD k 0)):=(f.cell (p:=⟨l,q+k,none⟩) y).trans (b k hlt);have t:C_ wr (w.heap.size+1) (k / 4) (.int .u32 ((zbe bs k).getD (k / 4) 0)):=by
    rw[cell_of_row wr _ _ _ _ _ d,zdp _ _ (by rw[zef];omega)]
   have z:=frozen_of_row wr _ (k / 4) _ _ d;have g:Hid ((zbe bs (k+1))=(zbe bs k).set (k / 4) (bits .or .u32 ((zbe bs k).getD (k / 4) 0) (bs.getD k 0 % 4294967296*2 ^ (8*(k % 4)) % 4294967296))):=rfl;generalize bs.getD k 0=x at s g;generalize (zbe bs k).getD (k / 4) 0=m at t g
   go_wp2
   go_region
   go_wp2
   go_roundw
   case rel=>
    refine ⟨k+1,by omega,by go_num,(f.setCell (p:=⟨w.heap.size+1,k / 4,none⟩) (by simp) _).drew,?_,?_⟩
    ·rw[g.out,←zdJ];exact heap_setCell_same wr _ _ _ _ _ d
    ·exact (Below.heap_setCell wr _ _ _ (by simp)).trans c
   case measure=>simp[intOf];omega
  ·obtain rfl:k=bs.length:=by omega
   have j:=zj1 bs;have u:=zlk bs;go_wp2_with (first|refine wpList_load_row rfl 294 _ rfl (w.heap.size+1) rfl 294 (ua (zbe bs bs.length)) (0,0) _ d underlying294 rfl j ?_|refine wpList_store_row rfl 294 _ _ rfl w.heap.size (ua (zbe bs bs.length)) rfl rfl 294 (ua (List.replicate 16 0)) c j u (zeT _) ?_)
   exact bodyPost_ret (v:=.agg (ua (zbe bs bs.length))) (results_cell_row (fn:=Tryz.f254) (p:=2) (ty:=294) rfl _ _ w.heap.size 294 _ (0,0) _ rfl (setRow_heap wr _ _ _ _ _ c) underlying294 rfl j) rfl ⟨rfl,(Upd.setRow c).below f f.size (nR_ _)⟩
theorem zus:(prog.info? 269).map (·.size)=some 1:=by kernel_rfl
theorem zgL (b:List Int)(h:b.length=16):(prog.info? 295).map (·.size)=some (ua b).size:=by
 rw[zb0,h];kernel_rfl
theorem znO (s:List Int)(w:World)(c:s.length=8):∃ d,
  (Builtin.copy_ #[317,317] 3 #[.slice (some ⟨w.heap.size+1+1,0,none⟩) 16 16,.slice (some ⟨w.heap.size,0,none⟩) 8 8]).run prog
   (((w.alloc (.cells (ua s) 271)).alloc (.cells (ua (List.replicate 16 0)) 295)).alloc (.cells (ua (List.replicate 16 0)) 295)).drew=.ok (I_ 8) d ∧
  Below w.heap.size w d∧d.heap[w.heap.size+1+1]? = some (.cells (ua (zan s 0)) 295 (0,0))∧d.heap[w.heap.size+1]? = some (.cells (ua (List.replicate 16 0)) 295 (0,0)):=by
 generalize b:((w.alloc (.cells (ua s) 271)).alloc (.cells (ua (List.replicate 16 0)) 295)).alloc (.cells (ua (List.replicate 16 0)) 295)=W;have q:Below w.heap.size w W:=by
  subst b;exact (((bR_ _ _).alloc (nR_ _) _).alloc (by simp) _).alloc (by simp;omega) _
 have g:W.heap[w.heap.size+1+1]? = some (.cells (ua (List.replicate 16 0)) 295 (0,0)):=by
  subst b;exact zb8 _ _ _ (by simp)
 have p:W.heap[w.heap.size+1]? = some (.cells (ua (List.replicate 16 0)) 295 (0,0)):=by
  subst b;rw[Below.heap_alloc _ _ _ (by simp)];exact zb8 _ _ _ (by simp)
 have o:W.heap[w.heap.size]? = some (.cells (ua s) 271 (0,0)):=by
  subst b;rw[Below.heap_alloc _ _ _ (by simp;omega),Below.heap_alloc _ _ _ (by simp)];exact zb8 _ _ _ rfl
 have l:=run_copy_row (P:=prog) W.drew 317 317 3 269 (w.heap.size+1+1) 0 16 16 ⟨w.heap.size,0,none⟩ 8 8 (ua (List.replicate 16 0)) 295 (ua s).toList underlying317 zus g
  (by simp[ua,c]) (fun j v f=>by
   rw[zaN,Nat.zero_add,World.cell?_drew,cell_of_row W _ j _ _ _ o]
   simpa using f) (by simp[ua,c]) (fun v f=>by
   have:=zeT s;rw[Array.all_eq_true_iff_forall_mem] at this;exact this v (by simpa using f))
 have e:(List.take 0 (ua (List.replicate 16 0)).toList++(ua s).toList++List.drop (0+(ua s).toList.length) (ua (List.replicate 16 0)).toList).toArray=ua (zan s 0):=by
  simp[ua,c,zan]
 have m:goInt ((ua s).toList.length:Int)=I_ 8:=by simp[ua,c,goInt]
 rw[e,m] at l;refine ⟨W.drew.setRow (w.heap.size+1+1) (ua (zan s 0)),l,below_setRow q.drew (by omega) _,setRow_heap W.drew _ _ _ _ _ g,?_⟩;rw[setRow_other _ _ _ _ (by omega)];exact p
theorem zpe (s:List Int)(b:Int)(z:Bool)(w:World)(c:s.length=8)(A:zfu w) :
  Calls prog 253 #[.agg (ua s),I_ b,.bool z] w fun e w'=>e=.returned (.agg (ua (za5 s b z)))∧Below w.heap.size w w':=by
 obtain ⟨V,C,B,F,D⟩:=znO s w c;rw[z16] at C;have J:=A.lt;go_in
 go_wp2
 go_region
 go_wp2
 refine kO_ ?C0 ?_;exact Obj.cells (ua (List.replicate 16 0)) 295 (0,0);go_loopw [13] (fun i wr=>∃ k:Nat,k≤8∧i=I_ k∧Below w.heap.size w wr∧wr.heap[w.heap.size+1+1]? = some (.cells (ua (zan s k)) 295 (0,0))∧wr.heap[w.heap.size+1]? = some ?C0) (fun i _=>8-(intOf i).toNat)
 case atStart=>exact ⟨0,nZ_ _,rfl,B,F,D⟩
 refine kW_ ?A0 ?_;exact wr.setCell ⟨w.heap.size+1+1,12,none⟩ (.int .u32 (bits .xor .u32 ((zan s 8).getD 12 0) (b % 4294967296)));refine kW_ ?B0 ?_;exact (?A0).setCell ⟨w.heap.size+1+1,14,none⟩ (.int .u32 (bits .xor .u32 IntKind.u32.max ((zan s 8).getD 14 0)))
 case round=>
  obtain ⟨k,U,rfl,o,d,q⟩:=hrel;clear C F D B;by_cases hlt:k<8
  ·have H:wr.cell? ⟨1,k,none⟩=some (.int .u32 (fw.getD k 0)):=(o.cell (p:=⟨1,k,none⟩) J).trans (A k hlt);have I:wr.cell? ⟨w.heap.size+1+1,8+k,none⟩=some (.int .u32 ((zan s k).getD (8+k) 0)):=by
    rw[cell_of_row wr _ _ _ _ _ d,zdp _ _ (by rw[zdU s c];omega)]
   have T:=frozen_of_row wr _ (8+k) _ _ d;have E:Hid (zan s (k+1)=(zan s k).set (8+k) (fw.getD k 0)):=rfl;generalize fw.getD k 0=x at H E;generalize (zan s k).getD (8+k) 0=m at I
   go_wp2
   go_roundw
   case rel=>
    refine ⟨k+1,by omega,by go_num,o.setCell (p:=⟨w.heap.size+1+1,8+k,none⟩) (by simp;omega) _,?_,?_⟩
    ·rw[E.out,←zdJ];exact heap_setCell_same wr _ _ _ _ _ d
    ·exact (Below.heap_setCell wr _ _ _ (by simp)).trans q
   case measure=>simp[intOf];omega
  ·obtain rfl:k=8:=by omega
   have N:wr.cell? ⟨w.heap.size+1+1,12,none⟩=some (.int .u32 ((zan s 8).getD 12 0)):=by
    rw[cell_of_row wr _ _ _ _ _ d,zdp _ _ (by rw[zdU s c];omega)]
   have O:wr.cell? ⟨w.heap.size+1+1,14,none⟩=some (.int .u32 ((zan s 8).getD 14 0)):=by
    rw[cell_of_row wr _ _ _ _ _ d,zdp _ _ (by rw[zdU s c];omega)]
   have R:=fun j=>frozen_of_row wr _ j _ _ d;have G:(?A0).heap[w.heap.size+1+1]? = some (.cells (ua (zff s b)) 295 (0,0)):=by
    rw[zff,←zdJ];exact heap_setCell_same wr _ _ _ _ _ d
   cases z;have y:(?A0).heap[w.heap.size+1+1]? = some (.cells (ua (za5 s b false)) 295 (0,0)):=G;have f:(?A0).heap[w.heap.size+1]? = some ?C0:=by
    repeat rw[Below.heap_setCell _ _ _ _ (by simp)]
    exact q
   have g:=zgL (za5 s b false) (zdq s c b false);have u:(ua (List.replicate 16 0)).size=(ua (za5 s b false)).size:=by rw[zb0,zb0,zdq s c];rfl
   have l:Below w.heap.size w ?A0:=by
    repeat refine Below.setCell ?_ (by simp;omega) _
    exact o
   rotate_left
   have y:(?B0).heap[w.heap.size+1+1]? = some (.cells (ua (za5 s b true)) 295 (0,0)):=by
    rw[show za5 s b true=(zff s b).set 14 (bits .xor .u32 IntKind.u32.max ((zan s 8).getD 14 0)) from rfl,←zdJ];exact heap_setCell_same _ _ _ _ _ _ G
   have f:(?B0).heap[w.heap.size+1]? = some ?C0:=by
    repeat rw[Below.heap_setCell _ _ _ _ (by simp)]
    exact q
   have g:=zgL (za5 s b true) (zdq s c b true);have u:(ua (List.replicate 16 0)).size=(ua (za5 s b true)).size:=by rw[zb0,zb0,zdq s c];rfl
   have l:Below w.heap.size w ?B0:=by
    repeat refine Below.setCell ?_ (by simp;omega) _
    exact o
   rotate_left
   all_goals
    generalize r:(zan s 8).getD 12 0=L at *;generalize t:(zan s 8).getD 14 0=M at *;clear r t
   ·go_wp2_with (first|refine wpList_load_row rfl 295 _ rfl (w.heap.size+1+1) rfl 295 (ua (za5 s b false)) (0,0) _ y underlying295 rfl g ?_|refine wpList_store_row rfl 295 _ _ rfl (w.heap.size+1) (ua (za5 s b false)) rfl rfl 295 (ua (List.replicate 16 0)) f g u (zeT _) ?_)
    exact bodyPost_ret (v:=.agg (ua (za5 s b false))) (results_cell_row (fn:=Tryz.f253) (p:=6) (ty:=295) rfl _ _ (w.heap.size+1) 295 _ (0,0) _ rfl (setRow_heap _ _ _ _ _ _ f) underlying295 rfl g) rfl ⟨rfl,(Upd.setRow f).below l l.size (by omega)⟩
   ·go_wp2_with (first|refine wpList_load_row rfl 295 _ rfl (w.heap.size+1+1) rfl 295 (ua (za5 s b true)) (0,0) _ y underlying295 rfl g ?_|refine wpList_store_row rfl 295 _ _ rfl (w.heap.size+1) (ua (za5 s b true)) rfl rfl 295 (ua (List.replicate 16 0)) f g u (zeT _) ?_)
    exact bodyPost_ret (v:=.agg (ua (za5 s b true))) (results_cell_row (fn:=Tryz.f253) (p:=6) (ty:=295) rfl _ _ (w.heap.size+1) 295 _ (0,0) _ rfl (setRow_heap _ _ _ _ _ _ f) underlying295 rfl g) rfl ⟨rfl,(Upd.setRow f).below l l.size (by omega)⟩
end Go.Proofs.YtdepbohhmfkjgaaGreatDoor
