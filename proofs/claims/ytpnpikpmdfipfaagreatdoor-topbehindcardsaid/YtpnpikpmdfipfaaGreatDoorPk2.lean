import Derived.Test.YtpnpikpmdfipfaaGreatDoorPk1
import Derived.BigQuiet
import Derived.Laws.CopyOwn
set_option maxRecDepth 100000
set_option maxHeartbeats 4000000
namespace Go.Proofs.YtpnpikpmdfipfaaGreatDoor
open Go.RowKit Tryz
variable {w w':World}{qs:List zi}{ra:Q_}{rc:Nat}{v':Value}
structure Off (w:World)(v:Value)(ra:Q_)(qs:List zi):Prop where
 row:∀sb so,ra=some (p_ sb so)->sb<w.heap.size/\v.ownBlock≠some sb
 each:∀p∈qs,∀sb so,p.sa=some (p_ sb so)->sb<w.heap.size/\v.ownBlock≠some sb
theorem zV.off {v:Value}(h:zV w v w' v')(d:Off w v ra qs):Off w' v' ra qs:=by
 have f:∀b,b<w.heap.size/\v.ownBlock≠some b->b<w'.heap.size/\v'.ownBlock≠some b:=λb ⟨j,l⟩=>
  ⟨nL_ j h.grown.size,λe=>by
   rcases h.fresh b e with g|g
   .exact l g
   .omega⟩
 exact⟨λb c e=>f b (d.row b c e),λp m b c e=>f b (d.each p m b c e)⟩
theorem Off.alloc {v:Value}(h:Off w v ra qs)(o:Obj):Off (w.alloc o) v ra qs:=
 ⟨λb c e=>⟨by have:=(h.row b c e).1;rw[zG];omega,(h.row b c e).2⟩,λp d b c e=>⟨by have:=(h.each p d b c e).1;rw[zG];omega,(h.each p d b c e).2⟩⟩
structure zfo (w:World)(v:Value)(ra:Q_)(qs:List zi):Prop where
 row:∀sb so,ra=some (p_ sb so)->qs≠[]->sb<w.heap.size/\v.ownBlock≠some sb
 each:∀p∈qs,∀sb so,p.sa=some (p_ sb so)->p.bs≠[]->sb<w.heap.size/\v.ownBlock≠some sb
theorem Off.weak {v:Value}(h:Off w v ra qs):zfo w v ra qs:=⟨λb c e _=>h.row b c e,λp d b c e _=>h.each p d b c e⟩
theorem zV.offW {v:Value}(h:zV w v w' v')(d:zfo w v ra qs):zfo w' v' ra qs:=by
 have f:∀b,b<w.heap.size/\v.ownBlock≠some b->b<w'.heap.size/\v'.ownBlock≠some b:=λb ⟨j,l⟩=>
  ⟨nL_ j h.grown.size,λe=>by
   rcases h.fresh b e with g|g
   .exact l g
   .omega⟩
 exact⟨λb c e n=>f b (d.row b c e n),λp m b c e n=>f b (d.each p m b c e n)⟩
theorem zV.listW {v:Value}(h:zV w v w' v')(b:zx w ra rc qs)(m:zfo w v ra qs):zx w' ra rc qs:=by
 refine⟨b.le,b.max,b.small,b.some,⟨?_,λp o=>?_⟩⟩;rcases b.parts.cells with f|⟨d,l,rfl,f⟩;exact .inl f;exact .inr ⟨d,l,rfl,λj g=>(cB_ (h.grown.block d (bL_ (f j g)) (λe=>(m.row d l rfl (λq=>by rw[q]at g;simp at g)).2 e.symm))).trans (f j g)⟩;have c:=b.parts.each p o;by_cases hz:p.bs=[];exact⟨c.le,c.max,c.some,c.nil,.inl hz⟩;exact h.slice c (λd l e=>(m.each p o d l e hz).2)
theorem zfo.alloc {v:Value}(h:zfo w v ra qs)(o:Obj):zfo (w.alloc o) v ra qs:=
 ⟨λb c e n=>⟨by have:=(h.row b c e n).1;rw[zG];omega,(h.row b c e n).2⟩,λp d b c e n=>⟨by have:=(h.each p d b c e n).1;rw[zG];omega,(h.each p d b c e n).2⟩⟩
theorem zjG {v:Value}(h:zx w ra rc qs)(j:w.heap.size<=w'.heap.size)(l:∀d,d<w.heap.size->v.ownBlock≠some d):zfo w' v ra qs:=by
 refine⟨λd q e n=>?_,λp o d q e n=>?_⟩;rcases h.parts.cells with c|⟨g,r,b,c⟩;exact absurd c n;obtain rfl:g=d:=by rw[e]at b;simp at b;exact b.1.symm
 have f:=bL_ (c 0 (by cases qs with|nil=>exact absurd rfl n|cons _ _=>simp));exact⟨nL_ f j,l _ f⟩;rcases(h.parts.each p o).bytes with c|⟨g,r,b,c⟩;exact absurd c n;obtain rfl:g=d:=by rw[e]at b;simp at b;exact b.1.symm
 have f:=bL_ (c 0 (by cases m:p.bs with|nil=>exact absurd m n|cons _ _=>simp));exact⟨nL_ f j,l _ f⟩
def zat:List zi->L_
 | []=>[]
 | p::l=>p.bs++zat l
theorem zrm (l:List zi)(p:zi):zat (l++[p])=zat l++p.bs:=by
 induction l with
 | nil=>simp[zat]
 | cons x l ih=>simp[zat,ih]
theorem zdY (l:List zi)(h:∀p∈l,p.bs.length=32):(zat l).length=32*l.length:=by
 induction l with
 | nil=>simp[zat]
 | cons x l ih=>
  have b:=h x (by simp);have c:=ih (λs d=>h s (by simp[d]));simp[zat,b,c];omega
def zbh (l:List zi):L_:=(l.length:Int)::zat l
theorem zhA (base:Nat)(v:Value)(k:Nat)(bs:L_)(g:Q_)(n y:Nat)(b:List zi)(w:World)(Z:n=b.length)(hl:b.length<=4)(z:∀p∈b,p.bs.length=32)(R:zx w g y b)(V:zfo w v g b)
  (c:w.ownsRow base 5 1 v k (ub bs)) (A:base<=w.heap.size) (hk:k<=90000) :
  Calls prog 200 #[v,.slice g n y] w λe w'=>∃s,e=.returned s/\w'.ownsRow base 5 1 s (k+(zbh b).length) (ub (bs++zbh b))/\zV w v w' s:=by
 subst Z;obtain⟨i,X,ab,ac,ad⟩:=info_parts zek;go_in;go_wp2_with (at_builtin;refine wpList_append_own_at _ rfl _ _ 61 rfl base 5 i (.int .u8 0) 1 1 underlying61 X ab ac ad rfl (by decide) _ k _ rfl (oA_ c _) (p_ w.heap.size 0) 1 1 [.int .u8 (b.length:Int)] rfl rfl (zag _ _ _) (zds [_]) (by unfold maxLen;omega) (by omega) (zB A _) ?_;intro v1 w1 F E _ C;have u:=(zV.of E C).alloc)
 have H:w1.ownsRow base 5 1 v1 (k+1) (ub (bs++[(b.length:Int)])):=by simpa[ub]using F
 clear F E C;go_loopw [15,0] (λj t wr=>∃(m:Nat) (d:Value),m<=b.length/\j=I_ m/\d=t/\wr.ownsRow base 5 1 d (k+1+(zat (b.take m)).length) (ub (bs++[(b.length:Int)]++zat (b.take m)))/\zV w v wr d) (λj _ _=>b.length-(intOf j).toNat)
 case atStart=>exact⟨0,_,nZ_ _,rfl,rfl,by simpa[zat]using H,u⟩
 case round=>
  clear H u;obtain⟨m,d,hm,rfl,rfl,c,G⟩:=hrel;by_cases hlt:m<b.length
  .have l:=G.listW R V;obtain⟨o,q,rfl,D⟩:∃o q,g=some (p_ o q)/\∀j (h:j<b.length),C_ wr o (q+j) (.slice (b[j]).sa (b[j]).bs.length (b[j]).cap):=by
    rcases l.parts.cells with h|h;subst h;simp at hlt;exact h
   have ck:=D m hlt;have hp:=l.parts.each b[m] (gM_ hlt);have I:=z b[m] (gM_ hlt);have J:Hid (zat (b.take (m+1))=zat (b.take m)++(b[m]).bs):=by
    show _=_;rw[tS_ hlt,zrm]
   have U:(zat (b.take m)).length<=128:=by
    rw[zdY _ (λp h=>z p (List.mem_of_mem_take h)),lT9_];omega
   have Y:(m:Int)<b.length:=by omega
   clear D l;generalize b[m]=p at*;generalize zat (b.take m)=T at c J U;have O:=nT_ A G.grown.size;have ae:Hid (p.bs.length=32):=I;have af:p.bs.length<=32:=by omega
   clear I;go_wp2_with (at_builtin;refine zft rfl _ _ rfl base d (k+1+T.length) _ rfl c p.sa p.bs.length p.cap p.bs rfl rfl hp (by omega) O ?_;intro L M aa N)
   go_roundw
   case rel=>
    have B:∃(f:Nat) (r:Value),f<=b.length/\(Value.int .i64 ((m:Int)+1))=I_ f/\r=L/\M.ownsRow base 5 1 r (k+1+(zat (b.take f)).length) (ub (bs++[(b.length:Int)]++zat (b.take f)))/\zV w v M r:=
     ⟨m+1,L,by omega,by go_num,rfl,by rw[J.out,lP_,<-Nat.add_assoc];simpa using aa,G.trans N⟩
    first|exact B|((repeat apply Exists.intro);exact⟨B,rfl⟩)
   case measure=>simp[intOf];omega
  obtain rfl:m=b.length:=by omega
  rw[tL_ (nR_ _)]at c;have Y:¬(b.length:Int)<b.length:=by omega
  go_wp2_with fail
  go_ret;refine⟨_,rfl,?_,G⟩;rw[show k+(zbh b).length=k+1+(zat b).length by simp[zbh];omega,show bs++zbh b=bs++[(b.length:Int)]++zat b by simp[zbh]];exact c
def zaZ (au rd:Int)(bl pl:List zi):L_:=[au]++rd3 rd++zbh bl++zbh pl
theorem zf8 (base:Nat)(v:Value)(k:Nat)(bs:L_)(au rd:Int)(b:Q_)(A d:Nat)(bl:List zi)(c:Q_)(M f:Nat)(pl:List zi)(w:World)(Z:0<=au/\au<4)(hr:0<=rd/\rd<=1048576)(ab:A=bl.length)(aj:M=pl.length)(aa:bl.length<=4)(ai:pl.length<=4)(F:∀p∈bl,p.bs.length=32)(ah:∀p∈pl,p.bs.length=32)
  (X:zx w b d bl) (C:zfo w v b bl) (Y:zx w c f pl) (D:zfo w v c pl)
  (H:w.ownsRow base 5 1 v k (ub bs)) (o:base<=w.heap.size) (hk:k<=80000) :
  Calls prog 173 #[v,.agg #[I_ au,I_ rd,.slice b A d,.slice c M f]] w λe w'=>∃t,e=.returned t/\w'.ownsRow base 5 1 t (k+(zaZ au rd bl pl).length) (ub (bs++zaZ au rd bl pl))/\zV w v w' t:=by
 subst ab aj;obtain⟨i,hi,al,am,an⟩:=info_parts zek;obtain⟨ao,ap⟩:=Z;have L:v.ownBlock≠some w.heap.size:=λe=>by have:=(H.lt _ e).2;omega
 go_in;go_wp2_with (at_builtin;refine wpList_append_own_at _ rfl _ _ 61 rfl base 5 i (.int .u8 0) 1 1 underlying61 hi al am an rfl (by decide) _ k _ rfl (oA_ (oA_ H _) _) (p_ (w.heap.size+1) 0) 1 1 [.int .u8 au] rfl rfl (by have:=zag (w.alloc (.cells #[I_ au,I_ rd,.slice b bl.length d,.slice c pl.length f] 60)) [.int .u8 au] 5;rw[zG]at this;exact this) (zds [_]) (by unfold maxLen;omega) (by omega) (zB (zB o _) _) ?_;intro u O I G _ E;have m:=zV.of G E;have q:=m.row (hX_ w _ _) L;have T:C_ O w.heap.size 1 (I_ rd):=zb q 1 _ rfl)
 have ad:O.ownsRow base 5 1 u (k+1) (ub (bs++[au])):=by simpa[ub]using I
 have J:u.ownBlock≠some w.heap.size:=λe=>by
  rcases m.fresh _ e with g|g;exact L g;rw[zG,zG]at g;omega
 have y:=m.alloc.alloc;clear I G E m;refine(zeA base u (k+1) _ rd _ hr ad (nT_ o y.grown.size) (by omega)).mono ?_;rintro e w2⟨N,rfl,ae,r⟩;have s:=r.row q J;have U:=zb s 2 (.slice b bl.length d) rfl;have ak:N.ownBlock≠some w.heap.size:=λe=>by
  rcases r.fresh _ e with g|g;exact J g;have:=ze q;omega
 have j:=y.trans r;have B:=zhA base N (k+1+3) _ b _ d bl w2 rfl aa F (j.listW X C) (j.offW C) ae (nT_ o j.grown.size) (by omega);clear q T;go_wp2_with fail
 refine B.mono ?_;rintro e w3⟨v3,rfl,af,z⟩;have r3:=z.row s ak;have c3:=zb r3 3 (.slice c pl.length f) rfl;have l:=j.trans z;have ac:=zdY bl F;have V:=zhA base v3 (k+1+3+(zbh bl).length) _ c _ f pl w3 rfl ai ah (l.listW Y D) (l.offW D) af (nT_ o l.grown.size) (by simp[zbh];omega);clear s U B ac;go_wp2_with fail
 refine V.mono ?_;rintro e w4⟨v4,rfl,ag,R⟩;go_wp2_with fail
 go_ret;refine⟨v4,rfl,?_,l.trans R⟩;rw[show k+(zaZ au rd bl pl).length=k+1+3+(zbh bl).length+(zbh pl).length by simp[zaZ,rd3];omega,show bs++zaZ au rd bl pl=bs++[au]++rd3 rd++zbh bl++zbh pl by simp[zaZ]];exact ag
theorem zkW (base:Nat)(v:Value)(k:Nat)(bs:L_)(au rd:Int)(b:Q_)(f d:Nat)(bl:List zi)(c:Q_)(j g:Nat)(pl:List zi)(w:World)(t:0<=au/\au<4)(F:0<=rd/\rd<=1048576)(z:f=bl.length)(E:j=pl.length)(y:bl.length<=4)(D:pl.length<=4)(u:∀p∈bl,p.bs.length=32)(C:∀p∈pl,p.bs.length=32)
  (o:zx w b d bl) (r:Off w v b bl) (q:zx w c g pl) (s:Off w v c pl)
  (B:w.ownsRow base 5 1 v k (ub bs)) (m:base<=w.heap.size) (A:k<=80000) :
  Calls prog 173 #[v,.agg #[I_ au,I_ rd,.slice b f d,.slice c j g]] w λe w'=>∃l,e=.returned l/\w'.ownsRow base 5 1 l (k+(zaZ au rd bl pl).length) (ub (bs++zaZ au rd bl pl))/\zV w v w' l:=
 zf8 base v k bs au rd b f d bl c j g pl w t F z E y D u C o r.weak q s.weak B m A
def zfj (ps:List zi)(q:zi)(k:Nat):Bool:=(List.range k).any λj=>decide (txL (zcT ps j).bs=txL q.bs)
theorem ztb (b:List zi)(q:zi)(k m:Nat)(c:m<k)(h:txL (zcT b m).bs=txL q.bs):zfj b q k=true:=by
 simp only[zfj,aT_];exact⟨m,by simpa using c,by simpa using h⟩
theorem zvd (b:List zi)(q:zi)(k:Nat)(h:∀j,j<k->¬txL (zcT b j).bs=txL q.bs):zfj b q k=false:=by
 simp only[zfj,List.any_eq_false];intro j c
 simpa using h j (by simpa using c)
theorem znA (b:List zi)(q:zi)(y:Q_)(k z g:Nat)(w:World)(D:k<=b.length)(I:k<=9000000000000000000)(u:zbT w y b)(E:zg w q.sa q.cap q.bs)(B:C_ w g 0 (.slice q.sa q.bs.length q.cap)) :
  Calls prog 172 #[.slice y k z,.func (.func 190) #[] #[P_ g 0]] w λe w'=>w=w'/\∃r:Int,e=.returned (I_ r)/\((zfj b q k=true/\0<=r)\/(zfj b q k=false/\r=-1)):=by
 go_in;go_wp2_with fail
 go_loop [8] (λi=>∃m:Nat,m<=k/\i=I_ m/\∀j,j<m->¬txL (zcT b j).bs=txL q.bs) (λi=>k-(intOf i).toNat)
 case atStart=>exact⟨0,nZ_ _,rfl,λj C=>by omega⟩
 case round=>
  obtain⟨m,L,rfl,s⟩:=hrel;by_cases hlt:m<k
  .rcases u.cells with c|⟨M,N,rfl,c⟩;subst c;simp at D;omega;have l:m<b.length:=by omega
   have H:=c m l;have F:=u.each (b[m]) (gM_ l);have J:(m:Int)<k:=by omega
   have t:=zgQ b m l;have f:Hid (txL (b[m]).bs=txL q.bs->zfj b q k=true):=by
    show _->_;intro h;exact ztb b q k m hlt (by rw[t];exact h)
   have d:Hid (¬txL (b[m]).bs=txL q.bs->∀j,j<m+1->¬txL (zcT b j).bs=txL q.bs):=by
    show _->_;intro h j C;rcases lG_ j m with g|g;exact s j g;obtain rfl:j=m:=by omega
    rw[t];exact h
   clear s t c;generalize b[m]=p at*;go_wp2_with fail
   refine(zn8 p.bs q.bs p.sa q.sa _ _ p.cap q.cap g w rfl rfl F E B).mono ?_;rintro _ O⟨rfl,rfl⟩;dsimp only;by_cases h:txL p.bs=txL q.bs
   .have G:=f.out h;rw[dT_ h];clear f d h;go_wp2_with fail
    go_ret;exact⟨rfl,(m:Int),rfl,.inl ⟨G,by omega⟩⟩
   have o:=d.out h;rw[dF_ h];clear f d h;go_wp2_with fail
   go_round
   case rel=>exact⟨m+1,by omega,by go_num,o⟩
   case measure=>simp[intOf];omega
  obtain rfl:m=k:=by omega
  have o:Hid (zfj b q m=false):=zvd b q m s;go_wp2_with fail
  go_ret;refine⟨rfl,(-1:Int),rfl,?_⟩;exact .inr ⟨o.out,rfl⟩
theorem zkX (b:List zi)(q:zi)(d:Q_)(k f g:Nat)(w:World)(o:k<=b.length)(p:k<=9000000000000000000)(s:zbT w d b)(t:zg w q.sa q.cap q.bs)(m:C_ w g 0 (.slice q.sa q.bs.length q.cap)) :
  Calls prog 133 #[.slice d k f,.func (.func 190) #[] #[P_ g 0]] w λe w'=>e=.returned (.bool (zfj b q k))/\w=w':=by
 go_in;go_wp2_with fail
 refine(znA b q d k f g w o p s t m).mono ?_;rintro e u⟨rfl,r,l,j⟩;subst l;dsimp only;rcases j with⟨c,j⟩|⟨c,rfl⟩
 all_goals
  go_wp2_with fail
  go_ret;exact⟨zN (by rw[c]),rfl⟩
theorem zhi (b:List zi)(s:Q_)(n c:Nat)(w:World)(H:n=b.length)(N:n<=c)(_hcm:c<=9223372036854775807)(U:n<=9000000000000000000)(J:c=0\/∃g j,s=some (p_ g j))(I:zbT w s b) :
  Calls prog 159 #[.slice s n c] w λe w'=>e=.returned (I_ (zb8 b))/\B_ w w':=by
 subst H;have T:∀(fn:Fn) (first c:X_) (w:World),(Instr.makeFunc fn first c).run prog w=.ok (.func fn first c) w:=λ_ _ _ _=>rfl;go_in;go_wp2_with fail
 go_loopw [8] (λi wr=>∃k:Nat,k<=b.length/\i=I_ k/\zbn b k=0/\B_ w wr) (λi _=>b.length-(intOf i).toNat)
 case atStart=>exact⟨0,nZ_ _,rfl,rfl,bR_ _ _⟩
 case round=>
  obtain⟨k,G,rfl,t,d⟩:=hrel;by_cases hlt:k<b.length
  .obtain⟨g,j,rfl⟩:∃g j,s=some (p_ g j):=by
    rcases J with h|h;omega;exact h
   have q:=I.below d;have r:=q.each (b[k]) (gM_ hlt);have C:=zgQ b k hlt;have L:C_ wr g (j+k) (.slice (b[k]).sa (b[k]).bs.length (b[k]).cap):=by
    rcases q.cells with y|⟨X,Y,e,y⟩;rw[y]at hlt;simp at hlt;cases e;exact y k hlt
   have R:(k:Int)<b.length:=by omega
   have O:(k:Int)<=c:=by omega
   have f:Hid (zcF b k=if(b[k]).bs.length≠32 then 4 else if zfj b (b[k]) k then 7 else 0):=by
    show _=_;rw[zcF,zgm,C]
    rfl
   have l:Hid (zcF b k≠0->zb8 b=zcF b k):=by
    show _->_;exact zwQ b k hlt t
   have o:Hid (zcF b k=0->zbn b (k+1)=0):=by
    show _->_;intro h;rw[zbn,t,h];rfl
   clear C;have V:(b[k]).bs.length<=9223372036854775807:=nT_ r.le r.max;generalize b[k]=p at*;by_cases h32:p.bs.length=32
   .have A:=zC wr (.cells #[.slice p.sa 32 p.cap] 61);have B:(wr.alloc (.cells #[.slice p.sa 32 p.cap] 61)).cell? (p_ wr.heap.size 0)=some (.slice p.sa p.bs.length p.cap):=by
     rw[h32];exact zhz _ _ _ 0 _ rfl
    have m:=zkX b p (some (p_ g j)) k c wr.heap.size _ G (by omega) (q.below A) (r.below A) B;clear B r q;by_cases hT:zfj b p k=true;rw[hT]at m;have F:zb8 b=7:=by
     have:zcF b k=7:=by rw[f.out,iN_ (by simp[h32]),hT];rfl
     rw[l.out (by rw[this];decide),this]
    clear f l o hT
    rotate_left
    have u:zfj b p k=false:=by simpa using hT
    rw[u]at m;have D:=o.out (by rw[f.out,iN_ (by simp[h32]),u];rfl);clear f l o hT u
    rotate_left
    all_goals
     go_wp2_with fail
     refine m.mono ?_;rintro _ w2⟨rfl,rfl⟩;dsimp only;go_wp2_with fail
    .go_ret;exact⟨zt F.symm,d.alloc d.size _⟩
    go_roundw
    case rel=>exact⟨k+1,by omega,by go_num,D,d.alloc d.size _⟩
    case measure=>simp[intOf];omega
   have M:¬(p.bs.length:Int)=32:=by omega
   have E:zb8 b=4:=by
    have:zcF b k=4:=by rw[f.out,iP_ h32]
    rw[l.out (by rw[this];decide),this]
   clear f l o;go_wp2_with fail
   go_ret;exact⟨zt E.symm,d.alloc d.size _⟩
  obtain rfl:k=b.length:=by omega
  go_wp2_with fail
  go_ret;exact⟨zt t.symm,d⟩
theorem zkY (rd:Int)(n:Nat)(w:World)(f:n<=1000) :
  Calls prog 160 #[I_ rd,I_ n] w λe w'=>e=.returned (I_ (zb9 rd n))/\w=w':=by
 by_cases h1:rd=1;subst h1;by_cases h2:0<n;have b:Hid (zb9 1 n=10):=by show _=_;simp[zb9,h2]
 have c:(0:Int)<n:=by omega
 rotate_left
 have b:Hid (zb9 1 n=0):=by show _=_;simp[zb9,h2]
 have c:¬(0:Int)<n:=by omega
 rotate_left
 by_cases h2:1<rd;by_cases h3:n<3;have b:Hid (zb9 rd n=10):=by show _=_;simp[zb9,h2,h3]
 have d:(n:Int)<3:=by omega
 rotate_left
 have b:Hid (zb9 rd n=0):=by show _=_;simp[zb9,h1,h3]
 have d:¬(n:Int)<3:=by omega
 rotate_left
 have b:Hid (zb9 rd n=0):=by show _=_;simp[zb9,h1,h2]
 rotate_left
 all_goals
  go_in;go_wp2_with fail
  go_ret;exact⟨zt b.out.symm,rfl⟩
theorem zeB (au rd:Int)(o:Q_)(p:Nat)(bl:List zi)(g:Q_)(j:Nat)(pl:List zi)(w:World)(c:zx w o p bl)(d:zx w g j pl) :
  Calls prog 112 #[.agg #[I_ au,I_ rd,.slice o bl.length p,.slice g pl.length j]] w λe w'=>e=.returned (I_ (zO au rd bl pl))/\B_ w w':=by
 have D:=c.le;have E:=c.max;have F:=c.small;have G:=d.le;have H:=d.max;have I:=d.small;have l:=zC w (.cells #[I_ au,I_ rd,.slice o bl.length p,.slice g pl.length j] 60);by_cases ha:0<=au/\au<4
 .by_cases hr:1<=rd/\rd<=1048576
  .by_cases hz:3<bl.length\/4<pl.length
   .have b:Hid (zO au rd bl pl=1):=by show _=_;rw[zO,iN_ (by simp[ha,hr]),iP_ hz]
    by_cases hz1:3<bl.length;have u:(3:Int)<bl.length:=by omega
    rotate_left
    have u:¬(3:Int)<bl.length:=by omega
    have A:(4:Int)<pl.length:=by omega
    rotate_left
    all_goals
     go_in;go_wp2_with (first|(go_at_call 63;first|(refine(zaS _ _ (by omega)).mono ?_;rintro e w'⟨rfl,rfl⟩)|(refine(zaD _ _ (by omega)).mono ?_;rintro e w'⟨rfl,rfl⟩))|(go_at_call 115;first|(refine(zbB _ _ (by omega)).mono ?_;rintro e w'⟨rfl,rfl⟩)|(refine(zbj _ _ (by omega)).mono ?_;rintro e w'⟨rfl,rfl⟩)))
     go_ret;exact⟨zt b.out.symm,l⟩
   have b:Hid (zO au rd bl pl=if zb8 bl≠0 then zb8 bl else if zb8 pl≠0 then zb8 pl else zb9 rd pl.length):=by show _=_;rw[zO,iN_ (by simp[ha,hr]),iN_ hz]
   have u:¬(3:Int)<bl.length:=by omega
   have A:¬(4:Int)<pl.length:=by omega
   go_in;go_wp2_with (first|(go_at_call 63;first|(refine(zaS _ _ (by omega)).mono ?_;rintro e w'⟨rfl,rfl⟩)|(refine(zaD _ _ (by omega)).mono ?_;rintro e w'⟨rfl,rfl⟩))|(go_at_call 115;first|(refine(zbB _ _ (by omega)).mono ?_;rintro e w'⟨rfl,rfl⟩)|(refine(zbj _ _ (by omega)).mono ?_;rintro e w'⟨rfl,rfl⟩)))
   refine(zhi bl o _ p _ rfl c.le c.max c.small c.some (c.parts.below l)).mono ?_;rintro _ J⟨rfl,f⟩;dsimp only;have q:=zbK f;replace f:=zS f;have y:=zb q 3 (.slice g pl.length j) rfl;by_cases h1:zb8 bl=0
   .rw[h1]at b|-;go_wp2_with fail
    refine(zhi pl g _ j _ rfl d.le d.max d.small d.some (d.parts.below f)).mono ?_;rintro _ w2⟨rfl,t⟩;dsimp only;have r:=zk t q;have s:=zm f t;have B:=zb r 1 (I_ rd) rfl;have C:C_ w2 w.heap.size 3 (.slice g pl.length j):=zb r 3 _ rfl;clear y q r;by_cases h2:zb8 pl=0
    .rw[h2]at b|-;go_wp2_with fail
     refine(zkY rd pl.length w2 (by omega)).mono ?_;rintro _ L⟨rfl,rfl⟩;dsimp only;go_wp2_with fail
     go_ret;exact⟨zt (by rw[b.out];rfl),s⟩
    rw[iN_ (by simp),iP_ h2]at b;generalize zb8 pl=z at*;go_wp2_with fail
    go_ret;exact⟨zt b.out.symm,s⟩
   rw[iP_ h1]at b;generalize zb8 bl=z at*;go_wp2_with fail
   go_ret;exact⟨zt b.out.symm,f⟩
  have b:Hid (zO au rd bl pl=2):=by show _=_;simp[zO,hr]
  go_in;go_wp2_with (first|(go_at_call 63;first|(refine(zaS _ _ (by omega)).mono ?_;rintro e w'⟨rfl,rfl⟩)|(refine(zaD _ _ (by omega)).mono ?_;rintro e w'⟨rfl,rfl⟩))|(go_at_call 115;first|(refine(zbB _ _ (by omega)).mono ?_;rintro e w'⟨rfl,rfl⟩)|(refine(zbj _ _ (by omega)).mono ?_;rintro e w'⟨rfl,rfl⟩)))
  go_ret;exact⟨zt b.out.symm,l⟩
 have b:Hid (zO au rd bl pl=2):=by show _=_;simp[zO,ha]
 go_in;go_wp2_with (first|(go_at_call 63;first|(refine(zaS _ _ (by omega)).mono ?_;rintro e w'⟨rfl,rfl⟩)|(refine(zaD _ _ (by omega)).mono ?_;rintro e w'⟨rfl,rfl⟩))|(go_at_call 115;first|(refine(zbB _ _ (by omega)).mono ?_;rintro e w'⟨rfl,rfl⟩)|(refine(zbj _ _ (by omega)).mono ?_;rintro e w'⟨rfl,rfl⟩)))
 go_ret;exact⟨zt b.out.symm,l⟩
variable {B:Nat}
def ua (vs:L_):X_:=(vs.map (Value.int .u32)).toArray
theorem zcd (b:L_):(ua b).size=b.length:=by simp[ua]
theorem zdZ (b:L_)(i:Nat)(h:i<b.length):(ua b)[i]? = some (.int .u32 (b.getD i 0)):=by
 simp[ua,List.getD,h]
theorem zel (b:L_)(i:Nat)(x:Int):(ua b).setIfInBounds i (.int .u32 x)=ua (b.set i x):=by
 simp[ua,List.map_set]
theorem zfI (b:L_):(ua b).all (·.oneCell')=true:=by
 simp only[ua,List.all_toArray,List.all_map,List.all_eq_true];intro x _;rfl
theorem z16:ua (List.replicate 16 0)=#[.int .u32 0,.int .u32 0,.int .u32 0,.int .u32 0,.int .u32 0,.int .u32 0,.int .u32 0,.int .u32 0,.int .u32 0,.int .u32 0,.int .u32 0,.int .u32 0,.int .u32 0,.int .u32 0,.int .u32 0,.int .u32 0]:=rfl
def zn9 (n:Int)(x:Int):Int:=bits .or .u32 (x*2 ^ (32-n).toNat % 4294967296) (x / 2 ^ n.toNat)
def mA1 (a b x:Int):Int:=(a+(b+x)) % 4294967296
def mD1 (a b d x:Int):Int:=zn9 16 (bits .xor .u32 d (mA1 a b x))
def mC1 (a b c d x:Int):Int:=(c+mD1 a b d x) % 4294967296
def mB1 (a b c d x:Int):Int:=zn9 12 (bits .xor .u32 b (mC1 a b c d x))
def mA (a b c d x y:Int):Int:=(a+(b+x)+(mB1 a b c d x+y)) % 4294967296
def mD (a b c d x y:Int):Int:=zn9 8 (bits .xor .u32 (mD1 a b d x) (mA a b c d x y))
def mC (a b c d x y:Int):Int:=(c+mD1 a b d x+mD a b c d x y) % 4294967296
def mB (a b c d x y:Int):Int:=zn9 7 (bits .xor .u32 (mB1 a b c d x) (mC a b c d x y))
def zoa (vs:L_)(i j k l:Nat)(x y:Int):L_:=
 (((vs.set i (mA (vs.getD i 0) (vs.getD j 0) (vs.getD k 0) (vs.getD l 0) x y)).set j (mB (vs.getD i 0) (vs.getD j 0) (vs.getD k 0) (vs.getD l 0) x y)).set k (mC (vs.getD i 0) (vs.getD j 0) (vs.getD k 0) (vs.getD l 0) x y)).set l (mD (vs.getD i 0) (vs.getD j 0) (vs.getD k 0) (vs.getD l 0) x y)
theorem zpN (b:L_)(i j k l:Nat)(x y:Int):(zoa b i j k l x y).length=b.length:=by simp[zoa]
def fw:L_:=[1779033703,3144134277,1013904242,2773480762,1359893119,2600822924,528734635,1541459225]
def zgt (w:World):Prop:=∀i,i<8->w.cell? (p_ 1 i)=some (.int .u32 (fw.getD i 0))
theorem zgt.below (h:zgt w)(c:Below B w w')(b:1<B):zgt w':=λi d=>(c.cell (p:=p_ 1 i) b).trans (h i d)
theorem zgt.lt (h:zgt w):1<w.heap.size:=block_lt_of_cell (h 0 (by decide))
def zhT:List Nat:=[0,1,2,3,4,5,6,7,8,9,10,11,12,13,14,15,14,10,4,8,9,15,13,6,1,12,0,2,11,7,5,3,11,8,12,0,5,2,15,13,10,14,3,6,7,1,9,4,7,9,3,1,13,12,11,14,2,6,5,10,4,0,15,8,9,0,5,7,2,4,10,15,14,1,11,12,6,8,3,13,2,12,6,10,0,11,8,3,4,13,7,5,15,14,1,9,12,5,1,15,14,13,4,10,0,7,6,3,9,2,8,11,13,11,7,14,12,1,3,9,5,0,15,4,8,6,2,10,6,15,14,9,11,3,0,8,12,2,13,7,1,4,10,5,10,2,8,4,7,6,1,5,15,11,9,14,3,12,13,0]
def zaH:List Nat:=[0,4,8,12,1,5,9,13,2,6,10,14,3,7,11,15,0,5,10,15,1,6,11,12,2,7,8,13,3,4,9,14]
def zxY (w:World):Prop:=∀i,i<160->w.cell? (p_ 2 i)=some (.int .u8 (zhT.getD i 0:Nat))
def zyZ (w:World):Prop:=∀i,i<32->w.cell? (p_ 3 i)=some (.int .u8 (zaH.getD i 0:Nat))
structure za2 (w:World):Prop where
 words:zgt w
 orders:zxY w
 lanes:zyZ w
theorem za2.lt (h:za2 w):1<w.heap.size/\2<w.heap.size/\3<w.heap.size:=
 ⟨h.words.lt,block_lt_of_cell (h.orders 0 (by decide)),block_lt_of_cell (h.lanes 0 (by decide))⟩
theorem za2.below (h:za2 w)(b:B_ w w'):za2 w':=
 ⟨h.words.below b h.lt.1,λi c=>(b.cell (p:=p_ 2 i) h.lt.2.1).trans (h.orders i c),λi c=>(b.cell (p:=p_ 3 i) h.lt.2.2).trans (h.lanes i c)⟩
theorem zqN (i:Nat)(h:i<160):zhT.getD i 0<16:=by
 have:∀i,i<160->zhT.getD i 0<16:=by decide +kernel
 exact this i h
theorem zve (i:Nat)(h:i<8):zaH.getD (i*4) 0<16/\zaH.getD (i*4+1) 0<16/\zaH.getD (i*4+2) 0<16/\zaH.getD (i*4+3) 0<16 /\
  ¬zaH.getD (i*4) 0=zaH.getD (i*4+1) 0/\¬zaH.getD (i*4) 0=zaH.getD (i*4+2) 0/\¬zaH.getD (i*4) 0=zaH.getD (i*4+3) 0 /\
  ¬zaH.getD (i*4+1) 0=zaH.getD (i*4+2) 0/\¬zaH.getD (i*4+1) 0=zaH.getD (i*4+3) 0/\¬zaH.getD (i*4+2) 0=zaH.getD (i*4+3) 0:=by
 have:∀i,i<8->zaH.getD (i*4) 0<16/\zaH.getD (i*4+1) 0<16/\zaH.getD (i*4+2) 0<16/\zaH.getD (i*4+3) 0<16 /\
  ¬zaH.getD (i*4) 0=zaH.getD (i*4+1) 0/\¬zaH.getD (i*4) 0=zaH.getD (i*4+2) 0/\¬zaH.getD (i*4) 0=zaH.getD (i*4+3) 0 /\
  ¬zaH.getD (i*4+1) 0=zaH.getD (i*4+2) 0/\¬zaH.getD (i*4+1) 0=zaH.getD (i*4+3) 0/\¬zaH.getD (i*4+2) 0=zaH.getD (i*4+3) 0:=by decide
 exact this i h
def zbr (bs:L_):Nat->L_
 | 0=>List.replicate 16 0
 | k+1=>(zbr bs k).set (k / 4) (bits .or .u32 ((zbr bs k).getD (k / 4) 0) (bs.getD k 0 % 4294967296*2 ^ (8*(k % 4)) % 4294967296))
theorem zeY (bs:L_)(k:Nat):(zbr bs k).length=16:=by
 induction k with
 | zero=>rfl
 | succ k ih=>simp[zbr,ih]
def zav (s:L_):Nat->L_
 | 0=>s++List.replicate 8 0
 | k+1=>(zav s k).set (8+k) (fw.getD k 0)
theorem zeC (s:L_)(b:s.length=8)(k:Nat):(zav s k).length=16:=by
 induction k with
 | zero=>simp[zav,b]
 | succ k ih=>simp[zav,ih]
def zf9 (s:L_)(taken:Int):L_:=(zav s 8).set 12 (bits .xor .u32 ((zav s 8).getD 12 0) (taken % 4294967296))
def zbg (s:L_)(taken:Int)(last:Bool):L_:=
 if last then(zf9 s taken).set 14 (bits .xor .u32 IntKind.u32.max ((zav s 8).getD 14 0))else zf9 s taken
theorem zmc (s:L_)(b:s.length=8)(c:Int):(zf9 s c).length=16:=by simp[zf9,zeC s b]
theorem zd0 (s:L_)(c:s.length=8)(d:Int)(b:Bool):(zbg s d b).length=16:=by cases b<;>simp[zbg,zmc s c]
def zcJ:Nat->L_
 | 0=>List.replicate 8 0
 | k+1=>(zcJ k).set k (fw.getD k 0)
theorem zga (k:Nat):(zcJ k).length=8:=by
 induction k with
 | zero=>rfl
 | succ k ih=>simp[zcJ,ih]
def zdG:L_:=(zcJ 8).set 0 (bits .xor .u32 ((zcJ 8).getD 0 0) 16842784)
theorem zem:zdG.length=8:=by simp[zdG,zga]
def zob (m:L_)(r i:Nat)(v:L_):L_:=
 zoa v (zaH.getD (i*4) 0) (zaH.getD (i*4+1) 0) (zaH.getD (i*4+2) 0) (zaH.getD (i*4+3) 0) (m.getD (zhT.getD (r*16+2*i) 0) 0) (m.getD (zhT.getD (r*16+(2*i+1)) 0) 0)
def zeZ (m:L_)(r:Nat)(v:L_):Nat->L_
 | 0=>v
 | k+1=>zob m r k (zeZ m r v k)
def zcK (m v:L_):Nat->L_
 | 0=>v
 | r+1=>zeZ m r (zcK m v r) 8
theorem zid (m:L_)(r:Nat)(v:L_)(k:Nat):(zeZ m r v k).length=v.length:=by
 induction k with
 | zero=>rfl
 | succ k ih=>simp[zeZ,zob,zpN,ih]
theorem zhB (m v:L_)(r:Nat):(zcK m v r).length=v.length:=by
 induction r with
 | zero=>rfl
 | succ r ih=>simp[zcK,zid,ih]
def zcU (s v:L_):Nat->L_
 | 0=>s
 | k+1=>(zcU s v k).set k (bits .xor .u32 ((zcU s v k).getD k 0) (bits .xor .u32 (v.getD k 0) (v.getD (k+8) 0)))
theorem zjj (s v:L_)(k:Nat):(zcU s v k).length=s.length:=by
 induction k with
 | zero=>rfl
 | succ k ih=>simp[zcU,ih]
def ze0 (s bs:L_)(taken:Int)(last:Bool):L_:=
 zcU s (zcK (zbr bs bs.length) (zbg s taken last) 10) 8
theorem zjH (s bs:L_)(c:Int)(b:Bool):(ze0 s bs c b).length=s.length:=zjj _ _ _
def zdg (s:L_):Nat->L_
 | 0=>[]
 | k+1=>zdg s k++[s.getD k 0 % 256,s.getD k 0 / 256 % 256,s.getD k 0 / 65536 % 256,s.getD k 0 / 16777216 % 256]
theorem zoc (s:L_)(k:Nat):(zdg s k).length=4*k:=by
 induction k with
 | zero=>rfl
 | succ k ih=>simp[zdg,ih];omega
theorem zvf (x n:Int)(w:World)(h:n=16\/n=12\/n=8\/n=7) :
  Calls prog 238 #[.int .u32 x,I_ n] w λe w'=>e=.returned (.int .u32 (zn9 n x))/\w'=w:=by
 have b:bits .and .u64 (IntKind.u64.wrap (-16)) 31=16:=by decide
 have c:bits .and .u64 (IntKind.u64.wrap (-12)) 31=20:=by decide
 have d:bits .and .u64 (IntKind.u64.wrap (-8)) 31=24:=by decide
 have f:bits .and .u64 (IntKind.u64.wrap (-7)) 31=25:=by decide
 rcases h with rfl|rfl|rfl|rfl
 all_goals
  go_in
  go_wp2
  go_ret;exact⟨rfl,rfl⟩
theorem ztc (bv l0 l1 l2 l3 : Nat) (a b c d x y : Int) (w : World) (hbv : bv < w.heap.size)
   (h0 : l0 < 16) (h1 : l1 < 16) (h2 : l2 < 16) (h3 : l3 < 16)
   (n01 : ¬ l0 = l1) (n02 : ¬ l0 = l2) (n03 : ¬ l0 = l3) (n12 : ¬ l1 = l2) (n13 : ¬ l1 = l3) (n23 : ¬ l2 = l3)
   (ha : C_ w bv l0 (.int .u32 a)) (hb : C_ w bv l1 (.int .u32 b)) (hc : C_ w bv l2 (.int .u32 c)) (hd : C_ w bv l3 (.int .u32 d))
   (fa : ∀j, w.frozen? ⟨bv, j, none⟩ = false) :
    Calls prog 227 #[P_ bv 0, .agg #[.int .u8 l0, .int .u8 l1, .int .u8 l2, .int .u8 l3], .int .u32 x, .int .u32 y] w λe w' => e = .returned (.tuple #[]) /\ ∃n, w' = (((((w.alloc (.cells #[.int .u8 l0, .int .u8 l1, .int .u8 l2, .int .u8 l3] 275)).drewN n).setCell ⟨bv, l0, none⟩ (.int .u32 (mA a b c d x y))).setCell ⟨bv, l1, none⟩ (.int .u32 (mB a b c d x y))).setCell ⟨bv, l2, none⟩ (.int .u32 (mC a b c d x y))).setCell ⟨bv, l3, none⟩ (.int .u32 (mD a b c d x y)) := by
  have f : (l0 : Int) < 16 := by omega
  have g : (l1 : Int) < 16 := by omega
  have l : (l2 : Int) < 16 := by omega
  have m : (l3 : Int) < 16 := by omega
  go_enter func227, ntmps227
  go_wp2
  go_quiet (fail)
  go_wp2_with (go_at_call 238; refine(zvf _ _ _ (by decide)).mono ?_; rintro e w'⟨rfl, rfl⟩)
  go_region
  go_end0
  exact⟨rfl, _, rfl⟩
theorem zwT (vs : L_) (bv l0 l1 l2 l3 : Nat) (x y : Int) (w : World) (hl : vs.length = 16) (hb : R_ w bv (ua vs) 270)
   (h0 : l0 < 16) (h1 : l1 < 16) (h2 : l2 < 16) (h3 : l3 < 16)
   (n01 : ¬ l0 = l1) (n02 : ¬ l0 = l2) (n03 : ¬ l0 = l3) (n12 : ¬ l1 = l2) (n13 : ¬ l1 = l3) (n23 : ¬ l2 = l3) :
    Calls prog 227 #[P_ bv 0, .agg #[.int .u8 l0, .int .u8 l1, .int .u8 l2, .int .u8 l3], .int .u32 x, .int .u32 y] w λe w' => e = .returned (.tuple #[]) /\ Upd bv (.cells (ua (zoa vs l0 l1 l2 l3 x y)) 270 (0, 0)) w w' := by
  have b : ∀j, j < 16 -> w.cell? ⟨bv, j, none⟩ = some (.int .u32 (vs.getD j 0)) := λj c => by
    rw [cell_of_row w bv j _ _ _ hb, zdZ _ _ (by omega)]
  refine(ztc bv l0 l1 l2 l3 _ _ _ _ x y w (ze hb) h0 h1 h2 h3 n01 n02 n03 n12 n13 n23 (b _ h0) (b _ h1) (b _ h2) (b _ h3) (λj => frozen_of_row w bv j _ _ hb)).mono ?_
  rintro e w'⟨rfl, n, rfl⟩
  refine⟨rfl, ?_⟩
  have h := (((((Upd.refl hb).alloc (.cells #[.int .u8 l0, .int .u8 l1, .int .u8 l2, .int .u8 l3] 275)).drewN n).setCell l0 (.int .u32 (mA (vs.getD l0 0) (vs.getD l1 0) (vs.getD l2 0) (vs.getD l3 0) x y))).setCell l1 (.int .u32 (mB (vs.getD l0 0) (vs.getD l1 0) (vs.getD l2 0) (vs.getD l3 0) x y))).setCell l2 (.int .u32 (mC (vs.getD l0 0) (vs.getD l1 0) (vs.getD l2 0) (vs.getD l3 0) x y)) |>.setCell l3 (.int .u32 (mD (vs.getD l0 0) (vs.getD l1 0) (vs.getD l2 0) (vs.getD l3 0) x y))
  rw [zel, zel, zel, zel]at h
  exact h
theorem zlr (bs:L_):(prog.info? 269).map (·.size)=some (ua (zbr bs bs.length)).size:=by
 rw[zcd,zeY];kernel_rfl
theorem zmV (bs:L_):(ua (List.replicate 16 0)).size=(ua (zbr bs bs.length)).size:=by
 rw[zcd,zcd,zeY];rfl
theorem ztd (bs:L_)(o:Q_)(r:Nat)(w:World)(B:bs.length<=64)(b:za5 w o bs) :
  Calls prog 226 #[.slice o bs.length r] w λe w'=>e=.returned (.agg (ua (zbr bs bs.length)))/\B_ w w':=by
 go_in
 go_wp2
 go_loopw [8] (λi wr=>∃k:Nat,k<=bs.length/\i=I_ k/\B_ w wr/\R_ wr (w.heap.size+1) (ua (zbr bs k)) 269/\R_ wr w.heap.size (ua (List.replicate 16 0)) 269) (λi _=>bs.length-(intOf i).toNat)
 case atStart=>exact⟨0,nZ_ _,rfl,((bR_ _ _).alloc (nR_ _) _).alloc (by simp) _,heap_alloc2_new _ _ _,heap_alloc2_old _ _ _⟩
 case round=>
  obtain⟨k,A,rfl,f,d,c⟩:=hrel;by_cases hlt:k<bs.length
  .rcases b with b|⟨l,q,rfl,b⟩;subst b;simp at hlt;have y:l<w.heap.size:=block_lt_of_cell (b k hlt);have s:=(f.cell (p:=p_ l (q+k)) y).trans (b k hlt);have t:wr.cell? (p_ (w.heap.size+1) (k / 4))=some (.int .u32 ((zbr bs k).getD (k / 4) 0)):=by
    rw[cell_of_row wr _ _ _ _ _ d,zdZ _ _ (by rw[zeY];omega)]
   have z:=frozen_of_row wr _ (k / 4) _ _ d;have g:Hid ((zbr bs (k+1))=(zbr bs k).set (k / 4) (bits .or .u32 ((zbr bs k).getD (k / 4) 0) (bs.getD k 0 % 4294967296*2 ^ (8*(k % 4)) % 4294967296))):=rfl;generalize bs.getD k 0=x at s g;generalize (zbr bs k).getD (k / 4) 0=m at t g
   go_wp2
   go_region
   go_wp2
   go_roundw
   case rel=>
    refine⟨k+1,by omega,by go_num,(f.setCell (p:=p_ (w.heap.size+1) (k / 4)) (by simp) _).drew,?_,?_⟩;rw[g.out,<-zel];exact heap_setCell_same wr _ _ _ _ _ d;exact(Below.heap_setCell wr _ _ _ (by simp)).trans c
   case measure=>simp[intOf];omega
  obtain rfl:k=bs.length:=by omega
  have j:=zlr bs;have u:=zmV bs;go_wp2_with (first|refine wpList_load_row rfl 269 _ rfl (w.heap.size+1) rfl 269 (ua (zbr bs bs.length)) (0,0) _ d underlying269 rfl j ?_|refine wpList_store_row rfl 269 _ _ rfl w.heap.size (ua (zbr bs bs.length)) rfl rfl 269 (ua (List.replicate 16 0)) c j u (zfI _) ?_)
  exact bodyPost_ret (v:=.agg (ua (zbr bs bs.length))) (results_cell_row (fn:=Tryz.f226) (p:=2) (ty:=269) rfl _ _ w.heap.size 269 _ (0,0) _ rfl (setRow_heap wr _ _ _ _ _ c) underlying269 rfl j) rfl ⟨rfl,(Upd.setRow c).below f f.size (nR_ _)⟩
theorem zwU:(prog.info? 243).map (·.size)=some 1:=by kernel_rfl
theorem zhU (b:L_)(h:b.length=16):(prog.info? 270).map (·.size)=some (ua b).size:=by
 rw[zcd,h];kernel_rfl
theorem zpO (s:L_)(w:World)(c:s.length=8):∃d,
  (Builtin.copy_ #[294,294] 3 #[.slice (some (p_ (w.heap.size+1+1) 0)) 16 16,.slice (some (p_ w.heap.size 0)) 8 8]).run prog
   (((w.alloc (.cells (ua s) 245)).alloc (.cells (ua (List.replicate 16 0)) 270)).alloc (.cells (ua (List.replicate 16 0)) 270)).drew=.ok (I_ 8) d /\
  Below w.heap.size w d/\d.heap[w.heap.size+1+1]? = some (.cells (ua (zav s 0)) 270 (0,0))/\d.heap[w.heap.size+1]? = some (.cells (ua (List.replicate 16 0)) 270 (0,0)):=by
 generalize b:((w.alloc (.cells (ua s) 245)).alloc (.cells (ua (List.replicate 16 0)) 270)).alloc (.cells (ua (List.replicate 16 0)) 270)=W;have q:Below w.heap.size w W:=by
  subst b;exact(((bR_ _ _).alloc (nR_ _) _).alloc (by simp) _).alloc (by simp;omega) _
 have g:W.heap[w.heap.size+1+1]? = some (.cells (ua (List.replicate 16 0)) 270 (0,0)):=by
  subst b;exact zco _ _ _ (by simp)
 have p:W.heap[w.heap.size+1]? = some (.cells (ua (List.replicate 16 0)) 270 (0,0)):=by
  subst b;rw[Below.heap_alloc _ _ _ (by simp)];exact zco _ _ _ (by simp)
 have o:W.heap[w.heap.size]? = some (.cells (ua s) 245 (0,0)):=by
  subst b;rw[Below.heap_alloc _ _ _ (by simp;omega),Below.heap_alloc _ _ _ (by simp)];exact zco _ _ _ rfl
 have l:=run_copy_row (P:=prog) W.drew 294 294 3 243 (w.heap.size+1+1) 0 16 16 (p_ w.heap.size 0) 8 8 (ua (List.replicate 16 0)) 270 (ua s).toList underlying294 zwU g
  (by simp[ua,c]) (λj v f=>by
   rw[zaP,zA_,World.cell?_drew,cell_of_row W _ j _ _ _ o]
   simpa using f) (by simp[ua,c]) (λv f=>by
   have:=zfI s;rw[Array.all_eq_true_iff_forall_mem]at this;exact this v (by simpa using f))
 have e:(List.take 0 (ua (List.replicate 16 0)).toList++(ua s).toList++List.drop (0+(ua s).toList.length) (ua (List.replicate 16 0)).toList).toArray=ua (zav s 0):=by
  simp[ua,c,zav]
 have m:goInt ((ua s).toList.length:Int)=I_ 8:=by simp[ua,c,goInt]
 rw[e,m]at l;refine⟨W.drew.setRow (w.heap.size+1+1) (ua (zav s 0)),l,below_setRow q.drew (by omega) _,setRow_heap W.drew _ _ _ _ _ g,?_⟩;rw[setRow_other _ _ _ _ (by omega)];exact p
theorem zrn (s:L_)(b:Int)(z:Bool)(w:World)(c:s.length=8)(A:zgt w) :
  Calls prog 225 #[.agg (ua s),I_ b,.bool z] w λe w'=>e=.returned (.agg (ua (zbg s b z)))/\Below w.heap.size w w':=by
 obtain⟨V,C,B,F,D⟩:=zpO s w c;rw[z16]at C;have J:=A.lt;go_in
 go_wp2
 go_region
 go_wp2
 refine kO_ ?C0 ?_;exact Obj.cells (ua (List.replicate 16 0)) 270 (0,0);go_loopw [13] (λi wr=>∃k:Nat,k<=8/\i=I_ k/\Below w.heap.size w wr/\wr.heap[w.heap.size+1+1]? = some (.cells (ua (zav s k)) 270 (0,0))/\wr.heap[w.heap.size+1]? = some ?C0) (λi _=>8-(intOf i).toNat)
 case atStart=>exact⟨0,nZ_ _,rfl,B,F,D⟩
 refine kW_ ?A0 ?_;exact wr.setCell (p_ (w.heap.size+1+1) 12) (.int .u32 (bits .xor .u32 ((zav s 8).getD 12 0) (b % 4294967296)));refine kW_ ?B0 ?_;exact(?A0).setCell (p_ (w.heap.size+1+1) 14) (.int .u32 (bits .xor .u32 IntKind.u32.max ((zav s 8).getD 14 0)))
 case round=>
  obtain⟨k,U,rfl,o,d,q⟩:=hrel;clear C F D B;by_cases hlt:k<8
  .have H:=(o.cell (p:=p_ 1 k) J).trans (A k hlt);have I:wr.cell? (p_ (w.heap.size+1+1) (8+k))=some (.int .u32 ((zav s k).getD (8+k) 0)):=by
    rw[cell_of_row wr _ _ _ _ _ d,zdZ _ _ (by rw[zeC s c];omega)]
   have T:=frozen_of_row wr _ (8+k) _ _ d;have E:Hid (zav s (k+1)=(zav s k).set (8+k) (fw.getD k 0)):=rfl;generalize fw.getD k 0=x at H E;generalize (zav s k).getD (8+k) 0=m at I
   go_wp2
   go_roundw
   case rel=>
    refine⟨k+1,by omega,by go_num,o.setCell (p:=p_ (w.heap.size+1+1) (8+k)) (by simp;omega) _,?_,?_⟩;rw[E.out,<-zel];exact heap_setCell_same wr _ _ _ _ _ d;exact(Below.heap_setCell wr _ _ _ (by simp)).trans q
   case measure=>simp[intOf];omega
  obtain rfl:k=8:=by omega
  have N:wr.cell? (p_ (w.heap.size+1+1) 12)=some (.int .u32 ((zav s 8).getD 12 0)):=by
   rw[cell_of_row wr _ _ _ _ _ d,zdZ _ _ (by rw[zeC s c];omega)]
  have O:wr.cell? (p_ (w.heap.size+1+1) 14)=some (.int .u32 ((zav s 8).getD 14 0)):=by
   rw[cell_of_row wr _ _ _ _ _ d,zdZ _ _ (by rw[zeC s c];omega)]
  have R:=λj=>frozen_of_row wr _ j _ _ d;have G:(?A0).heap[w.heap.size+1+1]? = some (.cells (ua (zf9 s b)) 270 (0,0)):=by
   rw[zf9,<-zel];exact heap_setCell_same wr _ _ _ _ _ d
  cases z;have y:(?A0).heap[w.heap.size+1+1]? = some (.cells (ua (zbg s b false)) 270 (0,0)):=G;have f:(?A0).heap[w.heap.size+1]? = some ?C0:=by
   repeat rw[Below.heap_setCell _ _ _ _ (by simp)]
   exact q
  have g:=zhU (zbg s b false) (zd0 s c b false);have u:(ua (List.replicate 16 0)).size=(ua (zbg s b false)).size:=by rw[zcd,zcd,zd0 s c];rfl
  have l:Below w.heap.size w ?A0:=by
   repeat refine Below.setCell ?_ (by simp;omega) _
   exact o
  rotate_left
  have y:(?B0).heap[w.heap.size+1+1]? = some (.cells (ua (zbg s b true)) 270 (0,0)):=by
   rw[show zbg s b true=(zf9 s b).set 14 (bits .xor .u32 IntKind.u32.max ((zav s 8).getD 14 0))from rfl,<-zel];exact heap_setCell_same _ _ _ _ _ _ G
  have f:(?B0).heap[w.heap.size+1]? = some ?C0:=by
   repeat rw[Below.heap_setCell _ _ _ _ (by simp)]
   exact q
  have g:=zhU (zbg s b true) (zd0 s c b true);have u:(ua (List.replicate 16 0)).size=(ua (zbg s b true)).size:=by rw[zcd,zcd,zd0 s c];rfl
  have l:Below w.heap.size w ?B0:=by
   repeat refine Below.setCell ?_ (by simp;omega) _
   exact o
  rotate_left
  all_goals
   generalize r:(zav s 8).getD 12 0=L at*;generalize t:(zav s 8).getD 14 0=M at*;clear r t
  .go_wp2_with (first|refine wpList_load_row rfl 270 _ rfl (w.heap.size+1+1) rfl 270 (ua (zbg s b false)) (0,0) _ y underlying270 rfl g ?_|refine wpList_store_row rfl 270 _ _ rfl (w.heap.size+1) (ua (zbg s b false)) rfl rfl 270 (ua (List.replicate 16 0)) f g u (zfI _) ?_)
   exact bodyPost_ret (v:=.agg (ua (zbg s b false))) (results_cell_row (fn:=Tryz.f225) (p:=6) (ty:=270) rfl _ _ (w.heap.size+1) 270 _ (0,0) _ rfl (setRow_heap _ _ _ _ _ _ f) underlying270 rfl g) rfl ⟨rfl,(Upd.setRow f).below l l.size (by omega)⟩
  go_wp2_with (first|refine wpList_load_row rfl 270 _ rfl (w.heap.size+1+1) rfl 270 (ua (zbg s b true)) (0,0) _ y underlying270 rfl g ?_|refine wpList_store_row rfl 270 _ _ rfl (w.heap.size+1) (ua (zbg s b true)) rfl rfl 270 (ua (List.replicate 16 0)) f g u (zfI _) ?_)
  exact bodyPost_ret (v:=.agg (ua (zbg s b true))) (results_cell_row (fn:=Tryz.f225) (p:=6) (ty:=270) rfl _ _ (w.heap.size+1) 270 _ (0,0) _ rfl (setRow_heap _ _ _ _ _ _ f) underlying270 rfl g) rfl ⟨rfl,(Upd.setRow f).below l l.size (by omega)⟩
theorem zfJ (b:L_)(h:b.length=8):(prog.info? 245).map (·.size)=some (ua b).size:=by
 rw[zcd,h];kernel_rfl
theorem zte (w:World)(l:zgt w) :
  Calls prog 191 #[] w λe w'=>e=.returned (.agg (ua zdG))/\B_ w w':=by
 have t:=l.lt;go_in
 go_wp2
 go_loopw [3] (λi wr=>∃k:Nat,k<=8/\i=I_ k/\B_ w wr/\R_ wr (w.heap.size+1) (ua (zcJ k)) 245/\R_ wr w.heap.size (ua (List.replicate 8 0)) 245) (λi _=>8-(intOf i).toNat)
 case atStart=>exact⟨0,nZ_ _,rfl,((bR_ _ _).alloc (nR_ _) _).alloc (by simp) _,heap_alloc2_new _ _ _,heap_alloc2_old _ _ _⟩
 refine kW_ ?A0 ?_;exact wr.setCell (p_ (w.heap.size+1) 0) (.int .u32 (bits .xor .u32 ((zcJ 8).getD 0 0) 16842784))
 case round=>
  obtain⟨k,D,rfl,c,b,g⟩:=hrel;by_cases hlt:k<8
  .have r:=(c.cell (p:=p_ 1 k) t).trans (l k hlt);have s:wr.cell? (p_ (w.heap.size+1) k)=some (.int .u32 ((zcJ k).getD k 0)):=by
    rw[cell_of_row wr _ _ _ _ _ b,zdZ _ _ (by rw[zga];omega)]
   have C:=frozen_of_row wr _ k _ _ b;have q:Hid (zcJ (k+1)=(zcJ k).set k (fw.getD k 0)):=rfl;generalize fw.getD k 0=x at r q;generalize (zcJ k).getD k 0=m at s
   go_wp2
   go_roundw
   case rel=>
    refine⟨k+1,by omega,by go_num,c.setCell (p:=p_ (w.heap.size+1) k) (by simp) _,?_,?_⟩;rw[q.out,<-zel];exact heap_setCell_same wr _ _ _ _ _ b;exact(Below.heap_setCell wr _ _ _ (by simp)).trans g
   case measure=>simp[intOf];omega
  obtain rfl:k=8:=by omega
  have A:wr.cell? (p_ (w.heap.size+1) 0)=some (.int .u32 ((zcJ 8).getD 0 0)):=by
   rw[cell_of_row wr _ _ _ _ _ b,zdZ _ _ (by rw[zga];omega)]
  have B:=λj=>frozen_of_row wr _ j _ _ b;have z:(?A0).heap[w.heap.size+1]? = some (.cells (ua zdG) 245 (0,0)):=by
   rw[zdG,<-zel];exact heap_setCell_same wr _ _ _ _ _ b
  have d:(?A0).heap[w.heap.size]? = some (.cells (ua (List.replicate 8 0)) 245 (0,0)):=by
   rw[Below.heap_setCell _ _ _ _ (by simp)];exact g
  have f:=zfJ zdG zem;have y:(ua (List.replicate 8 0)).size=(ua zdG).size:=by rw[zcd,zcd,zem];rfl
  have o:B_ w ?A0:=c.setCell (by simp) _;generalize u:(zcJ 8).getD 0 0=m at*;clear u;go_wp2_with (first|refine wpList_load_row rfl 245 _ rfl (w.heap.size+1) rfl 245 (ua zdG) (0,0) _ z underlying245 rfl f ?_|refine wpList_store_row rfl 245 _ _ rfl w.heap.size (ua zdG) rfl rfl 245 (ua (List.replicate 8 0)) d f y (zfI _) ?_)
  exact bodyPost_ret (v:=.agg (ua zdG)) (results_cell_row (fn:=Tryz.f191) (p:=0) (ty:=245) rfl _ _ w.heap.size 245 _ (0,0) _ rfl (setRow_heap _ _ _ _ _ _ d) underlying245 rfl f) rfl ⟨rfl,(Upd.setRow d).below o o.size (nR_ _)⟩
variable {n:Nat}{w2 w1:World}
structure zro (w:World)(s v:L_)(bv:Nat)(wx:World):Prop where
 bel:Below w.heap.size w wx
 st:wx.heap[w.heap.size]? = some (.cells (ua s) 245 (0,0))
 res:wx.heap[w.heap.size+1]? = some (.cells (ua (List.replicate 8 0)) 245 (0,0))
 lt:w.heap.size+1<bv
 vs:wx.heap[bv]? = some (.cells (ua v) 270 (0,0))
structure zkg (w:World)(s v m:L_)(bv bm:Nat)(wx:World):Prop where
 v:zro w s v bv wx
 lt:bv<bm
 ms:wx.heap[bm]? = some (.cells (ua m) 269 (0,0))
theorem zkg.upd {s v f m:L_}{c d:Nat}{wr:World}(h:zkg w s v m c d wr)(b:Upd c (.cells (ua f) 270 (0,0)) wr w2):zkg w s f m c d w2:=by
 have g:=h.v.lt;have j:=h.lt;have l:=ze h.v.st;have o:=ze h.v.res;have p:=ze h.ms;exact⟨⟨b.below h.v.bel h.v.bel.size (by omega),(b.block _ l (by omega)).trans h.v.st,(b.block _ o (by omega)).trans h.v.res,g,b.here⟩,j,(b.block _ p (by omega)).trans h.ms⟩
theorem ztf {b:Nat}{o:Obj}(h:Upd b o (w.drewN n) w'):Upd b o w w':=⟨h.os,h.tape,h.output,h.size,h.block,h.here⟩
theorem ztg {A B:Obj}(h:Below ((w.alloc A).alloc B).heap.size ((w.alloc A).alloc B) w1) :
  Below w.heap.size w w1/\w1.heap[w.heap.size]? = some A/\w1.heap[w.heap.size+1]? = some B/\w.heap.size+1<w1.heap.size:=by
 have b:=h.size
 simp at b
 refine⟨(((bR_ _ _).alloc (nR_ _) _).alloc (by simp) _).trans (h.mono (by simp;omega)),?_,?_,by omega⟩;exact(h.block _ (by simp;omega)).trans (heap_alloc2_old _ _ _);exact(h.block _ (by simp)).trans (heap_alloc2_new _ _ _)
theorem zvg (s bs:L_)(J:Q_)(T:Nat)(f:Int)(d:Bool)(w:World)(I:s.length=8)(ad:bs.length<=64)(U:za5 w J bs)(G:za2 w) :
  Calls prog 192 #[.agg (ua s),.slice J bs.length T,I_ f,.bool d] w λe w'=>e=.returned (.agg (ua (ze0 s bs f d)))/\Below w.heap.size w w':=by
 have an:=zfJ s I;have D:=zd0 s I f d;have ao:=zhU (zbg s f d) D;have aj:(ua (List.replicate 16 0)).size=(ua (zbg s f d)).size:=by rw[zcd,zcd,D];rfl
 go_in;go_upto_region 1 with(fail)
 go_cut [9] (λp R=>∃g,p=(P_ g 0)/\zro w s (zbg s f d) g R)
 refine kW_ ?A0 ?_;exact(w.alloc (.cells (ua s) 245)).alloc (.cells #[.int .u32 0,.int .u32 0,.int .u32 0,.int .u32 0,.int .u32 0,.int .u32 0,.int .u32 0,.int .u32 0] 245)
 case first=>
  have ak:(?A0).heap[w.heap.size]? = some (.cells (ua s) 245 (0,0)):=heap_alloc2_old _ _ _;have ac:za2 ?A0:=G.below (((bR_ _ _).alloc (nR_ _) _).alloc (by simp) _);go_wp2_with (first|refine wpList_load_row rfl 245 _ rfl w.heap.size rfl 245 (ua s) (0,0) _ ak underlying245 rfl an ?_|(go_at_call 225;refine(zrn s f d _ I ac.words).mono ?_;rintro e B⟨rfl,C⟩)|refine wpList_store_row rfl 270 _ _ rfl _ (ua (zbg s f d)) rfl rfl 270 (ua (List.replicate 16 0)) (heap_alloc_new _ _) ao aj (zfI _) ?_)
  go_meet
  case rel=>
   obtain⟨j,k2,k3,k4⟩:=ztg C;have E:=heap_alloc_new B (.cells (ua (List.replicate 16 0)) 270);refine⟨_,rfl,(Upd.setRow E).below (j.alloc j.size _) (by simp;exact Nat.le_succ_of_le j.size) j.size,?_,?_,k4,setRow_heap _ _ _ _ _ _ E⟩;rw[setRow_other _ _ _ _ (by omega),Below.heap_alloc _ _ _ (by omega)];exact k2;rw[setRow_other _ _ _ _ (by omega),Below.heap_alloc _ _ _ (by omega)];exact k3
 case rest=>
  obtain⟨g,rfl,c⟩:=hcut;go_upto_region 2 with(fail)
  go_cut [10] (λp R=>∃o,p=(P_ o 0)/\zkg w s (zbg s f d) (zbr bs bs.length) g o R)
  case first=>
   have af:=U.below' c.bel;go_wp2_with (first|(go_at_call 226;refine(ztd bs J T _ ad af).mono ?_;rintro e B⟨rfl,C⟩)|refine wpList_store_row rfl 269 _ _ rfl _ (ua (zbr bs bs.length)) rfl rfl 269 (ua (List.replicate 16 0)) (heap_alloc_new _ _) (zlr bs) (zmV bs) (zfI _) ?_)
   go_meet
   case rel=>
    have E:=heap_alloc_new B (.cells (ua (List.replicate 16 0)) 269);have ah:=ze c.vs;have aB:=c.lt;have aD:=C.size;have q:∀k,k<wc.heap.size->((B.alloc (.cells (ua (List.replicate 16 0)) 269)).setRow B.heap.size (ua (zbr bs bs.length))).heap[k]? = wc.heap[k]?:=λk q=>by
     rw[setRow_other _ _ _ _ (by omega),Below.heap_alloc _ _ _ (by omega)];exact C.block k q
    have j:=c.bel.trans (C.mono c.bel.size);refine⟨_,rfl,⟨(Upd.setRow E).below (j.alloc j.size _) (by simp;exact Nat.le_succ_of_le j.size) j.size,(q _ (by omega)).trans c.st,(q _ (by omega)).trans c.res,c.lt,(q _ (by omega)).trans c.vs⟩,by omega,setRow_heap _ _ _ _ _ _ E⟩
  case rest=>
   obtain⟨o,rfl,F⟩:=hcut;clear c;have ai:=zeY bs bs.length;have H:Hid (ze0 s bs f d=zcU s (zcK (zbr bs bs.length) (zbg s f d) 10) 8):=rfl;generalize zbr bs bs.length=m at F ai H;generalize zbg s f d=v at F D H;have ah:=G.lt;go_wp2_with fail
   go_loopw [22] (λi wr=>∃r:Nat,r<=10/\i=I_ r/\zkg w s (zcK m v r) m g o wr) (λi _=>10-(intOf i).toNat)
   case atStart=>exact⟨0,by omega,rfl,F⟩
   case round=>
    obtain⟨r,hr,rfl,N⟩:=hrel;by_cases hr10:r<10
    .have aC:(r:Int)<10:=by omega
     go_wp2_with fail
     go_loopw [25] (λi wr=>∃k:Nat,k<=8/\i=I_ k/\zkg w s (zeZ m r (zcK m v r) k) m g o wr) (λi _=>8-(intOf i).toNat)
     case atStart=>exact⟨0,by omega,rfl,N⟩
     case round=>
      obtain⟨k,q,rfl,b⟩:=hrel;by_cases hk8:k<8
      .have t:=G.below b.v.bel;have ag:(k:Int)<8:=by omega
       have az:(2*(k:Int))<16:=by omega
       have aA:(2*(k:Int)+1)<16:=by omega
       have o1:=t.orders (r*16+2*k) (by omega);have o2:=t.orders (r*16+(2*k+1)) (by omega);have Z:=zqN (r*16+2*k) (by omega);have x2:=zqN (r*16+(2*k+1)) (by omega);generalize V:zhT.getD (r*16+2*k) 0=z at o1 Z;generalize X:zhT.getD (r*16+(2*k+1)) 0=A at o2 x2;have aa:Hid (zhT.getD (r*16+2*k) 0=z):=V;have ab:Hid (zhT.getD (r*16+(2*k+1)) 0=A):=X;clear V X;go_wp2_with fail
       go_quiet (fail)
       have L:wr.cell? (p_ o z)=some (.int .u32 (m.getD z 0)):=by rw[cell_of_row wr _ _ _ _ _ b.ms,zdZ _ _ (by omega)]
       have M:wr.cell? (p_ o A)=some (.int .u32 (m.getD A 0)):=by rw[cell_of_row wr _ _ _ _ _ b.ms,zdZ _ _ (by omega)]
       have l0:=t.lanes (k*4) (by omega);have l1:=t.lanes (k*4+1) (by omega);have l2:=t.lanes (k*4+2) (by omega);have l3:=t.lanes (k*4+3) (by omega);have l:Hid (zeZ m r (zcK m v r) (k+1)=zoa (zeZ m r (zcK m v r) k) (zaH.getD (k*4) 0) (zaH.getD (k*4+1) 0) (zaH.getD (k*4+2) 0) (zaH.getD (k*4+3) 0) (m.getD z 0) (m.getD A 0)):=by
        rw[<-aa.out,<-ab.out];rfl
       obtain⟨b0,b1,b2,b3,ap,aq,ar,au,av,aw⟩:=zve k hk8;generalize zaH.getD (k*4) 0=q0 at*;generalize zaH.getD (k*4+1) 0=q1 at*;generalize zaH.getD (k*4+2) 0=q2 at*;generalize zaH.getD (k*4+3) 0=q3 at*;have ax:(z:Int)<16:=by omega
       have ay:(A:Int)<16:=by omega
       generalize m.getD z 0=x at L l;generalize m.getD A 0=y at M l;have am:(zeZ m r (zcK m v r) k).length=16:=by rw[zid,zhB,D]
       go_wp2_with fail
       go_region_with (go_at_call 227;refine(zwT (zeZ m r (zcK m v r) k) g q0 q1 q2 q3 x y _ am ?_ b0 b1 b2 b3 ap aq ar au av aw).mono ?_;exact b.v.vs;rintro e w2⟨rfl,hU⟩)
       all_goals
        go_wp2_with fail
        go_roundw
        case rel=>exact⟨k+1,by omega,by go_num,by rw[l.out];exact b.upd (ztf hU)⟩
        case measure=>simp[intOf];omega
      obtain rfl:k=8:=by omega
      go_wp2_with fail
      go_roundw
      case rel=>exact⟨r+1,by omega,by go_num,b⟩
      case measure=>simp[intOf];omega
    obtain rfl:r=10:=by omega
    go_wp2_with fail
    have al:(zcK m v 10).length=16:=by rw[zhB,D]
    have c:=N.v;clear N F U G;generalize zcK m v 10=u at c al H;have ae:=c.lt;go_loopw [53] (λi wr=>∃k:Nat,k<=8/\i=I_ k/\zro w (zcU s u k) u g wr) (λi _=>8-(intOf i).toNat)
    case atStart=>exact⟨0,by omega,rfl,c⟩
    case round=>
     obtain⟨k,q,rfl,b⟩:=hrel;have Y:=(zjj s u k).trans I;by_cases hk8:k<8
     .have ag:(k:Int)<8:=by omega
      have c0:wr.cell? (p_ w.heap.size k)=some (.int .u32 ((zcU s u k).getD k 0)):=by rw[cell_of_row wr _ _ _ _ _ b.st,zdZ _ _ (by omega)]
      have L:wr.cell? (p_ g k)=some (.int .u32 (u.getD k 0)):=by rw[cell_of_row wr _ _ _ _ _ b.vs,zdZ _ _ (by omega)]
      have M:wr.cell? (p_ g (k+8))=some (.int .u32 (u.getD (k+8) 0)):=by rw[cell_of_row wr _ _ _ _ _ b.vs,zdZ _ _ (by omega)]
      have f0:=frozen_of_row wr _ k _ _ b.st;have l:Hid (zcU s u (k+1)=(zcU s u k).set k (bits .xor .u32 ((zcU s u k).getD k 0) (bits .xor .u32 (u.getD k 0) (u.getD (k+8) 0)))):=rfl;generalize (zcU s u k).getD k 0=x0 at c0 l;generalize u.getD k 0=Z at L l;generalize u.getD (k+8) 0=x2 at M l;go_wp2_with fail
      go_region
      go_wp2_with fail
      go_roundw
      case rel=>
       refine⟨k+1,by omega,by go_num,(b.bel.setCell (p:=p_ w.heap.size k) (nR_ _) _).drew,?_,?_,ae,?_⟩;rw[l.out,<-zel];exact heap_setCell_same wr _ _ _ _ _ b.st;exact(Below.heap_setCell wr _ _ _ (by simp)).trans b.res;exact(Below.heap_setCell wr _ _ _ (by simp;omega)).trans b.vs
      case measure=>simp[intOf];omega
     obtain rfl:k=8:=by omega
     have O:=zfJ (zcU s u 8) Y;have ho:(ua (List.replicate 8 0)).size=(ua (zcU s u 8)).size:=by rw[zcd,zcd,Y];rfl
     go_wp2_with (first|refine wpList_load_row rfl 245 _ rfl w.heap.size rfl 245 (ua (zcU s u 8)) (0,0) _ b.st underlying245 rfl O ?_|refine wpList_store_row rfl 245 _ _ rfl (w.heap.size+1) (ua (zcU s u 8)) rfl rfl 245 (ua (List.replicate 8 0)) b.res O ho (zfI _) ?_)
     exact bodyPost_ret (v:=.agg (ua (zcU s u 8))) (results_cell_row (fn:=Tryz.f192) (p:=8) (ty:=245) rfl _ _ (w.heap.size+1) 245 _ (0,0) _ rfl (setRow_heap _ _ _ _ _ _ b.res) underlying245 rfl O) rfl ⟨by rw[H.out],(Upd.setRow b.res).below b.bel b.bel.size (by omega)⟩
theorem zls (s:L_)(d:s.length=8)(k:Nat)(c:k<8)(w:World) :
  (Instr.index 245 (.agg (ua s)) (I_ k)).run prog w=.ok (.int .u32 (s.getD k 0)) w:=by
 have b:=zdZ s k (by omega);simp[Instr.index,asIntOf,Sem.run_bind,run_underlying underlying245,part,b,c]
theorem zrp (w:World):(Instr.makeSlice 61 (I_ 0) (I_ 32)).run prog w=.ok (.slice (some (p_ w.heap.size 0)) 0 32) (w.alloc (.cells (ub (List.replicate 32 0)).toArray 5)):=by kernel_rfl
theorem zrq (s:L_)(w:World)(c:s.length=8) :
  Calls prog 193 #[.agg (ua s)] w λe w'=>e=.returned (.slice (some (p_ (w.heap.size+1) 0)) 32 32)/\B_ w w'/\w'.ownsRow w.heap.size 5 1 (.slice (some (p_ (w.heap.size+1) 0)) 32 32) 32 (ub (zdg s 8)):=by
 have u:=λw=>zrp w;have q:=zfJ s c;have g:((w.alloc (.cells (ua s) 245)).alloc (.cells (ub (List.replicate 32 0)).toArray 5)).heap[w.heap.size]? = some (.cells (ua s) 245 (0,0)):=heap_alloc2_old _ _ _;obtain⟨i,m,y,r,z⟩:=info_parts zek;have f:=World.ownsRow_made (base:=w.heap.size) (e:=5) (size:=1) (w.alloc (.cells (ua s) 245)) (ub (List.replicate 32 0)).toArray 32 (by simp) (by decide) rfl;go_in;go_wp2_with (refine wpList_load_row rfl 245 _ rfl w.heap.size rfl 245 (ua s) (0,0) _ g underlying245 rfl q ?_)
 go_loopw [8,3] (λi v wr=>∃k:Nat,k<=8/\i=I_ k/\v=.slice (some (p_ (w.heap.size+1) 0)) (4*k) 32/\B_ w wr/\wr.ownsRow w.heap.size 5 1 (.slice (some (p_ (w.heap.size+1) 0)) (4*k) 32) (4*k) (ub (zdg s k))) (λi _ _=>8-(intOf i).toNat)
 case atStart=>exact⟨0,nZ_ _,rfl,by simp,((bR_ _ _).alloc (nR_ _) _).alloc (by simp) _,by simpa[ub,zdg]using f⟩
 case round=>
  obtain⟨k,t,rfl,rfl,b,d⟩:=hrel;clear g f;by_cases hlt:k<8
  .have o:=λw=>zls s c k hlt w;have j:Hid (zdg s (k+1)=zdg s k++[s.getD k 0 % 256,s.getD k 0 / 256 % 256,s.getD k 0 / 65536 % 256,s.getD k 0 / 16777216 % 256]):=rfl;generalize s.getD k 0=x at o j;go_wp2_with (at_builtin;refine wpList_append_own_spare _ rfl _ _ 61 rfl w.heap.size 5 i 1 underlying61 m r (w.heap.size+1) (4*k) 32 _ rfl (d.alloc _) (p_ wr.heap.size 0) 4 4 [.int .u8 (x % 256),.int .u8 (x / 256 % 256),.int .u8 (x / 65536 % 256),.int .u8 (x / 16777216 % 256)] rfl rfl (zag _ _ _) (zds [_,_,_,_]) (by omega) ?_;intro A p l)
   go_roundw
   case rel=>
    refine⟨k+1,by omega,by go_num,by rw[show 4*(k+1)=4*k+4 by omega],(b.alloc b.size _).grown l (by simp;exact Nat.le_succ_of_le b.size) (by simp),?_⟩;rw[j.out,show 4*(k+1)=4*k+4 by omega]
    simpa[ub]using p
   case measure=>simp[intOf];omega
  obtain rfl:k=8:=by omega
  go_wp2_with fail
  go_ret;exact⟨rfl,b,d⟩
variable {xs:List Value}{W:World}
theorem zrr (l:L_)(h:l.length=8):∃a b c d e f g i,l=[a,b,c,d,e,f,g,i]:=by
 match l,h with
 | [a,b,c,d,e,f,g,i],_=>exact⟨a,b,c,d,e,f,g,i,rfl⟩
theorem zod {b:Nat}{t:TypeId}{c d f g l m o p:Int}(h:W.heap[b]? = some (.cells (ua [c,d,f,g,l,m,o,p]) t (0,0))) :
  C_ W b 0 (.int .u32 c)/\C_ W b 1 (.int .u32 d)/\C_ W b 2 (.int .u32 f)/\C_ W b 3 (.int .u32 g) /\
  C_ W b 4 (.int .u32 l)/\C_ W b 5 (.int .u32 m)/\C_ W b 6 (.int .u32 o)/\C_ W b 7 (.int .u32 p)/\∀j,W.frozen? (p_ b j)=false:=
 ⟨cell_of_row W b 0 _ _ _ h,cell_of_row W b 1 _ _ _ h,cell_of_row W b 2 _ _ _ h,cell_of_row W b 3 _ _ _ h,cell_of_row W b 4 _ _ _ h,cell_of_row W b 5 _ _ _ h,cell_of_row W b 6 _ _ _ h,cell_of_row W b 7 _ _ _ h,λj=>frozen_of_row W b j _ _ h⟩
theorem zzA {b:Nat}{t:TypeId}{p q r s u y z A:Int}(c d f g j l m o:Int)(h:W.heap[b]? = some (.cells (ua [p,q,r,s,u,y,z,A]) t (0,0))) :
  Upd b (.cells (ua [c,d,f,g,j,l,m,o]) t (0,0)) W ((((((((W.setCell (p_ b 0) (.int .u32 c)).setCell (p_ b 1) (.int .u32 d)).setCell (p_ b 2) (.int .u32 f)).setCell (p_ b 3) (.int .u32 g)).setCell (p_ b 4) (.int .u32 j)).setCell (p_ b 5) (.int .u32 l)).setCell (p_ b 6) (.int .u32 m)).setCell (p_ b 7) (.int .u32 o)):=by
 have k:=((((((((Upd.refl h).setCell 0 (.int .u32 c)).setCell 1 (.int .u32 d)).setCell 2 (.int .u32 f)).setCell 3 (.int .u32 g)).setCell 4 (.int .u32 j)).setCell 5 (.int .u32 l)).setCell 6 (.int .u32 m)).setCell 7 (.int .u32 o);simp only[zel,List.set_cons_zero,List.set_cons_succ]at k;exact k
def zfK (bs:L_):Nat->L_
 | 0=>zdG
 | k+1=>ze0 (zfK bs k) ((bs.drop (64*k)).take 64) ((64*k+64:Nat):Int) false
theorem zjI (bs:L_)(k:Nat):(zfK bs k).length=8:=by
 induction k with
 | zero=>exact zem
 | succ k ih=>rw[zfK,zjH,ih]
def znW (n:Nat):Nat:=(n-1) / 64
def zhj (bs:L_):L_:=
 zdg (ze0 (zfK bs (znW bs.length)) (bs.drop (64*znW bs.length)) (bs.length:Int) true) 8
theorem zkh (d f g j l m o p:Int)(bs:L_)(B:Q_)(C:Nat)(c:Int)(b:Bool)(n:Nat)(w:World)(I:n=bs.length)(G:bs.length<=64)(H:za5 w B bs)(E:za2 w) :
  Calls prog 192 #[.agg #[.int .u32 d,.int .u32 f,.int .u32 g,.int .u32 j,.int .u32 l,.int .u32 m,.int .u32 o,.int .u32 p],.slice B n C,I_ c,.bool b] w λe w'=>
   ∃q r s t u y z A,e=.returned (.agg #[.int .u32 q,.int .u32 r,.int .u32 s,.int .u32 t,.int .u32 u,.int .u32 y,.int .u32 z,.int .u32 A])/\Hid (ze0 [d,f,g,j,l,m,o,p] bs c b=[q,r,s,t,u,y,z,A])/\B_ w w':=by
 subst I;refine(zvg [d,f,g,j,l,m,o,p] bs B C c b w rfl G H E).mono ?_;rintro e w'⟨rfl,F⟩;obtain⟨q,r,s,t,u,y,z,A,D⟩:=zrr (ze0 [d,f,g,j,l,m,o,p] bs c b) (zjH _ _ _ _);exact⟨q,r,s,t,u,y,z,A,by rw[D];rfl,D,F⟩
theorem zjJ (b c d f g j l m:Int)(w:World) :
  Calls prog 193 #[.agg #[.int .u32 b,.int .u32 c,.int .u32 d,.int .u32 f,.int .u32 g,.int .u32 j,.int .u32 l,.int .u32 m]] w λe w'=>
   e=.returned (.slice (some (p_ (w.heap.size+1) 0)) 32 32)/\B_ w w'/\w'.ownsRow w.heap.size 5 1 (.slice (some (p_ (w.heap.size+1) 0)) 32 32) 32 (ub (zdg [b,c,d,f,g,j,l,m] 8)):=
 zrq [b,c,d,f,g,j,l,m] w rfl
theorem zhk {b b':Nat}{e:TypeId}{size:Nat}{v:Value}(h:w.ownsRow b e size v n xs)(m:b'<=b):w.ownsRow b' e size v n xs:=by
 obtain⟨j,c⟩:=h;refine⟨j,?_⟩;rcases c with c|⟨g,d,f,l,o,r⟩;exact .inl c;exact .inr ⟨g,d,f,l,by omega,r⟩
theorem zwV (bs:L_)(L:Q_)(u:Nat)(w:World)(hl:bs.length<=4000)(ad:bs.length<=u)(hm:u<=maxLen)(am:u=0\/∃j z,L=some (p_ j z))(g:za5 w L bs)(B:za2 w) :
  Calls prog 162 #[.slice L bs.length u] w λe w'=>∃b,e=.returned (.tuple #[.slice (some (p_ b 0)) 32 32,I_ 0])/\w.heap.size<=b/\B_ w w'/\w'.ownsRow w.heap.size 5 1 (.slice (some (p_ b 0)) 32 32) 32 (ub (zhj bs)):=by
 unfold maxLen at hm;have h1:decide ((4000:Int)<(bs.length:Int))=false:=by simp;omega
 have ao:=zfJ zdG zem;have al:(ua (List.replicate 8 0)).size=(ua zdG).size:=by rw[zcd,zcd,zem];rfl
 have hg:=B.lt;go_in;go_wp2_with (first|(go_at_call 191;refine(zte _ B.words).mono ?_;rintro e w1⟨rfl,F⟩)|refine wpList_store_row rfl 245 _ _ rfl _ (ua zdG) rfl rfl 245 (ua (List.replicate 8 0)) (heap_alloc_new _ _) ao al (zfI _) ?_)
 go_loopw [5] (λi wr=>∃k d:Nat,i=I_ d/\Hid (d=64*k)/\(d<bs.length\/d=0)/\B_ w wr/\R_ wr w1.heap.size (ua (zfK bs k)) 245) (λi _=>bs.length-(intOf i).toNat)
 case atStart=>
  have hn:=heap_alloc_new w1 (.cells (ua (List.replicate 8 0)) 245);exact⟨0,0,rfl,rfl,.inr rfl,(Upd.setRow hn).below (F.alloc F.size _) (by simp;exact Nat.le_succ_of_le F.size) F.size,setRow_heap _ _ _ _ _ _ hn⟩
 case round=>
  obtain⟨k,d,rfl,M,aa,f,D⟩:=hrel;have an:=F.size;have ak:=ze D;by_cases hlt:64<bs.length-d;have ar:(64:Int)<(bs.length:Int)-d:=by omega
  rcases g with g|⟨j,z,rfl,g⟩;subst g;simp at hlt;have au:j<w.heap.size:=block_lt_of_cell (g 0 (by omega));have ah:za5 w (some (p_ j z)) bs:=.inr ⟨j,z,rfl,g⟩;have hcut:=ah.cut d 64;have H:Hid (64=((bs.drop d).take 64).length):=by show _=_;simp;omega
  have E:=zjI bs k;have af:Hid (zfK bs (k+1)=ze0 (zfK bs k) ((bs.drop d).take 64) ((d:Int)+64) false):=by
   have ai:=M.out;have e:((64*k+64:Nat):Int)=(d:Int)+64:=by omega
   show _=_;rw[zfK,e,<-ai]
  generalize zfK bs k=S at D E af
  rotate_left
  have hk:k=znW bs.length:=by
   have:=M.out;unfold znW;omega
  have E:=zjI bs k;have H:Hid (bs.length-d=(bs.drop d).length):=by show _=_;simp
  have C:Hid (zhj bs=zdg (ze0 (zfK bs k) (bs.drop d) (bs.length:Int) true) 8):=by
   show _=_;rw[zhj,<-hk,<-M.out]
  have hcut:za5 w (L.map λa=>(p_ a.block (a.off+d))) (bs.drop d):=by
   rcases g with g|⟨j,z,rfl,g⟩;exact .inl (by rw[g];simp);have:=za5.cut (.inr ⟨j,z,rfl,g⟩) d (bs.length)
   rwa [tL_ (by simp)]at this
  generalize zfK bs k=S at D E C
  rotate_left
  all_goals
   obtain⟨l,m,o,p,q,r,s,t,rfl⟩:=zrr S E;obtain⟨c0,c1,c2,c3,c4,c5,c6,c7,f0⟩:=zod D
  .have aj:(d:Int)+64<=u:=by omega
   go_wp2_with fail
   go_region_with (go_at_call 192;refine(zkh l m o p q r s t ((bs.drop d).take 64) _ _ _ _ _ _ H.out (by simp;omega) ?_ ?_).mono ?_;exact hcut.below' f.drew;exact B.below f.drew;rintro e w2⟨N,O,R,T,U,V,X,Y,rfl,A,y⟩;have ae:=(y.block w1.heap.size ak).trans D;obtain⟨e0,e1,e2,e3,e4,e5,e6,e7,g0⟩:=zod ae)
   all_goals
    go_wp2_with fail
    go_roundw
    case rel=>
     have hU:=zzA N O R T U V X Y ae;have c:=f.drew.trans (y.mono f.size);refine⟨k+1,d+64,by go_num,by rw[M.out];exact(Nat.mul_succ 64 k).symm,.inl (by omega),hU.below c c.size an,?_⟩;rw[af.out,A.out];exact hU.here
    case measure=>simp[intOf];omega
  clear hk;have ab:(bs.drop d).length<=64:=by simp;omega
  rcases am with rfl|⟨j,z,rfl⟩
  .have ac:bs=[]:=eN_ (by omega);subst ac;obtain rfl:d=0:=aa.elim (λh=>absurd h (Nat.not_lt_zero _)) id;have I:zhj []=zdg (ze0 [l,m,o,p,q,r,s,t] [] 0 true) 8:=C.out;have Z:Hid (zhj []=zdg (ze0 [l,m,o,p,q,r,s,t] [] 0 true) 8):=I;clear C I hcut H ab hlt ad hl h1 g;cases L
   all_goals
    go_wp2_with fail
    go_region_with (first|(go_at_call 192;refine(zkh l m o p q r s t [] _ _ _ _ _ _ rfl (by simp) ?_ ?_).mono ?_;exact .inl rfl;exact B.below f.drew;rintro e w2⟨N,O,R,T,U,V,X,Y,rfl,A,y⟩)|(go_at_call 193;refine(zjJ _ _ _ _ _ _ _ _ _).mono ?_;rintro e w3⟨rfl,G,J⟩))
    all_goals
     go_wp2_with fail
     go_ret2;have c:=f.drew.trans (y.mono f.size);refine⟨_,rfl,Nat.le_succ_of_le c.size,c.trans (G.mono c.size),?_⟩;rw[Z.out,A.out];exact zhk J c.size
  by_cases aj:d<u
  .have ap:(d:Int)<u:=by omega
   have aq:d<=bs.length:=by omega
   go_wp2_with fail
   go_region_with (first|(go_at_call 192;refine(zkh l m o p q r s t (bs.drop d) _ _ _ _ _ _ H.out ab ?_ ?_).mono ?_;exact hcut.below' f.drew;exact B.below f.drew;rintro e w2⟨N,O,R,T,U,V,X,Y,rfl,A,y⟩)|(go_at_call 193;refine(zjJ _ _ _ _ _ _ _ _ _).mono ?_;rintro e w3⟨rfl,G,J⟩))
   all_goals
    go_wp2_with fail
    go_ret2;have c:=f.drew.trans (y.mono f.size);refine⟨_,rfl,Nat.le_succ_of_le c.size,c.trans (G.mono c.size),?_⟩;rw[C.out,A.out];exact zhk J c.size
  have ac:bs=[]:=eN_ (by omega);have ag:u=0:=by rcases aa with h|h<;>omega
  subst ac;subst ag;obtain rfl:d=0:=aa.elim (λh=>absurd h (Nat.not_lt_zero _)) id;have I:zhj []=zdg (ze0 [l,m,o,p,q,r,s,t] [] 0 true) 8:=C.out;have Z:Hid (zhj []=zdg (ze0 [l,m,o,p,q,r,s,t] [] 0 true) 8):=I;clear C I hcut H ab hlt ad hl h1 g;go_wp2_with fail
  go_region_with (first|(go_at_call 192;refine(zkh l m o p q r s t [] _ _ _ _ _ _ rfl (by simp) ?_ ?_).mono ?_;exact .inl rfl;exact B.below f.drew;rintro e w2⟨N,O,R,T,U,V,X,Y,rfl,A,y⟩)|(go_at_call 193;refine(zjJ _ _ _ _ _ _ _ _ _).mono ?_;rintro e w3⟨rfl,G,J⟩))
  all_goals
   go_wp2_with fail
   go_ret2;have c:=f.drew.trans (y.mono f.size);refine⟨_,rfl,Nat.le_succ_of_le c.size,c.trans (G.mono c.size),?_⟩;rw[Z.out,A.out];exact zhk J c.size
theorem zpP (bs:L_):(zhj bs).length=32:=zoc _ 8
theorem zxZ (bs:L_)(f:Q_)(n d:Nat)(w:World)(p:n=bs.length)(o:bs.length<=4000)(c:zg w f d bs)(m:za2 w) :
  Calls prog 162 #[.slice f n d] w λe w'=>∃b,e=.returned (.tuple #[.slice (some (p_ b 0)) 32 32,I_ 0])/\w.heap.size<=b/\B_ w w'/\zg w' (some (p_ b 0)) 32 (zhj bs):=by
 subst p;refine(zwV bs f d w o c.le c.max c.some c.bytes m).mono ?_;rintro e w'⟨b,rfl,g,j,l⟩;exact⟨b,rfl,g,j,(zc0 l).2⟩
variable {base:Nat}{bs:L_}
def psz (ps:List zi):Nat->Nat
 | 0=>0
 | k+1=>psz ps k+(2+(ps.getD k ⟨none,0,[]⟩).bs.length)
theorem zoe (b:List zi)(j k:Nat)(h:j<=k):psz b j<=psz b k:=by
 induction k with
 | zero=>
  obtain rfl:j=0:=by omega
  exact nR_ _
 | succ k ih=>
  rcases lG_ j (k+1)with g|g;exact nT_ (ih (by omega)) (by simp[psz]);obtain rfl:j=k+1:=by omega
  exact nR_ _
theorem zvh (b:List zi)(j:Q_)(n l:Nat)(w:World)(q:n=b.length)(g:zbT w j b)(y:1+psz b b.length<=4000) :
  Calls prog 161 #[.slice j n l] w λe w'=>e=.returned (.bool true)/\w=w':=by
 subst q;have u:b.length<=2000:=by
  have:∀k,2*k<=psz b k:=by
   intro k
   induction k with
   | zero=>exact nR_ _
   | succ k ih=>simp[psz];omega
  have:=this b.length;omega
 go_in;go_wp2_with fail
 go_loop [8,3] (λi r=>∃k:Nat,k<=b.length/\i=I_ k/\r=I_ (3999-(psz b k:Int))) (λi _=>b.length-(intOf i).toNat)
 case atStart=>exact⟨0,nZ_ _,rfl,rfl⟩
 case round=>
  obtain⟨k,t,rfl,rfl⟩:=hrel;by_cases hlt:k<b.length
  .rcases g.cells with c|⟨C,D,rfl,c⟩;subst c;simp at hlt;have d:=c k hlt;have o:=zoe b (k+1) b.length hlt;have f:Hid (psz b (k+1)=psz b k+(2+(b[k]).bs.length)):=by show _=_;simp[psz,hlt]
   have p:psz b k+(2+(b[k]).bs.length)<=3999:=by have:=f.out;omega
   generalize (b[k]).bs.length=m at d f p;generalize (b[k]).sa=A at d;generalize (b[k]).cap=B at d;clear o c g;generalize psz b k=z at*;have s:¬((3999:Int)-z-2<m):=by omega
   go_wp2_with fail
   go_round
   case rel=>exact⟨k+1,by omega,by go_num,by rw[f.out];go_num⟩
   case measure=>simp[intOf];omega
  go_wp2_with fail
  go_ret;exact⟨rfl,rfl⟩
theorem zx0 {v:Value}{cs:L_}(h:w.ownsRow base 5 1 v n (ub bs++cs.map (Value.int .u8))):w.ownsRow base 5 1 v n (ub (bs++cs)):=by
 simpa[ub]using h
def zdS (tag:Int)(ps:List zi):Nat->L_
 | 0=>[tag]
 | k+1=>zdS tag ps k++[((ps.getD k ⟨none,0,[]⟩).bs.length:Int) / 256 % 256,((ps.getD k ⟨none,0,[]⟩).bs.length:Int) % 256]++(ps.getD k ⟨none,0,[]⟩).bs
theorem zof (c:Int)(b:List zi)(k:Nat):(zdS c b k).length=1+psz b k:=by
 induction k with
 | zero=>rfl
 | succ k ih=>simp[zdS,psz,ih];omega
theorem zmW (f:Int)(c:List zi)(t:Q_)(n u:Nat)(w:World)(V:n=c.length)(m:zbT w t c)(E:1+psz c c.length<=4000)(N:za2 w) :
  Calls prog 120 #[.int .u8 f,.slice t n u] w λe w'=>∃b,e=.returned (.tuple #[.slice (some (p_ b 0)) 32 32,I_ 0])/\w.heap.size<=b/\B_ w w'/\zg w' (some (p_ b 0)) 32 (zhj (zdS f c c.length)):=by
 subst V;have af:c.length<=2000:=by
  have:∀k,2*k<=psz c k:=by
   intro k
   induction k with
   | zero=>exact nR_ _
   | succ k ih=>simp[psz];omega
  have:=this c.length;omega
 obtain⟨i,R,ab,ac,ad⟩:=info_parts zek;have Y:(w.alloc (.cells #[.int .u8 f] 5)).ownsRow w.heap.size 5 1 (.slice (some (p_ w.heap.size 0)) 1 1) 1 (ub (zdS f c 0)):=
  World.ownsRow_lit w #[.int .u8 f] 1 (nR_ _) (by decide) rfl
 go_in;go_wp2_with fail
 refine(zvh c t _ u w rfl m E).mono ?_;rintro e w'⟨rfl,rfl⟩;go_wp2_with fail
 go_loopw [16,6] (λj v wr=>∃k:Nat,k<=c.length/\j=I_ k/\B_ w wr/\wr.ownsRow w.heap.size 5 1 v (1+psz c k) (ub (zdS f c k))) (λj _ _=>c.length-(intOf j).toNat)
 case atStart=>exact⟨0,nZ_ _,rfl,(bR_ _ _).alloc (nR_ _) _,Y⟩
 case round=>
  obtain⟨k,hk,rfl,d,l⟩:=hrel;by_cases hlt:k<c.length
  .have B:=m.below d;rcases B.cells with g|⟨sb,so,rfl,g⟩;subst g;simp at hlt;have J:=g k hlt;have L:=zoe c (k+1) c.length hlt;have o:Hid (psz c (k+1)=psz c k+(2+(c[k]).bs.length)):=by show _=_;simp[psz,hlt]
   have M:psz c k+(2+(c[k]).bs.length)<=3999:=by have:=o.out;omega
   have D:((c[k]).bs.length:Int) / 256 % 256=((c[k]).bs.length:Int) / 256:=by omega
   have F:Hid (zdS f c (k+1)=zdS f c k++[((c[k]).bs.length:Int) / 256,((c[k]).bs.length:Int) % 256]++(c[k]).bs):=by
    show _=_;rw[<-D];simp[zdS,hlt]
   have C:=m.each (c[k]) (gM_ hlt);have U:Hid ((c[k]).bs.length=(c[k]).bs.length):=rfl;clear L g B m D;generalize c[k]=p at*;obtain⟨pa,pc,bs⟩:=p
   simp only at J o M F C
   clear U;have G:=trivial;go_wp2_with (first|(at_builtin;have _t:=G;refine wpList_append_own _ rfl _ _ 61 rfl w.heap.size 5 i (.int .u8 0) 1 1 underlying61 R ab ac ad rfl (by decide) _ (1+psz c k) _ rfl (l.alloc _) (p_ wr.heap.size 0) 2 2 [.int .u8 ((bs.length:Int) / 256),.int .u8 ((bs.length:Int) % 256)] rfl rfl (zag _ _ _) (zds [_,_]) (by unfold maxLen;omega) (by omega) (zB d.size _) ?_;clear G;intro v1 w1 A s _)|(at_builtin;refine zgo rfl _ _ rfl w.heap.size _ _ (zdS f c k++[(bs.length:Int) / 256,(bs.length:Int) % 256]) rfl (zx0 A) pa bs.length pc bs rfl rfl (C.below (Below.grown (d.alloc d.size _) s (zB d.size _) (λq e=>(l.lt q e).1))) (by omega) (nT_ (zB d.size _) s.size) ?_;intro v2 w2 X O))
   have y:=Below.grown (d.alloc d.size _) s (zB d.size _) (λq e=>(l.lt q e).1);have r:=Below.grown y O y.size (λq e=>(A.lt q e).1);go_roundw
   case rel=>
    refine⟨k+1,by omega,by go_num,r,?_⟩;rw[F.out,o.out,show 1+(psz c k+(2+bs.length))=1+psz c k+2+bs.length by omega];exact X
   case measure=>simp[intOf];omega
  obtain rfl:k=c.length:=by omega
  obtain⟨ae,I,hv,z,aa⟩:=zeG l;subst hv;have H:Hid (1+psz c c.length=(zdS f c c.length).length):=z;clear z;go_wp2_with fail
  refine(zxZ (zdS f c c.length) ae _ I wr H.out (by rw[zof];exact E) aa (N.below d)).mono ?_;rintro e w2⟨b,rfl,T,r,Z⟩;go_wp2_with fail
  go_ret2;exact⟨b,rfl,nT_ d.size T,d.trans (r.mono d.size),Z⟩
def zhV (tag:Int)(bs:L_):L_:=zhj (zdS tag [⟨none,0,bs⟩] 1)
theorem zhW (b:Int)(bs:L_):(zhV b bs).length=32:=zpP _
theorem zlt (b:Int)(d:Q_)(c:Nat)(bs:L_):zdS b [⟨d,c,bs⟩] 1=zdS b [⟨none,0,bs⟩] 1:=by simp[zdS]
theorem zog (w:World)(c:Q_)(n b:Nat)(bs:L_)(f:n=bs.length)(l:zg w c b bs):zbT (w.alloc (.cells #[.slice c n b] 61)) (some (p_ w.heap.size 0)) [⟨c,b,bs⟩]:=by
 refine⟨.inr ⟨w.heap.size,0,rfl,λj d=>?_⟩,λp g=>?_⟩;obtain rfl:j=0:=by simpa using d
 subst f;exact zhz w _ _ 0 _ rfl;obtain rfl:p=⟨c,b,bs⟩:=by simpa using g
 exact l.below ((bR_ _ _).alloc (nR_ _) _)
theorem zkZ (au rd:Int)(b:Q_)(g c:Nat)(bl:List zi)(d:Q_)(l f:Nat)(pl:List zi)(j:Int)(w:World)(p:g=bl.length)(r:l=pl.length)(s:zx w b c bl)(u:zx w d f pl)(q:zO au rd bl pl=j)(y:j≠0) :
  Calls prog 134 #[.agg #[I_ au,I_ rd,.slice b g c,.slice d l f]] w λe w'=>e=.returned (.tuple #[O_,I_ j])/\B_ w w':=by
 have m:=zC w (.cells #[I_ au,I_ rd,.slice b g c,.slice d l f] 60);have o:=zeB au rd b c bl d f pl _ (s.below m) (u.below m);rw[q,<-p,<-r]at o;clear p r q;go_in;go_wp2_with fail
 refine o.mono ?_;rintro e z⟨rfl,t⟩;go_wp2_with fail
 go_ret2;exact⟨rfl,zS t⟩
theorem zlu (au rd:Int)(c:Q_)(m l:Nat)(bl:List zi)(d:Q_)(s r:Nat)(pl:List zi)(w:World)(E:m=bl.length)(G:s=pl.length)(O:zx w c l bl)(o:zx w d r pl)(M:Off w (O_) c bl)(N:Off w (O_) d pl)(L:zO au rd bl pl=0)(ha:0<=au/\au<4)(hr:0<=rd/\rd<=1048576)(ae:bl.length<=4)(ag:pl.length<=4)(R:∀p∈bl,p.bs.length=32)(T:∀p∈pl,p.bs.length=32)(hT:za2 w) :
  Calls prog 134 #[.agg #[I_ au,I_ rd,.slice c m l,.slice d s r]] w λe w'=>∃b,e=.returned (.tuple #[.slice (some (p_ b 0)) 32 32,I_ 0])/\w.heap.size<=b/\B_ w w'/\zg w' (some (p_ b 0)) 32 (zhV 2 (zaZ au rd bl pl)):=by
 have I:=zC w (.cells #[I_ au,I_ rd,.slice c m l,.slice d s r] 60);have D:=zeB au rd c l bl d r pl _ (O.below I) (o.below I);rw[L,<-E,<-G]at D;have aj:=zdY bl R;have ak:=zdY pl T;have X:Hid (m=bl.length):=E;have Y:Hid (s=pl.length):=G;clear E G L;go_in;go_wp2_with fail
 refine D.mono ?_;rintro e u⟨rfl,f⟩;have z:=zbK f;replace f:=zS f;have c0:=zb z 0 (I_ au) rfl;have c1:=zb z 1 (I_ rd) rfl;have c2:=zb z 2 (.slice c m l) rfl;have c3:=zb z 3 (.slice d s r) rfl;have t:=f.size;clear D;have aa:Off u (O_) c bl:=⟨λg j e=>⟨nL_ (M.row g j e).1 t,λh=>by cases h⟩,λp o g j e=>⟨nL_ (M.each p o g j e).1 t,λh=>by cases h⟩⟩;have ab:Off u (O_) d pl:=⟨λg j e=>⟨nL_ (N.row g j e).1 t,λh=>by cases h⟩,λp o g j e=>⟨nL_ (N.each p o g j e).1 t,λh=>by cases h⟩⟩;go_wp2_with fail
 refine(zkW u.heap.size (O_) 0 [] au rd c m l bl d s r pl u ha hr X.out Y.out ae ag R T (O.below f) aa (o.below f) ab (oN_ _ _ _ _) (nR_ _) (by decide)).mono ?_;rintro e w2⟨v2,rfl,F,H⟩;have ac:=H.below (nR_ _) (λq e=>by cases e);rw[zA_,List.nil_append]at F;obtain⟨A,C,hv,U,hx⟩:=zeG F;subst hv;have y:=f.trans (ac.mono t);have HX:Hid _:=U;have ai:(zaZ au rd bl pl).length<=300:=by simp[zaZ,rd3,zbh];omega
 have Z:=zC w2 (.cells #[.slice A (zaZ au rd bl pl).length C] 61);clear U F H;generalize J:zaZ au rd bl pl=B at*;have V:Hid _:=J;clear J;go_wp2_with fail
 refine(zmW 2 [⟨A,C,B⟩] _ _ _ _ rfl (zog w2 A _ C B rfl hx) (by simp[psz];omega) ((hT.below y).below Z)).mono ?_;rintro e w3⟨b,rfl,af,ad,ah⟩;go_wp2_with fail
 go_ret2;refine⟨b,rfl,?_,?_,?_⟩;rw[zG]at af;have:=y.size;omega;exact y.trans ((zS ad).mono y.size);rw[zhV,V.out,<-zlt 2 A C B];exact ah
variable {rd au:Int}{pl bl:List zi}
theorem zpQ (c:List zi)(k:Nat)(h:zbn c k=0):∀j,j<k->zcF c j=0:=by
 induction k with
 | zero=>intro j d;omega
 | succ k ih=>
  rw[zbn]at h
  split at h
  rename_i b;exact absurd h b
  rename_i b
  intro j d;rcases lG_ j k with g|g;exact ih (by simpa using b) j g;obtain rfl:j=k:=by omega
  exact h
theorem zoh {b:List zi}(h:zb8 b=0):∀p∈b,p.bs.length=32:=by
 intro p g;obtain⟨j,d,rfl⟩:=List.getElem_of_mem g;have c:=zpQ b b.length h j d;rw[zcF,zgQ b j d]at c
 split at c
 cases c
 rename_i f;simpa using f
theorem zbi (h:zO au rd bl pl=0):(0<=au/\au<4)/\(1<=rd/\rd<=1048576)/\bl.length<=3/\pl.length<=4/\(∀p∈bl,p.bs.length=32)/\(∀p∈pl,p.bs.length=32):=by
 unfold zO at h
 split at h
 cases h
 split at h
 cases h
 split at h
 rename_i b;exact absurd h b
 split at h
 rename_i b;exact absurd h b
 rename_i b f c d
 exact⟨by omega,by omega,by omega,by omega,zoh (by simpa using c),zoh (by simpa using d)⟩
end Go.Proofs.YtpnpikpmdfipfaaGreatDoor
