import Derived.Test.YtdnaljbnebnlhaaGreatDoorPk7
set_option maxRecDepth 100000
set_option maxHeartbeats 4000000
namespace Go.Proofs.YtdnaljbnebnlhaaGreatDoor
open Go.RowKit Tryz
theorem zrt (au rd:Int)(b:Option Addr)(c:Nat)(bl:List zi)(d:Option Addr)(f:Nat)(pl:List zi)(g:Int)(w:World)(h:HAt w b c bl d f pl)(y:zO au rd bl pl=g)(m:g≠0) :
  Calls prog 180 #[.agg #[I_ au,I_ rd,.slice b bl.length c,.slice d pl.length f]] w λe w'=>e=.returned (.tuple #[.agg #[I_ 0,I_ 0,O_],I_ g])/\B_ w w':=by
 refine kW_ ?A0 ?_;exact w.alloc (.cells #[I_ au,I_ rd,.slice b bl.length c,.slice d pl.length f] 61);refine kO_ ?B0 ?_;exact Obj.cells #[I_ 0,I_ 0,O_] 53;have l:B_ w ((?A0).alloc ?B0):=((bR_ _ _).alloc (nR_ _) _).alloc (by simp) _;have p:((?A0).alloc ?B0).heap[w.heap.size+1]? = some (.cells #[I_ 0,I_ 0,O_] 53 (0,0)):=by
  have:=hN_ ?A0 ?B0;rw[zG]at this;exact this
 go_in;go_wp2_with fail
 generalize (?A0).alloc ?B0=q at l p|-;refine(zkZ au rd b _ c bl d _ f pl g q rfl rfl (h.lb.below l) (h.lp.below l) y m).mono ?_;rintro e D⟨rfl,o⟩;have j:=zk o p;have r:=zb j 0 _ rfl;have s:=zb j 1 _ rfl;have t:=zb j 2 _ rfl;have z:=zd j 0;have A:=zd j 1;have B:=zd j 2;have u:=zm l o;have C:(g != 0)=true:=by simpa using m
 go_wp2_with fail
 refine bodyPost_ret (v:=.tuple #[.agg #[I_ 0,I_ 0,O_],I_ g]) (by simp[results,results180,go_sem,r,s,t]) rfl ⟨rfl,?_⟩;exact((u.setCell (Nat.le_succ _) _).setCell (Nat.le_succ _) _).setCell (Nat.le_succ _) _
theorem ztj (au rd:Int)(c:Option Addr)(d:Nat)(bl:List zi)(f:Option Addr)(g:Nat)(pl:List zi)(w:World)(h:HAt w c d bl f g pl)(y:zO au rd bl pl=0)(G:zbJ w) :
  Calls prog 180 #[.agg #[I_ au,I_ rd,.slice c bl.length d,.slice f pl.length g]] w λe w'=>∃b,e=.returned (.tuple #[.agg #[I_ au,I_ rd,.slice (some ⟨b,0,none⟩) 32 32],I_ 0])/\w.heap.size<=b/\b<w'.heap.size/\zg w' (some ⟨b,0,none⟩) 32 (zaE au rd bl pl)/\B_ w w':=by
 refine kO_ ?A0 ?_;exact Obj.cells #[I_ au,I_ rd,.slice c bl.length d,.slice f pl.length g] 61;refine kO_ ?B0 ?_;exact Obj.cells #[I_ 0,I_ 0,O_] 53;have l:B_ w ((w.alloc ?A0).alloc ?B0):=((bR_ _ _).alloc (nR_ _) _).alloc (by simp) _;have B:=hX_ w ?A0 ?B0;have s:((w.alloc ?A0).alloc ?B0).heap[w.heap.size+1]? = some (.cells #[I_ 0,I_ 0,O_] 53 (0,0)):=by
  have:=hN_ (w.alloc ?A0) ?B0;rw[zG]at this;exact this
 go_in;go_wp2_with fail
 generalize (w.alloc ?A0).alloc ?B0=u at l B s|-;refine(zea (h.below l) y (G.below l)).mono ?_;rintro e J⟨b,rfl,z,o,A⟩;have q:w.heap.size+1<u.heap.size:=ze s;have C:=zk o B;have j:=zk o s;have L:=zb C 0 (I_ au) rfl;have M:=zb C 1 (I_ rd) rfl;have D:=zb j 0 _ rfl;have E:=zb j 1 _ rfl;have F:=zb j 2 _ rfl;have N:=zd j 0;have O:=zd j 1;have R:=zd j 2;have H:=zm l o;have I:b<J.heap.size:=by
  rcases A.bytes with p|⟨m,t,e,p⟩
  .have:=zbD au rd bl pl;rw[p]at this;simp at this
  .cases e;exact bL_ (p 0 (by rw[zbD];decide))
 clear y;go_wp2_with fail
 refine bodyPost_ret (v:=.tuple #[.agg #[I_ au,I_ rd,.slice (some ⟨b,0,none⟩) 32 32],I_ 0]) (by simp[results,results180,go_sem,D,E,F]) rfl ⟨b,rfl,nT_ l.size z,by simpa using I,?_,?_⟩
 .have r:∀m t,(some ⟨b,0,none⟩:Option Addr)=some ⟨m,t,none⟩->u.heap.size<=m:=λm t e=>by cases e;exact z
  exact zfu (zfu (zfu A r _ _ _ q) r _ _ _ q) r _ _ _ q
 .exact((H.setCell (Nat.le_succ _) _).setCell (Nat.le_succ _) _).setCell (Nat.le_succ _) _
theorem zjk (au rd:Int)(bs:List Int)(d:Option Addr)(n c:Nat)(w:World)(F:n=bs.length)(G:zg w d c bs)(E:bs.length<=140737488355328) :
  Calls prog 212 #[.agg #[I_ au,I_ rd,.slice d n c]] w λe w'=>∃g rc,e=.returned (.agg #[I_ au,I_ rd,.slice g bs.length rc])/\zg w' g rc bs/\(∀b j,g=some ⟨b,j,none⟩->w.heap.size<=b/\b<w'.heap.size)/\B_ w w':=by
 subst F;refine kO_ ?A0 ?_;exact Obj.cells #[I_ au,I_ rd,.slice d bs.length c] 53;refine kO_ ?B0 ?_;exact Obj.cells #[I_ 0,I_ 0,O_] 53;have o:B_ w ((w.alloc ?A0).alloc ?B0):=((bR_ _ _).alloc (nR_ _) _).alloc (by simp) _;have u:=hX_ w ?A0 ?B0;have r:((w.alloc ?A0).alloc ?B0).heap[w.heap.size+1]? = some (.cells #[I_ 0,I_ 0,O_] 53 (0,0)):=by
  have:=hN_ (w.alloc ?A0) ?B0;rw[zG]at this;exact this
 go_in;go_wp2_with fail
 generalize (w.alloc ?A0).alloc ?B0=s at o u r|-;refine(zeH bs d _ c s rfl (G.below o) E).mono ?_;rintro e U⟨g,rc,C,l,t,p⟩;subst C;dsimp only;have R:w.heap.size+1<s.heap.size:=ze r;have m:=zk p u;have f:=zk p r;have H:=zb m 0 (I_ au) rfl;have I:=zb m 1 (I_ rd) rfl;have J:=zb m 2 (.slice d bs.length c) rfl;have y:=zb f 0 _ rfl;have z:=zb f 1 _ rfl;have A:=zb f 2 _ rfl;have M:=zd f 0;have N:=zd f 1;have O:=zd f 2;have L:=zd m 2;have T:w.heap.size≠w.heap.size+1:=by omega
 go_wp2_with fail
 have B:=zm o p;refine bodyPost_ret (v:=.agg #[I_ au,I_ rd,.slice g bs.length rc]) (by simp[results,results212,go_sem,y,z,A]) rfl ⟨g,rc,rfl,?_,?_,?_⟩
 .refine⟨l.le,l.max,l.some,l.nil,?_⟩;rcases l.bytes with q|⟨b,j,e,q⟩
  .exact .inl q
  .have:=(t b j e).1;exact .inr ⟨b,j,e,λk D=>((World.cell?_setCell_far _ _ _ _ (by show w.heap.size+1≠b;omega)).trans ((World.cell?_setCell_far _ _ _ _ (by show w.heap.size+1≠b;omega)).trans ((World.cell?_setCell_far _ _ _ _ (by show w.heap.size+1≠b;omega)).trans (World.cell?_setCell_far _ _ _ _ (by show w.heap.size≠b;omega))))).trans (q k D)⟩
 .intro b j e;have:=t b j e
  simp;omega
 .exact(((B.setCell (nR_ _) _).setCell (Nat.le_succ _) _).setCell (Nat.le_succ _) _).setCell (Nat.le_succ _) _
theorem zie (b:List Sl)(B:Option Addr)(n X:Nat)(w:World)(hn:n=b.length)(aj:b.length<=400)(J:∀s∈b,s.p.bs.length<=140737488355328)(N:zgb w B b) :
  Calls prog 211 #[.slice B n X] w λe w'=>∃v c,e=.returned v/\vs c=vs b/\w'.ownsRow w.heap.size 53 3 v b.length (slv c)/\z8 w' w.heap.size v (ps c)/\B_ w w':=by
 subst hn;obtain⟨i,I,R,T,U⟩:=info_parts zk0;go_in;go_wp2_with (at_make;refine wpList_make_own _ rfl _ _ 44 rfl w.heap.size 53 i (.agg #[I_ 0,I_ 0,O_]) 3 underlying44 I R T .i64 .i64 _ (b.length+1) rfl rfl (by go_num) (by rw[U];omega) (by unfold maxLen;omega) (nR_ _) ?_;intro w1 ae ac)
 go_wp2_with fail
 go_loopw [12,3] (λj v wr=>∃(k:Nat) (c:List Sl),k<=b.length/\j=I_ k/\vs c=(vs b).take k/\wr.ownsRow w.heap.size 53 3 v k (slv c)/\z8 wr w.heap.size v (ps c)/\B_ w wr) (λj _ _=>b.length-(intOf j).toNat)
 case atStart=>exact⟨0,[],nZ_ _,rfl,rfl,ae,(λp hp=>by cases hp),zgP ac⟩
 case round=>
  obtain⟨k,c,hk,rfl,t,y,E,m⟩:=hrel;by_cases hlt:k<b.length
  .have z:=N.below m;obtain⟨d,f,rfl,F⟩:∃d f,B=some ⟨d,f,none⟩/\∀j (h:j<b.length),wr.cell? ⟨d,f+j*3,none⟩=some (I_ (b[j]).au)/\wr.cell? ⟨d,f+j*3+1,none⟩=some (I_ (b[j]).rd)/\wr.cell? ⟨d,f+j*3+2,none⟩=some (.slice (b[j]).p.sa (b[j]).p.bs.length (b[j]).p.cap):=by
    rcases z.cells with h|h
    .rw[h]at hlt;simp at hlt
    .exact h
   obtain⟨c0,c1,c2⟩:=F k hlt;have hx:=z.each (b[k]) (gM_ hlt);have ai:=J (b[k]) (gM_ hlt);have ah:Hid ((vs b).take (k+1)=(vs b).take k++[(b[k]).v]):=by
    show _=_;rw[tS_ (by rw[zay];exact hlt)];simp[vs]
   have ak:(k:Int)<b.length:=by omega
   clear F z N J;generalize b[k]=s at*;have Y:=zC wr (.cells (srow_ s) 53);go_wp2_with fail
   refine(zjk s.au s.rd s.p.bs s.p.sa _ s.p.cap _ rfl (hx.below Y) ai).mono ?_;rintro e w2⟨r,rc,he,ag,M,g⟩;subst he;dsimp only;rw[zG]at M;replace g:=zS g;have l:=zm m g;have L:=zw y g;have ad:=zag w2 [I_ s.au,I_ s.rd,.slice r s.p.bs.length rc] 53;go_wp2_with (at_builtin;refine wpList_append_own_at _ rfl _ _ 44 rfl w.heap.size 53 i (.agg #[I_ 0,I_ 0,O_]) 3 40 underlying44 I R T U rfl (by decide) _ k _ rfl (oA_ L _) ⟨w2.heap.size,0,none⟩ 1 1 [I_ s.au,I_ s.rd,.slice r s.p.bs.length rc] rfl rfl ad (by intro u O;simp at O;rcases O with rfl|rfl|rfl<;>rfl) (by unfold maxLen;omega) (by omega) (zB l.size _) ?_;intro V C af H _ ab)
   have G:=zV.of H ab;have aa:=E.more_at (q:=⟨r,rc,s.p.bs⟩) m.size y g (λd f e=>by have:=M d f e;omega) ag G;have Z:=Below.grown (l.alloc l.size _) H (zB l.size _) (λq e=>(L.lt q e).1);go_wp2_with fail
   go_roundw
   case rel=>
    have D:∃(o:Nat) (A:List Sl),o<=b.length/\(Value.int .i64 ((k:Int)+1))=I_ o/\vs A=(vs b).take o/\C.ownsRow w.heap.size 53 3 V o (slv A)/\z8 C w.heap.size V (ps A)/\B_ w C:=
     ⟨k+1,c++[⟨s.au,s.rd,⟨r,rc,s.p.bs⟩⟩],by omega,by go_num,by rw[ah.out,<-t];simp[vs,Sl.v],by rw[zki];exact af,by simpa[ps]using aa,Z⟩
    first|exact D|((repeat apply Exists.intro);exact⟨D,rfl⟩)
   case measure=>simp[intOf];omega
  .obtain rfl:k=b.length:=by omega
   rw[tL_ (by rw[zay];exact nR_ _)]at t;go_wp2_with fail
   go_ret;exact⟨_,c,rfl,t,y,E,m⟩
theorem ztk (s:Sl)(au rd:Int)(b c:Nat)(w:World)(d:w.cell? ⟨b,0,none⟩=some (I_ au))(f:w.cell? ⟨c,0,none⟩=some (I_ rd)) :
  Calls prog 235 #[.agg (srow_ s),(P_ b 0),(P_ c 0)] w λe w'=>e=.returned (.bool (decide (s.au=au/\s.rd=rd)))/\B_ w w':=by
 have g:=bL_ d;have j:=bL_ f;have l:b≠w.heap.size:=by simp at g;omega
 have m:c≠w.heap.size:=by simp at j;omega
 go_in;go_wp2_with fail
 all_goals (go_ret;exact⟨by first|(simp_all;done)|(simp_all;rfl),(bR_ _ _).alloc (nR_ _) _⟩)
theorem znB (b:List Sl)(A:Option Addr)(k D:Nat)(au rd:Int)(q t:Nat)(w:World)(U:k<=b.length)(V:k<=3000000000000000000)(J:zgb w A b)(E:w.cell? ⟨q,0,none⟩=some (I_ au))(M:w.cell? ⟨t,0,none⟩=some (I_ rd)) :
  Calls prog 236 #[.slice A k D,.func (.func 235) #[] #[P_ q 0,(P_ t 0)]] w λe w'=>∃r:Int,e=.returned (I_ r)/\zhC (vs b) au rd k r/\B_ w w':=by
 go_in;go_wp2_with fail
 go_loopw [8] (λi wr=>∃m:Nat,m<=k/\i=I_ m/\(∀j,j<m->hit (vs b) au rd j=false)/\B_ w wr) (λi _=>k-(intOf i).toNat)
 case atStart=>exact⟨0,nZ_ _,rfl,(λj I=>by omega),bR_ _ _⟩
 case round=>
  obtain⟨m,Y,rfl,f,d⟩:=hrel;by_cases hlt:m<k
  .have p:m<b.length:=by omega
   have L:=J.below d;obtain⟨l,o,rfl,C⟩:∃l o,A=some ⟨l,o,none⟩/\∀j (h:j<b.length),wr.cell? ⟨l,o+j*3,none⟩=some (I_ (b[j]).au)/\wr.cell? ⟨l,o+j*3+1,none⟩=some (I_ (b[j]).rd)/\wr.cell? ⟨l,o+j*3+2,none⟩=some (.slice (b[j]).p.sa (b[j]).p.bs.length (b[j]).p.cap):=by
    rcases L.cells with h|h
    .rw[h]at p;simp at p
    .exact h
   obtain⟨O,R,T⟩:=C m p;have y:=zwW b au rd m p;have F:=zr d E;have N:=zr d M;have X:(m:Int)<k:=by omega
   clear C;generalize b[m]=s at*;have c:Hid (decide (s.au=au/\s.rd=rd)=true->zhC (vs b) au rd k m):=by
    show _->_;intro h;exact .inl ⟨m,hlt,rfl,by rw[y];exact h,f⟩
   have u:Hid (decide (s.au=au/\s.rd=rd)=false->∀j,j<m+1->hit (vs b) au rd j=false):=by
    show _->_;intro h j I;rcases Nat.lt_or_ge j m with g|g
    .exact f j g
    .obtain rfl:j=m:=by omega
     rw[y];exact h
   clear f y;go_wp2_with fail
   refine(ztk s au rd q t wr F N).mono ?_;rintro _ Z⟨rfl,G⟩;dsimp only;have B:=zm d G;generalize decide (s.au=au/\s.rd=rd)=x at*;cases x
   .have z:=u.out rfl;clear c u;go_wp2_with fail
    go_roundw
    case rel=>exact⟨m+1,by omega,by go_num,z,B⟩
    case measure=>simp[intOf];omega
   .have z:=c.out rfl;clear c u;go_wp2_with fail
    go_ret;exact⟨_,rfl,z,B⟩
  .obtain rfl:m=k:=by omega
   have c:Hid (zhC (vs b) au rd m (-1)):=.inr ⟨rfl,f⟩;clear f;go_wp2_with fail
   go_ret;exact⟨_,rfl,c.out,d⟩
theorem zoi (c:List Sl)(d:Option Addr)(k b:Nat)(au rd:Int)(w:World)(m:k<=c.length)(o:k<=3000000000000000000)(p:zgb w d c) :
  Calls prog 210 #[.slice d k b,I_ au,I_ rd] w λe w'=>∃r:Int,e=.returned (I_ r)/\zhC (vs c) au rd k r/\B_ w w':=by
 have q:∀(fn:Fn) (first b:Array Value) (w:World),(Instr.makeFunc fn first b).run prog w=.ok (.func fn first b) w:=λ_ _ _ _=>rfl;go_in;go_wp2_with fail
 have g:B_ w ((w.alloc (.cells #[I_ au] 3)).alloc (.cells #[I_ rd] 3)):=((bR_ _ _).alloc (nR_ _) _).alloc (by simp) _;refine(znB c d k b au rd _ _ _ m o (p.below g) ?_ ?_).mono ?_
 .simp
 .simp
 rintro e s⟨r,l,f,j⟩;subst l;dsimp only;go_wp2_with fail
 go_ret;exact⟨r,rfl,f,zS (zS j)⟩
theorem zhm (b:List Sl)(V:Option Addr)(n t:Nat)(w:World)(R:n=b.length)(A:zeb w V t b) :
  Calls prog 179 #[.slice V n t] w λe w'=>e=.returned (I_ (zdt (vs b)))/\B_ w w':=by
 subst R;have ae:=A.le;have ah:=A.max;by_cases hlong:400<b.length
 .have y:Hid (zdt (vs b)=12):=zth _ (by rw[zay];exact hlong);have hI:(400:Int)<b.length:=by omega
  go_in;go_wp2_with fail
  go_ret;exact⟨zt y.out.symm,bR_ _ _⟩
 have hI:¬(400:Int)<b.length:=by omega
 go_in;go_wp2_with fail
 go_loopw [10] (λi wr=>∃m:Nat,m<=b.length/\i=I_ m/\(∀j,j<m->zeD (vs b) j=false)/\B_ w wr) (λi _=>b.length-(intOf i).toNat)
 case atStart=>exact⟨0,nZ_ _,rfl,(λj hj=>by omega),bR_ _ _⟩
 case round=>
  obtain⟨m,hm,rfl,H,q⟩:=hrel;by_cases hlt:m<b.length
  .have T:=A.slots.below q;obtain⟨l,o,rfl,hc⟩:∃l o,V=some ⟨l,o,none⟩/\∀j (h:j<b.length),wr.cell? ⟨l,o+j*3,none⟩=some (I_ (b[j]).au)/\wr.cell? ⟨l,o+j*3+1,none⟩=some (I_ (b[j]).rd)/\wr.cell? ⟨l,o+j*3+2,none⟩=some (.slice (b[j]).p.sa (b[j]).p.bs.length (b[j]).p.cap):=by
    rcases T.cells with h|h
    .rw[h]at hlt;simp at hlt
    .exact h
   obtain⟨c0,c1,c2⟩:=hc m hlt;have af:(m:Int)<b.length:=by omega
   have ag:(m:Int)<=t:=by omega
   have u:Hid (zeD (vs b) m=(decide (zbf (b[m]).au (b[m]).rd (b[m]).p.bs.length≠0)||zff (vs b) (b[m]).au (b[m]).rd m)):=by
    show _=_;rw[zeD,zhl b m hlt];rfl
   have F:Hid (zeD (vs b) m=true->zdt (vs b)=12):=by
    show _->_;exact zvi (vs b) m (by rw[zay];exact hlt)
   have O:Hid (zeD (vs b) m=false->∀j,j<m+1->zeD (vs b) j=false):=by
    show _->_;intro h j hj;rcases Nat.lt_or_ge j m with g|g
    .exact H j g
    .obtain rfl:j=m:=by omega
     exact h
   have X:Hid (∀W:World,B_ wr W->Calls prog 210 #[.slice (some ⟨l,o,none⟩) m t,I_ (b[m]).au,I_ (b[m]).rd] W λe w'=>∃r:Int,e=.returned (I_ r)/\((zff (vs b) (b[m]).au (b[m]).rd m=true/\0<=r)\/(zff (vs b) (b[m]).au (b[m]).rd m=false/\r=-1))/\B_ W w'):=by
    show ∀W,_;intro W hW;refine(zoi b (some ⟨l,o,none⟩) m t (b[m]).au (b[m]).rd W (by omega) (by have:=A.small;omega) (T.below hW)).mono ?_;rintro e w'⟨r,he,y,ab⟩;exact⟨r,he,y.neg,ab⟩
   have L:Hid (∀W:World,Calls prog 78 #[.agg (srow_ (b[m]))] W λe w'=>e=.returned (I_ (zbf (b[m]).au (b[m]).rd (b[m]).p.bs.length))/\B_ W w'):=by
    show ∀W,_;intro W;exact zgC _ _ _ _ _ W
   clear hc H T A;generalize b[m]=s at*;have f:=(bR_ wr.heap.size wr).alloc (nR_ _) (.cells (srow_ s) 53);have B:=hN_ wr (.cells (srow_ s) 53);go_wp2_with fail
   generalize wr.alloc (.cells (srow_ s) 53)=M at f B|-;have C:=zb B 0 (I_ s.au) rfl;have D:=zb B 1 (I_ s.rd) rfl;refine kV_ ?A0 ?_;exact Value.slice s.p.sa s.p.bs.length s.p.cap;have E:=zb B 2 ?A0 rfl;have d:wr.heap.size<M.heap.size:=ze B;clear c0 c1 c2;by_cases hx:zbf s.au s.rd s.p.bs.length=0
   .rw[hx]at L;have I:Hid (zff (vs b) s.au s.rd m=true->zdt (vs b)=12):=by
     show _->_;intro h;exact F.out (by rw[u.out,h];simp)
    have J:Hid (zff (vs b) s.au s.rd m=false->∀j,j<m+1->zeD (vs b) j=false):=by
     show _->_;intro h;exact O.out (by rw[u.out,h,hx];rfl)
    clear F O u hx;go_region_held3 (λw'=>w'.cell? ⟨wr.heap.size,0,none⟩=some (I_ s.au)/\w'.cell? ⟨wr.heap.size,1,none⟩=some (I_ s.rd)/\w'.cell? ⟨wr.heap.size,2,none⟩=some ?A0) (go_keep) (first|(go_at_call 210;refine(X.out _ (f.trans (c.mono f.size))).mono ?_;rintro e w3⟨r,rfl,hr,ad⟩;have G:=c.trans (ad.mono c.size);have k0:=(G.cell (p:=⟨wr.heap.size,0,none⟩) d).trans C;have k1:=(G.cell (p:=⟨wr.heap.size,1,none⟩) d).trans D;have k2:=(G.cell (p:=⟨wr.heap.size,2,none⟩) d).trans E)|(go_at_call 78;refine(L.out _).mono ?_;rintro e w2⟨rfl,ac⟩;have c:B_ M w2:=zbE ac;have e0:=(c.cell (p:=⟨wr.heap.size,0,none⟩) d).trans C;have e1:=(c.cell (p:=⟨wr.heap.size,1,none⟩) d).trans D;have e2:=(c.cell (p:=⟨wr.heap.size,2,none⟩) d).trans E))
    all_goals
     have Z:=q.trans ((f.trans (G.mono f.size)).mono q.size);rcases hr with⟨z,hr⟩|⟨z,rfl⟩
     .have hy:=I.out z;clear I J z;go_wp2_with fail
      go_ret;exact⟨zt hy.symm,Z⟩
     .have R:=J.out z;clear I J z;go_wp2_with fail
      go_roundw
      case rel=>
       have Y:∃U:Nat,U<=b.length/\(Value.int .i64 ((m:Int)+1))=I_ U/\(∀j,j<U->zeD (vs b) j=false)/\B_ w w3:=⟨m+1,by omega,by go_num,R,Z⟩
       first|exact Y|((repeat apply Exists.intro);exact⟨Y,rfl⟩)
      case measure=>simp[intOf];omega
   .have aa:Hid (zdt (vs b)=12):=F.out (by rw[u.out];simp[hx]);generalize zbf s.au s.rd s.p.bs.length=x at*;clear F O u X;have ai:(x != 0)=true:=by simpa using hx
    refine wR_ (S:=λw'=>w'.cell? ⟨wr.heap.size,0,none⟩=some (I_ s.au)/\w'.cell? ⟨wr.heap.size,1,none⟩=some (I_ s.rd)/\w'.cell? ⟨wr.heap.size,2,none⟩=some ?A0) (by kernel_rfl) ⟨C,D,E⟩ (λN=>?_);refine zU 0 15 (.agg (srow_ s)) rfl rfl N ?_;simp only[zf];refine zE 1 rfl (λK hK=>?_);refine zj rfl 16 rfl 78 [.tmp 15] #[53] rfl [.agg (srow_ s)] rfl (eO_ func78) (λv w'=>v=I_ x/\B_ M w') ((L.out _).mono (λe w2 h=>⟨_,h.1,rfl,zbE h.2⟩)) ?_;rintro v w2⟨rfl,c⟩;refine hK.out _ _ ⟨(c.cell (p:=⟨wr.heap.size,0,none⟩) d).trans C,(c.cell (p:=⟨wr.heap.size,1,none⟩) d).trans D,(c.cell (p:=⟨wr.heap.size,2,none⟩) d).trans E⟩ (λN=>?_);simp only[zf];refine tks_ 12 [(2,17,.bool true),(3,18,.bool true),(4,19,undef),(5,20,undef),(6,21,undef),(7,22,undef),(8,23,undef),(9,24,undef),(10,25,undef),(11,26,undef),(12,27,undef),(13,28,.bool true)] N ?_;simp only[tkf_,zf];refine wD_ (by kernel_rfl) ?_ _;go_wp2_with fail
    go_ret;exact⟨zt aa.out.symm,q.trans ((f.trans (c.mono f.size)).mono q.size)⟩
  .obtain rfl:m=b.length:=by omega
   have y:Hid (zdt (vs b)=0):=zwX _ (by rw[zay];omega) (λk hk=>H k (by rw[zay]at hk;exact hk));clear H;go_wp2_with fail
   go_ret;exact⟨zt y.out.symm,q⟩
def zcL (l:List SV)(au rd:Int)(bl pl:List zi):List SV×SV×Int:=
 if zdt l≠0 then([],(0,0,[]),12)else if zO au rd bl pl≠0 then([],(0,0,[]),zO au rd bl pl)else
  if(za6 l (au,rd,zaE au rd bl pl)).2≠0 then([],(0,0,[]),(za6 l (au,rd,zaE au rd bl pl)).2)else((za6 l (au,rd,zaE au rd bl pl)).1,(au,rd,zaE au rd bl pl),0)
variable {w w':World}{sa:Option Addr}{cap k:Nat}
structure Sg where
 nd:Int
 au:Int
 rd:Int
 p:zi
abbrev GV:=Int×Int×Int×List Int
def Sg.v (s:Sg):GV:=(s.nd,s.au,s.rd,s.p.bs)
def gvs (ls:List Sg):List GV:=ls.map Sg.v
theorem zfM (b:List Sg):(gvs b).length=b.length:=by simp[gvs]
def zhD (nd au rd:Int)(n:Nat):Int:=if ¬(0<=nd/\nd<4)then 2 else zbf au rd n
def gF (g:GV):Int:=zhD g.1 g.2.1 g.2.2.1 g.2.2.2.length
def zbF (l:List GV):Int:=if(∀g∈l,gF g=0)/\l.Nodup then 0 else 12
theorem zmZ (l:List GV):zbF l=0\/zbF l=12:=by
 rw[zbF];split
 .exact .inl rfl
 .exact .inr rfl
theorem zpT {l:List GV}(h:zbF l=0):(∀g∈l,gF g=0)/\l.Nodup:=by
 rw[zbF]at h
 split at h
 .assumption
 .cases h
theorem ztl {l:List GV}(h:(∀g∈l,gF g=0)/\l.Nodup):zbF l=0:=by rw[zbF,if_pos h]
theorem zoj {l:List GV}(h:¬l.Nodup):zbF l=12:=by
 rw[zbF,if_neg];intro k;exact h k.2
structure zcz (w:World)(sa:Option Addr)(ls:List Sg):Prop where
 cells:ls=[]\/∃sb so,sa=some ⟨sb,so,none⟩/\∀j (h:j<ls.length),w.cell? ⟨sb,so+j*4,none⟩=some (I_ (ls[j]).nd)/\w.cell? ⟨sb,so+j*4+1,none⟩=some (I_ (ls[j]).au)/\w.cell? ⟨sb,so+j*4+2,none⟩=some (I_ (ls[j]).rd)/\w.cell? ⟨sb,so+j*4+3,none⟩=some (.slice (ls[j]).p.sa (ls[j]).p.bs.length (ls[j]).p.cap)
 each:∀s∈ls,zg w s.p.sa s.p.cap s.p.bs/\zaN s.p.bs
theorem zcz.below {q:List Sg}(h:zcz w sa q)(b:B_ w w'):zcz w' sa q:=by
 refine⟨?_,λp o=>⟨(h.each p o).1.below b,(h.each p o).2⟩⟩;rcases h.cells with h|⟨c,d,rfl,r⟩
 .exact .inl h
 .refine .inr ⟨c,d,rfl,λj s=>?_⟩;obtain⟨f,g,l,m⟩:=r j s;exact⟨(b.cell (p:=⟨c,d+j*4,none⟩) (block_lt_of_cell f)).trans f,(b.cell (p:=⟨c,d+j*4+1,none⟩) (block_lt_of_cell g)).trans g,(b.cell (p:=⟨c,d+j*4+2,none⟩) (block_lt_of_cell l)).trans l,(b.cell (p:=⟨c,d+j*4+3,none⟩) (block_lt_of_cell m)).trans m⟩
structure ze9 (w:World)(sa:Option Addr)(cap:Nat)(ls:List Sg):Prop where
 le:ls.length<=cap
 max:cap<=9223372036854775807
 small:ls.length<=2932031007400
 some:cap=0\/∃sb so,sa=some ⟨sb,so,none⟩
 slots:zcz w sa ls
theorem ze9.below {b:List Sg}(h:ze9 w sa cap b)(c:B_ w w'):ze9 w' sa cap b:=⟨h.le,h.max,h.small,h.some,h.slots.below c⟩
theorem zx1 {b ys:List Int}(c:zaN b)(d:zaN ys):txL b=txL ys↔b=ys:=⟨λh=>ziD c d (zhf h),λh=>by rw[h]⟩
theorem znC {α:Type}{l:List α}{x:α}(b:k<l.length):x∈l.take (k+1)↔x∈l.take k\/x=l[k]:=by
 rw[tS_ b,List.mem_append,List.mem_singleton]
theorem zgR (n:Int)(r:Bool)(w:World)(h:r=decide (0<=n/\n<4)):Calls prog 239 #[I_ n] w λe w'=>e=.returned (.bool r)/\w=w':=by
 by_cases h1:0<=n
 .by_cases h2:n<4;obtain rfl:r=true:=by simp[h,h1,h2]
  rotate_left
  obtain rfl:r=false:=by simp[h,h2]
  rotate_left
  all_goals
   clear h;go_in
   go_wp2
   go_ret;exact⟨rfl,rfl⟩
 .obtain rfl:r=false:=by simp[h,h1]
  clear h;go_in
  go_wp2
  go_ret;exact⟨rfl,rfl⟩
theorem zgF (b au rd:Int)(g:Option Addr)(n d:Nat)(w:World) :
  Calls prog 217 #[.agg #[I_ b,I_ au,I_ rd,.slice g n d]] w λe w'=>e=.returned (I_ (zhD b au rd n))/\B_ w w':=by
 by_cases ha:0<=b/\b<4
 .have c:Hid (zhD b au rd n=zbf au rd n):=by show _=_;rw[zhD,if_neg (by simpa using ha)]
  have f:=(bR_ w.heap.size w).alloc (nR_ _) (.cells #[I_ b,I_ au,I_ rd,.slice g n d] 55);go_in;go_wp2_with (first|(go_at_call 239;refine(zgR _ true _ (by simp[ha])).mono ?_;rintro e w'⟨rfl,rfl⟩)|(go_at_call 78;refine(zgC _ _ _ _ _ _).mono ?_;rintro e w'⟨rfl,j⟩))
  go_ret;exact⟨zt c.out.symm,f.trans (j.mono f.size)⟩
 .have c:Hid (zhD b au rd n=2):=by show _=_;rw[zhD,if_pos ha]
  go_in;go_wp2_with (go_at_call 239;refine(zgR _ false _ (by simp[ha])).mono ?_;rintro e w'⟨rfl,rfl⟩)
  go_ret;exact⟨zt c.out.symm,(bR_ _ _).alloc (nR_ _) _⟩
def zmd (f:FuncId)(caps:Array Value)(P:Sg->Bool)(ls:List Sg)(w:World):Prop:=
 ∀s∈ls,∀W:World,B_ w W->Calls prog f (#[.agg #[I_ s.nd,I_ s.au,I_ s.rd,.slice s.p.sa s.p.bs.length s.p.cap]]++caps) W λe w'=>e=.returned (.bool (P s))/\B_ W w'
theorem zme (f:FuncId)(z:Array Value)(P:Sg->Bool)(U:∀B w,(callFunc f B).run prog w=.ok (.enter f B) w)(b:List Sg)(A:Option Addr)(n H:Nat)(w:World)(l:n=b.length)(V:b.length<=2932031007400)(L:zcz w A b)(C:zmd f z P b w) :
  Calls prog 215 #[.slice A n H,.func (.func f) #[] z] w λe w'=>B_ w w'/\∃r:Int,e=.returned (I_ r)/\((b.any P=true/\0<=r)\/(b.any P=false/\r=-1)):=by
 subst l;have G:Hid (zmd f z P b w):=C;clear C;go_in;go_wp2_with fail
 go_loopw [8] (λi wr=>∃m:Nat,m<=b.length/\i=I_ m/\(∀s∈b.take m,P s=false)/\B_ w wr) (λi _=>b.length-(intOf i).toNat)
 case atStart=>exact⟨0,nZ_ _,rfl,(λs c=>by simp at c),bR_ _ _⟩
 case round=>
  obtain⟨m,Y,rfl,o,p⟩:=hrel;by_cases hlt:m<b.length
  .have F:=L.below p;obtain⟨d,g,rfl,E⟩:∃d g,A=some ⟨d,g,none⟩/\∀j (h:j<b.length),wr.cell? ⟨d,g+j*4,none⟩=some (I_ (b[j]).nd)/\wr.cell? ⟨d,g+j*4+1,none⟩=some (I_ (b[j]).au)/\wr.cell? ⟨d,g+j*4+2,none⟩=some (I_ (b[j]).rd)/\wr.cell? ⟨d,g+j*4+3,none⟩=some (.slice (b[j]).p.sa (b[j]).p.bs.length (b[j]).p.cap):=by
    rcases F.cells with h|h
    .rw[h]at hlt;simp at hlt
    .exact h
   obtain⟨N,O,R,T⟩:=E m hlt;have X:(m:Int)<b.length:=by omega
   have y:Hid (P (b[m])=true->b.any P=true):=by
    show _->_;intro h;exact List.any_eq_true.2 ⟨_,gM_ hlt,h⟩
   have u:Hid (P (b[m])=false->∀s∈b.take (m+1),P s=false):=by
    show _->_;intro h s c;rw[znC hlt]at c;rcases c with c|rfl
    .exact o s c
    .exact h
   have q:=G.out (b[m]) (gM_ hlt) wr p;clear E o F;generalize b[m]=t at*;go_wp2_with fail
   refine q.mono ?_;rintro _ Z⟨rfl,I⟩;dsimp only;have D:=zm p I;cases hP:P t with
   | true=>
    have M:Hid _:=y.out hP;clear y u hP q;go_wp2_with fail
    go_ret;exact⟨D,(m:Int),rfl,.inl ⟨M.out,by omega⟩⟩
   | false=>
    have l:Hid _:=u.out hP;clear y u hP q;go_wp2_with fail
    go_roundw
    case rel=>exact⟨m+1,by omega,by go_num,l.out,D⟩
    case measure=>simp[intOf];omega
  .obtain rfl:m=b.length:=by omega
   have l:Hid (b.any P=false):=by
    show _=_;rw[tL_ (nR_ _)]at o;rw[List.any_eq_false];intro s c;rw[o s c];simp
   clear o;go_wp2_with fail
   go_ret;exact⟨p,(-1:Int),rfl,.inr ⟨l.out,rfl⟩⟩
theorem zfa (f:FuncId)(g:Array Value)(P:Sg->Bool)(u:∀l w,(callFunc f l).run prog w=.ok (.enter f l) w)(b:List Sg)(j:Option Addr)(n m:Nat)(w:World)(z:n=b.length)(y:b.length<=2932031007400)(A:zcz w j b)(o:zmd f g P b w) :
  Calls prog 188 #[.slice j n m,.func (.func f) #[] g] w λe w'=>e=.returned (.bool (b.any P))/\B_ w w':=by
 subst z;have s:=zme f g P u b j _ m w rfl y A o;clear o;go_in;go_wp2_with fail
 refine s.mono ?_;rintro e B⟨p,r,t,q⟩;subst t;dsimp only;rcases q with⟨c,q⟩|⟨c,rfl⟩
 all_goals
  have d:Hid _:=c;clear c;go_wp2_with fail
  go_ret;exact⟨zN (by rw[d.out]),p⟩
end Go.Proofs.YtdnaljbnebnlhaaGreatDoor
