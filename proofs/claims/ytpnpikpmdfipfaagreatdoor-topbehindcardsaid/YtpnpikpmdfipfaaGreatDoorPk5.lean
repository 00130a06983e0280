import Derived.Test.YtpnpikpmdfipfaaGreatDoorPk4
set_option maxRecDepth 100000
set_option maxHeartbeats 4000000
namespace Go.Proofs.YtpnpikpmdfipfaaGreatDoor
open Go.RowKit Tryz
theorem zjk (au rd:Int)(bs:L_)(d:Q_)(n c:Nat)(w:World)(F:n=bs.length)(G:zg w d c bs)(E:bs.length<=140737488355328) :
  Calls prog 169 #[.agg #[I_ au,I_ rd,.slice d n c]] w λe w'=>∃g rc,e=.returned (.agg #[I_ au,I_ rd,.slice g bs.length rc])/\zg w' g rc bs/\(∀b j,g=some (p_ b j)->w.heap.size<=b/\b<w'.heap.size)/\B_ w w':=by
 subst F;refine kO_ ?A0 ?_;exact Obj.cells #[I_ au,I_ rd,.slice d bs.length c] 63;refine kO_ ?B0 ?_;exact Obj.cells #[I_ 0,I_ 0,O_] 63;have o:B_ w ((w.alloc ?A0).alloc ?B0):=((bR_ _ _).alloc (nR_ _) _).alloc (by simp) _;have u:=hX_ w ?A0 ?B0;have r:((w.alloc ?A0).alloc ?B0).heap[w.heap.size+1]? = some (.cells #[I_ 0,I_ 0,O_] 63 (0,0)):=by
  have:=hN_ (w.alloc ?A0) ?B0;rw[zG]at this;exact this
 go_in;go_wp2_with fail
 generalize (w.alloc ?A0).alloc ?B0=s at o u r|-;refine(zeH bs d _ c s rfl (G.below o) E).mono ?_;rintro e U⟨g,rc,C,l,t,p⟩;subst C;dsimp only;have R:=ze r;have m:=zk p u;have f:=zk p r;have H:=zb m 0 (I_ au) rfl;have I:=zb m 1 (I_ rd) rfl;have J:=zb m 2 (.slice d bs.length c) rfl;have y:=zb f 0 _ rfl;have z:=zb f 1 _ rfl;have A:=zb f 2 _ rfl;have M:=zd f 0;have N:=zd f 1;have O:=zd f 2;have L:=zd m 2;have T:w.heap.size≠w.heap.size+1:=by omega
 go_wp2_with fail
 have B:=zm o p;refine bodyPost_ret (v:=.agg #[I_ au,I_ rd,.slice g bs.length rc]) (by simp[results,results169,go_sem,y,z,A]) rfl ⟨g,rc,rfl,?_,?_,?_⟩;refine⟨l.le,l.max,l.some,l.nil,?_⟩;rcases l.bytes with q|⟨b,j,e,q⟩;exact .inl q;have:=(t b j e).1;exact .inr ⟨b,j,e,λk D=>((World.cell?_setCell_far _ _ _ _ (by show w.heap.size+1≠b;omega)).trans ((World.cell?_setCell_far _ _ _ _ (by show w.heap.size+1≠b;omega)).trans ((World.cell?_setCell_far _ _ _ _ (by show w.heap.size+1≠b;omega)).trans (World.cell?_setCell_far _ _ _ _ (by show w.heap.size≠b;omega))))).trans (q k D)⟩;intro b j e;have:=t b j e
 simp;omega
 exact(((B.setCell (nR_ _) _).setCell (lS_ _) _).setCell (lS_ _) _).setCell (lS_ _) _
theorem zie (b:List Sl)(B:Q_)(n X:Nat)(w:World)(hn:n=b.length)(aj:b.length<=400)(J:∀s∈b,s.p.bs.length<=140737488355328)(N:zgb w B b) :
  Calls prog 168 #[.slice B n X] w λe w'=>∃v c,e=.returned v/\vs c=vs b/\w'.ownsRow w.heap.size 63 3 v b.length (slv c)/\z8 w' w.heap.size v (ps c)/\B_ w w':=by
 subst hn;obtain⟨i,I,R,T,U⟩:=info_parts zk0;go_in;go_wp2_with (at_make;refine wpList_make_own _ rfl _ _ 38 rfl w.heap.size 63 i (.agg #[I_ 0,I_ 0,O_]) 3 underlying38 I R T .i64 .i64 _ (b.length+1) rfl rfl (by go_num) (by rw[U];omega) (by unfold maxLen;omega) (nR_ _) ?_;intro w1 ae ac)
 go_wp2_with fail
 go_loopw [12,3] (λj v wr=>∃(k:Nat) (c:List Sl),k<=b.length/\j=I_ k/\vs c=(vs b).take k/\wr.ownsRow w.heap.size 63 3 v k (slv c)/\z8 wr w.heap.size v (ps c)/\B_ w wr) (λj _ _=>b.length-(intOf j).toNat)
 case atStart=>exact⟨0,[],nZ_ _,rfl,rfl,ae,(λp hp=>by cases hp),zgP ac⟩
 case round=>
  obtain⟨k,c,hk,rfl,t,y,E,m⟩:=hrel;by_cases hlt:k<b.length
  .have z:=N.below m;obtain⟨d,f,rfl,F⟩:∃d f,B=some (p_ d f)/\∀j (h:j<b.length),C_ wr d (f+j*3) (I_ (b[j]).au)/\C_ wr d (f+j*3+1) (I_ (b[j]).rd)/\C_ wr d (f+j*3+2) (.slice (b[j]).p.sa (b[j]).p.bs.length (b[j]).p.cap):=by
    rcases z.cells with h|h;rw[h]at hlt;simp at hlt;exact h
   obtain⟨c0,c1,c2⟩:=F k hlt;have hx:=z.each (b[k]) (gM_ hlt);have ai:=J (b[k]) (gM_ hlt);have ah:Hid ((vs b).take (k+1)=(vs b).take k++[(b[k]).v]):=by
    show _=_;rw[tS_ (by rw[zay];exact hlt)];simp[vs]
   have ak:(k:Int)<b.length:=by omega
   clear F z N J;generalize b[k]=s at*;have Y:=zC wr (.cells (srow_ s) 63);go_wp2_with fail
   refine(zjk s.au s.rd s.p.bs s.p.sa _ s.p.cap _ rfl (hx.below Y) ai).mono ?_;rintro e w2⟨r,rc,he,ag,M,g⟩;subst he;dsimp only;rw[zG]at M;replace g:=zS g;have l:=zm m g;have L:=zw y g;have ad:=zag w2 [I_ s.au,I_ s.rd,.slice r s.p.bs.length rc] 63;go_wp2_with (at_builtin;refine wpList_append_own_at _ rfl _ _ 38 rfl w.heap.size 63 i (.agg #[I_ 0,I_ 0,O_]) 3 40 underlying38 I R T U rfl (by decide) _ k _ rfl (oA_ L _) (p_ w2.heap.size 0) 1 1 [I_ s.au,I_ s.rd,.slice r s.p.bs.length rc] rfl rfl ad (by intro u O;simp at O;rcases O with rfl|rfl|rfl<;>rfl) (by unfold maxLen;omega) (by omega) (zB l.size _) ?_;intro V C af H _ ab)
   have G:=zV.of H ab;have aa:=E.more_at (q:=⟨r,rc,s.p.bs⟩) m.size y g (λd f e=>by have:=M d f e;omega) ag G;have Z:=Below.grown (l.alloc l.size _) H (zB l.size _) (λq e=>(L.lt q e).1);go_wp2_with fail
   go_roundw
   case rel=>
    have D:∃(o:Nat) (A:List Sl),o<=b.length/\(Value.int .i64 ((k:Int)+1))=I_ o/\vs A=(vs b).take o/\C.ownsRow w.heap.size 63 3 V o (slv A)/\z8 C w.heap.size V (ps A)/\B_ w C:=
     ⟨k+1,c++[⟨s.au,s.rd,⟨r,rc,s.p.bs⟩⟩],by omega,by go_num,by rw[ah.out,<-t];simp[vs,Sl.v],by rw[zki];exact af,by simpa[ps]using aa,Z⟩
    first|exact D|((repeat apply Exists.intro);exact⟨D,rfl⟩)
   case measure=>simp[intOf];omega
  obtain rfl:k=b.length:=by omega
  rw[tL_ (by rw[zay];exact nR_ _)]at t;go_wp2_with fail
  go_ret;exact⟨_,c,rfl,t,y,E,m⟩
theorem ztk (s:Sl)(au rd:Int)(b c:Nat)(w:World)(d:C_ w b 0 (I_ au))(f:C_ w c 0 (I_ rd)) :
  Calls prog 197 #[.agg (srow_ s),(P_ b 0),(P_ c 0)] w λe w'=>e=.returned (.bool (decide (s.au=au/\s.rd=rd)))/\B_ w w':=by
 have g:=bL_ d;have j:=bL_ f;have l:b≠w.heap.size:=by simp at g;omega
 have m:c≠w.heap.size:=by simp at j;omega
 go_in;go_wp2_with fail
 all_goals (go_ret;exact⟨by first|(simp_all;done)|(simp_all;rfl),(bR_ _ _).alloc (nR_ _) _⟩)
theorem znB (b:List Sl)(A:Q_)(k D:Nat)(au rd:Int)(q t:Nat)(w:World)(U:k<=b.length)(V:k<=3000000000000000000)(J:zgb w A b)(E:w.cell? (p_ q 0)=some (I_ au))(M:w.cell? (p_ t 0)=some (I_ rd)) :
  Calls prog 198 #[.slice A k D,.func (.func 197) #[] #[P_ q 0,(P_ t 0)]] w λe w'=>∃r:Int,e=.returned (I_ r)/\zhC (vs b) au rd k r/\B_ w w':=by
 go_in;go_wp2_with fail
 go_loopw [8] (λi wr=>∃m:Nat,m<=k/\i=I_ m/\(∀j,j<m->hit (vs b) au rd j=false)/\B_ w wr) (λi _=>k-(intOf i).toNat)
 case atStart=>exact⟨0,nZ_ _,rfl,(λj I=>by omega),bR_ _ _⟩
 case round=>
  obtain⟨m,Y,rfl,f,d⟩:=hrel;by_cases hlt:m<k
  .have p:m<b.length:=by omega
   have L:=J.below d;obtain⟨l,o,rfl,C⟩:∃l o,A=some (p_ l o)/\∀j (h:j<b.length),wr.cell? (p_ l (o+j*3))=some (I_ (b[j]).au)/\wr.cell? (p_ l (o+j*3+1))=some (I_ (b[j]).rd)/\wr.cell? (p_ l (o+j*3+2))=some (.slice (b[j]).p.sa (b[j]).p.bs.length (b[j]).p.cap):=by
    rcases L.cells with h|h;rw[h]at p;simp at p;exact h
   obtain⟨O,R,T⟩:=C m p;have y:=zwW b au rd m p;have F:=zr d E;have N:=zr d M;have X:(m:Int)<k:=by omega
   clear C;generalize b[m]=s at*;have c:Hid (decide (s.au=au/\s.rd=rd)=true->zhC (vs b) au rd k m):=by
    show _->_;intro h;exact .inl ⟨m,hlt,rfl,by rw[y];exact h,f⟩
   have u:Hid (decide (s.au=au/\s.rd=rd)=false->∀j,j<m+1->hit (vs b) au rd j=false):=by
    show _->_;intro h j I;rcases lG_ j m with g|g;exact f j g;obtain rfl:j=m:=by omega
    rw[y];exact h
   clear f y;go_wp2_with fail
   refine(ztk s au rd q t wr F N).mono ?_;rintro _ Z⟨rfl,G⟩;dsimp only;have B:=zm d G;generalize decide (s.au=au/\s.rd=rd)=x at*;cases x
   .have z:=u.out rfl;clear c u;go_wp2_with fail
    go_roundw
    case rel=>exact⟨m+1,by omega,by go_num,z,B⟩
    case measure=>simp[intOf];omega
   have z:=c.out rfl;clear c u;go_wp2_with fail
   go_ret;exact⟨_,rfl,z,B⟩
  obtain rfl:m=k:=by omega
  have c:Hid (zhC (vs b) au rd m (-1)):=.inr ⟨rfl,f⟩;clear f;go_wp2_with fail
  go_ret;exact⟨_,rfl,c.out,d⟩
theorem zoi (c:List Sl)(d:Q_)(k b:Nat)(au rd:Int)(w:World)(m:k<=c.length)(o:k<=3000000000000000000)(p:zgb w d c) :
  Calls prog 167 #[.slice d k b,I_ au,I_ rd] w λe w'=>∃r:Int,e=.returned (I_ r)/\zhC (vs c) au rd k r/\B_ w w':=by
 have q:∀(fn:Fn) (first b:X_) (w:World),(Instr.makeFunc fn first b).run prog w=.ok (.func fn first b) w:=λ_ _ _ _=>rfl;go_in;go_wp2_with fail
 have g:B_ w ((w.alloc (.cells #[I_ au] 3)).alloc (.cells #[I_ rd] 3)):=((bR_ _ _).alloc (nR_ _) _).alloc (by simp) _;refine(znB c d k b au rd _ _ _ m o (p.below g) ?_ ?_).mono ?_
 simp
 simp
 rintro e s⟨r,l,f,j⟩;subst l;dsimp only;go_wp2_with fail
 go_ret;exact⟨r,rfl,f,zS (zS j)⟩
theorem zhm (b:List Sl)(V:Q_)(n t:Nat)(w:World)(R:n=b.length)(A:zeb w V t b) :
  Calls prog 125 #[.slice V n t] w λe w'=>e=.returned (I_ (zdt (vs b)))/\B_ w w':=by
 subst R;have ae:=A.le;have ah:=A.max;by_cases hlong:400<b.length
 .have y:Hid (zdt (vs b)=12):=zth _ (by rw[zay];exact hlong);have hI:(400:Int)<b.length:=by omega
  go_in;go_wp2_with fail
  go_ret;exact⟨zt y.out.symm,bR_ _ _⟩
 have hI:¬(400:Int)<b.length:=by omega
 go_in;go_wp2_with fail
 go_loopw [10] (λi wr=>∃m:Nat,m<=b.length/\i=I_ m/\(∀j,j<m->zeD (vs b) j=false)/\B_ w wr) (λi _=>b.length-(intOf i).toNat)
 case atStart=>exact⟨0,nZ_ _,rfl,(λj hj=>by omega),bR_ _ _⟩
 case round=>
  obtain⟨m,hm,rfl,H,q⟩:=hrel;by_cases hlt:m<b.length
  .have T:=A.slots.below q;obtain⟨l,o,rfl,hc⟩:∃l o,V=some (p_ l o)/\∀j (h:j<b.length),wr.cell? (p_ l (o+j*3))=some (I_ (b[j]).au)/\wr.cell? (p_ l (o+j*3+1))=some (I_ (b[j]).rd)/\wr.cell? (p_ l (o+j*3+2))=some (.slice (b[j]).p.sa (b[j]).p.bs.length (b[j]).p.cap):=by
    rcases T.cells with h|h;rw[h]at hlt;simp at hlt;exact h
   obtain⟨c0,c1,c2⟩:=hc m hlt;have af:(m:Int)<b.length:=by omega
   have ag:(m:Int)<=t:=by omega
   have u:Hid (zeD (vs b) m=(decide (zbf (b[m]).au (b[m]).rd (b[m]).p.bs.length≠0)||zff (vs b) (b[m]).au (b[m]).rd m)):=by
    show _=_;rw[zeD,zhl b m hlt];rfl
   have F:Hid (zeD (vs b) m=true->zdt (vs b)=12):=by
    show _->_;exact zvi (vs b) m (by rw[zay];exact hlt)
   have O:Hid (zeD (vs b) m=false->∀j,j<m+1->zeD (vs b) j=false):=by
    show _->_;intro h j hj;rcases lG_ j m with g|g;exact H j g;obtain rfl:j=m:=by omega
    exact h
   have X:Hid (∀W:World,B_ wr W->Calls prog 167 #[.slice (some (p_ l o)) m t,I_ (b[m]).au,I_ (b[m]).rd] W λe w'=>∃r:Int,e=.returned (I_ r)/\((zff (vs b) (b[m]).au (b[m]).rd m=true/\0<=r)\/(zff (vs b) (b[m]).au (b[m]).rd m=false/\r=-1))/\B_ W w'):=by
    show ∀W,_;intro W hW;refine(zoi b (some (p_ l o)) m t (b[m]).au (b[m]).rd W (by omega) (by have:=A.small;omega) (T.below hW)).mono ?_;rintro e w'⟨r,he,y,ab⟩;exact⟨r,he,y.neg,ab⟩
   have L:Hid (∀W:World,Calls prog 113 #[.agg (srow_ (b[m]))] W λe w'=>e=.returned (I_ (zbf (b[m]).au (b[m]).rd (b[m]).p.bs.length))/\B_ W w'):=by
    show ∀W,_;intro W;exact zgC _ _ _ _ _ W
   clear hc H T A;generalize b[m]=s at*;have f:=(bR_ wr.heap.size wr).alloc (nR_ _) (.cells (srow_ s) 63);have B:=hN_ wr (.cells (srow_ s) 63);go_wp2_with fail
   generalize wr.alloc (.cells (srow_ s) 63)=M at f B|-;have C:=zb B 0 (I_ s.au) rfl;have D:=zb B 1 (I_ s.rd) rfl;refine kV_ ?A0 ?_;exact Value.slice s.p.sa s.p.bs.length s.p.cap;have E:=zb B 2 ?A0 rfl;have d:=ze B;clear c0 c1 c2;by_cases hx:zbf s.au s.rd s.p.bs.length=0
   .rw[hx]at L;have I:Hid (zff (vs b) s.au s.rd m=true->zdt (vs b)=12):=by
     show _->_;intro h;exact F.out (by rw[u.out,h];simp)
    have J:Hid (zff (vs b) s.au s.rd m=false->∀j,j<m+1->zeD (vs b) j=false):=by
     show _->_;intro h;exact O.out (by rw[u.out,h,hx];rfl)
    clear F O u hx;go_region_held3 (λw'=>w'.cell? (p_ wr.heap.size 0)=some (I_ s.au)/\w'.cell? (p_ wr.heap.size 1)=some (I_ s.rd)/\w'.cell? (p_ wr.heap.size 2)=some ?A0) (go_keep) (first|(go_at_call 167;refine(X.out _ (f.trans (c.mono f.size))).mono ?_;rintro e w3⟨r,rfl,hr,ad⟩;have G:=c.trans (ad.mono c.size);have k0:=(G.cell (p:=p_ wr.heap.size 0) d).trans C;have k1:=(G.cell (p:=p_ wr.heap.size 1) d).trans D;have k2:=(G.cell (p:=p_ wr.heap.size 2) d).trans E)|(go_at_call 113;refine(L.out _).mono ?_;rintro e w2⟨rfl,ac⟩;have c:B_ M w2:=zbE ac;have e0:=(c.cell (p:=p_ wr.heap.size 0) d).trans C;have e1:=(c.cell (p:=p_ wr.heap.size 1) d).trans D;have e2:=(c.cell (p:=p_ wr.heap.size 2) d).trans E))
    all_goals
     have Z:=q.trans ((f.trans (G.mono f.size)).mono q.size);rcases hr with⟨z,hr⟩|⟨z,rfl⟩
     .have hy:=I.out z;clear I J z;go_wp2_with fail
      go_ret;exact⟨zt hy.symm,Z⟩
     .have R:=J.out z;clear I J z;go_wp2_with fail
      go_roundw
      case rel=>
       have Y:∃U:Nat,U<=b.length/\(Value.int .i64 ((m:Int)+1))=I_ U/\(∀j,j<U->zeD (vs b) j=false)/\B_ w w3:=⟨m+1,by omega,by go_num,R,Z⟩
       first|exact Y|((repeat apply Exists.intro);exact⟨Y,rfl⟩)
      case measure=>simp[intOf];omega
   have aa:Hid (zdt (vs b)=12):=F.out (by rw[u.out];simp[hx]);generalize zbf s.au s.rd s.p.bs.length=x at*;clear F O u X;have ai:(x != 0)=true:=by simpa using hx
   refine wR_ (S:=λw'=>w'.cell? (p_ wr.heap.size 0)=some (I_ s.au)/\w'.cell? (p_ wr.heap.size 1)=some (I_ s.rd)/\w'.cell? (p_ wr.heap.size 2)=some ?A0) (by kernel_rfl) ⟨C,D,E⟩ (λN=>?_);refine zU 0 15 (.agg (srow_ s)) rfl rfl N ?_;simp only[zf];refine zE 1 rfl (λK hK=>?_);refine zj rfl 16 rfl 113 [.tmp 15] #[63] rfl [.agg (srow_ s)] rfl (eO_ func113) (λv w'=>v=I_ x/\B_ M w') ((L.out _).mono (λe w2 h=>⟨_,h.1,rfl,zbE h.2⟩)) ?_;rintro v w2⟨rfl,c⟩;refine hK.out _ _ ⟨(c.cell (p:=p_ wr.heap.size 0) d).trans C,(c.cell (p:=p_ wr.heap.size 1) d).trans D,(c.cell (p:=p_ wr.heap.size 2) d).trans E⟩ (λN=>?_);simp only[zf];refine tks_ 12 [(2,17,.bool true),(3,18,.bool true),(4,19,undef),(5,20,undef),(6,21,undef),(7,22,undef),(8,23,undef),(9,24,undef),(10,25,undef),(11,26,undef),(12,27,undef),(13,28,.bool true)] N ?_;simp only[tkf_,zf];refine wD_ (by kernel_rfl) ?_ _;go_wp2_with fail
   go_ret;exact⟨zt aa.out.symm,q.trans ((f.trans (c.mono f.size)).mono q.size)⟩
  obtain rfl:m=b.length:=by omega
  have y:Hid (zdt (vs b)=0):=zwX _ (by rw[zay];omega) (λk hk=>H k (by rw[zay]at hk;exact hk));clear H;go_wp2_with fail
  go_ret;exact⟨zt y.out.symm,q⟩
def zcL (l:List SV)(au rd:Int)(bl pl:List zi):List SV×SV×Int:=
 if zdt l≠0 then([],(0,0,[]),12)else if zO au rd bl pl≠0 then([],(0,0,[]),zO au rd bl pl)else
  if(za6 l (au,rd,zaE au rd bl pl)).2≠0 then([],(0,0,[]),(za6 l (au,rd,zaE au rd bl pl)).2)else((za6 l (au,rd,zaE au rd bl pl)).1,(au,rd,zaE au rd bl pl),0)
theorem zgR (n:Int)(r:Bool)(w:World)(h:r=decide (0<=n/\n<4)):Calls prog 203 #[I_ n] w λe w'=>e=.returned (.bool r)/\w=w':=by
 by_cases h1:0<=n
 .by_cases h2:n<4;obtain rfl:r=true:=by simp[h,h1,h2]
  rotate_left
  obtain rfl:r=false:=by simp[h,h2]
  rotate_left
  all_goals
   clear h;go_in
   go_wp2
   go_ret;exact⟨rfl,rfl⟩
 obtain rfl:r=false:=by simp[h,h1]
 clear h;go_in
 go_wp2
 go_ret;exact⟨rfl,rfl⟩
theorem zgF (b au rd:Int)(g:Q_)(n d:Nat)(w:World) :
  Calls prog 176 #[.agg #[I_ b,I_ au,I_ rd,.slice g n d]] w λe w'=>e=.returned (I_ (zhD b au rd n))/\B_ w w':=by
 by_cases ha:0<=b/\b<4
 .have c:Hid (zhD b au rd n=zbf au rd n):=by show _=_;rw[zhD,iN_ (by simpa using ha)]
  have f:=(bR_ w.heap.size w).alloc (nR_ _) (.cells #[I_ b,I_ au,I_ rd,.slice g n d] 194);go_in;go_wp2_with (first|(go_at_call 203;refine(zgR _ true _ (by simp[ha])).mono ?_;rintro e w'⟨rfl,rfl⟩)|(go_at_call 113;refine(zgC _ _ _ _ _ _).mono ?_;rintro e w'⟨rfl,j⟩))
  go_ret;exact⟨zt c.out.symm,f.trans (j.mono f.size)⟩
 have c:Hid (zhD b au rd n=2):=by show _=_;rw[zhD,iP_ ha]
 go_in;go_wp2_with (go_at_call 203;refine(zgR _ false _ (by simp[ha])).mono ?_;rintro e w'⟨rfl,rfl⟩)
 go_ret;exact⟨zt c.out.symm,(bR_ _ _).alloc (nR_ _) _⟩
def zmd (f:FuncId)(caps:X_)(P:Sg->Bool)(ls:List Sg)(w:World):Prop:=
 ∀s∈ls,∀W:World,B_ w W->Calls prog f (#[.agg #[I_ s.nd,I_ s.au,I_ s.rd,.slice s.p.sa s.p.bs.length s.p.cap]]++caps) W λe w'=>e=.returned (.bool (P s))/\B_ W w'
theorem zme (f:FuncId)(z:X_)(P:Sg->Bool)(U:∀B w,(callFunc f B).run prog w=.ok (.enter f B) w)(b:List Sg)(A:Q_)(n H:Nat)(w:World)(l:n=b.length)(V:b.length<=2932031007400)(L:zcz w A b)(C:zmd f z P b w) :
  Calls prog 174 #[.slice A n H,.func (.func f) #[] z] w λe w'=>B_ w w'/\∃r:Int,e=.returned (I_ r)/\((b.any P=true/\0<=r)\/(b.any P=false/\r=-1)):=by
 subst l;have G:Hid (zmd f z P b w):=C;clear C;go_in;go_wp2_with fail
 go_loopw [8] (λi wr=>∃m:Nat,m<=b.length/\i=I_ m/\(∀s∈b.take m,P s=false)/\B_ w wr) (λi _=>b.length-(intOf i).toNat)
 case atStart=>exact⟨0,nZ_ _,rfl,(λs c=>by simp at c),bR_ _ _⟩
 case round=>
  obtain⟨m,Y,rfl,o,p⟩:=hrel;by_cases hlt:m<b.length
  .have F:=L.below p;obtain⟨d,g,rfl,E⟩:∃d g,A=some (p_ d g)/\∀j (h:j<b.length),C_ wr d (g+j*4) (I_ (b[j]).nd)/\C_ wr d (g+j*4+1) (I_ (b[j]).au)/\C_ wr d (g+j*4+2) (I_ (b[j]).rd)/\C_ wr d (g+j*4+3) (.slice (b[j]).p.sa (b[j]).p.bs.length (b[j]).p.cap):=by
    rcases F.cells with h|h;rw[h]at hlt;simp at hlt;exact h
   obtain⟨N,O,R,T⟩:=E m hlt;have X:(m:Int)<b.length:=by omega
   have y:Hid (P (b[m])=true->b.any P=true):=by
    show _->_;intro h;exact aT_.2 ⟨_,gM_ hlt,h⟩
   have u:Hid (P (b[m])=false->∀s∈b.take (m+1),P s=false):=by
    show _->_;intro h s c;rw[znC hlt]at c;rcases c with c|rfl;exact o s c;exact h
   have q:=G.out (b[m]) (gM_ hlt) wr p;clear E o F;generalize b[m]=t at*;go_wp2_with fail
   refine q.mono ?_;rintro _ Z⟨rfl,I⟩;dsimp only;have D:=zm p I;cases hP:P t with
   | true=>
    have M:Hid _:=y.out hP;clear y u hP q;go_wp2_with fail
    go_ret;exact⟨D,(m:Int),rfl,.inl ⟨M.out,by omega⟩⟩
   | false=>
    have l:Hid _:=u.out hP;clear y u hP q;go_wp2_with fail
    go_roundw
    case rel=>exact⟨m+1,by omega,by go_num,l.out,D⟩
    case measure=>simp[intOf];omega
  obtain rfl:m=b.length:=by omega
  have l:Hid (b.any P=false):=by
   show _=_;rw[tL_ (nR_ _)]at o;rw[List.any_eq_false];intro s c;rw[o s c];simp
  clear o;go_wp2_with fail
  go_ret;exact⟨p,(-1:Int),rfl,.inr ⟨l.out,rfl⟩⟩
theorem zfa (f:FuncId)(g:X_)(P:Sg->Bool)(u:∀l w,(callFunc f l).run prog w=.ok (.enter f l) w)(b:List Sg)(j:Q_)(n m:Nat)(w:World)(z:n=b.length)(y:b.length<=2932031007400)(A:zcz w j b)(o:zmd f g P b w) :
  Calls prog 136 #[.slice j n m,.func (.func f) #[] g] w λe w'=>e=.returned (.bool (b.any P))/\B_ w w':=by
 subst z;have s:=zme f g P u b j _ m w rfl y A o;clear o;go_in;go_wp2_with fail
 refine s.mono ?_;rintro e B⟨p,r,t,q⟩;subst t;dsimp only;rcases q with⟨c,q⟩|⟨c,rfl⟩
 all_goals
  have d:Hid _:=c;clear c;go_wp2_with fail
  go_ret;exact⟨zN (by rw[d.out]),p⟩
open Go.Maps Go.WideMaps
variable {g:GV}
theorem ziJ {α β:Type}{f:α->Option β}:∀(L:List α),(∀x∈L,∃y,f x=some y)->∃ys,L.mapM f=some ys
 | [],_=>⟨[],rfl⟩
 | x::r,h=>by
  obtain⟨y,b⟩:=h x (by simp)
  obtain⟨ys,c⟩:=ziJ r (λz d=>h z (by simp[d]))
  exact⟨y::ys,by rw[List.mapM_cons,b,c];rfl⟩
theorem zy1:laidOutB prog=true:=by kernel_rfl
theorem zzB:(284:TypeId)<prog.types.size:=of_decide_eq_true (by kernel_rfl)
theorem ztm:prog.cellsOf 284=35:=by kernel_rfl
theorem ztn:prog.cellsOf 282=32:=by kernel_rfl
theorem zok:prog.cellsOf 3=1:=by kernel_rfl
theorem zx2:prog.cellsOf 5=1:=by kernel_rfl
theorem zvj:prog.keyType 284=true:=by kernel_rfl
theorem zy2:(match prog.underlying 284 with|some (.array _ _)|some (.struct _)=>true|_=>false)=true:=by kernel_rfl
theorem zy3:KeyLaw prog 284:=deep_law_laid zy1 (m:=3) (by omega) zzB (by kernel_rfl) zy2
theorem zvk:Keyed prog 284:=Keyed.of_law zy3
def mkv (g:GV):List Value:=.int .i64 g.1::.int .i64 g.2.1::.int .i64 g.2.2.1::ub g.2.2.2
theorem zwZ {h:GV}(e:mkv g=mkv h):g=h:=by
 obtain⟨a,b,c,l⟩:=g;obtain⟨a',b',c',l'⟩:=h;simp only[mkv,List.cons.injEq,Value.int.injEq,true_and]at e;obtain⟨rfl,rfl,rfl,e⟩:=e;have d:∀(x y:L_),ub x=ub y->x=y:=by
  intro x
  induction x with
  | nil=>intro y h;cases y with
   | nil=>rfl
   | cons _ _=>simp[ub]at h
  | cons p x ih=>intro y h;cases y with
   | nil=>simp[ub]at h
   | cons q y=>
    simp only[ub,List.map_cons,List.cons.injEq,Value.int.injEq,true_and]at h;rw[h.1,ih y h.2]
 rw[d _ _ e]
theorem zto (h:gF g=0):(0<=g.1/\g.1<4)/\(0<=g.2.1/\g.2.1<4)/\(1<=g.2.2.1/\g.2.2.1<=1048576)/\g.2.2.2.length=32:=by
 unfold gF zhD at h
 split at h
 cases h
 rename_i b
 unfold zbf at h
 split at h
 cases h
 rename_i c
 split at h
 cases h
 rename_i d
 omega
theorem zk1 (d:Nat)(a:Int)(h:0<=a/\a<=1048576):prog.keyLits (d+1) 3 [.int .i64 a]=some [.int .i64 a]:=by
 have b:(Lit.int .i64 a).wf=true:=WalkArith.wf_i64 (by omega);simp[Program.keyLits,underlying3,b]
theorem zw0 (d:Nat)(a:Int)(h:0<=a/\a<=255):prog.keyLits (d+1) 5 [.int .u8 a]=some [.int .u8 a]:=by
 have b:(Lit.int .u8 a).wf=true:=by rw[Lit.wf,Bool.and_eq_true,dE_,dE_];exact⟨h.1,h.2⟩
 simp[Program.keyLits,underlying5,b]
theorem zvl (d:Nat)(l:L_)(b:l.length=32)(m:zaN l):∃p,prog.keyLits (d+2) 282 (ub l)=some p:=by
 have g:(ub l).length=32:=by simp[ub,b]
 obtain⟨ys,o⟩:=ziJ (f:=λi=>prog.keyLits (d+1) 5 (((ub l).drop (i*prog.cellsOf 5)).take (prog.cellsOf 5))) (List.range 32) (λi j=>by
  have c:i<l.length:=by rw[b];exact List.mem_range.1 j
  refine⟨[.int .u8 (l[i])],?_⟩;have e:((ub l).drop (i*prog.cellsOf 5)).take (prog.cellsOf 5)=[.int .u8 (l[i])]:=by
   rw[zx2,Nat.mul_one,List.drop_eq_getElem_cons (by rw[g,<-b];exact c)];simp[ub]
  show prog.keyLits (d+1) _ _=_;rw[e];exact zw0 d _ (m _ (gM_ c)))
 refine⟨ys.flatten,?_⟩;unfold Program.keyLits;simp only[underlying282];rw[iP_ (by rw[g,ztn]),o]
 rfl
theorem zvm (g:GV)(h:gF g=0)(r:zaN g.2.2.2):∃G,keyOf prog 284 (.agg (mkv g).toArray)=some G:=by
 obtain⟨s,t,u,m⟩:=zto h;obtain⟨a,b,c,l⟩:=g;dsimp only at s t u m r;have p:(ub l).length=32:=by simpa[ub]using m
 have q:(mkv (a,b,c,l)).length=35:=by simp[mkv,p]
 have I:52-49<=prog.types.size+1:=of_decide_eq_true (by kernel_rfl);obtain⟨d,B⟩:∃d,prog.types.size+1=d+3:=⟨prog.types.size+1-3,by omega⟩;have D:(Value.agg (mkv (a,b,c,l)).toArray).formed prog 284=true:=by
  simp[Value.formed,underlying284,ztm,q]
 obtain⟨j,E⟩:∃j,prog.keyLits (d+3) 284 (mkv (a,b,c,l))=some j:=by
  unfold Program.keyLits;simp only[underlying284];rw[iP_ ⟨by rw[q,ztm],by simp⟩];obtain⟨ds,C⟩:=zvl d l m r;have H:∀L:List Field,(∀f∈L,∃y,prog.keyLits (d+2) f.type (((mkv (a,b,c,l)).drop f.offset).take (prog.cellsOf f.type))=some y)->∃j,(L.mapM λf:Field=>prog.keyLits (d+2) f.type (((mkv (a,b,c,l)).drop f.offset).take (prog.cellsOf f.type))).map List.flatten=some j:=by
   intro L z;obtain⟨ys,F⟩:=ziJ L z;rw[F];exact⟨_,rfl⟩
  refine H _ (λf o=>?_)
  simp at o
  rcases o with rfl|rfl|rfl|rfl;exact⟨_,by simpa[zok,mkv]using zk1 (d+1) a (by omega)⟩;exact⟨_,by simpa[zok,mkv]using zk1 (d+1) b (by omega)⟩;exact⟨_,by simpa[zok,mkv]using zk1 (d+1) c (by omega)⟩;refine⟨ds,?_⟩;simp only[ztn,mkv,List.drop_succ_cons,List.drop_zero];rw[tL_ (by rw[p];exact nR_ _)];exact C
 refine⟨.string (keyBytes j),?_⟩;have A:(Value.agg (mkv (a,b,c,l)).toArray).cells.toList=mkv (a,b,c,l):=by simp[Value.cells]
 unfold keyOf;rw[A,B,E,D,zvj];simp[underlying284]
def zlv (K:GV->Lit):Prop:=∀g:GV,gF g=0->zaN g.2.2.2->keyOf prog 284 (.agg (mkv g).toArray)=some (K g)
theorem zpU:∃K:GV->Lit,zlv K:=by
 refine⟨λg=>(keyOf prog 284 (.agg (mkv g).toArray)).getD (.bool true),λg h c=>?_⟩;obtain⟨d,b⟩:=zvm g h c;show _=some ((keyOf prog 284 (.agg (mkv g).toArray)).getD (.bool true));rw[b];rfl
theorem zvn {K:GV->Lit}(d:zlv K){g h:GV}(l:gF g=0)(o:zaN g.2.2.2)(m:gF h=0)(p:zaN h.2.2.2)(e:K g=K h):g=h:=by
 have b:=d g l o;have f:=d h m p;rw[e]at b;have c:=zvk.inj b f;simp only[Value.agg.injEq]at c;have j:(mkv g)=(mkv h):=by simpa using c
 exact zwZ j
theorem zqO:∀(b L:List Lit),(b.foldl addKey L).length<=L.length+b.length
 | [],L=>by simp
 | x::r,L=>by
  have:=zqO r (addKey L x)
  have c:(addKey L x).length<=L.length+1:=by unfold addKey;split<;>simp
  simp only[List.foldl_cons,List.length_cons]
  omega
theorem zol:∀(d L:List Lit),(∀x∈d,WideAt.IsKeyLit x)->((d.foldl addKey L).length=L.length+d.length↔d.Nodup/\∀x∈d,x ∉ L)
 | [],L,_=>by simp
 | x::r,L,hk=>by
  have m:=hk x (by simp)
  simp only[List.foldl_cons,List.length_cons,List.nodup_cons]
  by_cases h:L.any (λy=>y.sameKey x)=true
  .have e:addKey L x=L:=by unfold addKey;rw[iP_ h]
   rw[e]
   have f:=zqO r L
   obtain⟨y,c,l⟩:=aT_.1 h
   have p:=WideAt.sameKey_eq l
   subst p
   constructor
   .intro j;omega
   .intro j;exact absurd c (j.2 y (by simp))
  .have e:addKey L x=L++[x]:=by unfold addKey;rw[iN_ h]
   rw[e,show L.length+(r.length+1)=(L++[x]).length+r.length by simp;omega,zol r (L++[x]) (λy c=>hk y (by simp[c]))]
   have o:x ∉ L:=λb=>h (aT_.2 ⟨x,b,WideAt.sameKey_self m⟩)
   constructor
   .rintro⟨f,g⟩
    refine⟨⟨λb=>g x b (by simp),f⟩,λy c=>?_⟩
    rcases List.mem_cons.1 c with rfl|c
    .exact o
    .exact λb=>g y c (by simp[b])
   .rintro⟨⟨f,g⟩,h3⟩
    refine⟨g,λy c b=>?_⟩
    rcases mA_.1 b with b|b
    .exact h3 y (by simp[c]) b
    .obtain rfl:y=x:=by simpa using b
     exact f c
theorem znD {K:GV->Lit}(d:zlv K){l:List GV}(c:∀g∈l,gF g=0/\zaN g.2.2.2):(l.map K).Nodup↔l.Nodup:=by
 rw[List.nodup_iff_pairwise_ne,List.nodup_iff_pairwise_ne,List.pairwise_map]
 constructor
 intro h;exact h.imp (λ{a b} hne e=>hne (by rw[e]));intro h;exact List.Pairwise.imp_of_mem (λ{a b} ha hb hne e=>hne (zvn d (c a ha).1 (c a ha).2 (c b hb).1 (c b hb).2 e)) h
theorem zru {K:GV->Lit}(c:zlv K){l:List GV}(b:∀g∈l,gF g=0/\zaN g.2.2.2):Maps.size (setOf (H:=Unit) (.agg []) (l.map K))=l.length↔l.Nodup:=by
 have d:∀x∈l.map K,WideAt.IsKeyLit x:=by
  intro x j;obtain⟨g,f,rfl⟩:=mM_.1 j;exact zvk.key (c g (b g f).1 (b g f).2)
 rw[size_setOf _ _ d];have h:=zol (l.map K) [] d;simp only[List.length_nil,zA_,List.length_map,List.not_mem_nil,not_false_eq_true,implies_true,and_true]at h;rw[h,znD c b]
variable {w:World}{ops:Array Oper}{Q:Exit->Act->World->Prop}{a:Act}
theorem zfb {rest:List Oper}{o:Oper}(p:Region.wanted o (yielded ops a.tmps)=true)(ty:TypeId)(x:Operand)(l:o.op=.load ty x)
  (g:Nat) (q:a.eval x=(P_ g 0)) (t:TypeId) (cs:X_) (fr:Nat×Nat) (d:TypeDesc) (f:w.heap[g]? = some (.cells cs t fr))
  (m:prog.underlying ty=some d) (c:(match d with|.struct _|.array _ _=>true|_=>false)=true) (j:(prog.info? ty).map (·.size)=some cs.size)
  (h:wpList prog ops Q rest (a.put o.dst (.agg cs)) w):wpList prog ops Q (o::rest) a w:=by
 refine wpList_step λK b=>?_;rw[iP_ p];exact wp_load_row ty x l g q t cs fr d f m (by cases d<;>first|exact c|rfl) j (b _ _ h)
theorem zL {o:Oper}(ty:TypeId)(x:Operand)(j:o.op=.load ty x)
  (g:Nat) (m:a.eval x=(P_ g 0)) (t:TypeId) (cs:X_) (fr:Nat×Nat) (d:TypeDesc) (c:w.heap[g]? = some (.cells cs t fr))
  (l:prog.underlying ty=some d) (b:(match d with|.struct _|.array _ _=>true|_=>false)=true) (f:(prog.info? ty).map (·.size)=some cs.size) :
  (execOp a.eval o).run prog w=.ok (.value (.agg cs)) w:=by
 unfold execOp;simp only[j,m,Instr.loadAt,Instr.sureAddr,Sem.run_bind,Sem.run_pure,Result.andThen_ok,run_loadVar_row w g t ty cs fr d c l (by cases d<;>first|exact b|rfl) f]
variable {w':World}{n:Nat}
theorem zvo (n:Int)(w:World):(Instr.makeMap 281 (some (I_ n))).run prog w=.ok (.map (some w.heap.size)) (w.alloc (.map #[] 0)):=by
 simp[Instr.makeMap,run_underlying underlying281,Result.andThen]
 rfl
theorem zw1 (p q r:Int)(l:L_):(mkv (p,q,r,l)).length=3+l.length:=by simp[mkv,ub];omega
theorem zw2 (g:GV):∀v∈mkv g,v.oneCell'=true:=by
 intro v b;simp only[mkv,List.mem_cons]at b;rcases b with rfl|rfl|rfl|b
 rfl
 rfl
 rfl
 obtain⟨x,_,rfl⟩:=mM_.1 b
 rfl
theorem zwF:(prog.info? 284).map (·.size)=some 35:=by kernel_rfl
theorem zx3 (p q r:Int)(w:World):(Instr.build 284 #[(0,I_ p),(1,I_ q),(2,I_ r)]).run prog w=.ok (.agg (mkv (p,q,r,List.replicate 32 0)).toArray) w:=by kernel_rfl
theorem zy4 (w:World):∃Z:X_,Z.size=35/\(Instr.alloc 284 true (.tuple #[])).run prog w=.ok (P_ w.heap.size 0) (w.alloc (.cells Z 284)):=⟨(mkv (0,0,0,List.replicate 32 0)).toArray,by simp[mkv,ub],by kernel_rfl⟩
theorem znE {rest:List Oper}{o:Oper}(c:o.guard=none)(x y z:Operand)(d:o.op=.build 284 #[(0,x),(1,y),(2,z)])
  (p q r:Int) (g:a.eval x=I_ p) (j:a.eval y=I_ q) (l:a.eval z=I_ r)
  (h:wpList prog ops Q rest (a.put o.dst (.agg (mkv (p,q,r,List.replicate 32 0)).toArray)) w):wpList prog ops Q (o::rest) a w:=by
 refine wpList_plain c λK b=>?_;have f:=zx3 p q r w;unfold Oper.wp;simp[execOp,d,g,j,l,f,Result.andThen];exact b _ _ h
theorem znF {rest:List Oper}{o:Oper}(d:o.guard=none)(f:o.op=.alloc 284)
  (h:∀w',(∃Z:X_,Z.size=35/\R_ w' w.heap.size Z 284)->B_ w w'->wpList prog ops Q rest (a.put o.dst (P_ w.heap.size 0)) w'):wpList prog ops Q (o::rest) a w:=by
 refine wpList_plain d λK b=>?_;obtain⟨Z,c,g⟩:=zy4 w;unfold Oper.wp;simp[execOp,f,g,Result.andThen];exact b _ _ (h _ ⟨Z,c,hN_ w _⟩ ((bR_ _ _).alloc (nR_ _) _))
theorem znG {rest:List Oper}{o:Oper}(t:o.guard=none)(s:o.dst=none)(x y:Operand)(A:o.op=.store 284 x y)
  (g:Nat) (v:GV) (z:v.2.2.2.length=32) (D:a.eval x=(P_ g 0)) (E:a.eval y=.agg (mkv v).toArray) (F:∃Z:X_,Z.size=35/\R_ w g Z 284)
  (B:Nat) (w0:World) (m:Below B w0 w) (d:B<=g)
  (h:∀w',Hid (R_ w' g ((mkv v).toArray) 284)->Below B w0 w'->wpList prog ops Q rest a w'):wpList prog ops Q (o::rest) a w:=by
 refine wpList_plain t λK f=>?_;obtain⟨Z,j,c⟩:=F;have b:(mkv v).toArray.size=35:=by obtain⟨p,q,r,l⟩:=v;simpa[z]using zw1 p q r l
 refine wp_store_row _ x y A g (mkv v).toArray D E _ Z c (by rw[b];exact zwF) (by rw[j,b]) (by rw[<-Array.all_toList];exact List.all_eq_true.2 (λu C=>zw2 v u (by simpa using C))) ?_;rw[s];exact f _ _ (h _ (show _=_ from sH_ w g _ _ _ _ c) (below_setRow m d _))
theorem zm0 {k:TypeId}{R:Value->Option (DataW Unit×List MemPlace)}{b:Nat}{D:DataW Unit}(h:w.ownsMap prog k R b n D)(j:B_ w w'):w'.ownsMap prog k R b n D:=by
 have l:=h.lt;obtain⟨d,c,f,F,m,g⟩:=h;exact⟨d,c,(j.block b l).trans f,F,m,g⟩
theorem zrv (p q r:Int)(l z:L_)(c:l.length=z.length):splice (mkv (p,q,r,z)) 3 (ub l)=mkv (p,q,r,l):=by
 have b:(ub z).drop (ub l).length=[]:=List.drop_eq_nil_of_le (by simp[ub,c]);simp only[splice,mkv,List.take_succ_cons,List.take_zero,List.cons_append,List.nil_append];rw[show 3+(ub l).length=(ub l).length+1+1+1 by omega,List.drop_succ_cons,List.drop_succ_cons,List.drop_succ_cons,b,List.append_nil]
theorem zjl (b:List Sg)(N:Q_)(n am:Nat)(w:World)(hn:n=b.length)(hl:b.length<=2932031007400)(hp:zcz w N b)(C:∀s∈b,gF s.v=0) :
  Calls prog 202 #[.slice N n am] w λe w'=>e=.returned (.bool (decide (zA b).Nodup))/\B_ w w':=by
 subst hn;obtain⟨K,X⟩:=zpU;have ax:=zvo;have O:Hid (∀s∈b,gF s.v=0):=C;clear C;go_in;go_wp2_with fail
 go_loopw [12] (λi wr=>∃m:Nat,m<=b.length/\i=I_ m/\wr.ownsMap prog 284 (unitElem (H:=Unit)) w.heap.size m (setOf (.agg []) ((zA (b.take m)).map K))/\B_ w wr) (λi _=>b.length-(intOf i).toNat)
 case atStart=>exact⟨0,nZ_ _,rfl,World.ownsMap_made _ _ _ _,(bR_ _ _).alloc (nR_ _) _⟩
 case round=>
  obtain⟨m,hm,rfl,I,B⟩:=hrel;by_cases hlt:m<b.length
  .have L:=hp.below B;obtain⟨r,u,rfl,Y⟩:∃r u,N=some (p_ r u)/\∀j (h:j<b.length),C_ wr r (u+j*4) (I_ (b[j]).nd)/\C_ wr r (u+j*4+1) (I_ (b[j]).au)/\C_ wr r (u+j*4+2) (I_ (b[j]).rd)/\C_ wr r (u+j*4+3) (.slice (b[j]).p.sa (b[j]).p.bs.length (b[j]).p.cap):=by
    rcases L.cells with h|h;rw[h]at hlt;simp at hlt;exact h
   obtain⟨c0,c1,c2,c3⟩:=Y m hlt;have hx:=L.each (b[m]) (gM_ hlt);have ab:Hid (gF (b[m]).v=0):=O.out _ (gM_ hlt);have aw:(m:Int)<b.length:=by omega
   have HS:Hid (setOf (H:=Unit) (.agg []) ((zA (b.take (m+1))).map K)=(setOf (.agg []) ((zA (b.take m)).map K)).put (K (b[m]).v) (.agg [])):=by
    show _=_;rw[<-setOf_snoc,tS_ hlt];simp only[zA,List.map_append,List.map_cons,List.map_nil]
   clear Y L;generalize b[m]=t at*;go_upto_region 5 with fail
   refine kO_ ?A0 ?_;exact Obj.cells #[I_ t.nd,I_ t.au,I_ t.rd,.slice t.p.sa t.p.bs.length t.p.cap] 194;have F:=B.alloc B.size ?A0;have T:=(bR_ wr.heap.size wr).alloc (nR_ _) ?A0;have q:=hN_ wr ?A0;have M:(wr.alloc ?A0).heap.size=wr.heap.size+1:=by simp
   have J:=I.alloc ?A0;generalize wr.alloc ?A0=d at F T q M J|-;have d0:=zb q 0 _ rfl;have d1:=zb q 1 _ rfl;have d2:=zb q 2 _ rfl;have d3:=zb q 3 _ rfl;go_upto_region 6 with(first
    | (refine znE rfl _ _ _ rfl _ _ _ rfl rfl rfl ?_)
    | (refine znF rfl rfl ?_;intro w2 ao an)
    | (refine znG rfl rfl _ _ rfl d.heap.size (t.nd,t.au,t.rd,List.replicate 32 0) rfl rfl rfl ao d.heap.size d an (nR_ _) ?_;intro D ah A))
   go_frame
   have ad:D.heap[wr.heap.size]? = _:=(A.block wr.heap.size (by omega)).trans q;have Z:Hid (zg D t.p.sa t.p.cap t.p.bs):=(hx.1.below T).below A;have e3:=zb ad 3 _ rfl;have aa:=zto ab.out;have c:t.p.bs.length=32:=aa.2.2.2;have af:(ub t.p.bs).length=32:=by simp[ub,c]
   have ay:=zm0 J A;obtain⟨o,p,ac,ae⟩:∃o p,t.p.sa=some (p_ o p)/\∀j v,(ub t.p.bs)[j]? = some v->D.cell? ((p_ o p:Addr).add j)=some v:=by
    rcases Z.out.bytes with f|⟨o,p,f,E⟩;rw[f]at c;simp at c;refine⟨o,p,f,λj v l=>?_⟩;have y:j<t.p.bs.length:=by
     rcases lG_ j t.p.bs.length with g|g;exact g;rw[List.getElem?_eq_none (by simpa[ub]using g)]at l;cases l
    rw[zaP,E j y];simp only[ub,List.getElem?_map,List.getElem?_eq_getElem y,Option.map_some]at l;simp[y,l]
   rw[ac,c]at e3;have ak:Hid (splice (mkv (t.nd,t.au,t.rd,List.replicate 32 0)) 3 (ub t.p.bs)=mkv (t.nd,t.au,t.rd,t.p.bs)):=zrv _ _ _ _ _ (by rw[c];simp);have al:Hid (∀j v,(ub t.p.bs)[j]? = some v->D.cell? ((p_ o p:Addr).add j)=some v):=ae;have ag:Hid (t.p.bs.length=32):=c;have R:Hid ((ub t.p.bs).length=32):=af;clear ae c af ac ad Z aa;go_region_law (refine step_copy_splice rfl _ _ _ _ rfl 5 underlying61 (by kernel_rfl) _ _ _ _ _ _ rfl rfl d.heap.size 3 (mkv (t.nd,t.au,t.rd,List.replicate 32 0)) 284 ah.out (ub t.p.bs) (by rw[R.out];rfl) (λ_=>⟨by rw[M],_,rfl,al.out⟩) (by rw[R.out];simp[mkv,ub]) (by intro v l;obtain⟨x,_,rfl⟩:=mM_.1 l;rfl) d.heap.size d A.drew (nR_ _) ?_;intro w4 ai U)
   have aj:Hid (R_ w4 (wr.heap.size+1) ((mkv t.v).toArray) 284):=by
    show _=_;rw[<-M,ai.out,ak.out]
    rfl
   have ar:=zm0 J U;have aq:=X _ ab.out hx.2;have V:=F.trans (U.mono F.size);have av:(prog.info? 284).map (·.size)=some (mkv t.v).toArray.size:=by
    rw[zwF];simp[mkv,ub,ag.out,Sg.v]
   go_wp2_with (first
    | (refine zfb rfl _ _ rfl (wr.heap.size+1) rfl 284 (mkv t.v).toArray (0,0) _ aj.out underlying284 rfl av ?_)
    | (at_mapUpdate;refine wpList_mapUpdate_own _ rfl _ _ _ 281 rfl 284 285 zvk underlying281 (unitElem (H:=Unit)) w.heap.size m _ rfl ar (by unfold maxLen;omega) _ _ _ rfl rfl aq _ [] unitElem_mk ?_;intro w5 au ap))
   go_roundw
   case rel=>exact⟨m+1,by omega,by go_num,by rw[HS.out];exact au,V.grown ap V.size (λj y=>by cases y;exact nR_ _)⟩
   case measure=>simp[intOf];omega
  obtain rfl:m=b.length:=by omega
  have G:Hid ((Maps.size (setOf (H:=Unit) (.agg []) ((zA b).map K))=b.length↔(zA b).Nodup)):=by
   show _↔_;rw[<-zfM b];refine zru X (λg C=>?_);obtain⟨s,hs,rfl⟩:=mM_.1 C;exact⟨O.out s hs,(hp.each s hs).2⟩
  rw[List.take_length]at I;generalize hz:Maps.size (setOf (H:=Unit) (.agg []) ((zA b).map K))=z at G;have HZ:Hid (Maps.size (setOf (H:=Unit) (.agg []) ((zA b).map K))=z):=hz;clear hz;go_wp2_with (first
   | (at_len;refine wpList_len_own _ rfl _ 281 rfl 284 285 underlying281 (unitElem (H:=Unit)) w.heap.size b.length _ rfl I ?_;rw[HZ.out]))
  go_ret;refine⟨zN ?_,B⟩;by_cases hN:(zA b).Nodup;have f:=G.out.2 hN;simp[f,hN];have f:¬z=b.length:=λE=>hN (G.out.1 E);have h7:¬(z:Int)=b.length:=by omega
  simp[h7,hN]
theorem ztp (s:Sg)(w:World):Calls prog 201 #[.agg #[I_ s.nd,I_ s.au,I_ s.rd,.slice s.p.sa s.p.bs.length s.p.cap]] w λe w'=>e=.returned (.bool (decide (gF s.v≠0)))/\B_ w w':=by
 refine kA_ ?A0 ?_;exact #[I_ s.nd,I_ s.au,I_ s.rd,.slice s.p.sa s.p.bs.length s.p.cap];have c:=(bR_ w.heap.size w).alloc (nR_ _) (.cells ?A0 194);have b:∀W:World,Calls prog 176 #[.agg ?A0] W λe w'=>e=.returned (I_ (gF s.v))/\B_ W w':=λW=>zgF _ _ _ _ _ _ W;generalize d:gF s.v=x at b;have g:Hid (gF s.v=x):=d;clear d;go_in;go_wp2_with (go_at_call 176;refine(b _).mono ?_;rintro e w'⟨rfl,f⟩)
 go_ret;refine⟨zN ?_,c.trans (f.mono c.size)⟩;by_cases h:x=0<;>simp[h]
theorem zm1 (c:List Sg):(c.any λs=>decide (gF s.v≠0))=true↔¬∀g∈zA c,gF g=0:=by
 rw[aT_]
 constructor
 rintro⟨s,b,h⟩k;exact(by simpa using h:gF s.v≠0) (k s.v (mM_.2 ⟨s,b,rfl⟩));intro h;rw[<-aT_ (p:=λs:Sg=>decide (gF s.v≠0))];cases hh:(c.any λs=>decide (gF s.v≠0))with
 | true=>rfl
 | false=>
  rw[List.any_eq_false]at hh;refine absurd (λg d=>?_) h;obtain⟨s,b,rfl⟩:=mM_.1 d
  simpa using hh s b
theorem zjm (b:List Sg)(f:Q_)(n j:Nat)(w:World)(B:n=b.length)(y:b.length<=2932031007400)(z:zcz w f b) :
  Calls prog 175 #[.slice f n j] w λe w'=>e=.returned (I_ (zbF (zA b)))/\B_ w w':=by
 subst B;have l:=zfa 201 #[] (λs=>decide (gF s.v≠0)) (eO_ func201) b f _ j w rfl y z (λs _ W _=>ztp s W);by_cases hb:∀g∈zA b,gF g=0
 .have u:(b.any λs=>decide (gF s.v≠0))=false:=by
   cases h:(b.any λs=>decide (gF s.v≠0))with
   | false=>rfl
   | true=>exact absurd hb ((zm1 b).1 h)
  rw[u]at l;by_cases hd:(zA b).Nodup;have m:Hid (zbF (zA b)=0):=ztl ⟨hb,hd⟩
  rotate_left
  have m:Hid (zbF (zA b)=12):=zoj hd
  rotate_left
  all_goals have o:∀s∈b,gF s.v=0:=λs A=>hb s.v (mM_.2 ⟨s,A,rfl⟩)
  have q:∀W:World,B_ w W->Calls prog 202 #[.slice f b.length j] W λe w'=>e=.returned (.bool true)/\B_ W w':=λW r=>by
   have:=zjl b f _ j W rfl y (z.below r) o;rw[dT_ hd]at this;exact this
  rotate_left
  have q:∀W:World,B_ w W->Calls prog 202 #[.slice f b.length j] W λe w'=>e=.returned (.bool false)/\B_ W w':=λW r=>by
   have:=zjl b f _ j W rfl y (z.below r) o;rw[dF_ hd]at this;exact this
  rotate_left
  all_goals
   clear u hb hd o;go_in;go_wp2_with fail
   refine l.mono ?_;rintro _ p⟨rfl,c⟩;dsimp only;go_wp2_with fail
   refine(q p c).mono ?_;rintro _ w2⟨rfl,t⟩;dsimp only;go_wp2_with fail
   go_ret;exact⟨zt m.out.symm,c.trans (t.mono c.size)⟩
 have m:Hid (zbF (zA b)=12):=by
  show _=_;rw[zbF,iN_ (λh=>hb h.1)]
 rw[(zm1 b).2 hb]at l;clear hb;go_in;go_wp2_with fail
 refine l.mono ?_;rintro _ p⟨rfl,c⟩;dsimp only;go_wp2_with fail
 go_ret;exact⟨zt m.out.symm,c⟩
theorem zw3 {b ys:L_}(c:zaN b)(d:zaN ys):txL b=txL ys↔b=ys:=by
 constructor
 intro h;exact ziD c d (zhf h);intro h;rw[h]
theorem zrw (s t:Sg)(g:Nat)(w:World)(l:zg w s.p.sa s.p.cap s.p.bs/\zaN s.p.bs)(m:zg w t.p.sa t.p.cap t.p.bs/\zaN t.p.bs)(q:R_ w g #[I_ t.nd,I_ t.au,I_ t.rd,.slice t.p.sa t.p.bs.length t.p.cap] 194) :
  Calls prog 204 #[.agg #[I_ s.nd,I_ s.au,I_ s.rd,.slice s.p.sa s.p.bs.length s.p.cap],(P_ g 0)] w λe w'=>e=.returned (.bool (decide (s.v=t.v)))/\B_ w w':=by
 refine kA_ ?A0 ?_;exact #[I_ s.nd,I_ s.au,I_ s.rd,.slice s.p.sa s.p.bs.length s.p.cap];have d:=(bR_ w.heap.size w).alloc (nR_ _) (.cells ?A0 194);have D:=hN_ w (.cells ?A0 194);have j:=zR (o:=.cells ?A0 194) q;have b:Hid (s.v=t.v↔s.nd=t.nd/\s.au=t.au/\s.rd=t.rd/\txL s.p.bs=txL t.p.bs):=by
  show _↔_;rw[zw3 l.2 m.2];simp[Sg.v]
 have f:=zeI s.p.bs t.p.bs s.p.sa t.p.sa _ _ s.p.cap t.p.cap _ rfl rfl (l.1.below d) (m.1.below d);have u:=zb j 0 _ rfl;have z:=zb j 1 _ rfl;have A:=zb j 2 _ rfl;have B:=zb j 3 _ rfl;by_cases h1:s.nd=t.nd
 .by_cases h2:s.au=t.au
  .by_cases h3:s.rd=t.rd;have c:Hid (decide (s.v=t.v)=decide (txL s.p.bs=txL t.p.bs)):=by
    show _=_;simp[b.out,h1,h2,h3]
   generalize decide (txL s.p.bs=txL t.p.bs)=y at f c
   rotate_left
   have c:Hid (decide (s.v=t.v)=false):=by
    show _=_;simp[b.out,h3]
   rotate_left
   all_goals
    have p:(s.nd == t.nd)=true:=by simp[h1]
    have r:(s.au == t.au)=true:=by simp[h2]
   .have C:(s.rd == t.rd)=true:=by simp[h3]
    clear b h1 h2 h3;go_in;go_wp2_with (go_at_call 143;refine f.mono ?_;rintro e E⟨rfl,rfl⟩)
    go_ret;exact⟨zN c.out.symm,d⟩
   clear b f h1 h2;go_in;go_wp2_with fail
   go_ret;exact⟨zN c.out.symm,d⟩
  have c:Hid (decide (s.v=t.v)=false):=by
   show _=_;simp[b.out,h2]
  have p:(s.nd == t.nd)=true:=by simp[h1]
  clear b f h1;go_in;go_wp2_with fail
  go_ret;exact⟨zN c.out.symm,d⟩
 have c:Hid (decide (s.v=t.v)=false):=by
  show _=_;simp[b.out,h1]
 clear b f;go_in;go_wp2_with fail
 go_ret;exact⟨zN c.out.symm,d⟩
theorem zvp (c:List Sg)(t:Sg):(c.any λs=>decide (s.v=t.v))=decide (t.v∈zA c):=by
 rw[Bool.eq_iff_iff,aT_,dE_,zA,mM_]
 constructor
 all_goals rintro⟨s,b,h⟩;exact⟨s,b,by simpa using h⟩
theorem zmf (b:List Sg)(l:Q_)(n c:Nat)(t:Sg)(w:World)(C:n=b.length)(B:b.length<=2932031007400)(D:zcz w l b)(p:zg w t.p.sa t.p.cap t.p.bs/\zaN t.p.bs) :
  Calls prog 178 #[.slice l n c,.agg #[I_ t.nd,I_ t.au,I_ t.rd,.slice t.p.sa t.p.bs.length t.p.cap]] w λe w'=>e=.returned (.bool (decide (t.v∈zA b)))/\B_ w w':=by
 subst C;have E:∀(fn:Fn) (first c:X_) (w:World),(Instr.makeFunc fn first c).run prog w=.ok (.func fn first c) w:=λ_ _ _ _=>rfl;refine kO_ ?A0 ?_;exact Obj.cells #[I_ t.nd,I_ t.au,I_ t.rd,.slice t.p.sa t.p.bs.length t.p.cap] 194;have d:=(bR_ w.heap.size w).alloc (nR_ _) ?A0;have q:=hN_ w ?A0;go_in;go_wp2_with fail
 generalize w.alloc ?A0=y at d q|-;have j:=D.below d;have f:=zfa 204 #[P_ w.heap.size 0] (λs=>decide (s.v=t.v)) (eO_ func204) b l _ c y rfl B j (λs o W g=>zrw s t _ W ⟨(j.each s o).1.below g,(j.each s o).2⟩ ⟨(p.1.below d).below g,p.2⟩ (zk g q));rw[zvp]at f;generalize m:decide (t.v∈zA b)=r at f;have u:Hid (decide (t.v∈zA b)=r):=m;clear m;refine f.mono ?_;rintro _ F⟨rfl,z⟩;dsimp only;go_wp2_with fail
 go_ret;exact⟨zN u.out.symm,d.trans (z.mono d.size)⟩
def zcM (l:List GV)(bad:Int):Int:=if zbF l≠0 then 12 else if ¬(-1<=bad/\bad<=3)then 2 else 0
def zce (l:List GV)(bad:Int)(g:GV):Bool×Int:=if zcM l bad≠0 then(false,zcM l bad)else if gF g≠0 then(false,gF g)else(decide (g.1=bad)||decide (g∈l),0)
def zec (l:List GV)(g:GV):List GV×Int:=if zbF l≠0 then([],12)else if gF g≠0 then([],gF g)else if g∈l then(l,0)else(l++[g],0)
theorem zvq {l:List GV}{b:Int}(h:zbF l=12):zcM l b=12:=by simp[zcM,h]
theorem zrx {l:List GV}{b:Int}(h:zbF l=0)(c:¬(-1<=b/\b<=3)):zcM l b=2:=by rw[zcM,iN_ (by simpa using h),iP_ c]
theorem zw4 {l:List GV}{b:Int}(h:zbF l=0)(c:-1<=b/\b<=3):zcM l b=0:=by rw[zcM,iN_ (by simpa using h),iN_ (by simpa using c)]
theorem zpV {l:List GV}{b:Int}(h:zcM l b≠0):zce l b g=(false,zcM l b):=by rw[zce,iP_ h]
theorem zom {l:List GV}{b:Int}(h:zcM l b=0)(c:gF g≠0):zce l b g=(false,gF g):=by rw[zce,iN_ (by simpa using h),iP_ c]
theorem zlw {l:List GV}{b:Int}(h:zcM l b=0)(c:gF g=0):zce l b g=(decide (g.1=b)||decide (g∈l),0):=by rw[zce,iN_ (by simpa using h),iN_ (by simpa using c)]
theorem zvr {l:List GV}(h:zbF l=12):zec l g=([],12):=by rw[zec,iP_ (by rw[h];decide)]
theorem ztq {l:List GV}(h:zbF l=0)(b:gF g≠0):zec l g=([],gF g):=by rw[zec,iN_ (by simpa using h),iP_ b]
theorem zvs {l:List GV}(h:zbF l=0)(b:gF g=0)(c:g∈l):zec l g=(l,0):=by rw[zec,iN_ (by simpa using h),iN_ (by simpa using b),iP_ c]
theorem zvt {l:List GV}(h:zbF l=0)(b:gF g=0)(c:¬g∈l):zec l g=(l++[g],0):=by rw[zec,iN_ (by simpa using h),iN_ (by simpa using b),iN_ c]
theorem zBw {l:List GV}(h:zbF l=0)(o:gF g=0)(p:¬g∈l):zbF (l++[g])=0:=by
 obtain⟨f,j⟩:=zpT h;refine ztl ⟨?_,?_⟩;intro x c;rcases mA_.1 c with c|c;exact f x c;rw[mS_]at c;subst c;exact o;rw[List.nodup_append];refine⟨j,by simp,?_⟩;intro a m b d e;rw[mS_]at d;subst d e;exact p m
theorem zkF (c:List Sg)(l:Q_)(n o:Nat)(b:Int)(w:World)(r:n=c.length)(q:c.length<=2932031007400)(s:zcz w l c) :
  Calls prog 182 #[.slice l n o,I_ b] w λe w'=>e=.returned (I_ (zcM (zA c) b))/\B_ w w':=by
 subst r;have g:=zjm c l _ o w rfl q s;rcases zmZ (zA c)with h0|h0
 .rw[h0]at g;by_cases hb:-1<=b/\b<=3
  .have j:Hid (zcM (zA c) b=0):=zw4 h0 hb;by_cases h1:b=-1;subst h1
   all_goals
    clear h0;go_in;go_wp2_with fail
    refine g.mono ?_;rintro _ m⟨rfl,d⟩;dsimp only
   .go_wp2_with fail
    go_ret;exact⟨zt j.out.symm,d⟩
   have p:(b != -1)=true:=by simpa using h1
   go_wp2_with (go_at_call 203;refine(zgR _ true _ (by rw[dT_ (by omega)])).mono ?_;rintro e w'⟨rfl,rfl⟩)
   go_ret;exact⟨zt j.out.symm,d⟩
  have j:Hid (zcM (zA c) b=2):=zrx h0 hb;clear h0;go_in;go_wp2_with fail
  refine g.mono ?_;rintro _ m⟨rfl,d⟩;dsimp only;have p:(b != -1)=true:=by simp;omega
  go_wp2_with (go_at_call 203;refine(zgR _ false _ (by rw[dF_ (by omega)])).mono ?_;rintro e w'⟨rfl,rfl⟩)
  go_ret;exact⟨zt j.out.symm,d⟩
 have j:Hid (zcM (zA c) b=12):=zvq h0;rw[h0]at g;clear h0;go_in;go_wp2_with fail
 refine g.mono ?_;rintro _ m⟨rfl,d⟩;dsimp only;go_wp2_with fail
 go_ret;exact⟨zt j.out.symm,d⟩
theorem zgG (au rd:Int)(o:Q_)(p:Nat)(bl:List zi)(r:Q_)(s:Nat)(pl:List zi)(m:Q_)(C:Nat)(vl:L_)(w:World)(L:zx w o p bl)(N:zx w r s pl)(O:zax w m vl)(aa:vl.length<=9000000000000000000) :
  Calls prog 114 #[.agg #[I_ au,I_ rd,.slice o bl.length p,.slice r pl.length s,.slice m vl.length C]] w λe w'=>e=.returned (I_ (zap au rd bl pl vl))/\B_ w w':=by
 have D:=zC w (.cells #[I_ au,I_ rd,.slice o bl.length p,.slice r pl.length s,.slice m vl.length C] 88);go_in;go_wp2_with fail
 refine(zeB au rd o p bl r s pl _ (L.below D) (N.below D)).mono ?_;rintro _ T⟨rfl,c⟩;dsimp only;have R:=zbK c;replace c:=zS c;have U:=zb R 4 (.slice m vl.length C) rfl;by_cases h1:zO au rd bl pl=0
 .rw[h1];by_cases h2:4<vl.length
  .have b:Hid (zap au rd bl pl vl=1):=by show _=_;rw[zap,iN_ (by simp[h1]),iP_ h2]
   have I:(4:Int)<vl.length:=by omega
   go_wp2_with fail
   go_ret;exact⟨zt b.out.symm,c⟩
  have b:Hid (zap au rd bl pl vl=zep vl):=by show _=_;rw[zap,iN_ (by simp[h1]),iN_ h2]
  have I:¬(4:Int)<vl.length:=by omega
  clear h1;go_wp2_with fail
  go_loop [19] (λi=>∃k:Nat,k<=vl.length/\i=I_ k/\vTo vl k=0) (λi=>vl.length-(intOf i).toNat)
  case atStart=>exact⟨0,nZ_ _,rfl,rfl⟩
  case round=>
   obtain⟨k,X,rfl,l⟩:=hrel;by_cases hlt:k<vl.length
   .obtain⟨A,B,rfl,q⟩:∃A B,m=some (p_ A B)/\∀j,j<vl.length->C_ T A (B+j) (I_ (vl.getD j 0)):=by
     rcases(O.below c).cells with h|h;rw[h]at hlt;simp at hlt;exact h
    have E:=q k hlt;have Z:(k:Int)<vl.length:=by omega
    have f:Hid (vAt vl k≠0->zep vl=vAt vl k):=by
     show _->_;intro h;rw[zep,zxW vl k hlt l h,iP_ h]
    have g:Hid (vAt vl k=0->vTo vl (k+1)=0):=by
     show _->_;intro h;rw[vTo,l,h];rfl
    have d:Hid (vAt vl k=if ¬(0<=vl.getD k 0/\vl.getD k 0<4)then 2 else if 0<k/\vl.getD k 0<=vl.getD (k-1) 0 then 9 else 0):=rfl;by_cases hkz:k=0
    .subst hkz;clear q;rw[Nat.add_zero]at E;generalize vl.getD 0 0=x at*;by_cases hn:0<=x/\x<4;have u:=g.out (by rw[d.out,iN_ (by simp[hn]),iN_ (by omega)]);clear f g d
     rotate_left
     have t:Hid (zap au rd bl pl vl=2):=by
      show _=_;have:vAt vl 0=2:=by rw[d.out,iP_ hn]
      rw[b.out,f.out (by rw[this];decide),this]
     clear f g d b
     rotate_left
     all_goals go_wp2_with (go_at_call 63;first|(refine(zaS _ _ (by omega)).mono ?_;rintro e w'⟨rfl,rfl⟩)|(refine(zaD _ _ (by omega)).mono ?_;rintro e w'⟨rfl,rfl⟩))
     .go_round
      case rel=>exact⟨0+1,by omega,by go_num,u⟩
      case measure=>simp[intOf];omega
     go_ret;exact⟨zt t.out.symm,c⟩
    have V:=q (k-1) (by omega);have Y:(0:Int)<k:=by omega
    have t0:((k:Int)-1).toNat=k-1:=by omega
    have ab:IntKind.i64.wrap ((k:Int)-1)=(k:Int)-1:=by rw[IntKind.wrap_i64];omega
    have z0:(0:Int)<=(k:Int)-1:=by omega
    have z1:(k:Int)-1<vl.length:=by omega
    clear q;generalize vl.getD k 0=x at*;generalize vl.getD (k-1) 0=y at*;by_cases hn:0<=x/\x<4
    .by_cases hxy:x<=y;have H:Hid (zap au rd bl pl vl=9):=by
      show _=_;have:vAt vl k=9:=by rw[d.out,iN_ (by simp[hn]),iP_ (by omega)]
      rw[b.out,f.out (by rw[this];decide),this]
     clear f g d b
     rotate_left
     have u:=g.out (by rw[d.out,iN_ (by simp[hn]),iN_ (by omega)]);clear f g d
     rotate_left
     all_goals go_wp2_with (go_at_call 63;first|(refine(zaS _ _ (by omega)).mono ?_;rintro e w'⟨rfl,rfl⟩)|(refine(zaD _ _ (by omega)).mono ?_;rintro e w'⟨rfl,rfl⟩))
     .go_ret;exact⟨zt H.out.symm,c⟩
     go_round
     case rel=>exact⟨k+1,by omega,by go_num,u⟩
     case measure=>simp[intOf];omega
    have t:Hid (zap au rd bl pl vl=2):=by
     show _=_;have:vAt vl k=2:=by rw[d.out,iP_ hn]
     rw[b.out,f.out (by rw[this];decide),this]
    clear f g d b;go_wp2_with (go_at_call 63;first|(refine(zaS _ _ (by omega)).mono ?_;rintro e w'⟨rfl,rfl⟩)|(refine(zaD _ _ (by omega)).mono ?_;rintro e w'⟨rfl,rfl⟩))
    go_ret;exact⟨zt t.out.symm,c⟩
   obtain rfl:k=vl.length:=by omega
   by_cases h3:vl.length<3
   .have G:Hid (zap au rd bl pl vl=10):=by show _=_;rw[b.out,zep,iN_ (by simp[l]),iP_ h3]
    have J:(vl.length:Int)<3:=by omega
    clear b l;go_wp2_with fail
    go_ret;exact⟨zt G.out.symm,c⟩
   have F:Hid (zap au rd bl pl vl=0):=by show _=_;rw[b.out,zep,iN_ (by simp[l]),iN_ h3]
   have J:¬(vl.length:Int)<3:=by omega
   clear b l;go_wp2_with fail
   go_ret;exact⟨zt F.out.symm,c⟩
 have b:Hid (zap au rd bl pl vl=zO au rd bl pl):=by show _=_;rw[zap,iP_ h1]
 generalize zO au rd bl pl=z at*;go_wp2_with fail
 go_ret;exact⟨zt b.out.symm,c⟩
variable {B rc:Nat}{bs:L_}{ra:Q_}
theorem ze1 (h:zg w ra rc bs)(g:∀c d,ra=some (p_ c d)->B<=c)(b j:Nat)(v:Value)(m:b<B):zg (w.setCell (p_ b j) v) ra rc bs:=by
 refine⟨h.le,h.max,h.some,h.nil,?_⟩;rcases h.bytes with f|⟨c,d,e,f⟩;exact .inl f;exact .inr ⟨c,d,e,λk l=>(World.cell?_setCell_far _ _ _ _ (by have:=g c d e;show b≠c;omega)).trans (f k l)⟩
theorem zry (au rd:Int)(c:Q_)(d:Nat)(bl:List zi)(f:Q_)(g:Nat)(pl:List zi)(w:World)(h:HAt w c d bl f g pl)(y:zO au rd bl pl=0)(G:za2 w) :
  Calls prog 186 #[.agg #[I_ au,I_ rd,.slice c bl.length d,.slice f pl.length g]] w λe w'=>∃b,e=.returned (.tuple #[.agg #[I_ au,I_ rd,.slice (some (p_ b 0)) 32 32],I_ 0])/\w.heap.size<=b/\b<w'.heap.size/\zg w' (some (p_ b 0)) 32 (zaE au rd bl pl)/\B_ w w':=by
 refine kO_ ?A0 ?_;exact Obj.cells #[I_ au,I_ rd,.slice c bl.length d,.slice f pl.length g] 60;refine kO_ ?B0 ?_;exact Obj.cells #[I_ 0,I_ 0,O_] 63;have l:B_ w ((w.alloc ?A0).alloc ?B0):=((bR_ _ _).alloc (nR_ _) _).alloc (by simp) _;have B:=hX_ w ?A0 ?B0;have s:((w.alloc ?A0).alloc ?B0).heap[w.heap.size+1]? = some (.cells #[I_ 0,I_ 0,O_] 63 (0,0)):=by
  have:=hN_ (w.alloc ?A0) ?B0;rw[zG]at this;exact this
 go_in;go_wp2_with fail
 generalize (w.alloc ?A0).alloc ?B0=u at l B s|-;refine(zea (h.below l) y (G.below l)).mono ?_;rintro e J⟨b,rfl,z,o,A⟩;have q:=ze s;have C:=zk o B;have j:=zk o s;have L:=zb C 0 (I_ au) rfl;have M:=zb C 1 (I_ rd) rfl;have D:=zb j 0 _ rfl;have E:=zb j 1 _ rfl;have F:=zb j 2 _ rfl;have N:=zd j 0;have O:=zd j 1;have R:=zd j 2;have H:=zm l o;have I:b<J.heap.size:=by
  rcases A.bytes with p|⟨m,t,e,p⟩;have:=zbD au rd bl pl;rw[p]at this;simp at this;cases e;exact bL_ (p 0 (by rw[zbD];decide))
 clear y;go_wp2_with fail
 refine bodyPost_ret (v:=.tuple #[.agg #[I_ au,I_ rd,.slice (some (p_ b 0)) 32 32],I_ 0]) (by simp[results,results186,go_sem,D,E,F]) rfl ⟨b,rfl,nT_ l.size z,by simpa using I,?_,?_⟩;have r:∀m t,(some (p_ b 0):Q_)=some (p_ m t)->u.heap.size<=m:=λm t e=>by cases e;exact z
 exact ze1 (ze1 (ze1 A r _ _ _ q) r _ _ _ q) r _ _ _ q;exact((H.setCell (lS_ _) _).setCell (lS_ _) _).setCell (lS_ _) _
variable {k:Nat}
def zk2 (f:FuncId)(caps:X_)(P:Int->Bool)(vl:L_)(w:World):Prop:=
 ∀x∈vl,∀W:World,B_ w W->Calls prog f (#[I_ x]++caps) W λe w'=>e=.returned (.bool (P x))/\B_ W w'
theorem zjN {α:Type}{l:List α}{x:α}(b:k<l.length):x∈l.take (k+1)↔x∈l.take k\/x=l[k]:=by
 rw[tS_ b,mA_,mS_]
theorem zmg (f:FuncId)(q:X_)(P:Int->Bool)(O:∀A w,(callFunc f A).run prog w=.ok (.enter f A) w)(vl:L_)(z:Q_)(n I:Nat)(w:World)(c:n=vl.length)(R:vl.length<=9000000000000000000)(M:zax w z vl)(B:zk2 f q P vl w) :
  Calls prog 171 #[.slice z n I,.func (.func f) #[] q] w λe w'=>B_ w w'/\∃r:Int,e=.returned (I_ r)/\((vl.any P=true/\0<=r)\/(vl.any P=false/\r=-1)):=by
 subst c;have G:Hid (zk2 f q P vl w):=B;clear B;go_in;go_wp2_with fail
 go_loopw [8] (λi wr=>∃m:Nat,m<=vl.length/\i=I_ m/\(∀s∈vl.take m,P s=false)/\B_ w wr) (λi _=>vl.length-(intOf i).toNat)
 case atStart=>exact⟨0,nZ_ _,rfl,(λs b=>by simp at b),bR_ _ _⟩
 case round=>
  obtain⟨m,U,rfl,d,g⟩:=hrel;by_cases hlt:m<vl.length
  .have F:=M.below g;obtain⟨u,y,rfl,D⟩:∃u y,z=some (p_ u y)/\∀j,j<vl.length->C_ wr u (y+j) (I_ (vl.getD j 0)):=by
    rcases F.cells with h|h;rw[h]at hlt;simp at hlt;exact h
   have H:=D m hlt;have E:vl.getD m 0=vl[m]:=by simp[List.getD,hlt]
   rw[E]at H;have T:(m:Int)<vl.length:=by omega
   have p:Hid (P (vl[m])=true->vl.any P=true):=by
    show _->_;intro h;exact aT_.2 ⟨_,gM_ hlt,h⟩
   have o:Hid (P (vl[m])=false->∀s∈vl.take (m+1),P s=false):=by
    show _->_;intro h s b;rw[zjN hlt]at b;rcases b with b|rfl;exact d s b;exact h
   have l:=G.out (vl[m]) (gM_ hlt) wr g;clear D d F E;generalize vl[m]=t at*;go_wp2_with fail
   refine l.mono ?_;rintro _ V⟨rfl,J⟩;dsimp only;have C:=zm g J;cases hP:P t with
   | true=>
    have N:Hid _:=p.out hP;clear p o hP l;go_wp2_with fail
    go_ret;exact⟨C,(m:Int),rfl,.inl ⟨N.out,by omega⟩⟩
   | false=>
    have c:Hid _:=o.out hP;clear p o hP l;go_wp2_with fail
    go_roundw
    case rel=>exact⟨m+1,by omega,by go_num,c.out,C⟩
    case measure=>simp[intOf];omega
  obtain rfl:m=vl.length:=by omega
  have c:Hid (vl.any P=false):=by
   show _=_;rw[tL_ (nR_ _)]at d;rw[List.any_eq_false];intro s b;rw[d s b];simp
  clear d;go_wp2_with fail
  go_ret;exact⟨g,(-1:Int),rfl,.inr ⟨c.out,rfl⟩⟩
theorem zgN (f:FuncId)(d:X_)(P:Int->Bool)(t:∀j w,(callFunc f j).run prog w=.ok (.enter f j) w)(vl:L_)(g:Q_)(n l:Nat)(w:World)(y:n=vl.length)(u:vl.length<=9000000000000000000)(z:zax w g vl)(m:zk2 f d P vl w) :
  Calls prog 132 #[.slice g n l,.func (.func f) #[] d] w λe w'=>e=.returned (.bool (vl.any P))/\B_ w w':=by
 subst y;have q:=zmg f d P t vl g _ l w rfl u z m;clear m;go_in;go_wp2_with fail
 refine q.mono ?_;rintro e A⟨o,r,s,p⟩;subst s;dsimp only;rcases p with⟨b,p⟩|⟨b,rfl⟩
 all_goals
  have c:Hid _:=b;clear b;go_wp2_with fail
  go_ret;exact⟨zN (by rw[c.out]),o⟩
def zdI (l:List GV)(bad au rd:Int)(dg:L_)(nd:Int):Bool:=decide (nd≠bad)&&!decide ((nd,au,rd,dg)∈l)
def zfl (l:List GV)(bad au rd:Int)(cf:Int)(dg vl:L_):Int:=if zcM l bad≠0 then zcM l bad else if cf≠0 then cf else if zdI l bad au rd dg au||vl.any (zdI l bad au rd dg)then 11 else 0
theorem zvu (s:L_)(k:Nat):zaN (zdg s k):=by
 induction k with
 | zero=>intro x b;cases b
 | succ k ih=>
  intro x b;rw[zdg]at b;rcases mA_.1 b with h|h;exact ih x h
  simp at h
  omega
theorem zkk (au rd:Int)(bl pl:List zi):zaN (zaE au rd bl pl):=zvu _ _
theorem ztr (g:List Sg)(o:Q_)(q:Nat)(j au rd d:Int)(b c:Nat)(f:L_)(L G S:Nat)(w:World)(u:g.length<=2932031007400)(z:zcz w o g)(A:zg w (some (p_ b 0)) c f)(r:f.length=32)(B:zaN f)
  (C:R_ w G #[I_ j] 3) (D:R_ w L #[.slice o g.length q] 28) (m:R_ w S #[I_ au,I_ rd,.slice (some (p_ b 0)) 32 c] 63) :
  Calls prog 187 #[I_ d,(P_ G 0),(P_ L 0),(P_ S 0)] w λe w'=>e=.returned (.bool (zdI (zA g) j au rd f d))/\B_ w w':=by
 have E:=zb C 0 _ rfl;have F:=zb D 0 _ rfl;have H:=zb m 0 _ rfl;have I:=zb m 1 _ rfl;have J:=zb m 2 _ rfl;by_cases hn:d=j
 .have l:Hid (zdI (zA g) j au rd f d=false):=by show _=_;simp[zdI,hn]
  have y:(d != j)=false:=by simpa using hn
  clear hn;go_in;go_wp2_with fail
  go_ret;exact⟨zN l.out.symm,bR_ _ _⟩
 have l:Hid (zdI (zA g) j au rd f d=!decide ((d,au,rd,f)∈zA g)):=by show _=_;simp[zdI,hn]
 have y:(d != j)=true:=by simpa using hn
 have p:=zmf g o _ q ⟨d,au,rd,⟨some (p_ b 0),c,f⟩⟩ w rfl u z ⟨A,B⟩;simp only[r,Sg.v]at p;clear hn r;go_in;go_wp2_with fail
 refine p.mono ?_;rintro _ M⟨rfl,s⟩;dsimp only;go_wp2_with fail
 go_ret;exact⟨zN (by rw[l.out];exact cA_ _ (decide_eq_decide.2 Iff.rfl)),s⟩
theorem zrz (c:List Sg)(H:Q_)(n J:Nat)(f au rd:Int)(B:Q_)(C:Nat)(bl:List zi)(F:Q_)(G:Nat)(pl:List zi)(I:Q_)(M:Nat)(vl:L_)(w:World)(hn:n=c.length)(hl:c.length<=2932031007400)(m:zcz w H c)(h:HAt w B C bl F G pl)(p:zax w I vl)(am:vl.length<=9000000000000000000)(q:za2 w) :
  Calls prog 148 #[.slice H n J,I_ f,.agg #[I_ au,I_ rd,.slice B bl.length C,.slice F pl.length G,.slice I vl.length M]] w λe w'=>e=.returned (I_ (zfl (zA c) f au rd (zap au rd bl pl vl) (zaE au rd bl pl) vl))/\B_ w w':=by
 subst hn;have a1:=hN_ w (.cells #[.slice H c.length J] 28);have a2:=hN_ (w.alloc (.cells #[.slice H c.length J] 28)) (.cells #[I_ f] 3);refine kA_ ?A0 ?_;exact #[I_ au,I_ rd,.slice B bl.length C,.slice F pl.length G,.slice I vl.length M];refine kW_ ?B0 ?_;exact(w.alloc (.cells #[.slice H c.length J] 28)).alloc (.cells #[I_ f] 3);have a3:=hN_ ?B0 (.cells ?A0 88);rw[zG]at a2;rw[zG,zG]at a3;have z:=zR (o:=.cells ?A0 88) (zR (o:=.cells #[I_ f] 3) a1);have A:=zR (o:=.cells ?A0 88) a2;have j:=a3;clear a1 a2 a3;have N:B_ w ((?B0).alloc (.cells ?A0 88)):=(((bR_ _ _).alloc (nR_ _) _).alloc (by simp) _).alloc (by simp;omega) _;go_in;go_wp2_with fail
 generalize (?B0).alloc (.cells ?A0 88)=W0 at N z A j|-;have d:=N;replace m:=m.below N;replace h:=h.below N;replace p:=p.below N;replace q:=q.below N;clear N;have U:=zkF c H _ J f W0 rfl hl m;by_cases hs:zcM (zA c) f=0;rw[hs]at U;have ak:Hid (zcM (zA c) f=0):=hs;clear hs
 rotate_left
 have D:Hid (zfl (zA c) f au rd (zap au rd bl pl vl) (zaE au rd bl pl) vl=zcM (zA c) f):=by show _=_;rw[zfl,iP_ hs]
 generalize Y:zcM (zA c) f=y at U hs;have ai:Hid (zcM (zA c) f=y):=Y;clear Y;have hy:(y != 0)=true:=by simpa using hs
 rotate_left
 all_goals
  refine U.mono ?_;rintro _ w1⟨rfl,t⟩;dsimp only
 .clear U;replace z:=zk t z;replace A:=zk t A;replace j:=zk t j;replace m:=m.below t;replace h:=h.below t;replace p:=p.below t;replace q:=q.below t;replace d:=d.trans (t.mono d.size);have V:=zgG au rd B C bl F G pl I M vl w1 h.lb h.lp p am;by_cases hc:zap au rd bl pl vl=0;rw[hc]at V;have an:Hid (zap au rd bl pl vl=0):=hc;have al:zO au rd bl pl=0:=by
   unfold zap at hc
   split at hc
   exact absurd hc (by assumption)
   rename_i g;simpa using g
  have ao:Hid (zO au rd bl pl=0):=al;clear hc al
  rotate_left
  have D:Hid (zfl (zA c) f au rd (zap au rd bl pl vl) (zaE au rd bl pl) vl=zap au rd bl pl vl):=by show _=_;rw[zfl,iN_ (by simpa using ak.out),iP_ hc]
  generalize Y:zap au rd bl pl vl=y at V hc;have ai:Hid (zap au rd bl pl vl=y):=Y;clear Y;have hy:(y != 0)=true:=by simpa using hc
  rotate_left
  all_goals
   have ab:=zb j 0 _ rfl;have ac:=zb j 1 _ rfl;have ad:=zb j 2 _ rfl;have ae:=zb j 3 _ rfl;have af:=zb j 4 _ rfl;go_wp2_with fail
   refine V.mono ?_;rintro _ w2⟨rfl,u⟩;dsimp only
  .clear V;clear ab ac ad ae af;replace z:=zk u z;replace A:=zk u A;replace j:=zk u j;replace m:=m.below u;replace h:=h.below u;replace p:=p.below u;replace q:=q.below u;replace d:=d.trans (u.mono d.size);have ab:=zb j 0 _ rfl;have ac:=zb j 1 _ rfl;have ad:=zb j 2 _ rfl;have ae:=zb j 3 _ rfl;have af:=zb j 4 _ rfl;go_wp2_with fail
   refine(zry au rd B C bl F G pl w2 h ao.out q).mono ?_;rintro e w3⟨b,l,aA,aB,aj,L⟩;subst l;dsimp only;clear ab ac ad ae af;replace z:=zk L z;replace A:=zk L A;replace j:=zk L j;replace m:=m.below L;replace h:=h.below L;replace p:=p.below L;replace q:=q.below L;replace d:=d.trans (L.mono d.size);refine kA_ ?C0 ?_;exact #[I_ au,I_ rd,.slice (some (p_ b 0)) 32 32];have s:=(bR_ w3.heap.size w3).alloc (nR_ _) (.cells ?C0 63);have q9:=hN_ w3 (.cells ?C0 63);have O:=zR (o:=.cells ?C0 63) j;have av:=zb O 0 _ rfl;have aw:=zb O 1 _ rfl;have ax:=zb O 2 _ rfl;have ay:=zb O 3 _ rfl;have az:=zb O 4 _ rfl;go_wp2_with fail
   clear av aw ax ay az O;generalize hG:w3.alloc (.cells ?C0 63)=w4 at s q9|-;clear hG;replace z:=zk s z;replace A:=zk s A;replace j:=zk s j;replace m:=m.below s;replace h:=h.below s;replace p:=p.below s;replace q:=q.below s;replace aj:=aj.below s;replace d:=d.trans (s.mono d.size);generalize ap:w3.heap.size=S9 at q9|-;clear ap;have HA:∀R,∀W,B_ w4 W->Calls prog 187 #[I_ R,(P_ (w.heap.size+1) 0),(P_ w.heap.size 0),(P_ S9 0)] W λe w'=>e=.returned (.bool (zdI (zA c) f au rd (zaE au rd bl pl) R))/\B_ W w':=λR W E=>
    ztr c H J f au rd R b 32 (zaE au rd bl pl) w.heap.size (w.heap.size+1) S9 W hl (m.below E) (aj.below E) (zbD _ _ _ _) (zkk _ _ _ _) (zk E A) (zk E z) (zk E q9)
   have ah:=λW (E:B_ w4 W)=>zgN 187 #[P_ (w.heap.size+1) 0,(P_ w.heap.size 0),(P_ S9 0)] (zdI (zA c) f au rd (zaE au rd bl pl)) (eO_ func187) vl I _ M W rfl am (p.below E) (λR _ W2 aq=>HA R W2 (E.trans (aq.mono E.size)));have T:=HA au w4 (bR_ _ _);have aa:Hid (zfl (zA c) f au rd (zap au rd bl pl vl) (zaE au rd bl pl) vl=if zdI (zA c) f au rd (zaE au rd bl pl) au||vl.any (zdI (zA c) f au rd (zaE au rd bl pl))then 11 else 0):=by
    show _=_;rw[zfl,iN_ (by simpa using ak.out),iN_ (by simpa using an.out)]
   clear HA;cases hz:zdI (zA c) f au rd (zaE au rd bl pl) au with
   | true=>
    rw[hz]at T;have D:Hid (zfl (zA c) f au rd (zap au rd bl pl vl) (zaE au rd bl pl) vl=11):=by show _=_;rw[aa.out,hz];rfl
    clear hz aa ah;refine T.mono ?_;rintro _ w5⟨rfl,X⟩;dsimp only;go_wp2_with fail
    go_ret;exact⟨zt D.out.symm,d.trans (X.mono d.size)⟩
   | false=>
    rw[hz]at T;refine T.mono ?_;rintro _ w5⟨rfl,X⟩;dsimp only;have ag:=ah w5 X;have Z:=zk X j;have aC:=zb Z 0 _ rfl;have aD:=zb Z 1 _ rfl;have aE:=zb Z 2 _ rfl;have aF:=zb Z 3 _ rfl;have aG:=zb Z 4 _ rfl;have D:Hid (zfl (zA c) f au rd (zap au rd bl pl vl) (zaE au rd bl pl) vl=if vl.any (zdI (zA c) f au rd (zaE au rd bl pl))then 11 else 0):=by show _=_;rw[aa.out,hz];rfl
    clear hz aa ah T;generalize vl.any (zdI (zA c) f au rd (zaE au rd bl pl))=r at ag D;replace d:=d.trans (X.mono d.size);go_wp2_with fail
    refine ag.mono ?_;rintro _ w6⟨rfl,ar⟩;dsimp only;replace d:=d.trans (ar.mono d.size);clear ag;cases r with
    | true=>
     go_wp2_with fail
     go_ret;exact⟨zt D.out.symm,d⟩
    | false=>
     go_wp2_with fail
     go_ret;exact⟨zt D.out.symm,d⟩
  go_wp2_with fail
  go_ret;exact⟨zt (D.out.trans ai.out).symm,d.trans (u.mono d.size)⟩
 go_wp2_with fail
 go_ret;exact⟨zt (D.out.trans ai.out).symm,d.trans (t.mono d.size)⟩
end Go.Proofs.YtpnpikpmdfipfaaGreatDoor
