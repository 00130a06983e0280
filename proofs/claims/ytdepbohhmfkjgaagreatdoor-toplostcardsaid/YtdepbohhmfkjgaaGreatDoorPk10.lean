import Derived.Test.YtdepbohhmfkjgaaGreatDoorPk9
set_option maxRecDepth 100000
set_option maxHeartbeats 4000000
namespace Go.Proofs.YtdepbohhmfkjgaaGreatDoor
open Go.RowKit Tryz
theorem zh6 (au rd:Int)(bs:List Int)(d:Option Addr)(n c:Nat)(w:World)(F:n=bs.length)(G:zf w d c bs)(E:bs.length≤140737488355328) :
  Calls prog 202 #[.agg #[I_ au,I_ rd,.slice d n c]] w fun e w'=>∃ g rc,e=.returned (.agg #[I_ au,I_ rd,.slice g bs.length rc])∧zf w' g rc bs∧(∀ b j,g=some ⟨b,j,none⟩→w.heap.size≤b∧b<w'.heap.size)∧B_ w w':=by
 subst F;refine kO_ ?A0 ?_;exact Obj.cells #[I_ au,I_ rd,.slice d bs.length c] 66;refine kO_ ?B0 ?_;exact Obj.cells #[I_ 0,I_ 0,O_] 66;have o:B_ w ((w.alloc ?A0).alloc ?B0):=((bR_ _ _).alloc (nR_ _) _).alloc (by simp) _;have u:=hX_ w ?A0 ?B0;have r:((w.alloc ?A0).alloc ?B0).heap[w.heap.size+1]? = some (.cells #[I_ 0,I_ 0,O_] 66 (0,0)):=by
  have:=hN_ (w.alloc ?A0) ?B0;rw[zI] at this;exact this
 go_in;go_wp2_with fail
 generalize (w.alloc ?A0).alloc ?B0=s at o u r ⊢;refine (zd4 bs d _ c s rfl (G.below o) E).mono ?_;rintro e U ⟨g,rc,C,l,t,p⟩;subst C;dsimp only;have R:w.heap.size+1<s.heap.size:=ze r;have m:=zn p u;have f:=zn p r;have H:=zb m 0 (I_ au) rfl;have I:=zb m 1 (I_ rd) rfl;have J:=zb m 2 (.slice d bs.length c) rfl;have y:=zb f 0 _ rfl;have z:=zb f 1 _ rfl;have A:=zb f 2 _ rfl;have M:=zd f 0;have N:=zd f 1;have O:=zd f 2;have L:=zd m 2;have T:w.heap.size≠w.heap.size+1:=by omega
 go_wp2_with fail
 have B:=zq o p;refine bodyPost_ret (v:=.agg #[I_ au,I_ rd,.slice g bs.length rc]) (by simp[results,results202,go_sem,y,z,A]) rfl ⟨g,rc,rfl,?_,?_,?_⟩
 ·refine ⟨l.le,l.max,l.some,l.nil,?_⟩;rcases l.bytes with q|⟨b,j,e,q⟩
  ·exact .inl q
  ·have:=(t b j e).1;exact .inr ⟨b,j,e,fun k D=>((World.cell?_setCell_far _ _ _ _ (by show w.heap.size+1≠b;omega)).trans ((World.cell?_setCell_far _ _ _ _ (by show w.heap.size+1≠b;omega)).trans ((World.cell?_setCell_far _ _ _ _ (by show w.heap.size+1≠b;omega)).trans (World.cell?_setCell_far _ _ _ _ (by show w.heap.size≠b;omega))))).trans (q k D)⟩
 ·intro b j e;have:=t b j e
  simp;omega
 ·exact (((B.setCell (nR_ _) _).setCell (Nat.le_succ _) _).setCell (Nat.le_succ _) _).setCell (Nat.le_succ _) _
theorem zg5 (b:List Sl)(B:Option Addr)(n X:Nat)(w:World)(hn:n=b.length)(aj:b.length≤400)(J:∀ s∈b,s.p.bs.length≤140737488355328)(N:zfj w B b) :
  Calls prog 201 #[.slice B n X] w fun e w'=>∃ v c,e=.returned v∧vs c=vs b∧w'.ownsRow w.heap.size 66 3 v b.length (slv c)∧zX w' w.heap.size v (ps c)∧B_ w w':=by
 subst hn;obtain ⟨i,I,R,T,U⟩:=info_parts zjI;go_in;go_wp2_with (at_make;refine wpList_make_own _ rfl _ _ 39 rfl w.heap.size 66 i (.agg #[I_ 0,I_ 0,O_]) 3 underlying39 I R T .i64 .i64 _ (b.length+1) rfl rfl (by go_num) (by rw[U];omega) (by unfold maxLen;omega) (nR_ _) ?_;intro w1 ae ac)
 go_wp2_with fail
 go_loopw [12,3] (fun j v wr=>∃ (k:Nat) (c:List Sl),k≤b.length∧j=I_ k∧vs c=(vs b).take k∧wr.ownsRow w.heap.size 66 3 v k (slv c)∧zX wr w.heap.size v (ps c)∧B_ w wr) (fun j _ _=>b.length-(intOf j).toNat)
 case atStart=>exact ⟨0,[],nZ_ _,rfl,rfl,ae,(fun p hp=>by cases hp),zfS ac⟩
 case round=>
  obtain ⟨k,c,hk,rfl,t,y,E,m⟩:=hrel;by_cases hlt:k<b.length
  ·have z:=N.below m;obtain ⟨d,f,rfl,F⟩:∃ d f,B=some ⟨d,f,none⟩∧∀ j (h:j<b.length),C_ wr d (f+j*3) (I_ (b[j]).au)∧C_ wr d (f+j*3+1) (I_ (b[j]).rd)∧C_ wr d (f+j*3+2) (.slice (b[j]).p.sa (b[j]).p.bs.length (b[j]).p.cap):=by
    rcases z.cells with h|h
    ·rw[h] at hlt;simp at hlt
    ·exact h
   obtain ⟨c0,c1,c2⟩:=F k hlt;have hx:=z.each (b[k]) (gM_ hlt);have ai:=J (b[k]) (gM_ hlt);have ah:Hid ((vs b).take (k+1)=(vs b).take k++[(b[k]).v]):=by
    show _=_;rw[tS_ (by rw[zap];exact hlt)];simp[vs]
   have ak:(k:Int)<b.length:=by omega
   clear F z N J;generalize b[k]=s at *;have Y:=zO wr (.cells (srow_ s) 66);go_wp2_with fail
   refine (zh6 s.au s.rd s.p.bs s.p.sa _ s.p.cap _ rfl (hx.below Y) ai).mono ?_;rintro e w2 ⟨r,rc,he,ag,M,g⟩;subst he;dsimp only;rw[zI] at M;replace g:=zV g;have l:=zq m g;have L:=zv y g;have ad:=z8 w2 [I_ s.au,I_ s.rd,.slice r s.p.bs.length rc] 66;go_wp2_with (at_builtin;refine wpList_append_own_at _ rfl _ _ 39 rfl w.heap.size 66 i (.agg #[I_ 0,I_ 0,O_]) 3 40 underlying39 I R T U rfl (by decide) _ k _ rfl (oA_ L _) ⟨w2.heap.size,0,none⟩ 1 1 [I_ s.au,I_ s.rd,.slice r s.p.bs.length rc] rfl rfl ad (by intro u O;simp at O;rcases O with rfl|rfl|rfl<;>rfl) (by unfold maxLen;omega) (by omega) (zz l.size _) ?_;intro V C af H _ ab)
   have G:=zR.of H ab;have aa:=E.more_at (q:=⟨r,rc,s.p.bs⟩) m.size y g (fun d f e=>by have:=M d f e;omega) ag G;have Z:=Below.grown (l.alloc l.size _) H (zz l.size _) (fun q e=>(L.lt q e).1);go_wp2_with fail
   go_roundw
   case rel=>
    have D:∃ (o:Nat) (A:List Sl),o≤b.length∧(Value.int .i64 ((k:Int)+1))=I_ o∧vs A=(vs b).take o∧C.ownsRow w.heap.size 66 3 V o (slv A)∧zX C w.heap.size V (ps A)∧B_ w C:=
     ⟨k+1,c++[⟨s.au,s.rd,⟨r,rc,s.p.bs⟩⟩],by omega,by go_num,by rw[ah.out,←t];simp[vs,Sl.v],by rw[ziY];exact af,by simpa[ps] using aa,Z⟩
    first|exact D|((repeat apply Exists.intro);exact ⟨D,rfl⟩)
   case measure=>simp[intOf];omega
  ·obtain rfl:k=b.length:=by omega
   rw[tL_ (by rw[zap];exact nR_ _)] at t;go_wp2_with fail
   go_ret;exact ⟨_,c,rfl,t,y,E,m⟩
theorem zq9 (s:Sl)(au rd:Int)(b c:Nat)(w:World)(d:C_ w b 0 (I_ au))(f:C_ w c 0 (I_ rd)) :
  Calls prog 227 #[.agg (srow_ s),(P_ b 0),(P_ c 0)] w fun e w'=>e=.returned (.bool (decide (s.au=au∧s.rd=rd)))∧B_ w w':=by
 have g:=bL_ d;have j:=bL_ f;have l:b≠w.heap.size:=by simp at g;omega
 have m:c≠w.heap.size:=by simp at j;omega
 go_in;go_wp2_with fail
 all_goals (go_ret;exact ⟨by first|(simp_all;done)|(simp_all;rfl),(bR_ _ _).alloc (nR_ _) _⟩)
theorem zlZ (b:List Sl)(A:Option Addr)(k D:Nat)(au rd:Int)(q t:Nat)(w:World)(U:k≤b.length)(V:k≤3000000000000000000)(J:zfj w A b)(E:C_ w q 0 (I_ au))(M:C_ w t 0 (I_ rd)) :
  Calls prog 228 #[.slice A k D,.func (.func 227) #[] #[P_ q 0,(P_ t 0)]] w fun e w'=>∃ r:Int,e=.returned (I_ r)∧zgw (vs b) au rd k r∧B_ w w':=by
 go_in;go_wp2_with fail
 go_loopw [8] (fun i wr=>∃ m:Nat,m≤k∧i=I_ m∧(∀ j,j<m→hit (vs b) au rd j=false)∧B_ w wr) (fun i _=>k-(intOf i).toNat)
 case atStart=>exact ⟨0,nZ_ _,rfl,(fun j I=>by omega),bR_ _ _⟩
 case round=>
  obtain ⟨m,Y,rfl,f,d⟩:=hrel;by_cases hlt:m<k
  ·have p:m<b.length:=by omega
   have L:=J.below d;obtain ⟨l,o,rfl,C⟩:∃ l o,A=some ⟨l,o,none⟩∧∀ j (h:j<b.length),C_ wr l (o+j*3) (I_ (b[j]).au)∧C_ wr l (o+j*3+1) (I_ (b[j]).rd)∧C_ wr l (o+j*3+2) (.slice (b[j]).p.sa (b[j]).p.bs.length (b[j]).p.cap):=by
    rcases L.cells with h|h
    ·rw[h] at p;simp at p
    ·exact h
   obtain ⟨O,R,T⟩:=C m p;have y:=zuw b au rd m p;have F:=zr d E;have N:=zr d M;have X:(m:Int)<k:=by omega
   clear C;generalize b[m]=s at *;have c:Hid (decide (s.au=au∧s.rd=rd)=true→zgw (vs b) au rd k m):=by
    show _→_;intro h;exact .inl ⟨m,hlt,rfl,by rw[y];exact h,f⟩
   have u:Hid (decide (s.au=au∧s.rd=rd)=false→∀ j,j<m+1→hit (vs b) au rd j=false):=by
    show _→_;intro h j I;rcases Nat.lt_or_ge j m with g|g
    ·exact f j g
    ·obtain rfl:j=m:=by omega
     rw[y];exact h
   clear f y;go_wp2_with fail
   refine (zq9 s au rd q t wr F N).mono ?_;rintro _ Z ⟨rfl,G⟩;dsimp only;have B:=zq d G;generalize decide (s.au=au∧s.rd=rd)=x at *;cases x
   ·have z:=u.out rfl;clear c u;go_wp2_with fail
    go_roundw
    case rel=>exact ⟨m+1,by omega,by go_num,z,B⟩
    case measure=>simp[intOf];omega
   ·have z:=c.out rfl;clear c u;go_wp2_with fail
    go_ret;exact ⟨_,rfl,z,B⟩
  ·obtain rfl:m=k:=by omega
   have c:Hid (zgw (vs b) au rd m (-1)):=.inr ⟨rfl,f⟩;clear f;go_wp2_with fail
   go_ret;exact ⟨_,rfl,c.out,d⟩
theorem zmL (c:List Sl)(d:Option Addr)(k b:Nat)(au rd:Int)(w:World)(m:k≤c.length)(o:k≤3000000000000000000)(p:zfj w d c) :
  Calls prog 200 #[.slice d k b,I_ au,I_ rd] w fun e w'=>∃ r:Int,e=.returned (I_ r)∧zgw (vs c) au rd k r∧B_ w w':=by
 have q:∀ (fn:Fn) (first b:Array Value) (w:World),(Instr.makeFunc fn first b).run prog w=.ok (.func fn first b) w:=fun _ _ _ _=>rfl;go_in;go_wp2_with fail
 have g:B_ w ((w.alloc (.cells #[I_ au] 3)).alloc (.cells #[I_ rd] 3)):=((bR_ _ _).alloc (nR_ _) _).alloc (by simp) _;refine (zlZ c d k b au rd _ _ _ m o (p.below g) ?_ ?_).mono ?_
 ·simp
 ·simp
 rintro e s ⟨r,l,f,j⟩;subst l;dsimp only;go_wp2_with fail
 go_ret;exact ⟨r,rfl,f,zV (zV j)⟩
theorem zgj (b:List Sl)(V:Option Addr)(n t:Nat)(w:World)(R:n=b.length)(A:zdB w V t b) :
  Calls prog 162 #[.slice V n t] w fun e w'=>e=.returned (I_ (zcV (vs b)))∧B_ w w':=by
 subst R;have ae:=A.le;have ah:=A.max;by_cases hlong:400<b.length
 ·have y:Hid (zcV (vs b)=12):=zqW _ (by rw[zap];exact hlong);have hI:(400:Int)<b.length:=by omega
  go_in;go_wp2_with fail
  go_ret;exact ⟨zp y.out.symm,bR_ _ _⟩
 have hI:¬(400:Int)<b.length:=by omega
 go_in;go_wp2_with fail
 go_loopw [10] (fun i wr=>∃ m:Nat,m≤b.length∧i=I_ m∧(∀ j,j<m→zdV (vs b) j=false)∧B_ w wr) (fun i _=>b.length-(intOf i).toNat)
 case atStart=>exact ⟨0,nZ_ _,rfl,(fun j hj=>by omega),bR_ _ _⟩
 case round=>
  obtain ⟨m,hm,rfl,H,q⟩:=hrel;by_cases hlt:m<b.length
  ·have T:=A.slots.below q;obtain ⟨l,o,rfl,hc⟩:∃ l o,V=some ⟨l,o,none⟩∧∀ j (h:j<b.length),C_ wr l (o+j*3) (I_ (b[j]).au)∧C_ wr l (o+j*3+1) (I_ (b[j]).rd)∧C_ wr l (o+j*3+2) (.slice (b[j]).p.sa (b[j]).p.bs.length (b[j]).p.cap):=by
    rcases T.cells with h|h
    ·rw[h] at hlt;simp at hlt
    ·exact h
   obtain ⟨c0,c1,c2⟩:=hc m hlt;have af:(m:Int)<b.length:=by omega
   have ag:(m:Int)≤t:=by omega
   have u:Hid (zdV (vs b) m=(decide (za4 (b[m]).au (b[m]).rd (b[m]).p.bs.length≠0)||zev (vs b) (b[m]).au (b[m]).rd m)):=by
    show _=_;rw[zdV,zgf b m hlt];rfl
   have F:Hid (zdV (vs b) m=true→zcV (vs b)=12):=by
    show _→_;exact zsX (vs b) m (by rw[zap];exact hlt)
   have O:Hid (zdV (vs b) m=false→∀ j,j<m+1→zdV (vs b) j=false):=by
    show _→_;intro h j hj;rcases Nat.lt_or_ge j m with g|g
    ·exact H j g
    ·obtain rfl:j=m:=by omega
     exact h
   have X:Hid (∀ W:World,B_ wr W→Calls prog 200 #[.slice (some ⟨l,o,none⟩) m t,I_ (b[m]).au,I_ (b[m]).rd] W fun e w'=>∃ r:Int,e=.returned (I_ r)∧((zev (vs b) (b[m]).au (b[m]).rd m=true∧0≤r)∨(zev (vs b) (b[m]).au (b[m]).rd m=false∧r=-1))∧B_ W w'):=by
    show ∀ W,_;intro W hW;refine (zmL b (some ⟨l,o,none⟩) m t (b[m]).au (b[m]).rd W (by omega) (by have:=A.small;omega) (T.below hW)).mono ?_;rintro e w' ⟨r,he,y,ab⟩;exact ⟨r,he,y.neg,ab⟩
   have L:Hid (∀ W:World,Calls prog 76 #[.agg (srow_ (b[m]))] W fun e w'=>e=.returned (I_ (za4 (b[m]).au (b[m]).rd (b[m]).p.bs.length))∧B_ W w'):=by
    show ∀ W,_;intro W;exact zfF _ _ _ _ _ W
   clear hc H T A;generalize b[m]=s at *;have f:=(bR_ wr.heap.size wr).alloc (nR_ _) (.cells (srow_ s) 66);have B:=hN_ wr (.cells (srow_ s) 66);go_wp2_with fail
   generalize wr.alloc (.cells (srow_ s) 66)=M at f B ⊢;have C:=zb B 0 (I_ s.au) rfl;have D:=zb B 1 (I_ s.rd) rfl;refine kV_ ?A0 ?_;exact Value.slice s.p.sa s.p.bs.length s.p.cap;have E:=zb B 2 ?A0 rfl;have d:wr.heap.size<M.heap.size:=ze B;clear c0 c1 c2;by_cases hx:za4 s.au s.rd s.p.bs.length=0
   ·rw[hx] at L;have I:Hid (zev (vs b) s.au s.rd m=true→zcV (vs b)=12):=by
     show _→_;intro h;exact F.out (by rw[u.out,h];simp)
    have J:Hid (zev (vs b) s.au s.rd m=false→∀ j,j<m+1→zdV (vs b) j=false):=by
     show _→_;intro h;exact O.out (by rw[u.out,h,hx];rfl)
    clear F O u hx;go_region_held3 (fun w'=>C_ w' wr.heap.size 0 (I_ s.au)∧C_ w' wr.heap.size 1 (I_ s.rd)∧C_ w' wr.heap.size 2 ?A0) (go_keep) (first|(go_at_call 200;refine (X.out _ (f.trans (c.mono f.size))).mono ?_;rintro e w3 ⟨r,rfl,hr,ad⟩;have G:=c.trans (ad.mono c.size);have k0:=(G.cell (p:=⟨wr.heap.size,0,none⟩) d).trans C;have k1:=(G.cell (p:=⟨wr.heap.size,1,none⟩) d).trans D;have k2:=(G.cell (p:=⟨wr.heap.size,2,none⟩) d).trans E)|(go_at_call 76;refine (L.out _).mono ?_;rintro e w2 ⟨rfl,ac⟩;have c:B_ M w2:=zbt ac;have e0:=(c.cell (p:=⟨wr.heap.size,0,none⟩) d).trans C;have e1:=(c.cell (p:=⟨wr.heap.size,1,none⟩) d).trans D;have e2:=(c.cell (p:=⟨wr.heap.size,2,none⟩) d).trans E))
    all_goals
     have Z:=q.trans ((f.trans (G.mono f.size)).mono q.size);rcases hr with ⟨z,hr⟩|⟨z,rfl⟩
     ·have hy:=I.out z;clear I J z;go_wp2_with fail
      go_ret;exact ⟨zp hy.symm,Z⟩
     ·have R:=J.out z;clear I J z;go_wp2_with fail
      go_roundw
      case rel=>
       have Y:∃ U:Nat,U≤b.length∧(Value.int .i64 ((m:Int)+1))=I_ U∧(∀ j,j<U→zdV (vs b) j=false)∧B_ w w3:=⟨m+1,by omega,by go_num,R,Z⟩
       first|exact Y|((repeat apply Exists.intro);exact ⟨Y,rfl⟩)
      case measure=>simp[intOf];omega
   ·have aa:Hid (zcV (vs b)=12):=F.out (by rw[u.out];simp[hx]);generalize za4 s.au s.rd s.p.bs.length=x at *;clear F O u X;have ai:(x != 0)=true:=by simpa using hx
    refine wR_ (S:=fun w'=>C_ w' wr.heap.size 0 (I_ s.au)∧C_ w' wr.heap.size 1 (I_ s.rd)∧C_ w' wr.heap.size 2 ?A0) (by kernel_rfl) ⟨C,D,E⟩ (fun N=>?_);refine tK_ 0 15 (.agg (srow_ s)) rfl rfl N ?_;simp only[zg];refine zE 1 rfl (fun K hK=>?_);refine zj rfl 16 rfl 76 [.tmp 15] #[66] rfl [.agg (srow_ s)] rfl (eO_ func76) (fun v w'=>v=I_ x∧B_ M w') ((L.out _).mono (fun e w2 h=>⟨_,h.1,rfl,zbt h.2⟩)) ?_;rintro v w2 ⟨rfl,c⟩;refine hK.out _ _ ⟨(c.cell (p:=⟨wr.heap.size,0,none⟩) d).trans C,(c.cell (p:=⟨wr.heap.size,1,none⟩) d).trans D,(c.cell (p:=⟨wr.heap.size,2,none⟩) d).trans E⟩ (fun N=>?_);simp only[zg];refine tks_ 12 [(2,17,.bool true),(3,18,.bool true),(4,19,undef),(5,20,undef),(6,21,undef),(7,22,undef),(8,23,undef),(9,24,undef),(10,25,undef),(11,26,undef),(12,27,undef),(13,28,.bool true)] N ?_;simp only[tkf_,zg];refine wD_ (by kernel_rfl) ?_ _;go_wp2_with fail
    go_ret;exact ⟨zp aa.out.symm,q.trans ((f.trans (c.mono f.size)).mono q.size)⟩
  ·obtain rfl:m=b.length:=by omega
   have y:Hid (zcV (vs b)=0):=zux _ (by rw[zap];omega) (fun k hk=>H k (by rw[zap] at hk;exact hk));clear H;go_wp2_with fail
   go_ret;exact ⟨zp y.out.symm,q⟩
def zco (l:List SV)(au rd:Int)(bl pl:List zi):List SV×SV×Int:=
 if zcV l≠0 then ([],(0,0,[]),12) else if zK au rd bl pl≠0 then ([],(0,0,[]),zK au rd bl pl) else
  if (zaW l (au,rd,zay au rd bl pl)).2≠0 then ([],(0,0,[]),(zaW l (au,rd,zay au rd bl pl)).2) else ((zaW l (au,rd,zay au rd bl pl)).1,(au,rd,zay au rd bl pl),0)
theorem zfV (n:Int)(r:Bool)(w:World)(h:r=decide (0≤n∧n<4)):Calls prog 231 #[I_ n] w fun e w'=>e=.returned (.bool r)∧w=w':=by
 by_cases h1:0≤n
 ·by_cases h2:n<4;obtain rfl:r=true:=by simp[h,h1,h2]
  rotate_left
  obtain rfl:r=false:=by simp[h,h2]
  rotate_left
  all_goals
   clear h;go_in
   go_wp2
   go_ret;exact ⟨rfl,rfl⟩
 ·obtain rfl:r=false:=by simp[h,h1]
  clear h;go_in
  go_wp2
  go_ret;exact ⟨rfl,rfl⟩
theorem zfJ (b au rd:Int)(g:Option Addr)(n d:Nat)(w:World) :
  Calls prog 207 #[.agg #[I_ b,I_ au,I_ rd,.slice g n d]] w fun e w'=>e=.returned (I_ (zgx b au rd n))∧B_ w w':=by
 by_cases ha:0≤b∧b<4
 ·have c:Hid (zgx b au rd n=za4 au rd n):=by show _=_;rw[zgx,if_neg (by simpa using ha)]
  have f:=(bR_ w.heap.size w).alloc (nR_ _) (.cells #[I_ b,I_ au,I_ rd,.slice g n d] 227);go_in;go_wp2_with (first|(go_at_call 231;refine (zfV _ true _ (by simp[ha])).mono ?_;rintro e w' ⟨rfl,rfl⟩)|(go_at_call 76;refine (zfF _ _ _ _ _ _).mono ?_;rintro e w' ⟨rfl,j⟩))
  go_ret;exact ⟨zp c.out.symm,f.trans (j.mono f.size)⟩
 ·have c:Hid (zgx b au rd n=2):=by show _=_;rw[zgx,if_pos ha]
  go_in;go_wp2_with (go_at_call 231;refine (zfV _ false _ (by simp[ha])).mono ?_;rintro e w' ⟨rfl,rfl⟩)
  go_ret;exact ⟨zp c.out.symm,(bR_ _ _).alloc (nR_ _) _⟩
def zkP (f:FuncId)(caps:Array Value)(P:Sg→Bool)(ls:List Sg)(w:World):Prop:=
 ∀ s∈ls,∀ W:World,B_ w W→Calls prog f (#[.agg #[I_ s.nd,I_ s.au,I_ s.rd,.slice s.p.sa s.p.bs.length s.p.cap]]++caps) W fun e w'=>e=.returned (.bool (P s))∧B_ W w'
theorem zkQ (f:FuncId)(z:Array Value)(P:Sg→Bool)(U:∀ B w,(callFunc f B).run prog w=.ok (.enter f B) w)(b:List Sg)(A:Option Addr)(n H:Nat)(w:World)(l:n=b.length)(V:b.length≤2932031007400)(L:zcf w A b)(C:zkP f z P b w) :
  Calls prog 205 #[.slice A n H,.func (.func f) #[] z] w fun e w'=>B_ w w'∧∃ r:Int,e=.returned (I_ r)∧((b.any P=true∧0≤r)∨(b.any P=false∧r=-1)):=by
 subst l;have G:Hid (zkP f z P b w):=C;clear C;go_in;go_wp2_with fail
 go_loopw [8] (fun i wr=>∃ m:Nat,m≤b.length∧i=I_ m∧(∀ s∈b.take m,P s=false)∧B_ w wr) (fun i _=>b.length-(intOf i).toNat)
 case atStart=>exact ⟨0,nZ_ _,rfl,(fun s c=>by simp at c),bR_ _ _⟩
 case round=>
  obtain ⟨m,Y,rfl,o,p⟩:=hrel;by_cases hlt:m<b.length
  ·have F:=L.below p;obtain ⟨d,g,rfl,E⟩:∃ d g,A=some ⟨d,g,none⟩∧∀ j (h:j<b.length),C_ wr d (g+j*4) (I_ (b[j]).nd)∧C_ wr d (g+j*4+1) (I_ (b[j]).au)∧C_ wr d (g+j*4+2) (I_ (b[j]).rd)∧C_ wr d (g+j*4+3) (.slice (b[j]).p.sa (b[j]).p.bs.length (b[j]).p.cap):=by
    rcases F.cells with h|h
    ·rw[h] at hlt;simp at hlt
    ·exact h
   obtain ⟨N,O,R,T⟩:=E m hlt;have X:(m:Int)<b.length:=by omega
   have y:Hid (P (b[m])=true→b.any P=true):=by
    show _→_;intro h;exact List.any_eq_true.2 ⟨_,gM_ hlt,h⟩
   have u:Hid (P (b[m])=false→∀ s∈b.take (m+1),P s=false):=by
    show _→_;intro h s c;rw[zlX hlt] at c;rcases c with c|rfl
    ·exact o s c
    ·exact h
   have q:=G.out (b[m]) (gM_ hlt) wr p;clear E o F;generalize b[m]=t at *;go_wp2_with fail
   refine q.mono ?_;rintro _ Z ⟨rfl,I⟩;dsimp only;have D:=zq p I;cases hP:P t with
   | true=>
    have M:Hid _:=y.out hP;clear y u hP q;go_wp2_with fail
    go_ret;exact ⟨D,(m:Int),rfl,.inl ⟨M.out,by omega⟩⟩
   | false=>
    have l:Hid _:=u.out hP;clear y u hP q;go_wp2_with fail
    go_roundw
    case rel=>exact ⟨m+1,by omega,by go_num,l.out,D⟩
    case measure=>simp[intOf];omega
  ·obtain rfl:m=b.length:=by omega
   have l:Hid (b.any P=false):=by
    show _=_;rw[tL_ (nR_ _)] at o;rw[List.any_eq_false];intro s c;rw[o s c];simp
   clear o;go_wp2_with fail
   go_ret;exact ⟨p,(-1:Int),rfl,.inr ⟨l.out,rfl⟩⟩
theorem zep (f:FuncId)(g:Array Value)(P:Sg→Bool)(u:∀ l w,(callFunc f l).run prog w=.ok (.enter f l) w)(b:List Sg)(j:Option Addr)(n m:Nat)(w:World)(z:n=b.length)(y:b.length≤2932031007400)(A:zcf w j b)(o:zkP f g P b w) :
  Calls prog 172 #[.slice j n m,.func (.func f) #[] g] w fun e w'=>e=.returned (.bool (b.any P))∧B_ w w':=by
 subst z;have s:=zkQ f g P u b j _ m w rfl y A o;clear o;go_in;go_wp2_with fail
 refine s.mono ?_;rintro e B ⟨p,r,t,q⟩;subst t;dsimp only;rcases q with ⟨c,q⟩|⟨c,rfl⟩
 all_goals
  have d:Hid _:=c;clear c;go_wp2_with fail
  go_ret;exact ⟨zS (by rw[d.out]),p⟩
open Go.Maps Go.WideMaps
theorem zhA {α β:Type}{f:α→Option β}:∀ (L:List α),(∀ x∈L,∃ y,f x=some y)→∃ ys,L.mapM f=some ys
 | [],_=>⟨[],rfl⟩
 | x::r,h=>by
  obtain ⟨y,b⟩:=h x (by simp)
  obtain ⟨ys,c⟩:=zhA r (fun z d=>h z (by simp[d]))
  exact ⟨y::ys,by rw[List.mapM_cons,b,c];rfl⟩
theorem zwm:laidOutB prog=true:=by kernel_rfl
theorem zwP:(307:TypeId)<prog.types.size:=of_decide_eq_true (by kernel_rfl)
theorem zra:prog.cellsOf 307=35:=by kernel_rfl
theorem zrb:prog.cellsOf 305=32:=by kernel_rfl
theorem zmM:prog.cellsOf 3=1:=by kernel_rfl
theorem zvz:prog.cellsOf 5=1:=by kernel_rfl
theorem zs4:prog.keyType 307=true:=by kernel_rfl
theorem zwn:(match prog.underlying 307 with|some (.array _ _)|some (.struct _)=>true|_=>false)=true:=by kernel_rfl
theorem zwo:KeyLaw prog 307:=deep_law_laid zwm (m:=3) (by omega) zwP (by kernel_rfl) zwn
theorem zs5:Keyed prog 307:=Keyed.of_law zwo
def mkv (g:GV):List Value:=.int .i64 g.1::.int .i64 g.2.1::.int .i64 g.2.2.1::ub g.2.2.2
theorem zuD {g h:GV}(e:mkv g=mkv h):g=h:=by
 obtain ⟨a,b,c,l⟩:=g;obtain ⟨a',b',c',l'⟩:=h;simp only[mkv,List.cons.injEq,Value.int.injEq,true_and] at e;obtain ⟨rfl,rfl,rfl,e⟩:=e;have d:∀ (x y:List Int),ub x=ub y→x=y:=by
  intro x
  induction x with
  | nil=>intro y h;cases y with
   | nil=>rfl
   | cons _ _=>simp[ub] at h
  | cons p x ih=>intro y h;cases y with
   | nil=>simp[ub] at h
   | cons q y=>
    simp only[ub,List.map_cons,List.cons.injEq,Value.int.injEq,true_and] at h;rw[h.1,ih y h.2]
 rw[d _ _ e]
theorem zrc {g:GV}(h:gF g=0):(0≤g.1∧g.1<4)∧(0≤g.2.1∧g.2.1<4)∧(1≤g.2.2.1∧g.2.2.1≤1048576)∧g.2.2.2.length=32:=by
 unfold gF zgx at h
 split at h
 ·cases h
 ·rename_i b
  unfold za4 at h
  split at h
  ·cases h
  ·rename_i c
   split at h
   ·cases h
   ·rename_i d
    omega
theorem zjJ (d:Nat)(a:Int)(h:0≤a∧a≤1048576):prog.keyLits (d+1) 3 [.int .i64 a]=some [.int .i64 a]:=by
 have b:(Lit.int .i64 a).wf=true:=WalkArith.wf_i64 (by omega);simp[Program.keyLits,underlying3,b]
theorem zuE (d:Nat)(a:Int)(h:0≤a∧a≤255):prog.keyLits (d+1) 5 [.int .u8 a]=some [.int .u8 a]:=by
 have b:(Lit.int .u8 a).wf=true:=by rw[Lit.wf,Bool.and_eq_true,decide_eq_true_eq,decide_eq_true_eq];exact ⟨h.1,h.2⟩
 simp[Program.keyLits,underlying5,b]
theorem zs6 (d:Nat)(l:List Int)(b:l.length=32)(m:zaF l):∃ p,prog.keyLits (d+2) 305 (ub l)=some p:=by
 have g:(ub l).length=32:=by simp[ub,b]
 obtain ⟨ys,o⟩:=zhA (f:=fun i=>prog.keyLits (d+1) 5 (((ub l).drop (i*prog.cellsOf 5)).take (prog.cellsOf 5))) (List.range 32) (fun i j=>by
  have c:i<l.length:=by rw[b];exact List.mem_range.1 j
  refine ⟨[.int .u8 (l[i])],?_⟩;have e:((ub l).drop (i*prog.cellsOf 5)).take (prog.cellsOf 5)=[.int .u8 (l[i])]:=by
   rw[zvz,Nat.mul_one,List.drop_eq_getElem_cons (by rw[g,←b];exact c)];simp[ub]
  show prog.keyLits (d+1) _ _=_;rw[e];exact zuE d _ (m _ (gM_ c)))
 refine ⟨ys.flatten,?_⟩;unfold Program.keyLits;simp only[underlying305];rw[if_pos (by rw[g,zrb]),o]
 rfl
theorem zs7 (g:GV)(h:gF g=0)(r:zaF g.2.2.2):∃ G,keyOf prog 307 (.agg (mkv g).toArray)=some G:=by
 obtain ⟨s,t,u,m⟩:=zrc h;obtain ⟨a,b,c,l⟩:=g;dsimp only at s t u m r;have p:(ub l).length=32:=by simpa[ub] using m
 have q:(mkv (a,b,c,l)).length=35:=by simp[mkv,p]
 have I:52-49≤prog.types.size+1:=of_decide_eq_true (by kernel_rfl);obtain ⟨d,B⟩:∃ d,prog.types.size+1=d+3:=⟨prog.types.size+1-3,by omega⟩;have D:(Value.agg (mkv (a,b,c,l)).toArray).formed prog 307=true:=by
  simp[Value.formed,underlying307,zra,q]
 obtain ⟨j,E⟩:∃ j,prog.keyLits (d+3) 307 (mkv (a,b,c,l))=some j:=by
  unfold Program.keyLits;simp only[underlying307];rw[if_pos ⟨by rw[q,zra],by simp⟩];obtain ⟨ds,C⟩:=zs6 d l m r;have H:∀ L:List Field,(∀ f∈L,∃ y,prog.keyLits (d+2) f.type (((mkv (a,b,c,l)).drop f.offset).take (prog.cellsOf f.type))=some y)→∃ j,(L.mapM fun f:Field=>prog.keyLits (d+2) f.type (((mkv (a,b,c,l)).drop f.offset).take (prog.cellsOf f.type))).map List.flatten=some j:=by
   intro L z;obtain ⟨ys,F⟩:=zhA L z;rw[F];exact ⟨_,rfl⟩
  refine H _ (fun f o=>?_)
  simp at o
  rcases o with rfl|rfl|rfl|rfl
  ·exact ⟨_,by simpa[zmM,mkv] using zjJ (d+1) a (by omega)⟩
  ·exact ⟨_,by simpa[zmM,mkv] using zjJ (d+1) b (by omega)⟩
  ·exact ⟨_,by simpa[zmM,mkv] using zjJ (d+1) c (by omega)⟩
  ·refine ⟨ds,?_⟩;simp only[zrb,mkv,List.drop_succ_cons,List.drop_zero];rw[tL_ (by rw[p];exact nR_ _)];exact C
 refine ⟨.string (keyBytes j),?_⟩;have A:(Value.agg (mkv (a,b,c,l)).toArray).cells.toList=mkv (a,b,c,l):=by simp[Value.cells]
 unfold keyOf;rw[A,B,E,D,zs4];simp[underlying307]
def zj8 (K:GV→Lit):Prop:=∀ g:GV,gF g=0→zaF g.2.2.2→keyOf prog 307 (.agg (mkv g).toArray)=some (K g)
theorem zn0:∃ K:GV→Lit,zj8 K:=by
 refine ⟨fun g=>(keyOf prog 307 (.agg (mkv g).toArray)).getD (.bool true),fun g h c=>?_⟩;obtain ⟨d,b⟩:=zs7 g h c;show _=some ((keyOf prog 307 (.agg (mkv g).toArray)).getD (.bool true));rw[b];rfl
theorem zs8 {K:GV→Lit}(d:zj8 K){g h:GV}(l:gF g=0)(o:zaF g.2.2.2)(m:gF h=0)(p:zaF h.2.2.2)(e:K g=K h):g=h:=by
 have b:=d g l o;have f:=d h m p;rw[e] at b;have c:=zs5.inj b f;simp only[Value.agg.injEq] at c;have j:(mkv g)=(mkv h):=by simpa using c
 exact zuD j
theorem zoN:∀ (b L:List Lit),(b.foldl addKey L).length≤L.length+b.length
 | [],L=>by simp
 | x::r,L=>by
  have:=zoN r (addKey L x)
  have c:(addKey L x).length≤L.length+1:=by unfold addKey;split<;>simp
  simp only[List.foldl_cons,List.length_cons]
  omega
theorem zmN:∀ (d L:List Lit),(∀ x∈d,WideAt.IsKeyLit x)→((d.foldl addKey L).length=L.length+d.length↔d.Nodup∧∀ x∈d,x ∉ L)
 | [],L,_=>by simp
 | x::r,L,hk=>by
  have m:=hk x (by simp)
  simp only[List.foldl_cons,List.length_cons,List.nodup_cons]
  by_cases h:L.any (fun y=>y.sameKey x)=true
  ·have e:addKey L x=L:=by unfold addKey;rw[if_pos h]
   rw[e]
   have f:=zoN r L
   obtain ⟨y,c,l⟩:=List.any_eq_true.1 h
   have p:y=x:=WideAt.sameKey_eq l
   subst p
   constructor
   ·intro j;omega
   ·intro j;exact absurd c (j.2 y (by simp))
  ·have e:addKey L x=L++[x]:=by unfold addKey;rw[if_neg h]
   rw[e,show L.length+(r.length+1)=(L++[x]).length+r.length by simp;omega,zmN r (L++[x]) (fun y c=>hk y (by simp[c]))]
   have o:x ∉ L:=fun b=>h (List.any_eq_true.2 ⟨x,b,WideAt.sameKey_self m⟩)
   constructor
   ·rintro ⟨f,g⟩
    refine ⟨⟨fun b=>g x b (by simp),f⟩,fun y c=>?_⟩
    rcases List.mem_cons.1 c with rfl|c
    ·exact o
    ·exact fun b=>g y c (by simp[b])
   ·rintro ⟨⟨f,g⟩,h3⟩
    refine ⟨g,fun y c b=>?_⟩
    rcases List.mem_append.1 b with b|b
    ·exact h3 y (by simp[c]) b
    ·obtain rfl:y=x:=by simpa using b
     exact f c
theorem zl0 {K:GV→Lit}(d:zj8 K){l:List GV}(c:∀ g∈l,gF g=0∧zaF g.2.2.2):(l.map K).Nodup↔l.Nodup:=by
 rw[List.nodup_iff_pairwise_ne,List.nodup_iff_pairwise_ne,List.pairwise_map]
 constructor
 ·intro h;exact h.imp (fun {a b} hne e=>hne (by rw[e]))
 ·intro h;exact List.Pairwise.imp_of_mem (fun {a b} ha hb hne e=>hne (zs8 d (c a ha).1 (c a ha).2 (c b hb).1 (c b hb).2 e)) h
theorem zpr {K:GV→Lit}(c:zj8 K){l:List GV}(b:∀ g∈l,gF g=0∧zaF g.2.2.2):Maps.size (setOf (H:=Unit) (.agg []) (l.map K))=l.length↔l.Nodup:=by
 have d:∀ x∈l.map K,WideAt.IsKeyLit x:=by
  intro x j;obtain ⟨g,f,rfl⟩:=List.mem_map.1 j;exact zs5.key (c g (b g f).1 (b g f).2)
 rw[size_setOf _ _ d];have h:=zmN (l.map K) [] d;simp only[List.length_nil,Nat.zero_add,List.length_map,List.not_mem_nil,not_false_eq_true,implies_true,and_true] at h;rw[h,zl0 c b]
variable {w:World}{ops:Array Oper}{Q:Exit→Act→World→Prop}{a:Act}
theorem zeq {rest:List Oper}{o:Oper}(q:Region.wanted o (yielded ops a.tmps)=true)(ty:TypeId)(x:Operand)(m:o.op=.load ty x)
  (g:Nat) (r:a.eval x=(P_ g 0)) (t:TypeId) (cs:Array Value) (b:Nat×Nat) (d:TypeDesc) (j:w.heap[g]? = some (.cells cs t b))
  (p:prog.underlying ty=some d) (f:(match d with|.struct _|.array _ _=>true|_=>false)=true) (l:(prog.info? ty).map (·.size)=some cs.size)
  (h:wpList prog ops Q rest (a.put o.dst (.agg cs)) w):wpList prog ops Q (o::rest) a w:=by
 refine wpList_step fun K c=>?_;rw[if_pos q];exact wp_load_row ty x m g r t cs b d j p (by cases d<;>first|exact f|rfl) l (c _ _ h)
theorem zJ {o:Oper}(ty:TypeId)(x:Operand)(l:o.op=.load ty x)
  (g:Nat) (p:a.eval x=(P_ g 0)) (t:TypeId) (cs:Array Value) (b:Nat×Nat) (d:TypeDesc) (f:w.heap[g]? = some (.cells cs t b))
  (m:prog.underlying ty=some d) (c:(match d with|.struct _|.array _ _=>true|_=>false)=true) (j:(prog.info? ty).map (·.size)=some cs.size) :
  (execOp a.eval o).run prog w=.ok (.value (.agg cs)) w:=by
 unfold execOp;simp only[l,p,Instr.loadAt,Instr.sureAddr,Sem.run_bind,Sem.run_pure,Result.andThen_ok,run_loadVar_row w g t ty cs b d f m (by cases d<;>first|exact c|rfl) j]
end Go.Proofs.YtdepbohhmfkjgaaGreatDoor
