import Derived.Test.YtpnpikpmdfipfaaGreatDoorPk14
set_option maxRecDepth 100000
set_option maxHeartbeats 4000000
namespace Go.Proofs.YtpnpikpmdfipfaaGreatDoor
open Go.RowKit Tryz
theorem zjs (d au rd:Int)(bs:L_)(f:Q_)(n c:Nat)(w:World)(H:n=bs.length)(I:zg w f c bs)(G:bs.length<=140737488355328) :
  Calls prog 177 #[.agg #[I_ d,I_ au,I_ rd,.slice f n c]] w λe w'=>∃j rc,e=.returned (.agg #[I_ d,I_ au,I_ rd,.slice j bs.length rc])/\zg w' j rc bs/\(∀b l,j=some (p_ b l)->w.heap.size<=b/\b<w'.heap.size)/\B_ w w':=by
 subst H;refine kO_ ?A0 ?_;exact Obj.cells #[I_ d,I_ au,I_ rd,.slice f bs.length c] 194;refine kO_ ?B0 ?_;exact Obj.cells #[I_ 0,I_ 0,I_ 0,O_] 194;have p:B_ w ((w.alloc ?A0).alloc ?B0):=((bR_ _ _).alloc (nR_ _) _).alloc (by simp) _;have y:=hX_ w ?A0 ?B0;have s:((w.alloc ?A0).alloc ?B0).heap[w.heap.size+1]? = some (.cells #[I_ 0,I_ 0,I_ 0,O_] 194 (0,0)):=by
  have:=hN_ (w.alloc ?A0) ?B0;rw[zG]at this;exact this
 go_in;go_wp2_with fail
 generalize (w.alloc ?A0).alloc ?B0=t at p y s|-;refine(zeH bs f _ c t rfl (I.below p) G).mono ?_;rintro e Z⟨j,rc,E,m,u,q⟩;subst E;dsimp only;have X:=ze s;have o:=zk q y;have g:=zk q s;have J:=zb o 0 (I_ d) rfl;have L:=zb o 1 (I_ au) rfl;have M:=zb o 2 (I_ rd) rfl;have N:=zb o 3 (.slice f bs.length c) rfl;have z:=zb g 0 _ rfl;have A:=zb g 1 _ rfl;have B:=zb g 2 _ rfl;have C:=zb g 3 _ rfl;have R:=zd g 0;have T:=zd g 1;have U:=zd g 2;have V:=zd g 3;have O:=zd o 3;have Y:w.heap.size≠w.heap.size+1:=by omega
 go_wp2_with fail
 have D:=zm p q;refine bodyPost_ret (v:=.agg #[I_ d,I_ au,I_ rd,.slice j bs.length rc]) (by simp[results,results177,go_sem,z,A,B,C]) rfl ⟨j,rc,rfl,?_,?_,?_⟩;refine⟨m.le,m.max,m.some,m.nil,?_⟩;rcases m.bytes with r|⟨b,l,e,r⟩;exact .inl r;have:=(u b l e).1;exact .inr ⟨b,l,e,λk F=>((World.cell?_setCell_far _ _ _ _ (by show w.heap.size+1≠b;omega)).trans <| (World.cell?_setCell_far _ _ _ _ (by show w.heap.size+1≠b;omega)).trans ((World.cell?_setCell_far _ _ _ _ (by show w.heap.size+1≠b;omega)).trans ((World.cell?_setCell_far _ _ _ _ (by show w.heap.size+1≠b;omega)).trans (World.cell?_setCell_far _ _ _ _ (by show w.heap.size≠b;omega))))).trans (r k F)⟩;intro b l e;have:=u b l e
 simp;omega
 exact((((D.setCell (nR_ _) _).setCell (lS_ _) _).setCell (lS_ _) _).setCell (lS_ _) _).setCell (lS_ _) _
variable {w w':World}{B:Nat}{qs:List zi}{g:GV}
theorem zsk {v:Value}(h:z8 w B v qs)(d:B_ w w'):z8 w' B v qs:=by
 intro p j;obtain⟨f,g⟩:=h p j;refine⟨f.below d,λl m e=>?_⟩;obtain⟨a,b,c⟩:=g l m e;have:=d.size
 first|exact⟨a,by omega,c⟩|exact⟨a,b,by omega⟩
theorem zut (w:World):ze9 w none 0 []:=⟨nR_ _,by decide,by decide,.inl rfl,⟨.inl rfl,λp b=>by cases b⟩⟩
theorem zuu (h:gF g=0):g.2.2.2.length=32:=by
 unfold gF zhD zbf at h
 split at h
 cases h
 split at h
 cases h
 split at h
 cases h;omega
variable {ra:Q_}
def zwL (B:Nat)(w':World)(e:Ending)(l:List GV)(g:GV):Prop:=∃ra rc us er,e=.returned (.tuple #[.slice ra (List.length us) rc,I_ er])/\zec l g=(zA us,er)/\ze9 w' ra rc us/\za1 B ra (gps us)
theorem zl2 (B:Nat):za1 B none (gps []):=⟨(λ_ _ e=>by cases e),(λp b=>by cases b)⟩
theorem zl3 {d:Nat}(h:za1 B ra qs)(f:d<=B):za1 d ra qs:=⟨λb c e=>nT_ f (h.row b c e),λp g b c e=>nT_ f (h.each p g b c e)⟩
theorem zyG (b:List Sg)(V:Q_)(n Z:Nat)(t:Sg)(w:World)(hn:n=b.length)(hl:b.length<=2932031007399)(r:ze9 w V Z b)(ht:zg w t.p.sa t.p.cap t.p.bs/\zaN t.p.bs) :
  Calls prog 137 #[.slice V n Z,.agg #[I_ t.nd,I_ t.au,I_ t.rd,.slice t.p.sa t.p.bs.length t.p.cap]] w λe w'=>zwL w.heap.size w' e (zA b) t.v/\B_ w w':=by
 subst hn;obtain⟨i,hi,ao,ap,aq⟩:=info_parts zv8;refine kO_ ?A0 ?_;exact Obj.cells #[I_ t.nd,I_ t.au,I_ t.rd,.slice t.p.sa t.p.bs.length t.p.cap] 194;have M:=(bR_ w.heap.size w).alloc (nR_ _) ?A0;have r0:=hN_ w ?A0;go_in;go_wp2_with fail
 generalize w.alloc ?A0=W0 at M r0|-;have J:=zjm b V _ Z W0 rfl r.small (r.slots.below M);rcases zmZ (zA b)with h0|h0;rw[h0]at J
 rotate_left
 have y:Hid (zec (zA b) t.v=([],12)):=zvr h0;rw[h0]at J;clear h0
 rotate_left
 all_goals
  refine J.mono ?_;rintro _ w1⟨rfl,ab⟩;dsimp only
 .clear J;have af:=zm M ab;have T:=zk ab r0;have B:=zb T 0 _ rfl;have C:=zb T 1 _ rfl;have D:=zb T 2 _ rfl;have E:=zb T 3 _ rfl;have L:=zgF t.nd t.au t.rd t.p.sa t.p.bs.length t.p.cap w1
  change Calls _ _ _ _ λe w'=>e=.returned (I_ (gF t.v))/\_ at L
  have Y:Hid (zbF (zA b)=0):=h0;clear h0;by_cases hg:gF t.v=0;rw[hg]at L;have HG:Hid (gF t.v=0):=hg;have aM:t.p.bs.length<=140737488355328:=by
   have:t.p.bs.length=32:=zuu hg;omega
  have HE:Hid (∀s∈b,s.p.bs.length<=140737488355328):=by
   show ∀s,_;intro s l;have:s.p.bs.length=32:=zuu ((zpT Y.out).1 s.v (mM_.2 ⟨s,l,rfl⟩));omega
  clear hg
  rotate_left
  have y:Hid (zec (zA b) t.v=([],gF t.v)):=ztq Y.out hg;generalize gF t.v=x at*;have hx:(x != 0)=true:=by simpa using hg
  rotate_left
  all_goals
   go_wp2_with fail
   refine L.mono ?_;rintro _ w2⟨rfl,ac⟩;dsimp only
  .clear L B C D E;have N:=zm af ac;have r2:=zk ac T;go_wp2_with (at_make;refine wpList_make_own _ rfl _ _ 28 rfl w2.heap.size 194 i (.agg #[I_ 0,I_ 0,I_ 0,O_]) 4 underlying28 hi ao ap .i64 .i64 _ (b.length+1) rfl rfl (by go_num) (by rw[aq];omega) (by unfold maxLen;omega) (nR_ _) ?_;intro w3 aF aE)
   go_wp2_with fail
   go_loopw [27,8] (λj v wr=>∃(k:Nat) (f:List Sg),k<=b.length/\j=I_ k/\zA f=(zA b).take k/\wr.ownsRow w2.heap.size 194 4 v k (gv f)/\z8 wr w2.heap.size v (gps f)/\B_ w2 wr) (λj _ _=>b.length-(intOf j).toNat)
   case atStart=>exact⟨0,[],nZ_ _,rfl,rfl,aF,(λp r=>by cases r),zgP aE⟩
   case round=>
    obtain⟨k,f,hk,rfl,hS,ho,ai,O⟩:=hrel;have H:=zm N O;by_cases hlt:k<b.length
    .have an:=r.slots.below H;obtain⟨m,o,rfl,hc⟩:∃m o,V=some (p_ m o)/\∀j (h:j<b.length),C_ wr m (o+j*4) (I_ (b[j]).nd)/\C_ wr m (o+j*4+1) (I_ (b[j]).au)/\C_ wr m (o+j*4+2) (I_ (b[j]).rd)/\C_ wr m (o+j*4+3) (.slice (b[j]).p.sa (b[j]).p.bs.length (b[j]).p.cap):=by
      rcases an.cells with h|h;rw[h]at hlt;simp at hlt;exact h
     obtain⟨B,C,D,E⟩:=hc k hlt;obtain⟨hx,aP⟩:=an.each (b[k]) (gM_ hlt);have aN:=HE.out (b[k]) (gM_ hlt);have aL:Hid ((zA b).take (k+1)=(zA b).take k++[(b[k]).v]):=by
      show _=_;rw[tS_ (by rw[zfM];exact hlt)];simp[zA]
     have aO:(k:Int)<b.length:=by omega
     clear hc an;generalize b[k]=s at*;have ay:=zC wr (.cells #[I_ s.nd,I_ s.au,I_ s.rd,.slice s.p.sa s.p.bs.length s.p.cap] 194);go_wp2_with fail
     refine(zjs s.nd s.au s.rd s.p.bs s.p.sa _ s.p.cap _ rfl (hx.below ay) aN).mono ?_;rintro e X⟨g,rc,c,aJ,ad,d⟩;subst c;dsimp only;rw[zG]at ad;replace d:=zS d;have aa:=zm O d;have R:=zw ho d;have am:=zag X [I_ s.nd,I_ s.au,I_ s.rd,.slice g s.p.bs.length rc] 194;go_wp2_with (at_builtin;refine wpList_append_own_at _ rfl _ _ 28 rfl w2.heap.size 194 i (.agg #[I_ 0,I_ 0,I_ 0,O_]) 4 48 underlying28 hi ao ap aq rfl (by decide) _ k _ rfl (oA_ R _) (p_ X.heap.size 0) 1 1 [I_ s.nd,I_ s.au,I_ s.rd,.slice g s.p.bs.length rc] rfl rfl am (by intro u z;simp at z;rcases z with rfl|rfl|rfl|rfl<;>rfl) (by unfold maxLen;omega) (by omega) (zB aa.size _) ?_;intro v1 I aG av _ aj)
     have G:=zV.of av aj;have aC:=ai.more_at (q:=⟨g,rc,s.p.bs⟩) O.size ho d (λm o e=>by have:=ad m o e;omega) aJ G;have F:=Below.grown (aa.alloc aa.size _) av (zB aa.size _) (λq e=>(R.lt q e).1);go_wp2_with fail
     go_roundw
     case rel=>
      have hR:∃(k':Nat) (ar:List Sg),k'<=b.length/\(Value.int .i64 ((k:Int)+1))=I_ k'/\zA ar=(zA b).take k'/\I.ownsRow w2.heap.size 194 4 v1 k' (gv ar)/\z8 I w2.heap.size v1 (gps ar)/\B_ w2 I:=
       ⟨k+1,f++[⟨s.nd,s.au,s.rd,⟨g,rc,s.p.bs⟩⟩],by omega,by go_num,by rw[aL.out,<-hS];simp[zA,Sg.v],by rw[zq9];exact aG,by simpa[gps]using aC,F⟩
      first|exact hR|((repeat apply Exists.intro);exact⟨hR,rfl⟩)
     case measure=>simp[intOf];omega
    obtain rfl:k=b.length:=by omega
    rw[tL_ (by rw[zfM];exact nR_ _)]at hS;have ae:Hid (zA f=zA b):=hS;clear hS;have A:=zmf b V _ Z t wr rfl r.small (r.slots.below H) ⟨ht.1.below H,ht.2⟩;have U:=zk O r2;have B:=zb U 0 _ rfl;have C:=zb U 1 _ rfl;have D:=zb U 2 _ rfl;have E:=zb U 3 _ rfl;have HU:Hid (∀s∈f,zaN s.p.bs):=zyF ae.out (λs l=>(r.slots.each s l).2);by_cases hm:t.v∈zA b;rw[dT_ hm]at A;have y:Hid (zec (zA b) t.v=(zA f,0)):=by
     show _=_;rw[zvs Y.out HG.out hm,ae.out]
    rotate_left
    rw[dF_ hm]at A;have y:Hid (∀us:List Sg,zA us=zA f++[t.v]->zec (zA b) t.v=(zA us,0)):=by
     show ∀us,_;intro us z;rw[zvt Y.out HG.out hm,z,ae.out]
    rotate_left
    all_goals
     clear hm;go_wp2_with fail
     refine A.mono ?_;rintro _ X⟨rfl,d⟩;dsimp only;clear A B C D E
    .obtain⟨g,rc,rfl,al,hL,ag⟩:=zj6 ho ai HU.out;have ah:=(hL (by omega)).below d;go_wp2_with fail
     go_ret2;refine⟨⟨g,rc,f,0,?_,y.out,ah,zl3 ag N.size⟩,H.trans (d.mono H.size)⟩;rw[<-al];rfl
    have aA:=zm H d;have r4:=zk d U;have B:=zb r4 0 _ rfl;have C:=zb r4 1 _ rfl;have D:=zb r4 2 _ rfl;have E:=zb r4 3 _ rfl;have ax:=zw ho d;have au:=zm O d;have aB:z8 X w2.heap.size _ (gps f):=zsk ai d;go_wp2_with fail
    refine(zjs t.nd t.au t.rd t.p.bs t.p.sa _ t.p.cap _ rfl (ht.1.below aA) aM).mono ?_;rintro e I⟨g,rc,c,aK,ad,ak⟩;subst c;dsimp only;have F:=zm au ak;have R:=zw ax ak;have am:=zag I [I_ t.nd,I_ t.au,I_ t.rd,.slice g t.p.bs.length rc] 194;go_wp2_with (at_builtin;refine wpList_append_own_at _ rfl _ _ 28 rfl w2.heap.size 194 i (.agg #[I_ 0,I_ 0,I_ 0,O_]) 4 48 underlying28 hi ao ap aq rfl (by decide) _ b.length _ rfl (oA_ R _) (p_ I.heap.size 0) 1 1 [I_ t.nd,I_ t.au,I_ t.rd,.slice g t.p.bs.length rc] rfl rfl am (by intro u z;simp at z;rcases z with rfl|rfl|rfl|rfl<;>rfl) (by unfold maxLen;omega) (by omega) (zB F.size _) ?_;intro v1 w6 aH aw _ aj)
    have G:=zV.of aw aj;have aD:=aB.more_at (q:=⟨g,rc,t.p.bs⟩) au.size ax ak (λm o e=>by have:=ad m o e;omega) aK G;have az:=Below.grown (F.alloc F.size _) aw (zB F.size _) (λq e=>(R.lt q e).1);have aI:w6.ownsRow w2.heap.size 194 4 v1 (b.length+1) (gv (f++[⟨t.nd,t.au,t.rd,⟨g,rc,t.p.bs⟩⟩])):=by rw[zq9];exact aH
    obtain⟨qa,qc,rfl,al,hL,ag⟩:=zj6 aI (by simpa[gps]using aD) (λs l=>by
     rcases mA_.1 l with l|l
     .exact HU.out s l
     .rw[mS_]at l;subst l;exact ht.2)
    have ah:=hL (by omega);go_wp2_with fail
    go_ret2;refine⟨⟨qa,qc,_,0,?_,y.out _ (by simp[zA,Sg.v]),ah,zl3 ag N.size⟩,N.trans (az.mono N.size)⟩;rw[<-al];rfl
  go_wp2_with fail
  go_ret2;exact⟨⟨none,0,[],x,rfl,y.out,zut _,zl2 _⟩,af.trans (ac.mono af.size)⟩
 go_wp2_with fail
 go_ret2;exact⟨⟨none,0,[],12,rfl,y.out,zut _,zl2 _⟩,M.trans (ab.mono M.size)⟩
variable {U:Nat->Bool}{rc:Nat}
theorem ze9.hid {m:List Sg}(h:ze9 w ra rc m)(o:za1 B ra (gps m))(p:∀b,B<=b->U b=false):ze9 (zq U w) ra rc m:=by
 refine⟨h.le,h.max,h.small,h.some,⟨?_,λs l=>⟨zci (h.slots.each s l).1 (λc f e _=>p c (o.each s.p (mM_.2 ⟨s,l,rfl⟩) c f e)),(h.slots.each s l).2⟩⟩⟩;rcases h.slots.cells with g|⟨c,f,e,g⟩;exact .inl g;have k:(zq U w).heap[c]? = w.heap[c]?:=zdr (p c (o.row c f e));exact .inr ⟨c,f,e,λj d=>⟨(cB_ k).trans (g j d).1,(cB_ k).trans (g j d).2.1,(cB_ k).trans (g j d).2.2.1,(cB_ k).trans (g j d).2.2.2⟩⟩
theorem zv9 (s:Sg)(d:Int)(t:Sl)(m o:Nat)(w:World)(q:zg w s.p.sa s.p.cap s.p.bs/\zaN s.p.bs)(D:zg w t.p.sa t.p.cap t.p.bs)(F:zaN t.p.bs)(z:R_ w m #[I_ d] 3)(A:R_ w o (srow_ t) 63) :
  Calls prog 135 (#[.agg #[I_ s.nd,I_ s.au,I_ s.rd,.slice s.p.sa s.p.bs.length s.p.cap]]++#[P_ m 0,(P_ o 0)]) w λe w'=>e=.returned (.bool (decide (s.v=(d,t.v))))/\B_ w w':=by
 refine kO_ ?A0 ?_;exact Obj.cells #[I_ s.nd,I_ s.au,I_ s.rd,.slice s.p.sa s.p.bs.length s.p.cap] 194;have c:=zC w ?A0;have g:=hN_ w ?A0;go_in;go_upto_region 1 with fail
 generalize w.alloc ?A0=u at c g|-;have E:=zk c z;have l:=zk c A;have y:=zb g 0 _ rfl;have G:=zb g 1 _ rfl;have H:=zb g 2 _ rfl;have I:=zb g 3 _ rfl;have J:=zb E 0 _ rfl;have L:=zb l 0 _ rfl;have M:=zb l 1 _ rfl;have N:=zb l 2 _ rfl;by_cases e1:s.nd=d
 .have j:Hid (decide ((⟨s.au,s.rd,s.p⟩:Sl).v=t.v)=decide (s.v=(d,t.v))):=by
   show _=_;refine decide_eq_decide.2 ?_;simp[Sl.v,Sg.v,e1]
  have f:=znc ⟨s.au,s.rd,s.p⟩ t u (q.1.below c) (D.below c) q.2 F;rw[j.out]at f;dsimp only [srow_]at f;rw[e1]at y;generalize p:decide (s.v=(d,t.v))=b at f;have r:Hid _:=p;clear e1 j p;go_wp2_with fail
  refine f.mono ?_;rintro _ R⟨rfl,B⟩;dsimp only;clear f;go_wp2_with fail
  go_ret;exact⟨by rw[r.out];rfl,c.trans (B.mono c.size)⟩
 have j:Hid (decide (s.v=(d,t.v))=false):=by
  show _=_;refine dF_ (λe=>e1 ?_);exact cA_ Prod.fst e
 have O:(s.nd == d)=false:=by simpa using e1
 clear e1;go_wp2_with fail
 go_ret;exact⟨by rw[j.out];rfl,c⟩
theorem zxz (c:List Sg)(d:Int)(t:Sl):(c.any λs=>decide (s.v=(d,t.v)))=decide ((d,t.v)∈zA c):=by
 rw[Bool.eq_iff_iff,aT_,dE_,zA,mM_]
 constructor
 all_goals rintro⟨s,b,h⟩;exact⟨s,b,by simpa using h⟩
theorem zpb (m:FM)(c:Int)(t:Sl)(w:World)(U:Nat->Bool)(F:Nat)(fc:X_)(h:zJ w U F fc m)(ht:zg (zq U w) t.p.sa t.p.cap t.p.bs)(ut:zaN t.p.bs)(hl:m.gs.length<=2932031007399) :
  Calls prog 86 #[P_ F 76,I_ c,.agg (srow_ t)] w λe w'=>(∃v,e=.returned v)/\zaa w U F w' { m.v with no:=⟨m.bad,zfS (zA m.gs) (c,t.v)⟩ }:=by
 have aq:∀(fn:Fn) (first ab:X_) (w:World),(Instr.makeFunc fn first ab).run prog w=.ok (.func fn first ab) w:=λ_ _ _ _=>rfl;refine kW_ ?B0 ?_;exact(w.alloc (.cells #[I_ c] 3)).alloc (.cells (srow_ t) 63);have q:B_ w ?B0:=((bR_ _ _).alloc (nR_ _) _).alloc (by simp) _;have H:=hX_ w (.cells #[I_ c] 3) (.cells (srow_ t) 63);have I:=hY_ w (.cells #[I_ c] 3) (.cells (srow_ t) 63);go_in;go_upto_region 2 with fail
 generalize ?B0=C at q H I|-;have M:=h.below q;have X:=(ht.sub (h.later q)).sub (zK U C);generalize w.heap.size+1=z at I|-;generalize w.heap.size=J at H|-;have ae:=M.cell 77 M.c77;have y:=(M.sg.sub (zK U C)).tab;have o:=zfa 135 #[P_ J 0,(P_ z 0)] (λs=>decide (s.v=(c,t.v))) (eO_ func135) m.gs m.ga _ m.gc C rfl (by omega) y.slots (λs hs W E=>zv9 s c t J z W ⟨(y.slots.each s hs).1.below E,(y.slots.each s hs).2⟩ (X.below E) ut (zk E H) (zk E I));rw[zxz]at o;by_cases hm:(c,t.v)∈zA m.gs;rw[dT_ hm]at o;have A:Hid (zfS (zA m.gs) (c,t.v)=zA m.gs):=iP_ hm;clear hm
 rotate_left
 rw[dF_ hm]at o;have A:Hid (zfS (zA m.gs) (c,t.v)=if(zec (zA m.gs) (c,t.v)).2=0 then(zec (zA m.gs) (c,t.v)).1 else zA m.gs):=iN_ hm;clear hm;refine kV_ ?A0 ?_;exact Value.agg #[I_ c,I_ t.au,I_ t.rd,.slice t.p.sa t.p.bs.length t.p.cap];refine kV_ ?C0 ?_;exact Value.slice m.ga m.gs.length m.gc;have ad:Hid (∀V:World,B_ C V->Calls prog 137 #[?C0,?A0] V λe w'=>zwL V.heap.size w' e (zA m.gs) (c,t.v)/\B_ V w'):=by
  show ∀V,_;intro V hV;exact zyG m.gs m.ga _ m.gc ⟨c,t.au,t.rd,t.p⟩ V rfl hl (y.below hV) ⟨X.below hV,ut⟩
 clear y X ht
 rotate_left
 all_goals
  go_wp2_with fail
  refine o.mono ?_;rintro _ w1⟨rfl,p⟩;dsimp only
 .clear o;go_wp2_with fail
  refine bP_ (results_none rfl _ _ _) rfl ?_;exact⟨⟨_,rfl⟩,by rw[A.out];exact zaa.quiet h (q.trans (p.mono q.size))⟩
 clear o ae;have N:=zm q p;have D:=h.below N;have r0:=zk p H;have r1:=zk p I;go_upto_region 3 with fail
 have u:=dB_ w1;have Y:=dQ_ r0;have Z:=dQ_ r1;refine wR_ (S:=λw'=>R_ w' J #[I_ c] 3/\R_ w' z (srow_ t) 63) (by kernel_rfl) ⟨Y,Z⟩ (λg=>?_);generalize w1.drew=B at u Y Z g|-;refine tks_ 3 [(0,17,(P_ F 76)),(1,18,(P_ F 76)),(2,19,(P_ F 77))] g ?_;simp only[tkf_,zf];refine tQ_ 4 21 (I_ c) rfl rfl (Or.inl ⟨by rfl,λw0 T=>by have k0:=zb T.1 0 _ rfl;go_simp⟩) g ?_;simp only[zf];refine tQ_ 5 22 (.agg (srow_ t)) rfl rfl (Or.inl ⟨by rfl,λw0 T=>zL 63 _ rfl z rfl 63 (srow_ t) (0,0) _ T.2 underlying63 rfl sSl⟩) g ?_;simp only[zf];refine zU 6 23 ?A0 rfl rfl g ?_;simp only[zf];refine zE 3 rfl (λK9 R=>?_);have ak:=(D.below u).cell 77 D.c77;refine zy rfl 20 rfl ?C0 B (by go_simp) ?_;refine R.out _ _ g (λg=>?_);simp only[zf];refine zE 7 rfl (λK9 R=>?_);refine zj rfl 24 rfl 137 [.tmp 20,.tmp 23] #[28,194] rfl [?C0,?A0] rfl (eO_ func137) (λv w'=>∃l rc d f,v=.tuple #[.slice l d.length rc,I_ f]/\zec (zA m.gs) (c,t.v)=(zA d,f)/\ze9 w' l rc d/\za1 B.heap.size l (gps d)/\B_ B w') ((ad.out B (p.trans (u.mono p.size))).mono (λe w' k=>by obtain⟨⟨l,rc,d,f,j,D,r,h3⟩,h4⟩:=k;exact⟨_,j,l,rc,d,f,rfl,D,r,h3,h4⟩)) ?_;rintro v V1⟨l,rc,d,f,rfl,ac,ag,ai,G⟩;have ao:=G;have aj:=zm u G;have al:=zk G Y;have am:=zk G Z;have aa:Hid _:=ac;clear ac;refine R.out _ _ ⟨al,am⟩ (λg=>?_);simp only[zf];refine tks_ 5 [(8,16,.tuple #[.slice l d.length rc,I_ f]),(9,25,.slice l d.length rc),(10,26,I_ f),(11,7,.slice l d.length rc),(12,8,I_ f)] g ?_;simp only[tkf_,zf];clear g;refine wD_ (by kernel_rfl) ?_ _;have O:=zm N aj;by_cases j:f=0
 .subst j;have L:Hid (zfS (zA m.gs) (c,t.v)=zA d):=by show _=_;rw[A.out,aa.out];rfl
  have af:=zm N u;have ah:zdj (zq U V1) l rc d:=⟨ag.hid ai (λb hb=>h.bnd.new (nT_ af.size hb))⟩;have r:=h.below O;have ak:=r.cell 77 r.c77;have an:=r.free 77;go_wp2_with fail
  go_end0;exact⟨⟨_,rfl⟩,by rw[L.out];exact h.put_sg O ah⟩
 have ap:(f == 0)=false:=by simpa using j
 have L:Hid (zfS (zA m.gs) (c,t.v)=zA m.gs):=by show _=_;rw[A.out,aa.out];exact iN_ j
 clear j;go_wp2_with fail
 go_end0;exact⟨⟨_,rfl⟩,by rw[L.out];exact zaa.quiet h O⟩
theorem zuv (m:FM)(a:MV)(w:World)(U:Nat->Bool)(F:Nat)(u:X_)(h:zJ w U F u m)(p:GM (zq U w) a)(L:m.gs.length<=2932031007399) :
  Calls prog 49 #[P_ F 76,.agg (mrow_ a.m)] w λe w'=>(∃v,e=.returned v)/\zaa w U F w' { m.v with no:=m.v.no.sign a.c }:=by
 have j:=zC w (.cells (mrow_ a.m) 90);have c:=hN_ w (.cells (mrow_ a.m) 90);go_in;go_upto_region 1 with fail
 generalize w.alloc (.cells (mrow_ a.m) 90)=g at j c|-;have G:=h.below j;have I:=p.sub (h.later j);have Y:Hid (U w.heap.size=false):=h.bnd.new (nR_ _);generalize w.heap.size=B at c Y|-;have d:=zb c 2 _ rfl;have f0:=zb c 0 _ rfl;obtain⟨af,O⟩:=zlc p;have o:∀k:Int,a.m.ki=k->(k=1\/k=4\/k=5)->{ m.v with no:=m.v.no.sign a.c }=m.v:=λk hk ag=>by
  have e:m.v.no.sign a.c=m.v.no:=by
   unfold No.sign;rw[iN_ (show ¬a.c.ki=2 by show ¬a.m.ki=2;omega),iN_ (show ¬a.c.ki=3 by show ¬a.m.ki=3;omega)]
  rw[e]
 rcases O with⟨k,r⟩|⟨k,r⟩|⟨k,r⟩|⟨k,r⟩|k;replace d:C_ g B 2 (I_ 1):=by rw[<-k];exact d
 have f:Hid _:=o 1 k (by omega)
 rotate_left
 replace d:C_ g B 2 (I_ 2):=by rw[<-k];exact d
 have ad:(⟨a.m.hau,a.m.hrd,a.m.hba,a.m.hbc,a.bl,a.m.hpa,a.m.hpc,a.pl,none,0,[]⟩:Ct).v.hf=0:=by rw[<-Ct.hf_v];exact r
 have f:Hid (m.v.no.sign a.c=⟨m.bad,zfS (zA m.gs) (a.m.fr,(⟨a.m.hau,a.m.hrd,a.m.hba,a.m.hbc,a.bl,a.m.hpa,a.m.hpc,a.pl,none,0,[]⟩:Ct).v.slot)⟩):=by
  show _=_;unfold No.sign;rw[iP_ (show a.c.ki=2 from k),iP_ (show a.c.h.hf=0 from ad)]
  rfl
 have C:=zb c 6 _ rfl;have D:=zb c 7 _ rfl;have E:C_ g B 8 (.slice a.m.hba a.bl.length a.m.hbc):=by rw[<-p.lies.at'.e2];exact zb c 8 _ rfl
 have T:C_ g B 9 (.slice a.m.hpa a.pl.length a.m.hpc):=by rw[<-p.lies.at'.e3];exact zb c 9 _ rfl
 have z:=zi1 a.m.hau a.m.hrd a.m.hba a.m.hbc a.bl a.m.hpa a.m.hpc a.pl g (I.shp.h.sub (zK _ _)) r ((G.nd 0 (by decide)).tabs.sub (zK _ _));have aa:Hid ((zaE a.m.hau a.m.hrd a.bl a.pl).length=32):=zbD _ _ _ _;have ab:Hid (zaN (zaE a.m.hau a.m.hrd a.bl a.pl)):=zkk _ _ _ _;have ac:Hid ((a.m.hau,a.m.hrd,zaE a.m.hau a.m.hrd a.bl a.pl)=(⟨a.m.hau,a.m.hrd,a.m.hba,a.m.hbc,a.bl,a.m.hpa,a.m.hpc,a.pl,none,0,[]⟩:Ct).v.slot):=by
  show _=_;rw[CV.slot,<-Ct.d_v]
  rfl
 rotate_left
 replace d:C_ g B 2 (I_ 3):=by rw[<-k];exact d
 have f:Hid (m.v.no.sign a.c=⟨m.bad,zfS (zA m.gs) (a.m.fr,(⟨a.m.sau,a.m.srd,⟨a.m.sda,a.m.sdc,a.ds⟩⟩:Sl).v)⟩):=by
  show _=_;unfold No.sign;rw[iN_ (show ¬a.c.ki=2 by show ¬a.m.ki=2;omega),iP_ (show a.c.ki=3 from k)]
  rfl
 have C:=zb c 10 _ rfl;have D:=zb c 11 _ rfl;have E:C_ g B 12 (.slice a.m.sda a.ds.length a.m.sdc):=by rw[<-p.lies.dn];exact zb c 12 _ rfl
 have l:=zpb m a.m.fr (⟨a.m.sau,a.m.srd,⟨a.m.sda,a.m.sdc,a.ds⟩⟩:Sl) g U F u G I.lies.dig p.u8.sd L;dsimp only [srow_]at l
 rotate_left
 replace d:C_ g B 2 (I_ 4):=by rw[<-k];exact d
 have f:Hid _:=o 4 k (by omega)
 rotate_left
 replace d:C_ g B 2 (I_ 5):=by rw[<-k];exact d
 have f:Hid _:=o 5 k (by omega)
 rotate_left
 all_goals
  clear k o;go_wp2_with fail
 .go_end0;exact⟨⟨_,rfl⟩,by rw[f.out];exact zaa.quiet h j⟩
 .refine z.mono ?_;rintro e y⟨b,q,Z,ae,M,J⟩;subst q;dsimp only;clear z C D E T d;have X:=zm j J;refine kO_ ?A0 ?_;exact Obj.cells #[I_ a.m.hau,I_ a.m.hrd,.slice (some (p_ b 0)) 32 32] 63;have s:=zC y ?A0;have t:=hN_ y ?A0;have r0:=zk J c;go_upto_region 4 with fail
  generalize y.alloc ?A0=A at s t|-;have H:=zm X s;have V:=h.below H;have r2:=zk s r0;have g0:=zb r2 0 _ rfl;have e0:=zb t 0 _ rfl;have e1:=zb t 1 _ rfl;have e2:=zb t 2 _ rfl;have N:=zci (M.below s) (λsb so e _=>by cases e;exact h.bnd.new (nT_ j.size Z));have l:=zpb m a.m.fr ⟨a.m.hau,a.m.hrd,⟨some (p_ b 0),32,zaE a.m.hau a.m.hrd a.bl a.pl⟩⟩ A U F u V N ab.out L;dsimp only [srow_]at l;rw[aa.out]at l;have R:Hid (m.v.no.sign a.c=⟨m.bad,zfS (zA m.gs) (a.m.fr,(⟨a.m.hau,a.m.hrd,⟨some (p_ b 0),32,zaE a.m.hau a.m.hrd a.bl a.pl⟩⟩:Sl).v)⟩):=by
   show _=_;rw[f.out,<-ac.out]
   rfl
  clear M N f;go_wp2_with fail
  refine l.mono ?_;rintro e w3⟨⟨v,q⟩,hF⟩;subst q;dsimp only;clear l;go_wp2_with fail
  go_end0;exact⟨⟨_,rfl⟩,by rw[R.out];exact zaa.after (FTo.below U H) hF⟩
 .refine l.mono ?_;rintro e w3⟨⟨v,q⟩,hF⟩;subst q;dsimp only;clear l;go_wp2_with fail
  go_end0;exact⟨⟨_,rfl⟩,by rw[f.out];exact zaa.after (FTo.below U j) hF⟩
 .go_end0;exact⟨⟨_,rfl⟩,by rw[f.out];exact zaa.quiet h j⟩
 go_end0;exact⟨⟨_,rfl⟩,by rw[f.out];exact zaa.quiet h j⟩
theorem znr (m:FM)(a:MV)(w:World)(U:Nat->Bool)(F:Nat)(fc:X_)(h:zJ w U F fc m)(ha:GM (zq U w) a) :
  Calls prog 26 #[P_ F 0,.agg (mrow_ a.m)] w λe w'=>(∃v,e=.returned v)/\zaa w U F w' { m.v with away:=zct m.v.away a.c }:=by
 refine kO_ ?A0 ?_;exact Obj.cells (mrow_ a.m) 90;have L:=zC w ?A0;have q0:=hN_ w ?A0;go_in;go_upto_region 1 with fail
 generalize w.alloc ?A0=X at L q0|-;have I:=h.below L;have ao:=ha.sub (h.later L);have Y:Hid (U w.heap.size=false):=h.bnd.new (nR_ _);generalize w.heap.size=B at q0 Y|-;have am:=I.cell 78 I.c78;have E:m.v.away.length=m.aw.length:=by simp[FM.v]
 by_cases J:m.aw.length<400;refine kV_ ?B0 ?_;exact Value.slice m.aa m.aw.length m.ac
 .have aq:(m.aw.length:Int)<400:=by omega
  have V:Hid (zct m.v.away a.c=(m.aw++[a]).map MV.c):=by
   show _=_;rw[zct,iP_ (by rw[E];exact J)];simp[FM.v]
  have ap:Hid (m.aw.length<400):=J;clear E J;go_upto_region 2 with fail
  clear am;have J:=ap.out;have ah:∀P:Prop,¬(U B=true/\P):=λP k=>by have:=k.1;rw[Y.out]at this;cases this
  have ag:B≠F:=λe=>by have:=Y.out;rw[e,h.fu]at this;cases this
  have ad:∀(t r:World) (o:Q_) (p:Nat),B_ X t->r.ownsRow 0 90 19 (.slice o (m.aw++[a]).length p) (m.aw++[a]).length (zY (m.aw++[a]))->zV t ?B0 r (.slice o (m.aw++[a]).length p)->(∃v,Ending.returned (.tuple #[])=.returned v)/\zaa w U F (r.setCell (p_ F 78) (.slice o (m.aw.length+1) p)) { m.v with away:=zct m.v.away a.c }:=by
   intro t r o p Z ho G;refine⟨⟨_,rfl⟩,?_⟩;rw[V.out];have h1:=I.below Z;have E:(m.aw++[a]).length=m.aw.length+1:=by simp
   have ar:∀q,(Value.slice m.aa m.aw.length m.ac).ownBlock=some q->U q=true:=λq e=>(h.uaw q (zp e)).1;have k:Sub (zq U t) (zq (zaF U (ob o)) r):=by
    have:=((zao.refl U t).grew G ar).sub
    rwa [zdb]at this
   have af:=h1.more_aw G ho (λs hs=>?_) (by rw[E];omega);rw[E]at af;exact zaa.after ((FTo.below U L).trans (FTo.below U Z)) af;rcases mA_.1 hs with g|g;exact(h1.eaw s g).sub k;obtain rfl:s=a:=by simpa using g
   exact(ao.sub (zao.below U Z).sub).sub k
  obtain⟨ti,ai,aj,ak,al⟩:=info_parts zkn;have R:=dB_ X;have T:=dQ_ q0;refine wR_ (S:=λw'=>R_ w' B (mrow_ a.m) 90) (by kernel_rfl) T (λc=>?_);generalize X.drew=f at R T c|-;have ae:=I.below R;refine tks_ 4 [(0,10,(P_ F 0)),(1,11,(P_ F 0)),(2,12,(P_ F 0)),(3,13,(P_ F 78))] c ?_;simp only[tkf_,zf];refine tQ_ 5 15 (.agg (mrow_ a.m)) rfl rfl (Or.inl ⟨by rfl,λw0 an=>zL 90 _ rfl B rfl 90 (mrow_ a.m) (0,0) _ an underlying90 rfl sMsg'⟩) c ?_;simp only[zf];refine rY_ (rs:=[4,6]) (by kernel_rfl) (by simp) (rA_ rfl (λA d=>?_) (rA_ rfl (λA d=>?_) rN_));have ab:=ae.cell 78 ae.c78;refine zy rfl 14 rfl ?B0 f (by go_simp) ?_;refine d.out _ _ c (λc=>?_);simp only[zf];clear ab;refine zE 6 rfl (λA d=>?_)
  all_goals
   refine zy rfl 16 rfl (.slice (some (p_ f.heap.size 0)) 1 1) (f.alloc ?A0) (by go_simp) ?_;have y:=zC f ?A0;have D:=zm R y;have C:=hN_ f ?A0;have H:=zk y T;refine d.out _ _ H (λc=>?_);simp only[zf];generalize f.alloc ?A0=t at y D C H c|-;clear y;generalize f.heap.size=nb at C|-;have l:=I.below D
  rotate_left
  refine zE 4 rfl (λA d=>?_);have ab:=l.cell 78 l.c78;refine zy rfl 14 rfl ?B0 t (by go_simp) ?_;refine d.out _ _ c (λc=>?_);simp only[zf];clear ab
  rotate_left
  all_goals
   refine zE 7 rfl (λA d=>?_);refine zaz rfl 17 rfl (.tmp 14) (.tmp 16) 67 rfl 0 90 ti (.agg mz_) 19 264 underlying67 ai aj ak al rfl (by decide) ?B0 m.aw.length (zY m.aw) rfl l.raw (p_ nb 0) 1 1 (zcR a.m) rfl rfl (λj u hu=>by rw[zaP,zA_];exact zb C j u (by rw[<-Array.getElem?_toList];exact hu)) (zfv _) (by unfold maxLen;omega) (by omega) (nZ_ _) ?_;intro v3 r N z;obtain⟨o,p,aa⟩:=zH N;subst aa;have O:=z.row H (λe=>ah _ (l.uaw _ (zp e)));have M:=z.row (l.nd 0 (by decide)).blk (λe=>(l.uaw F (zp e)).2.1 rfl);refine d.out _ _ O (λc=>?_);simp only[zf];refine tks_ 2 [(8,18,(P_ F 0)),(9,19,(P_ F 78))] c ?_;simp only[tkf_,zf];refine zE 10 rfl (λA d=>?_);have au:=zb M (78) _ l.c78;have av:=zd M (78);refine zX rfl rfl (r.setCell (p_ F 78) (.slice o (m.aw.length+1) p)) (by go_simp) ?_;have ac:=zh (b:=F) (j:=78) (v:=.slice o (m.aw.length+1) p) O (λe=>ag e);refine d.out _ _ ac (λc=>?_);refine wD_ (by kernel_rfl) ?_ _;go_wp2_with fail
   go_end0;exact ad t r o p D (by rw[zfi];simpa using N) (by simpa using z)
 have aq:¬(m.aw.length:Int)<400:=by omega
 have V:Hid (zct m.v.away a.c=m.v.away):=by show _=_;rw[zct,iN_ (by rw[E];exact J)]
 clear E J;go_wp2_with fail
 go_end0;exact⟨⟨_,rfl⟩,by rw[V.out];exact zaa.quiet h L⟩
variable {F o c':Nat}{fc:X_}{T:TypeId}{x:NM}{w2:World}{a':Q_}
theorem zo.put_syncx {sy:Nat}(h:zo w U F o T fc x)(p:B_ w w2)(M:zg (zq U w2) a' c' (zv x.ms))(G:za3 ({ x with ba:=a',bc:=c',syn:=sy,wa:=none,wc:=0,wai:=[] }:NM).v) :
  ∃t,zo (((w2.setCell (p_ F (o+15)) (.slice a' (zv x.ms).length c')).setCell (p_ F (o+16)) (I_ sy)).setCell (p_ F (o+17)) (O_)) U F o T t ({ x with ba:=a',bc:=c',syn:=sy,wa:=none,wc:=0,wai:=[] }:NM)/\zl U U w (((w2.setCell (p_ F (o+15)) (.slice a' (zv x.ms).length c')).setCell (p_ F (o+16)) (I_ sy)).setCell (p_ F (o+17)) (O_)) F o fc t x ({ x with ba:=a',bc:=c',syn:=sy,wa:=none,wc:=0,wai:=[] }:NM):=by
 have A:=zao.below U p;have d:=h.fu;refine kV_ ?B0 ?_;exact Value.slice a' (zv x.ms).length c';have c:=(((A.set d (o+15) ?B0).set d (o+16) (I_ sy)).set d (o+17) (O_));have f:=c.sub;have J:=λb e=>h.bnd b (h.su b e).1;have C:=(p.block F (ze h.blk)).trans h.blk;refine kW_ ?A0 ?_;exact((w2.setCell (p_ F (o+15)) (.slice a' (zv x.ms).length c')).setCell (p_ F (o+16)) (I_ sy)).setCell (p_ F (o+17)) (O_);have u:∀b,b≠F->(?A0).heap[b]? = w2.heap[b]?:=λb n=>by
  rw[hO_ _ (p_ F (o+17)) b _ n];rw[hO_ _ (p_ F (o+16)) b _ n];rw[hO_ _ (p_ F (o+15)) b _ n]
 have l:=λb e=>(u b (h.su b e).2).trans (p.block b (J b e));have H:zq U ?A0=zq U w2:=by rw[zb3 d,zb3 d,zb3 d]
 have y:∀b,({ x with ba:=a',bc:=c',syn:=sy,wa:=none,wc:=0,wai:=[] }:NM).S b->x.S b\/w.heap.size<=b:=by
  intro b e;rcases e with e|e|e|e|e|e|e;exact .inl (.inl e);exact .inl (.inr (.inl e));exact .inl (.inr (.inr (.inl e)));exact .inl (.inr (.inr (.inr (.inl e))));exact .inl (.inr (.inr (.inr (.inr (.inl e)))));exact .inl (.inr (.inr (.inr (.inr (.inr (.inl e))))));cases e
 have z:zio (((fc.setIfInBounds (o+15) ?B0).setIfInBounds (o+16) (I_ sy)).setIfInBounds (o+17) (O_)) o ({ x with ba:=a',bc:=c',syn:=sy,wa:=none,wc:=0,wai:=[] }):=by
  intro j r;have B:=h.cel j r;have L:=h.siz;rcases(by omega:j=0\/j=1\/j=2\/j=3\/j=4\/j=5\/j=6\/j=7\/j=8\/j=9\/j=10\/j=11\/j=12\/j=13\/j=14\/j=15\/j=16\/j=17\/j=18)with e|e|e|e|e|e|e|e|e|e|e|e|e|e|e|e|e|e|e<;>subst e<;>simp only[sI_,Array.size_setIfInBounds]<;>simp<;>first|exact B|omega|(simp[NM.cs];done)|(simp[NM.cs];omega)
 refine⟨(((fc.setIfInBounds (o+15) ?B0).setIfInBounds (o+16) (I_ sy)).setIfInBounds (o+17) (O_)),⟨(zbb (zbb (zbb C _) _) _),(by simpa using h.siz),z,d,(λb e=>by
   rcases y b e with g|g
   .exact⟨(h.su b g).1,(h.su b g).2⟩
   .refine⟨?_,λN=>by have:=ze h.blk;omega⟩;rcases e with e|e|e|e|e|e|e
    .exact id (h.su b (.inl e)).1
    .exact id (h.su b (.inr (.inl e))).1
    .exact id (h.su b (.inr (.inr (.inl e)))).1
    .exact id (h.su b (.inr (.inr (.inr (.inl e))))).1
    .exact id (h.su b (.inr (.inr (.inr (.inr (.inl e)))))).1
    .exact id (h.su b (.inr (.inr (.inr (.inr (.inr (.inl e))))))).1
    .cases e),(λb D=>by have:=h.bnd.mono p.size b D;simpa using this),h.tabs.sub f,h.etx.sub f,(zu h.rsh (λq e=>l q (.inr (.inr (.inr (.inl (zp e))))))),(λs m=>(h.esh s m).sub f),(zu h.rtb (λq e=>l q (.inr (.inr (.inr (.inr (.inl (zp e)))))))),(λs m=>(h.etb s m).sub f),(h.stk.keep f c.us (λb e=>by
   rcases e with e|e|e
   .subst e;exact l _ (.inl rfl)
   .exact l b (.inr (.inl e))
   .exact l b (.inr (.inr (.inl e))))),h.hdr.sub f,h.slt.sub f,(zu h.rvo (λq e=>l q (.inr (.inr (.inr (.inr (.inr (.inl (zp e))))))))),(by rw[H];exact M),h.ems,(oN_ _ _ _ _),(λs m=>by cases m),G⟩,⟨c.os,c.tape,c.output,c.size,λb I L E=>(u b E).trans (p.block b I),c.us,y,by simp,λj r=>?_⟩⟩
 rw[zip _ o 17 _ (by decide) j r];rw[zip _ o 16 _ (by decide) j r];rw[zip _ o 15 _ (by decide) j r]
theorem zpc (bs:L_)(c:Q_)(n b:Nat)(sy:Int)(w:World)(U:n=bs.length)(E:zg w c b bs)(D:bs.length<=140737488355328) :
  Calls prog 84 #[.agg #[.slice c n b,I_ sy]] w λe w'=>zdM w w' e (bs.take (zhF bs.length sy)) (zhF bs.length sy) (ziS bs.length sy):=by
 subst U;refine kO_ ?A0 ?_;exact Obj.cells #[.slice c bs.length b,I_ sy] 66;refine kO_ ?B0 ?_;exact Obj.cells #[O_,I_ 0] 66;have o:B_ w ((w.alloc ?A0).alloc ?B0):=((bR_ _ _).alloc (nR_ _) _).alloc (by simp) _;have A:=hX_ w ?A0 ?B0;have t:=hY_ w ?A0 ?B0;have j:=zhG c bs.length b sy ((w.alloc ?A0).alloc ?B0) D;have H:Hid (∀W:World,B_ w W->Calls prog 88 #[.agg #[.slice c bs.length b,I_ sy],I_ (bs.length:Int),I_ (bs.length:Int)] W λe w'=>∃m rc,e=.returned (.agg #[.slice m bs.length rc,I_ (bs.length:Int)])/\zg w' m rc (bs.take bs.length)/\(∀d g,m=some (p_ d g)->W.heap.size<=d/\d<w'.heap.size)/\B_ W w'):=by
  show ∀_,_;intro W R;exact zh1 bs c _ b bs.length sy _ W rfl (E.below R) (nR_ _) D
 clear E;cases ht:zbO bs.length sy with
 | false=>
  have p:Hid (ziS bs.length sy=12/\zhF bs.length sy=0):=by show _/\_;simp[ziS,zhF,ht]
  rw[ht]at j;clear ht;go_in;go_wp2_with fail
  generalize (w.alloc ?A0).alloc ?B0=I at o A t j|-;refine j.mono ?_;rintro _ B⟨rfl,l⟩;dsimp only;have f:=zk l t;have u:=zb f 0 (O_) rfl;have y:=zb f 1 (I_ 0) rfl;have M:=zd f 0;have N:=zd f 1;go_wp2_with fail
  rw[p.out.1,p.out.2];refine bodyPost_ret (v:=.tuple #[.agg #[O_,I_ 0],I_ 12]) (by simp[results,results84,go_sem,u,y]) rfl (zdM.bad _ ?_);exact((o.trans (l.mono o.size)).setCell (by simp) _).setCell (by simp) _
 | true=>
  have p:Hid (ziS bs.length sy=0/\zhF bs.length sy=bs.length):=by show _/\_;simp[ziS,zhF,ht]
  rw[ht]at j;clear ht;go_in;go_wp2_with fail
  generalize (w.alloc ?A0).alloc ?B0=I at o A t j|-;refine j.mono ?_;rintro _ B⟨rfl,l⟩;dsimp only;have r:=zm o l;have G:=zk l A;have f:=zk l t;have J:=zb G 0 (.slice c bs.length b) rfl;have L:=zb G 1 (I_ sy) rfl;go_wp2_with fail
  refine(H.out B r).mono ?_;rintro e w2⟨m,rc,q,F,z,C⟩;subst q;dsimp only;have T:=ze f;have s:=(C.block _ T).trans f;have u:=zb s 0 (O_) rfl;have y:=zb s 1 (I_ 0) rfl;have M:=zd s 0;have N:=zd s 1;clear J L;go_wp2_with fail
  rw[p.out.1,p.out.2];rw[tL_ (nR_ _)]at F|-;refine bodyPost_ret (v:=.tuple #[.agg #[.slice m bs.length rc,I_ (bs.length:Int)],I_ 0]) (by simp[results,results84,go_sem,u,y]) rfl ⟨m,rc,rfl,?_,?_,?_⟩;exact(F.setCellT _ _ _ (λd g e=>by have:=(z d g e).1;omega)).setCellT _ _ _ (λd g e=>by have:=(z d g e).1;omega);intro d g e;obtain⟨V,O⟩:=z d g e;have:=r.size;exact⟨by omega,by simpa using O⟩;exact((r.trans (C.mono r.size)).setCell (by simp) _).setCell (by simp) _
structure zzj (w w':World)(e:Ending)(U:Nat->Bool)(F o:Nat)(T:TypeId)(fc:X_)(x:NM):Prop where
 told:e=.returned (.slice x.wa x.wai.length x.wc)
 acts:∃U' fc' x',zo w' U' F o T fc' x'/\zl U U' w w' F o fc fc' x x'/\x'.v={ x.v with wai:=[],syn:=(zae x.v.recs).length }/\w'.ownsRow 0 90 19 (.slice x.wa x.wai.length x.wc) x.wai.length (zY x.wai)/\(∀q,ob x.wa=some q->¬x'.S q)
theorem zqs (x:NM)(w:World)(U:Nat->Bool)(F o:Nat)(T:TypeId)(z:X_)(h:zo w U F o T z x) :
  Calls prog 48 #[P_ F o] w λe w'=>zzj w w' e U F o T z x:=by
 have p:Hid ((zv x.ms).length=(zae x.v.recs).length):=by show _=_;rw[zes];rfl
 have m:(zv x.ms).length<=400000/\x.syn<=(zv x.ms).length:=by rw[p.out];exact⟨h.inv.tape,h.inv.syn⟩
 have f:=zpc (zv x.ms) x.ba _ x.bc x.syn w rfl (h.tap.sub (zK U w)) (by omega);have E:zhF (zv x.ms).length x.syn=(zv x.ms).length:=by rw[zhF,iP_ (zcr.2 ⟨m.1,by omega,by omega⟩)]
 have D:ziS (zv x.ms).length x.syn=0:=by rw[ziS,iP_ (zcr.2 ⟨m.1,by omega,by omega⟩)]
 have G:(zv x.ms).take (zv x.ms).length=zv x.ms:=List.take_length;rw[E,D,G]at f;have H:=h.cell 15 _ rfl;have I:=h.cell 16 _ rfl;clear E D G m;go_in;go_wp2_with fail
 refine f.mono ?_;rintro e u⟨d,rc,O,C,B,N⟩;subst O;dsimp only;clear f H I;refine kO_ ?A0 ?_;exact Obj.cells #[.slice d (zv x.ms).length rc,I_ ((zv x.ms).length:Int)] 66;have j:=zC u ?A0;have t:=hN_ u ?A0;go_upto_region 2 with fail
 generalize u.alloc ?A0=y at j t|-;have A:=zm N j;have b:=h.below A;have e0:=zb t 0 _ rfl;have e1:=zb t 1 _ rfl;have ac:=b.cell 17 _ rfl;have aa:=b.cell 15 _ rfl;have ab:=b.cell 16 _ rfl;have ad:=b.free (o+15);have ae:=b.free (o+16);have af:=b.free (o+17);have R:Hid (zg (zq U y) d rc (zv x.ms)):=zci (C.below j) (λY Z e _=>h.bnd.new (B Y Z e).1);clear C B;go_wp2_with fail
 go_ret;refine⟨rfl,?_⟩;have M:=p.out;obtain⟨J,V,X⟩:=h.put_syncx (w2:=y) (a':=d) (c':=rc) (sy:=(zv x.ms).length) A R.out ((h.inv.wai_ (l:=[]) (nZ_ _)).tape_ (l:=x.v.recs) (s:=(zv x.ms).length) h.inv.tape (by rw[M];exact nR_ _));refine⟨U,J,_,V,X,by rw[<-p.out];rfl,?_,?_⟩;have r:∀q,(Value.slice x.wa x.wai.length x.wc).ownBlock=some q->q≠F:=λq e=>(h.su q (.inr (.inr (.inr (.inr (.inr (.inr (zp e)))))))).2;exact zaQ (zaQ (zaQ b.rwa F _ _ (λe=>r F e rfl)) F _ _ (λe=>r F e rfl)) F _ _ (λe=>r F e rfl);intro q e L;have c:=zaK x.wai.length x.wc e;rcases L with g|g|g|g|g|g|g;exact zc2 h.rwa h.stk.box (by decide) (by rw[c,g]);exact zcu h.rwa h.stk.rc (by decide) q c g;exact zcu h.rwa h.stk.rd (by decide) q c g;exact zcu h.rwa h.rsh (by decide) q c (zaK _ _ g);exact zcu h.rwa h.rtb (by decide) q c (zaK _ _ g);exact zcu h.rwa h.rvo (by decide) q c (zaK _ _ g);cases g
theorem zuw (l:List GV)(g:GV):zfS l g=l\/zfS l g=l++[g]:=by
 unfold zfS
 split
 exact .inl rfl
 rename_i h
 split
 rename_i b
 unfold zec at b|-
 split at b
 cases b
 rename_i d
 split at b
 rename_i c;exact absurd b c
 rename_i c
 rw[iN_ d,iN_ c,iN_ h];exact .inr rfl;exact .inl rfl
theorem zra (l:List MC)(f:Fl):(l.foldl Fl.out f).no.sg.length<=f.no.sg.length+l.length:=by
 induction l generalizing f with
 | nil=>exact nR_ _
 | cons m l ih=>
  have c:=ih (f.out m);have d:(f.out m).no.sg.length<=f.no.sg.length+1:=by
   show(f.no.sign m).sg.length<=_;have b:∀g,(zfS f.no.sg g).length<=f.no.sg.length+1:=λg=>by
    rcases zuw f.no.sg g with e|e;rw[e];omega;rw[e];simp
   unfold No.sign
   split
   split
   exact b _;omega
   split
   exact b _;omega
  simp only[List.foldl_cons,List.length_cons];omega
theorem zux (f:Fl)(l:List MC)(k:Nat)(b:k<l.length):(l.take (k+1)).foldl Fl.out f=((l.take k).foldl Fl.out f).out (l[k]):=by
 rw[tS_ b,List.foldl_append]
 rfl
theorem zuy (m:FM)(i:Nat)(l:i<4)(w:World)(U:Nat->Bool)(F:Nat)(fc:X_)(h:zJ w U F fc m)(an:m.gs.length<=2932031006000) :
  Calls prog 33 #[P_ F 0,(P_ F (i*19))] w λe w'=>(∃v,e=.returned v)/\zaa w U F w' (m.v.sync i):=by
 have z:=h.nd i l;have HS:=zqs (m.x i) w U F (i*19) 72 fc z;have aF:(m.x i).wai.length<=400:=by
  have:=z.inv.wai
  simpa[NM.v]using this
 have HM:Hid (m.v.sync i=((m.x i).wai.map MV.c).foldl Fl.out (m.v.set i { (m.x i).v with wai:=[],syn:=(zae (m.x i).v.recs).length })):=by
  show _=_;rw[Fl.sync,FM.node_v m i l]
  rfl
 go_in;go_wp2_with fail
 refine HS.mono ?_;rintro _ A⟨rfl,p,ax,s,H,R,Z,aA,ai⟩;dsimp only;clear HS;have aj:s.nu=i:=by
  have L:s.v.nu=(m.x i).v.nu:=by rw[Z]
  exact L.trans (h.nu i l)
 have ae:=h.node l H R aj;have ao:(m.set i s).v=m.v.set i { (m.x i).v with wai:=[],syn:=(zae (m.x i).v.recs).length }:=by rw[FM.set_v m i s l,Z]
 have o:∀q,ob (m.x i).wa=some q->(m.x i).S q:=λq e=>.inr (.inr (.inr (.inr (.inr (.inr e)))));have h0:=ae.shows (ob (m.x i).wa) (λe=>(z.su F (o F e)).2 rfl) (λj hj b e=>by
   by_cases C:j=i
   .subst C;rw[FM.set_here];exact ai b e
   .rw[FM.set_there _ _ C];exact λg=>h.sep j i hj l C b g (o b e)) (λb e g=>(h.uaw b g).2.2 i l (o b e)) (λb e g=>(h.uco b g).2.2.1 i l (o b e))
 have n0:FTo U (zdx p (ob (m.x i).wa)) w A:=(R.goes z).fto.trans (zjV p _ A);have ar:Hid (∀q,(Value.slice (m.x i).wa (m.x i).wai.length (m.x i).wc).ownBlock=some q->zdx p (ob (m.x i).wa) q=false):=λq e=>by rw[zp e];exact zlK p q
 have aq:Hid (∀a∈(m.x i).wai,GM (zq (zdx p (ob (m.x i).wa)) A) a):=λa H=>(z.ewa a H).sub n0.sub;rw[<-ao]at HM;have az:Hid ((m.set i s).v.no.sg.length<=2932031006000):=by
  show(zA m.gs).length<=_;rw[zfM];exact an
 clear ao o ai ae H R Z aj an;generalize zdx p (ob (m.x i).wa)=Us at*;generalize m.set i s=r at*;generalize (m.x i).wai=c at*;generalize (m.x i).wa=sa at*;generalize (m.x i).wc=sc at*;go_wp2_with fail
 go_loopw [9] (λj wr=>∃(k:Nat) (f:Nat->Bool) (D:X_) (d:FM),k<=c.length/\j=I_ k/\zJ wr f F D d/\FTo Us f A wr/\Hid (d.v=((c.map MV.c).take k).foldl Fl.out r.v)) (λj _=>c.length-(intOf j).toNat)
 case atStart=>exact⟨0,Us,ax,r,nZ_ _,rfl,h0,FTo.refl _ _,rfl⟩
 case round=>
  obtain⟨k,f,D,d,hk,rfl,E,I,O⟩:=hrel;by_cases hlt:k<c.length
  .have aE:(k:Int)<c.length:=by omega
   have ak:=I.owns aA ar.out;obtain⟨aG,aD,e9,_,_,_,hR⟩:=zfm ak;cases e9;obtain⟨sb,so,aB,al⟩:=hR.at k hlt;subst aB;have af:=(aq.out (c[k]) (gM_ hlt)).sub I.sub;have ad:k<(c.map MV.c).length:=by simpa using hlt
   have ah:(c.map MV.c)[k]=(c[k]).c:=by simp
   have ab:Hid _:=zux r.v (c.map MV.c) k ad;rw[ah,<-O.out]at ab;have am:d.gs.length<=2932031007399:=by
    have L:=zra ((c.map MV.c).take k) r.v;rw[<-O.out]at L;have C:d.v.no.sg.length=d.gs.length:=zfM d.gs;have e3:=az.out;have e4:((c.map MV.c).take k).length<=400:=by rw[lT9_,List.length_map];omega
    omega
   clear hR ad ah ak;generalize c[k]=a at*;have Y:=hN_ wr (.cells mz_ 90);have t:=zbs wr mz_ (mrow_ a.m) 90;have T:=sH_ _ _ _ (mrow_ a.m) _ _ Y;go_upto_region 3 with(first|refine wpList_load_mid rfl 90 _ rfl sb (so+k*19) rfl (zcR a.m) _ al underlying90 rfl sMsg' ?_|refine wS_ rfl 90 _ _ rfl wr.heap.size (mrow_ a.m) rfl rfl 90 _ Y sMsg' rfl (by simp[Value.oneCell']) ?_)
   generalize ((wr.alloc (.cells mz_ 90)).setRow wr.heap.size (mrow_ a.m))=J at t T|-;clear Y al;have N:=E.below t;have ag:=af.sub (E.later t);have ac:Hid (f wr.heap.size=false):=E.bnd.new (nR_ _);generalize wr.heap.size=B at T ac|-;clear af;have aa:Hid (∀V:World,B_ J V->Calls prog 49 #[P_ F 76,.agg (mrow_ a.m)] V λe w'=>∃v,e=.returned v/\zaa V f F w' { d.v with no:=d.v.no.sign a.c }):=by
    show ∀V,_;intro V hV;refine(zuv d a V f F D (N.below hV) (ag.sub (N.later hV)) am).mono (λe w' k=>?_);obtain⟨⟨v,y⟩,k⟩:=k;exact⟨v,y,k⟩
   have G:=dB_ J;have X:=dQ_ T;refine wR_ (S:=λw'=>R_ w' B (mrow_ a.m) 90) (by kernel_rfl) X (λu=>?_);generalize J.drew=V0 at G X u|-;refine tks_ 3 [(0,13,(P_ F 0)),(1,14,(P_ F 0)),(2,15,(P_ F 76))] u ?_;simp only[tkf_,zf];refine tQ_ 3 16 (.agg (mrow_ a.m)) rfl rfl (Or.inl ⟨by rfl,λw0 o=>zL 90 _ rfl B rfl 90 (mrow_ a.m) (0,0) _ o underlying90 rfl sMsg'⟩) u ?_;simp only[zf];refine zE 4 rfl (λK9 hK=>?_);refine zj rfl 17 rfl 49 [.tmp 15,.tmp 16] #[53,90] rfl [P_ F 76,.agg (mrow_ a.m)] rfl (eO_ func49) (λv w'=>zaa V0 f F w' { d.v with no:=d.v.no.sign a.c }) ((aa.out V0 G).mono (λe w' k=>k)) ?_;rintro v V1⟨U9,aw,m9,h9,M,v9⟩;have ap:=M.box X ac.out;refine hK.out _ _ ap (λu=>?_);simp only[zf];clear u;refine wD_ (by kernel_rfl) ?_ _;have n9:=(I.trans (FTo.below f (t.trans (G.mono t.size)))).trans M;have ay:=(ag.sub (N.later G)).sub M.sub;have av:Hid _:=v9;clear v9 aa am;have HD:=znr m9 a V1 U9 F aw h9 ay;go_wp2_with (refine wL_ rfl 90 _ rfl B rfl 90 (mrow_ a.m) (0,0) _ ap underlying90 rfl sMsg' ?_)
   refine HD.mono ?_;rintro e w6⟨⟨v,y⟩,U6,fc6,m6,h6,n6,v6⟩;subst y;dsimp only;clear HD;have aC:=n9.trans n6;have au:Hid (m6.v=((c.map MV.c).take (k+1)).foldl Fl.out r.v):=by show _=_;rw[v6,ab.out,av.out];rfl
   clear v6;go_wp2_with fail
   go_roundw
   case rel=>exact⟨k+1,U6,fc6,m6,by omega,by go_num,h6,aC,au⟩
   case measure=>simp[intOf];omega
  obtain rfl:k=c.length:=by omega
  have HE:Hid (d.v=(c.map MV.c).foldl Fl.out r.v):=by
   show _=_;rw[O.out,tL_ (by simp)]
  clear hlt;go_wp2_with fail
  go_end0;exact⟨⟨_,rfl⟩,by rw[HM.out];exact⟨f,D,d,E,n0.trans I,HE.out⟩⟩
theorem zsl (m:FM)(b:Int)(T:b=2\/b=3\/b=7)(i:Nat)(d:i<4)(p:Nat)(hp:p<=400000)(t:ByteArray)(w:World)(U:Nat->Bool)(F:Nat)(c:X_)(h:zJ w U F c m)(X:m.gs.length<=2932031006000) :
  Calls prog 23 #[P_ F 0,(P_ F (i*19)),.agg #[I_ b,I_ (i:Int),I_ (p:Int),.string t]] w λe w'=>(∃v,e=.returned v)/\zaa w U F w' (if b=2 then m.v.set i (m.v.node i).work else if b=3 then m.v.sync i else m.v.set i ((m.v.node i).crash p)):=by
 refine kO_ ?A0 ?_;exact Obj.cells #[I_ b,I_ (i:Int),I_ (p:Int),.string t] 26;have g:=zC w ?A0;have q:=hN_ w ?A0;go_in;go_upto_region 1 with fail
 generalize w.alloc ?A0=o at g q|-;have f:=h.below g;generalize w.heap.size=B at q|-;have a0:=zb q 0 _ rfl;have a2:=zb q 2 _ rfl;have H:=f.nd i d;have s:Hid ((m.x i).nu=i/\c.size=80):=⟨h.nu i d,h.siz⟩;rcases T with rfl|rfl|rfl;have r:Hid (m.v.node i=(m.x i).v):=FM.node_v m i d;have C:=zur (m.x i) o U F (i*19) 72 c H;go_wp2_with fail
 refine C.mono ?_;rintro e u⟨⟨v,l⟩,hF⟩;subst l;dsimp only;clear C;go_wp2_with fail
 rotate_left
 have A:=zuy m i d o U F c f X;go_wp2_with fail
 refine A.mono ?_;rintro e u⟨⟨v,l⟩,hF⟩;subst l;dsimp only;clear A;go_wp2_with fail
 rotate_left
 have r:Hid (m.v.node i=(m.x i).v):=FM.node_v m i d;have z:=zse (m.x i) (p:Int) ⟨by omega,by omega⟩ o U F (i*19) 72 c H;go_wp2_with fail
 refine z.mono ?_;rintro e u⟨U',L,ab,y,l,hy,I,Z,aa,D⟩;subst l;dsimp only;clear z;have O:=ze (f.nd 0 (by decide)).blk;have E:=(D.block F O).trans (f.nd 0 (by decide)).blk;have Y:u.there F (i*19) y.cs.toArray.size:=by
  intro j G;have G:j<19:=G;have R:i*19+j<c.size:=by rw[s.out.2];omega
  have N:=zb E (i*19+j) (c[i*19+j]) (Array.getElem?_eq_getElem R);exact⟨by rw[N];rfl,zd E _⟩
 go_wp2_with (refine wpList_store_mid rfl 69 _ _ rfl F (i*19) y.cs.toArray rfl rfl Y zhM (by simp[NM.cs,Value.oneCell']) ?_)
 rotate_left
 all_goals
  go_end0;refine⟨⟨_,rfl⟩,?_⟩
 rw[r.out];exact zaa.after (FTo.below U g) (f.acts d hF (by rw[zxt];exact s.out.1));exact zaa.after (FTo.below U g) hF;rw[r.out];have V:y.nu=i:=by
  have M:y.v.nu=(m.x i).v.nu:=by rw[I];exact(zc8 _ _).1
  exact M.trans s.out.1
 have J:=f.put_node d hy Z aa D V;rw[I]at J;exact zaa.after (FTo.below U g) J
theorem zg0 (A B:List MV):zY (A++B)=zY A++zY B:=by simp[zY]
theorem zqt (a:MV)(B:List MV):zY (a::B)=zcR a.m++zY B:=by simp[zY]
def zgA:List Value:=[I_ 0,I_ 0,I_ 0,I_ 0,I_ 0,O_,I_ 0,I_ 0,O_,O_,I_ 0,I_ 0,O_,I_ 0,I_ 0,O_,O_,O_,I_ 0]
theorem zsm (l:List MV):∀u∈zY l,u.oneCell'=true:=by
 intro u b;obtain⟨x,_,c⟩:=List.mem_flatMap.1 b;exact zfv _ u c
theorem zsn:∀u∈zgA,u.oneCell'=true:=by
 exact List.all_eq_true.1 (by rfl:zgA.all (·.oneCell')=true)
theorem zwa (w:World):(zeroValue 90).run prog w=.ok (.agg zgA.toArray) w:=by
 simp[zeroValue]
 rfl
theorem zso (A:List MV)(a:MV)(B:List MV)(y:Q_)(c base:Nat)(w:World)(hl:(A++a::B).length<=400)(R:w.ownsRow base 90 19 (.slice y (A++a::B).length c) (A++a::B).length (zY (A++a::B))) :
  Calls prog 27 #[.slice y (A++a::B).length c,I_ (A.length:Int),I_ ((A.length:Int)+1)] w λe w'=>e=.returned (.slice y (A++B).length c)/\w'.ownsRow base 90 19 (.slice y (A++B).length c) (A++B).length (zY (A++B))/\zV w (.slice y (A++a::B).length c) w' (.slice y (A++B).length c):=by
 obtain⟨ti,ae,ao,af,ap⟩:=info_parts zkn;have D:(A++a::B).length=A.length+B.length+1:=by simp;omega
 rcases R.2 with⟨e,hn⟩|⟨g,ag,d,e,aa,s,Y,N,C,L⟩;omega
 injection e with e1 e2 e3
 subst e1 e3;have M:Hid (∀(W:World) (E:List Value),E.length=19->W=(w.drew.setCells g (A.length*19) (zY B)).setCells g ((A.length+B.length)*19) E->W.ownsRow base 90 19 (.slice (some (p_ g 0)) (A++B).length c) (A++B).length (zY (A++B))/\zV w (.slice (some (p_ g 0)) (A++a::B).length c) W (.slice (some (p_ g 0)) (A++B).length c)):=by
  show ∀_,_;intro W E hz H;have r:(A++B).length=A.length+B.length:=by simp
  rw[r,D]at*;have ab:R_ w.drew g d 90:=s;have J:=zb7 (zY B) w.drew d (A.length*19) ab;have T:=zb7 E _ _ ((A.length+B.length)*19) J;rw[<-H]at T;have G:=zdN B;have p:=zdN A;refine⟨⟨by rw[zg0,lP_,p,G];omega,.inr ⟨g,c,_,rfl,aa,T,by omega,N,by rw[zcW,zcW];exact C,?_⟩⟩,?_⟩
  apply List.ext_getElem?
  intro j;rw[zg0];by_cases l:j<(A.length+B.length)*19;rw[List.getElem?_take_of_lt l,Array.getElem?_toList,zdP _ _ _ _ (.inl l)];by_cases hja:j<A.length*19;rw[zdP _ _ _ _ (.inl hja),List.getElem?_append_left (by rw[p];exact hja)];have m:d[j]? = (d.toList.take ((A.length+B.length+1)*19))[j]?:=by rw[List.getElem?_take_of_lt (by omega),Array.getElem?_toList]
  rw[m,L,zg0,List.getElem?_append_left (by rw[p];exact hja)];have m:=zg8 (zY B) d (A.length*19) (j-A.length*19) (by rw[G];omega) (by rw[G,C];omega);rw[show A.length*19+(j-A.length*19)=j by omega]at m;rw[m,List.getElem?_append_right (by rw[p];omega),p];rw[List.getElem?_eq_none (by rw[lT9_];omega),List.getElem?_eq_none (by rw[lP_,p,G];omega)];have z:=ziq g (zY B) w.drew (A.length*19);have o:=ziq g E (w.drew.setCells g (A.length*19) (zY B)) ((A.length+B.length)*19);rw[<-H]at o;refine⟨⟨o.os.trans z.os,o.tape.trans z.tape,o.output.trans z.output,nT_ z.size o.size,λk t O=>?_⟩,λq e=>.inl e⟩;have ac:k<(w.drew.setCells g (A.length*19) (zY B)).heap.size:=by rw[zgL];exact t
  exact(o.block k ac O).trans (z.block k t O)
 obtain⟨F,ah,ad⟩:∃F:Addr,(if c=A.length+1 then some (p_ g 0:Addr)else some (p_ g ((A.length+1)*19)))=some F/\Hid (∀j u,(zY B)[j]? = some u->w.drew.cell? (F.add j)=some u):=by
  by_cases h:c=A.length+1;refine⟨p_ g 0,by simp[h],λj u I=>?_⟩;have X:B=[]:=eN_ (by omega);subst X;simp[zY]at I;refine⟨p_ g ((A.length+1)*19),by simp[h],λj u I=>?_⟩;have l:j<B.length*19:=by
   have:=(List.getElem?_eq_some_iff.1 I).1
   rwa [zdN]at this
  rw[Addr.add_lit];have m:d[(A.length+1)*19+j]? = (d.toList.take ((A++a::B).length*19))[(A.length+1)*19+j]?:=by rw[List.getElem?_take_of_lt (by omega),Array.getElem?_toList]
  refine zb s _ u ?_;rw[m,L,zg0,zqt,List.getElem?_append_right (by rw[zdN];omega),zdN,List.getElem?_append_right (by rw[zd7];omega),zd7,<-I]
  congr 1
  omega
 have s1:Hid ((zY B).length=B.length*19):=zdN B;have s3:Hid (∀j,j<(zY B).length->(w.drew.cell? (p_ g (0+A.length*19+j))).isSome=true/\w.drew.frozen? (p_ g (0+A.length*19+j))=false):=by
  show ∀_,_;intro j l;rw[zdN]at l;have t:0+A.length*19+j<d.size:=by rw[C];omega
  refine⟨?_,zd s _⟩;have m:=zb s (0+A.length*19+j) (d[0+A.length*19+j]) (Array.getElem?_eq_getElem t);show(w.cell? _).isSome=true;rw[m];rfl
 have ai:∀ty,(Builtin.clear_ #[67] ty #[.slice (some (p_ g ((A.length+B.length)*19))) 1 (c-(A.length+B.length))]).run prog (w.drew.setCells g (A.length*19) (zY B))=.ok (.tuple #[]) ((w.drew.setCells g (A.length*19) (zY B)).setCells g ((A.length+B.length)*19) zgA):=by
  intro ty;have J:=zb7 (zY B) w.drew d (A.length*19) s;refine zir _ 67 90 ty (.agg zgA.toArray) underlying67 zwa g _ 1 _ (by omega) zgA (by kernel_rfl) (λj l=>?_) (λj l=>zd J _) zsn;have l:j<19:=l;have t:(A.length+B.length)*19+j<(zd4 d (A.length*19) (zY B)).size:=by rw[zcW,C];omega
  rw[zb J _ _ (Array.getElem?_eq_getElem t)];rfl
 have U:Hid (∀W:World,W=(w.drew.setCells g (A.length*19) (zY B)).setCells g ((A.length+B.length)*19) zgA->W.ownsRow base 90 19 (.slice (some (p_ g 0)) (A.length+B.length) c) (A.length+B.length) (zY (A++B))/\zV w (.slice (some (p_ g 0)) (A.length+B.length+1) c) W (.slice (some (p_ g 0)) (A.length+B.length) c)):=by
  show ∀_,_;intro W H;have r:(A++B).length=A.length+B.length:=by simp
  have:=M.out W zgA rfl H
  rwa [r,D]at this
 have r:(A++B).length=A.length+B.length:=by simp
 have Z:Hid (∀u∈zY B,u.oneCell'=true):=zsm B;rw[r,D];rw[D]at Y hl;clear R L M s C D r;generalize zY (A++B)=RS at*;generalize zY B=V at*;generalize A.length=b at*;generalize B.length=f at*;have aj:c<=9223372036854775807:=N;have w1:IntKind.i64.wrap ((b:Int)+1)=(b:Int)+1:=by rw[IntKind.wrap_i64];omega
 have p0:(0:Int)<=(b:Int)+1:=by omega
 have p1:(b:Int)+1<=((b+f+1:Nat):Int):=by omega
 have p2:((b:Int)+1).toNat=b+1:=by omega
 have p3:(b:Int)<=(b:Int)+1:=by omega
 have p4:((b:Int) == (b:Int)+1)=false:=by rw[beq_eq_false_iff_ne];omega
 have p5:b<=c:=by omega
 have p6:(b:Int)<=(b:Int)+(f:Int):=by omega
 have p7:(0:Int)<=(b:Int)+(f:Int):=by omega
 have p9:((b:Int)+(f:Int)).toNat=b+f:=by omega
 have ak:((b:Int)+(f:Int)+1).toNat=b+f+1:=by omega
 have al:(b:Int)+(f:Int)+1<=(c:Int):=by omega
 have am:¬c=b+f:=by omega
 have an:(0:Int)<=(b:Int)+(f:Int)+1:=by omega
 go_in;go_upto_region 5 with fail
 go_region_law (refine step_append_room rfl (.tmp 22) (.tmp 25) 67 rfl 90 ti 19 underlying67 ae af g 0 b c (by simp[Act.eval,Act.put]) F f (c-(b+1)) V (by simp[Act.eval,Act.put]) s1.out ad.out Z.out (by omega) s3.out ?_)
 go_wp2
 go_ret;exact⟨rfl,U.out _ rfl⟩
theorem zwb {α:Type}(l:List α)(k:Nat)(b:k<l.length):∃A a B,l=A++a::B/\A.length=k/\l[k]=a/\l.eraseIdx k=A++B:=
 ⟨l.take k,l[k],l.drop (k+1),by rw[List.getElem_cons_drop,List.take_append_drop],by rw[lT9_];omega,rfl,by rw[List.eraseIdx_eq_take_drop_succ]⟩
theorem zuz {α β:Type}(f:α->β)(l:List α)(k:Nat):(l.map f).eraseIdx k=(l.eraseIdx k).map f:=by
 induction l generalizing k with
 | nil=>rfl
 | cons x l ih=>
  cases k with
  | zero=>rfl
  | succ k=>simp only[List.map_cons,List.eraseIdx_cons_succ,ih]
theorem zwc (aw:zhO)(m:FM)(j:Int)(ay:j=4\/j=5\/j=6)(p:Nat)(hp:p<=400000)(w:World)(U:Nat->Bool)(F:Nat)(fc:X_)(h:zJ w U F fc m) :
  Calls prog 17 #[P_ F 0,I_ j,I_ (p:Int)] w λe w'=>(∃v,e=.returned v)/\zaa w U F w' (m.v.pick j p):=by
 have I:=h.cell 78 h.c78;have ad:=h.free 78;have am:=h.law;have G:m.v.away.length=m.aw.length:=by simp[FM.v]
 by_cases h0:m.aw.length=0
 .have r:Hid (m.v.pick j p=m.v):=iP_ (by rw[G];exact h0);have ag:((m.aw.length:Int) == 0)=true:=by rw[h0];rfl
  rw[h0]at I;clear h0 ag G;go_in;go_wp2_with fail
  refine bP_ (results_none rfl _ _ _) rfl ?_;exact⟨⟨_,rfl⟩,by rw[r.out];exact zaa.refl h⟩
 have hk:p % m.aw.length<m.aw.length:=Nat.mod_lt _ (by omega);obtain⟨A,a,B,M,ai,aa,al⟩:=zwb m.aw (p % m.aw.length) hk;have aE:((p:Int).tmod (m.aw.length:Int))=((p % m.aw.length:Nat):Int):=by rw[Int.tmod_eq_emod_of_nonneg (by omega)];simp
 have aj:m.v.away.getD ((p:Int).toNat % m.v.away.length) MC.z=a.c:=by
  rw[G,Int.toNat_natCast];show(m.aw.map MV.c).getD _ _=_;simp[List.getD,hk,aa]
 have ak:m.v.away.eraseIdx ((p:Int).toNat % m.v.away.length)=(A++B).map MV.c:=by
  rw[G,Int.toNat_natCast,<-al];show(m.aw.map MV.c).eraseIdx _=_;exact zuz _ _ _
 have z:Hid (m.v.pick j p=if j=6 then { m.v with away:=zct m.v.away a.c } else if j=4 then({ m.v with away:=(A++B).map MV.c }:Fl).come a.c.tt a.c else { m.v with away:=(A++B).map MV.c }):=by
  show _=_;unfold Fl.pick;rw[iN_ (by rw[G];exact h0),aj,ak]
 obtain⟨aF,aA,e9,-,-,-,hR⟩:=zfm h.raw;cases e9;obtain⟨sb,so,ae,u⟩:=hR.at _ hk;rw[aa]at u;have ab:GM (zq U w) a:=by rw[<-aa];exact h.eaw _ (gM_ hk)
 have X:Hid (∀s∈A++B,GM (zq U w) s):=by
  show ∀_,_;intro s L;refine h.eaw s ?_;rw[M];rcases mA_.1 L with g|g;exact List.mem_append_left _ g;exact List.mem_append_right _ (mC_ _ g)
 refine kV_ ?A0 ?_;exact Value.slice m.aa (A++B).length m.ac;refine kV_ ?B0 ?_;exact Value.slice m.aa m.aw.length m.ac;have V:Hid (∀W:World,W.ownsRow 0 90 19 ?B0 m.aw.length (zY m.aw)->Calls prog 27 #[?B0,I_ ((p % m.aw.length:Nat):Int),I_ (((p % m.aw.length:Nat):Int)+1)] W λe w'=>e=.returned ?A0/\w'.ownsRow 0 90 19 ?A0 (A++B).length (zY (A++B))/\zV W ?B0 w' ?A0):=by
  show ∀_,_;intro W hW;rw[M]at hW am;have:=zso A a B m.aa m.ac 0 W am hW
  rwa [<-M,ai]at this
 have ah:Hid ((A++B).length<=400):=by
  show _<=_;have e1:m.aw.length=(A++a::B).length:=by rw[<-M]
  simp at e1|-
  omega
 obtain⟨i,hi,an⟩:=zwJ ab;have af:Hid _:=an;clear an;have y:=hN_ w (.cells mz_ 90);have c:=zbs w mz_ (mrow_ a.m) 90;have l:=sH_ _ _ _ (mrow_ a.m) _ _ y;have aD:((p % m.aw.length:Nat):Int)<(m.aw.length:Int):=by omega
 have aC:p % m.aw.length<400:=by omega
 have ag:((m.aw.length:Int) == 0)=false:=by rw[beq_eq_false_iff_ne];omega
 have aB:¬(m.aw.length:Int)=0:=by omega
 clear M ai aa al aj ak G hR h0;rw[ae]at I;have Z:Hid (m.aa=some (p_ sb so)):=ae;clear ae;generalize az:p % m.aw.length=k at*;clear az;generalize av:A++B=T at*;clear av;rcases ay with rfl|rfl|rfl;have r:Hid (m.v.pick 4 p=({ m.v with away:=T.map MV.c }:Fl).come a.c.tt a.c):=z.out
 rotate_left
 have r:Hid (m.v.pick 5 p={ m.v with away:=T.map MV.c }):=z.out
 rotate_left
 have r:Hid (m.v.pick 6 p={ m.v with away:=zct m.v.away a.c }):=z.out
 rotate_left
 all_goals
  clear z;go_in;go_upto_region 2 with fail
  go_upto_region 3 with(first|refine wpList_load_mid rfl 90 _ rfl sb (so+k*19) rfl (zcR a.m) _ u underlying90 rfl sMsg' ?_|refine wS_ rfl 90 _ _ rfl w.heap.size (mrow_ a.m) rfl rfl 90 _ y sMsg' rfl (by simp[Value.oneCell']) ?_)
  generalize ((w.alloc (.cells mz_ 90)).setRow w.heap.size (mrow_ a.m))=f at c l|-;clear y u I ad;have b:=h.below c;have ac:=ab.sub (h.later c);have D:Hid (U w.heap.size=false):=h.bnd.new (nR_ _);generalize w.heap.size=H at l D|-
 .have N:=b.cell 78 b.c78;have o:=V.out f b.raw;rw[Z.out]at N o;go_wp2_with fail
  refine o.mono ?_;rintro _ R⟨rfl,E,d⟩;dsimp only;clear o N;rw[<-Z.out]at E d|-;have C:=d.row (b.nd 0 (by decide)).blk (λe=>(b.uaw F (zp e)).2.1 rfl);have ao:=zb C 78 _ b.c78;have ap:=zd C 78;have J:∀q,(Value.slice m.aa m.aw.length m.ac).ownBlock=some q->U q=true:=λq e=>(h.uaw q (zp e)).1;have k:Sub (zq U f) (zq (zaF U (ob m.aa)) R):=by
   have:=((zao.refl U f).grew d J).sub
   rwa [zdb]at this
  have O:=b.more_aw d E (λs L=>((X.out s L).sub (h.later c)).sub k) ah.out;have Y:Hid _:=O;clear O k J X V;go_upto_region 6 with fail
  obtain⟨U7,au,m7,h7,n7,v7⟩:=Y.out;have ar:Hid _:=v7;clear Y v7 ao ap C E d;generalize R.setCell (p_ F 78) (.slice m.aa T.length m.ac)=W7 at h7 n7|-;have q7:=n7.box l D.out;have ax:=ac.sub n7.sub;have HC:=zle aw m7 i hi a W7 U7 F au h7 ax;have aq:Hid (m.v.pick 4 p=m7.v.come i a.c):=by
   show _=_;rw[r.out,ar.out];show _=({ m.v with away:=T.map MV.c }:Fl).come i a.c;rw[<-af.out]
   rfl
  have t1:C_ W7 H 1 (I_ (i:Int)):=by rw[<-af.out];exact zb q7 1 _ rfl
  go_wp2_with (refine wL_ rfl 90 _ rfl H rfl 90 (mrow_ a.m) (0,0) _ q7 underlying90 rfl sMsg' ?_)
  refine HC.mono ?_;rintro e w8⟨⟨v,t⟩,hF⟩;subst t;dsimp only;clear HC;go_wp2_with fail
  go_end0;exact⟨⟨_,rfl⟩,by rw[aq.out];exact zaa.after ((FTo.below U c).trans n7) hF⟩
 .have N:=b.cell 78 b.c78;have o:=V.out f b.raw;rw[Z.out]at N o;go_wp2_with fail
  refine o.mono ?_;rintro _ R⟨rfl,E,d⟩;dsimp only;clear o N;rw[<-Z.out]at E d|-;have C:=d.row (b.nd 0 (by decide)).blk (λe=>(b.uaw F (zp e)).2.1 rfl);have ao:=zb C 78 _ b.c78;have ap:=zd C 78;have J:∀q,(Value.slice m.aa m.aw.length m.ac).ownBlock=some q->U q=true:=λq e=>(h.uaw q (zp e)).1;have k:Sub (zq U f) (zq (zaF U (ob m.aa)) R):=by
   have:=((zao.refl U f).grew d J).sub
   rwa [zdb]at this
  have O:=b.more_aw d E (λs L=>((X.out s L).sub (h.later c)).sub k) ah.out;have Y:Hid _:=O;clear O k J X V;go_wp2_with fail
  go_end0;exact⟨⟨_,rfl⟩,by rw[r.out];exact zaa.after (FTo.below U c) Y.out⟩
 have HD:=znr m a f U F fc b ac;go_wp2_with (refine wL_ rfl 90 _ rfl H rfl 90 (mrow_ a.m) (0,0) _ l underlying90 rfl sMsg' ?_)
 refine HD.mono ?_;rintro e R⟨⟨v,t⟩,hF⟩;subst t;dsimp only;clear HD;go_wp2_with fail
 refine bP_ (results_none rfl _ _ _) rfl ?_;exact⟨⟨_,rfl⟩,by rw[r.out];exact zaa.after (FTo.below U c) hF⟩
theorem zqu (nx:Int)(c:Q_)(n b:Nat)(ss:Z_)(t:ByteArray)(w:World)(hn:n=ss.length)(r:zbu w c b ss)(R:t.size<=maxLen) :
  Calls prog 29 #[.agg #[I_ nx,.slice c n b],.string t] w λe w'=>zgu w w' e nx ss t:=by
 subst hn;refine kV_ ?A0 ?_;exact Value.slice c ss.length b;refine kO_ ?C0 ?_;exact Obj.cells #[I_ nx,?A0] 55;refine kO_ ?D0 ?_;exact Obj.cells #[I_ 0,O_] 55;have B:B_ w ((w.alloc ?C0).alloc ?D0):=((bR_ _ _).alloc (nR_ _) _).alloc (by simp) _;have T:=hX_ w ?C0 ?D0;have U:=hY_ w ?C0 ?D0;have X:Hid (∀W:World,B_ w W->Calls prog 38 #[.agg #[I_ nx,?A0]] W λe w'=>e=.returned (I_ (zaO nx ss))/\B_ W w'):=by
  show ∀_,_;intro W f;exact zjr nx c _ b ss W rfl (r.below f)
 have Z:Hid (∀W:World,B_ w W->Calls prog 39 #[.agg #[I_ nx,?A0],.string t] W λe w'=>e=.returned (I_ (zdK ss t))/\B_ W w'):=by
  show ∀_,_;intro W f;exact zrA nx c _ b ss t W rfl (r.below f) R
 refine kO_ ?B0 ?_;exact Obj.cells #[.string t] 9;have Y:Hid (ss.length<=40->∀W:World,B_ w W->Calls prog 40 #[?A0,.slice (some (p_ W.heap.size 0)) 1 1] (W.alloc ?B0) λe w'=>∃v,e=.returned v/\w'.ownsRow (W.alloc ?B0).heap.size 9 1 v (ss.length+1) (sv (ss++[t]))/\Below (W.alloc ?B0).heap.size (W.alloc ?B0) w'):=by
  show _->∀_,_;intro hl W f;have aa:=zC W ?B0;have h1:∀s∈[t],s.size<=maxLen:=λs h=>by rw[show s=t by simpa using h];exact R
  refine zi8 ss [t] c _ _ 1 b 1 _ rfl rfl (r.below (f.trans (aa.mono f.size))) ⟨by simp,by decide,(λe=>by cases e),⟨.inr ⟨W.heap.size,0,rfl,λj hj=>?_⟩,h1⟩⟩ (by omega);obtain rfl:j=0:=by simp at hj;omega
  exact zhz W #[.string t] 9 0 _ rfl
 clear r;go_in;go_wp2_with fail
 generalize (w.alloc ?C0).alloc ?D0=W0 at B T U|-;refine(X.out W0 B).mono ?_;rintro _ w1⟨rfl,D⟩;dsimp only;have C:=zm B D;have G:=zk D T;have o:=zk D U;have I:=zb G 0 (I_ nx) rfl;have J:=zb G 1 ?A0 rfl;have p:=zb o 0 (I_ 0) rfl;have q:=zb o 1 (O_) rfl;have L:=zd o 0;have M:=zd o 1;by_cases hc:zaO nx ss=0
 .have d:=zm3 (t:=t) hc;have ab:=(zjP hc).2.2.1;rw[hc];go_wp2_with fail
  refine(Z.out w1 C).mono ?_;rintro _ w2⟨rfl,E⟩;dsimp only;have l:=zm C E;have H:=zk E G;have g:=zk E o;clear I J p q L M;have I:=zb H 0 (I_ nx) rfl;have J:=zb H 1 ?A0 rfl;have p:=zb g 0 (I_ 0) rfl;have q:=zb g 1 (O_) rfl;have L:=zd g 0;have M:=zd g 1;by_cases hk:zdK ss t=0
  .rw[hk]at d|-;have z:Hid (zcD nx ss t=0):=d;have ad:=ze g;clear d hc hk;go_wp2_with fail
   go_region_held3 (λw'=>w'.cell? (p_ w.heap.size 0)=some (I_ nx)/\w'.cell? (p_ w.heap.size 1)=some ?A0) (go_keep) ((go_at_call 40;refine(Y.out ab _ l.drew).mono ?_;rintro e y⟨v3,rfl,O,m⟩;replace m:=zbE (zS m);have V:=zk m H;have u:=zk m g;have g0:y.cell? (p_ w.heap.size 0)=some (I_ nx):=zb V 0 _ rfl;have g1:y.cell? (p_ w.heap.size 1)=some ?A0:=zb V 1 _ rfl;have e0:y.cell? (p_ (w.heap.size+1) 0)=some (I_ 0):=zb u 0 _ rfl;have e1:y.cell? (p_ (w.heap.size+1) 1)=some (O_):=zb u 1 _ rfl;have k0:=zd u 0;have k1:=zd u 1;obtain⟨za,zc,rfl⟩:=zH O))
   all_goals
    go_wp2_with fail
    refine bodyPost_ret (v:=.tuple #[.agg #[I_ nx,.slice za (ss.length+1) zc],I_ 0]) (by simp[results,results29,go_sem,e0,e1]) rfl (zgu.good z.out rfl ?_ ?_)
    .exact ownsRow_base' (zQ (zQ O _ _ _ (by simp;omega)) _ _ _ (by simp;omega)) (by simp;have:=l.size;omega)
    .exact((l.trans (m.mono l.size)).setCell (by simp) _).setCell (by simp) _
  rw[<-d];have A:¬zcD nx ss t=0:=by rw[d];exact hk
  have ac:(zcD nx ss t != 0)=true:=by simpa using A
  have z:Hid (zcD nx ss t≠0):=A;clear d hc hk A;generalize hE:zcD nx ss t=ec at*;go_wp2_with fail
  refine bodyPost_ret (v:=.tuple #[.agg #[I_ 0,O_],I_ ec]) (by simp[results,results29,go_sem,p,q]) rfl (zgu.bad hE z.out ?_);exact(l.setCell (by simp) _).setCell (by simp) _
 have d:=zvv (t:=t) hc;have N:zaO nx ss=12:=by rcases zkH nx ss with h|h;exact absurd h hc;exact h
 rw[N];clear hc N;go_wp2_with fail
 refine bodyPost_ret (v:=.tuple #[.agg #[I_ 0,O_],I_ 12]) (by simp[results,results29,go_sem,p,q]) rfl (zgu.bad d (by decide) ?_);exact(C.setCell (by simp) _).setCell (by simp) _
variable {ss:Z_}{m:FM}{t:ByteArray}
theorem zsp (m:FM)(i:Nat)(b:i<4)(w:World)(U:Nat->Bool)(F:Nat)(j:X_)(h:zJ w U F j m) :
  Calls prog 21 #[P_ F 0,I_ (i:Int)] w λe w'=>(∃v,e=.returned v)/\zaa w U F w' (m.v.start i):=by
 have c:=zld m i w U F j h;have d:Hid (m.v.start i=if(i:Int)=m.bad then m.v else m.v.set i { (m.x i).v with up:=true }):=by
  show _=_;rw[Fl.start,FM.node_v m i b]
  rfl
 have q:(i:Int)<4:=by omega
 have o:=(h.nd i b).cell 1 _ rfl;have p:=(h.nd i b).free (i*19+1);go_in;by_cases hb:(i:Int)=m.bad;rw[dT_ hb]at c;have f:Hid (m.v.start i=m.v):=by show _=_;rw[d.out,iP_ hb]
 rotate_left
 rw[dF_ hb]at c;have f:Hid (m.v.start i=m.v.set i { (m.x i).v with up:=true }):=by show _=_;rw[d.out,iN_ hb]
 rotate_left
 all_goals
  clear hb d;go_wp2_with fail
  refine c.mono ?_;rintro _ l⟨rfl,rfl⟩;dsimp only;clear c;go_wp2_with fail
  go_end0
 exact⟨⟨_,rfl⟩,by rw[f.out];exact zaa.refl h⟩;exact⟨⟨_,rfl⟩,by rw[f.out];exact h.acts b ((h.nd i b).put_up (b':=true) (bR_ _ _) ((h.nd i b).inv.up_ true)) (h.nu i b)⟩
def Fl.subE (f:Fl)(i:Int)(t:ByteArray):Int:=if f.runs i=false then 12 else zcD (f.node i).nx (f.node i).txs t
def Fl.subF (f:Fl)(i:Int)(t:ByteArray):Fl:=if f.runs i=false then f else if zcD (f.node i).nx (f.node i).txs t=0 then f.set i { f.node i with txs:=(f.node i).txs++[t] } else f
theorem zuA (f:Fl)(i:Int)(t:ByteArray):f.submit i t={ f.subF i t with codes:=f.codes++[f.subE i t] }:=by
 unfold Fl.submit Fl.subF Fl.subE
 split
 rfl
 split
 rename_i e;rw[e]
 rfl
theorem zyH {nx:Int}(f:zaO nx ss=0)(h:zcD nx ss t=0):zaO nx (ss++[t])=0:=by
 rw[zm3 f,zdK]at h;by_cases h1:zbM t=false;rw[iP_ h1]at h;cases h;rw[iN_ h1]at h;by_cases h2:inS t ss=true;rw[iP_ h2]at h;cases h;rw[iN_ h2]at h;by_cases h3:40<=ss.length;rw[iP_ h3]at h;cases h;obtain⟨a,b,c,d⟩:=zjP f;obtain⟨o,p⟩:=zdJ.1 d;rw[zaO,iN_ (by rw[lP_];simp;omega),iP_];refine zdJ.2 ⟨λs m=>?_,?_⟩;rcases mA_.1 m with g|g;exact o s g;rw[mS_.1 g];simpa using h1;refine List.nodup_append.2 ⟨p,by simp,λa j b l e=>h2 ?_⟩;rw[inS,aT_];exact⟨a,j,by rw[e,mS_.1 l];simp⟩
def zeQ (w:World)(U:Nat->Bool)(F:Nat)(m:FM)(w':World)(f:Fl):Prop:=
 ∃U' fc' m',zJ w' U' F fc' m'/\FTo U U' w w'/\m'.v=f/\m'.ca=m.ca/\m'.cc=m.cc/\m'.cs=m.cs
theorem zeQ.refl (h:zJ w U F fc m):zeQ w U F m w m.v:=⟨U,fc,m,h,FTo.refl _ _,rfl,rfl,rfl,rfl⟩
theorem zeQ.quiet (h:zJ w U F fc m)(b:B_ w w'):zeQ w U F m w' m.v:=⟨U,fc,m,h.below b,FTo.below U b,rfl,rfl,rfl,rfl⟩
theorem zJ.actsC (h:zJ w U F fc m){i:Nat}(b:i<4){n:Nd}(l:zal w U F (i*19) 72 fc (m.x i) w' n)(o:n.nu=i):zeQ w U F m w' (m.v.set i n):=by
 obtain⟨f,g,y,j,c,d⟩:=l;refine⟨f,g,m.set i y,h.node b j c (by rw[<-o,<-d];rfl),(c.goes (h.nd i b)).fto,?_,rfl,rfl,rfl⟩;rw[FM.set_v m i y b,d]
theorem zqv (m:FM)(i:Nat)(c:i<4)(t:ByteArray)(ht:t.size<=maxLen)(w:World)(U:Nat->Bool)(F:Nat)(N:X_)(h:zJ w U F N m) :
  Calls prog 19 #[P_ F 0,I_ (i:Int),.string t] w λe w'=>e=.returned (I_ (m.v.subE i t))/\zeQ w U F m w' (m.v.subF i t):=by
 have q:=zj1 m i c w U F N h;have j:=h.nd i c;have d:Hid (m.v.subE i t=if m.v.runs i=false then 12 else zcD (m.x i).nx (m.x i).txs t):=by show _=_;rw[Fl.subE,FM.node_v m i c];rfl
 have f:Hid (m.v.subF i t=if m.v.runs i=false then m.v else if zcD (m.x i).nx (m.x i).txs t=0 then m.v.set i { (m.x i).v with txs:=(m.x i).txs++[t] } else m.v):=by show _=_;rw[Fl.subF,FM.node_v m i c];rfl
 have ac:(i:Int)<4:=by omega
 generalize m.v.runs i=b at q d f;go_in;cases b with
 | false=>
  go_wp2_with fail
  refine q.mono ?_;rintro _ w1⟨rfl,rfl⟩;dsimp only;clear q;go_wp2_with fail
  go_ret;exact⟨by rw[d.out];rfl,by rw[f.out];exact zeQ.refl h⟩
 | true=>
  have Z:=j.cell 2 _ rfl;have c3:=j.cell 3 _ rfl;have H:=zqu (m.x i).nx (m.x i).pa _ (m.x i).pc (m.x i).txs t w rfl (j.etx.sub (zK _ _)) ht;go_wp2_with fail
  refine q.mono ?_;rintro _ w1⟨rfl,rfl⟩;dsimp only;clear q;go_wp2_with fail
  refine H.mono ?_;rintro e w2⟨v,r,s,C⟩;subst r;dsimp only;clear H Z c3;obtain⟨o,p,rfl⟩:=zH s;by_cases hp:zcD (m.x i).nx (m.x i).txs t=0;refine kO_ ?A0 ?_;exact Obj.cells #[I_ (m.x i).nx,.slice o ((m.x i).txs++[t]).length p] 55
  .have L:zmh (m.x i).nx (m.x i).txs t=(m.x i).nx:=by rw[zmh,iP_ hp]
   have M:zk3 (m.x i).nx (m.x i).txs t=(m.x i).txs++[t]:=by rw[zk3,iP_ hp]
   rw[L,hp];rw[M]at s|-;have D:zaO (m.x i).nx ((m.x i).txs++[t])=0:=zyH j.inv.pool hp;obtain⟨-,u,T⟩:=zo8 (A:=0) (O:=0) s (zl0 D);have g:=zC w2 ?A0;have G:=hN_ w2 ?A0;have z:Hid (m.v.subE i t=0):=by show _=_;rw[d.out,iN_ (by decide),hp]
   have B:Hid (m.v.subF i t=m.v.set i { (m.x i).v with txs:=(m.x i).txs++[t] }):=by show _=_;rw[f.out,iN_ (by decide),iP_ hp]
   have aa:zbu (zq U w2) o p ((m.x i).txs++[t]):=⟨u.le,u.max,u.nil,u.strs.hid (λsb so e _=>h.bnd.new (T sb so e))⟩;have X:Hid _:=D;clear hp L M s u T D d f;generalize V:(m.x i).txs++[t]=ts at*;have ab:Hid _:=V;clear V;go_upto_region 5 with fail
   generalize w2.alloc (.cells #[I_ (m.x i).nx,.slice o ts.length p] 55)=Y at g G|-;have R:=zm C g;have y:=h.below R;have d0:=zb G 0 _ rfl;have d1:=zb G 1 _ rfl;have k2:=(y.nd i c).cell 2 _ rfl;have k3:=(y.nd i c).cell 3 _ rfl;have f2:=(y.nd i c).free (i*19+2);have f3:=(y.nd i c).free (i*19+3);go_wp2_with fail
   go_ret;refine⟨by rw[z.out];rfl,?_⟩;rw[B.out];exact h.actsC c (j.put_pool R (aa.sub (zao.below U g).sub) (j.inv.pool_ (nx:=(m.x i).nx) (l:=ts) X.out)) (h.nu i c)
  have ad:(zcD (m.x i).nx (m.x i).txs t == 0)=false:=by simpa using hp
  have z:Hid (m.v.subE i t=zcD (m.x i).nx (m.x i).txs t):=by show _=_;rw[d.out,iN_ (by decide)]
  have B:Hid (m.v.subF i t=m.v):=by show _=_;rw[f.out,iN_ (by decide),iN_ hp]
  generalize zcD (m.x i).nx (m.x i).txs t=E at*;generalize zmh (m.x i).nx (m.x i).txs t=J;generalize zk3 (m.x i).nx (m.x i).txs t=I;have g:=zC w2 (.cells #[I_ J,.slice o I.length p] 55);clear hp d f s;go_upto_region 5 with fail
  generalize w2.alloc (.cells #[I_ J,.slice o I.length p] 55)=Y at g|-;go_wp2_with fail
  go_ret;exact⟨by rw[z.out];rfl,by rw[B.out];exact zeQ.quiet h (C.trans (g.mono C.size))⟩
variable {i p:Int}
theorem zsq:(prog.info? 26).map (·.size)=some 4:=by kernel_rfl
theorem zxA:(prog.info? 43).map (λi=>(i.zero,i.size,i.bytes))=some (some (I_ 0),1,8):=by kernel_rfl
theorem zwd {f:Fl}{k:Int}(h:k=4\/k=5\/k=6):f.act k i p t=f.pick k p:=iP_ h
theorem zwe {f:Fl}:f.act 10 i p t=f.flow:=by unfold Fl.act;rw[iN_ (by decide),iP_ rfl]
theorem zsr {f:Fl}:f.act 1 i p t=f.submit i t:=by unfold Fl.act;rw[iN_ (by decide),iN_ (by decide),iP_ rfl]
theorem zuB {f:Fl}:f.act 9 i p t=f.forge i t:=by unfold Fl.act;rw[iN_ (by decide),iN_ (by decide),iN_ (by decide),iP_ rfl]
theorem zuC {f:Fl}:f.act 8 i p t=f.start i:=by unfold Fl.act;rw[iN_ (by decide),iN_ (by decide),iN_ (by decide),iN_ (by decide),iP_ rfl]
theorem zyI {f:Fl}{k:Int}(h:k=2\/k=3\/k=7):f.act k i p t=if f.runs i then(if k=2 then f.set i (f.node i).work else if k=3 then f.sync i else f.set i ((f.node i).crash p))else f:=by
 unfold Fl.act;rw[iN_ (by omega),iN_ (by omega),iN_ (by omega),iN_ (by omega),iN_ (by omega),iP_ h]
theorem zxB (aw:zhO)(m:FM)(f:Int)(aH:1<=f/\f<=10)(i:Nat)(hi:i<4)(p:Nat)(hp:p<=400000)(t:ByteArray)(ht:t.size<=4000)(w:World)(U:Nat->Bool)(F:Nat)(fc:X_)(h:zJ w U F fc m)(aJ:m.gs.length<=2932031006000)(aK:m.cs.length<=1000000) :
  Calls prog 13 #[P_ F 0,.agg #[I_ f,I_ (i:Int),I_ (p:Int),.string t]] w λe w'=>(∃v,e=.returned v)/\zaa w U F w' (m.v.act f i p t):=by
 refine kA_ ?B0 ?_;exact #[I_ f,I_ (i:Int),I_ (p:Int),.string t];have D:=zC w (.cells ?B0 26);have q0:=hN_ w (.cells ?B0 26);go_in;go_upto_region 1 with fail
 generalize w.alloc (.cells ?B0 26)=W0 at D q0|-;have h0:=h.below D;have ad:Hid (U w.heap.size=false):=h.bnd.new (nR_ _);generalize w.heap.size=B at q0 ad|-;have a0:=zb q0 0 _ rfl;have a1:=zb q0 1 _ rfl;have a2:=zb q0 2 _ rfl;have a3:=zb q0 3 _ rfl;have hc:(f=4\/f=5\/f=6)\/f=10\/f=1\/f=9\/f=8\/(f=2\/f=3\/f=7):=by omega
 clear aH;rcases hc with hk|rfl|rfl|rfl|rfl|hk
 .have z:Hid (m.v.act f i p t=m.v.pick f p):=zwd hk;have R:=zwc aw m f hk p hp W0 U F fc h0;rcases hk with rfl|rfl|rfl
  .go_wp2_with fail
   refine R.mono ?_;rintro e J⟨⟨v,l⟩,hF⟩;subst l;dsimp only;clear R;go_wp2_with fail
   go_end0;exact⟨⟨_,rfl⟩,by rw[z.out];exact zaa.after (FTo.below U D) hF⟩
  .go_wp2_with fail
   refine R.mono ?_;rintro e J⟨⟨v,l⟩,hF⟩;subst l;dsimp only;clear R;go_wp2_with fail
   go_end0;exact⟨⟨_,rfl⟩,by rw[z.out];exact zaa.after (FTo.below U D) hF⟩
  go_wp2_with fail
  refine R.mono ?_;rintro e J⟨⟨v,l⟩,hF⟩;subst l;dsimp only;clear R;go_wp2_with fail
  go_end0;exact⟨⟨_,rfl⟩,by rw[z.out];exact zaa.after (FTo.below U D) hF⟩
 .have z:Hid (m.v.act 10 i p t=m.v.flow):=zwe;have R:=zv5 aw m W0 U F fc h0;go_wp2_with fail
  refine R.mono ?_;rintro e J⟨⟨v,l⟩,hF⟩;subst l;dsimp only;clear R;go_wp2_with fail
  go_end0;exact⟨⟨_,rfl⟩,by rw[z.out];exact zaa.after (FTo.below U D) hF⟩
 refine kV_ ?A0 ?_;exact Value.slice m.ca m.cs.length m.cc
 .have z:Hid (m.v.act 1 i p t={ m.v.subF i t with codes:=m.v.codes++[m.v.subE i t] }):=zsr.trans (zuA _ _ _);have av:Hid (∀V:World,B_ W0 V->Calls prog 19 #[P_ F 0,I_ (i:Int),.string t] V λe w'=>e=.returned (I_ (m.v.subE i t))/\zeQ V U F m w' (m.v.subF i t)):=by
   show ∀V,_;intro V hV;exact zqv m i hi t (by unfold maxLen;omega) V U F fc (h0.below hV)
  generalize aF:m.v.subE i t=E at av z;clear aF;have au:∀(V2 V3:World) (o:Nat->Bool) (aa:X_) (r:FM) (N:Q_) (O:Nat),zJ V2 o F aa r->FTo U o w V2->r.v=m.v.subF i t->r.ca=m.ca->r.cc=m.cc->r.cs=m.cs->V3.ownsRow 0 43 1 (.slice N (m.cs++[E]).length O) (m.cs++[E]).length (iv (m.cs++[E]))->zV V2 ?A0 V3 (.slice N (m.cs++[E]).length O)->(∃v,Ending.returned (.tuple #[])=.returned v)/\zaa w U F (V3.setCell (p_ F 79) (.slice N (m.cs.length+1) O)) (m.v.act 1 i p t):=by
   intro V2 V3 o aa r N O M C v9 e1 e2 e3 ho G;refine⟨⟨_,rfl⟩,?_⟩;have aI:(m.cs++[E]).length=m.cs.length+1:=by simp
   rw[<-e1,<-e2,<-e3]at G;rw[<-e3]at ho;have aC:=M.more_co G ho;rw[e3,aI]at aC;rw[z.out,<-v9];exact zaa.after C aC
  go_upto_region 9 with fail
  obtain⟨ti,ax,ay,az,aA⟩:=info_parts zxA;have y:=dB_ W0;have I:=dQ_ q0;refine wR_ (S:=λw'=>R_ w' B #[I_ 1,I_ (i:Int),I_ (p:Int),.string t] 26) (by kernel_rfl) I (λc=>?_);generalize W0.drew=X at y I c|-;have aB:=h0.below y;refine tks_ 6 [(0,22,(P_ F 0)),(1,23,(P_ F 0)),(2,24,(P_ F 0)),(3,25,(P_ F 79)),(5,27,(P_ F 0)),(6,28,(P_ B 1))] c ?_;simp only[tkf_,zf];refine tQ_ 7 29 (I_ (i:Int)) rfl rfl (Or.inl ⟨by rfl,λw0 T=>by have k0:=zb T 1 _ rfl;go_simp⟩) c ?_;simp only[zf];refine zU 8 30 (P_ B 3) rfl rfl c ?_;simp only[zf];refine tQ_ 9 31 (.string t) rfl rfl (Or.inl ⟨by rfl,λw0 T=>by have k0:=zb T 3 _ rfl;go_simp⟩) c ?_;simp only[zf];refine rY_ (rs:=[4,10]) (by kernel_rfl) (by simp) (rA_ rfl (λL d=>?_) (rA_ rfl (λL d=>?_) rN_));refine kO_ ?F0 ?_;exact Obj.cells #[I_ E] 43
  .skip
   have ao:=aB.cell 79 aB.c79;refine zy rfl 26 rfl ?A0 X (by go_simp) ?_;refine d.out _ _ I (λc=>?_);simp only[zf];clear ao;refine zE 10 rfl (λL d=>?_);refine zj rfl 32 rfl 19 [.tmp 27,.tmp 29,.tmp 31] #[47,3,9] rfl [P_ F 0,I_ (i:Int),.string t] rfl (eO_ func19) (λv w'=>v=I_ E/\zeQ X U F m w' (m.v.subF i t)) ((av.out X y).mono (λe w' k=>⟨_,k.1,rfl,k.2⟩)) ?_;rintro v g⟨rfl,o,aa,r,M,C,v9,e1,e2,e3⟩;have ab:=C.box I ad.out;have ar:Hid _:=v9;clear v9;have am:C_ g F 79 ?A0:=by have:=M.cell 79 M.c79;rwa [e1,e2,e3]at this
   have s:Hid (r.ca=m.ca/\r.cc=m.cc/\r.cs=m.cs):=⟨e1,e2,e3⟩;clear e1 e2 e3;refine d.out _ _ ab (λc=>?_);simp only[zf];refine zE 11 rfl (λL d=>?_);refine zy rfl 33 rfl (.slice (some (p_ g.heap.size 0)) 1 1) (g.alloc ?F0) (by go_simp) ?_;have H:=zC g ?F0;have N_:=hN_ g ?F0;have ac:=zk H ab;have al:=zr H am;refine d.out _ _ ac (λc=>?_);simp only[zf];generalize g.alloc ?F0=V2 at H N_ ac al c|-;generalize g.heap.size=nb at N_|-;have A:=M.below H;have ae:=C.trans (FTo.below o H);refine zE 12 rfl (λL d=>?_);have aj:=A.rco;rw[s.out.1,s.out.2.1,s.out.2.2]at aj;refine zaz rfl 34 rfl (.tmp 26) (.tmp 33) 29 rfl 0 43 ti (I_ 0) 1 8 underlying29 ax ay az aA rfl (by decide) ?A0 m.cs.length (iv m.cs) rfl aj (p_ nb 0) 1 1 [I_ E] rfl rfl (λj u Y=>by rw[zaP,zA_];exact zb N_ j u (by rw[<-Array.getElem?_toList];exact Y)) (by intro u Y;simp at Y;subst Y;rfl) (by unfold maxLen;omega) (by omega) (nZ_ _) ?_;intro v3 V3 ai G3;obtain⟨N,O,an⟩:=zH ai;subst an;have ah:∀q,(Value.slice m.ca m.cs.length m.cc).ownBlock=some q->o q=true/\q≠F:=λq e=>by have k:=A.uco q (by rw[s.out.1];exact zp e);exact⟨k.1,k.2.1⟩
   have ag:=ae.us B (by have:=ze q0;exact nL_ this (by have:=y.size;exact this)) ad.out;have ak:=G3.row ac (λe=>by have k:=(ah B e).1;rw[ag]at k;cases k);have af:=G3.row (A.nd 0 (by decide)).blk (λe=>(ah F e).2 rfl);refine d.out _ _ ak (λc=>?_);simp only[zf];refine tks_ 2 [(13,35,(P_ F 0)),(14,36,(P_ F 79))] c ?_;simp only[tkf_,zf];refine zE 15 rfl (λL d=>?_);have aD:=zb af 79 _ A.c79;have aE:=zd af 79;refine zX rfl rfl (V3.setCell (p_ F 79) (.slice N (m.cs.length+1) O)) (by go_simp) ?_;have ap:=zh (b:=F) (j:=79) (v:=.slice N (m.cs.length+1) O) ak (λe=>by have k:=ag;rw[e,A.fu]at k;cases k);refine d.out _ _ ap (λc=>?_);refine wD_ (by kernel_rfl) ?_ _;go_wp2_with fail
   go_end0;exact au V2 V3 o aa r N O A (((FTo.below U D).trans (FTo.below U y)).trans ae) ar.out s.out.1 s.out.2.1 s.out.2.2 (by simpa[iv]using ai) (by simpa using G3)
  skip
  refine zj rfl 32 rfl 19 [.tmp 27,.tmp 29,.tmp 31] #[47,3,9] rfl [P_ F 0,I_ (i:Int),.string t] rfl (eO_ func19) (λv w'=>v=I_ E/\zeQ X U F m w' (m.v.subF i t)) ((av.out X y).mono (λe w' k=>⟨_,k.1,rfl,k.2⟩)) ?_;rintro v g⟨rfl,o,aa,r,M,C,v9,e1,e2,e3⟩;have ab:=C.box I ad.out;have ar:Hid _:=v9;clear v9;have am:C_ g F 79 ?A0:=by have:=M.cell 79 M.c79;rwa [e1,e2,e3]at this
  have s:Hid (r.ca=m.ca/\r.cc=m.cc/\r.cs=m.cs):=⟨e1,e2,e3⟩;clear e1 e2 e3;refine d.out _ _ ab (λc=>?_);simp only[zf];refine rY_ (rs:=[4,11]) (by kernel_rfl) (by simp) (rA_ rfl (λL d=>?_) (rA_ rfl (λL d=>?_) rN_))
  .skip
   have ao:=am;refine zy rfl 26 rfl ?A0 g (by go_simp) ?_;refine d.out _ _ ab (λc=>?_);simp only[zf];clear ao;refine zE 11 rfl (λL d=>?_);refine zy rfl 33 rfl (.slice (some (p_ g.heap.size 0)) 1 1) (g.alloc ?F0) (by go_simp) ?_;have H:=zC g ?F0;have N_:=hN_ g ?F0;have ac:=zk H ab;have al:=zr H am;refine d.out _ _ ac (λc=>?_);simp only[zf];generalize g.alloc ?F0=V2 at H N_ ac al c|-;generalize g.heap.size=nb at N_|-;have A:=M.below H;have ae:=C.trans (FTo.below o H);refine zE 12 rfl (λL d=>?_);have aj:=A.rco;rw[s.out.1,s.out.2.1,s.out.2.2]at aj;refine zaz rfl 34 rfl (.tmp 26) (.tmp 33) 29 rfl 0 43 ti (I_ 0) 1 8 underlying29 ax ay az aA rfl (by decide) ?A0 m.cs.length (iv m.cs) rfl aj (p_ nb 0) 1 1 [I_ E] rfl rfl (λj u Y=>by rw[zaP,zA_];exact zb N_ j u (by rw[<-Array.getElem?_toList];exact Y)) (by intro u Y;simp at Y;subst Y;rfl) (by unfold maxLen;omega) (by omega) (nZ_ _) ?_;intro v3 V3 ai G3;obtain⟨N,O,an⟩:=zH ai;subst an;have ah:∀q,(Value.slice m.ca m.cs.length m.cc).ownBlock=some q->o q=true/\q≠F:=λq e=>by have k:=A.uco q (by rw[s.out.1];exact zp e);exact⟨k.1,k.2.1⟩
   have ag:=ae.us B (by have:=ze q0;exact nL_ this (by have:=y.size;exact this)) ad.out;have ak:=G3.row ac (λe=>by have k:=(ah B e).1;rw[ag]at k;cases k);have af:=G3.row (A.nd 0 (by decide)).blk (λe=>(ah F e).2 rfl);refine d.out _ _ ak (λc=>?_);simp only[zf];refine tks_ 2 [(13,35,(P_ F 0)),(14,36,(P_ F 79))] c ?_;simp only[tkf_,zf];refine zE 15 rfl (λL d=>?_);have aD:=zb af 79 _ A.c79;have aE:=zd af 79;refine zX rfl rfl (V3.setCell (p_ F 79) (.slice N (m.cs.length+1) O)) (by go_simp) ?_;have ap:=zh (b:=F) (j:=79) (v:=.slice N (m.cs.length+1) O) ak (λe=>by have k:=ag;rw[e,A.fu]at k;cases k);refine d.out _ _ ap (λc=>?_);refine wD_ (by kernel_rfl) ?_ _;go_wp2_with fail
   go_end0;exact au V2 V3 o aa r N O A (((FTo.below U D).trans (FTo.below U y)).trans ae) ar.out s.out.1 s.out.2.1 s.out.2.2 (by simpa[iv]using ai) (by simpa using G3)
  skip
  refine zy rfl 33 rfl (.slice (some (p_ g.heap.size 0)) 1 1) (g.alloc ?F0) (by go_simp) ?_;have H:=zC g ?F0;have N_:=hN_ g ?F0;have ac:=zk H ab;have al:=zr H am;refine d.out _ _ ac (λc=>?_);simp only[zf];generalize g.alloc ?F0=V2 at H N_ ac al c|-;generalize g.heap.size=nb at N_|-;have A:=M.below H;have ae:=C.trans (FTo.below o H);refine zE 4 rfl (λL d=>?_);have ao:=al;refine zy rfl 26 rfl ?A0 V2 (by go_simp) ?_;refine d.out _ _ ac (λc=>?_);simp only[zf];clear ao;refine zE 12 rfl (λL d=>?_);have aj:=A.rco;rw[s.out.1,s.out.2.1,s.out.2.2]at aj;refine zaz rfl 34 rfl (.tmp 26) (.tmp 33) 29 rfl 0 43 ti (I_ 0) 1 8 underlying29 ax ay az aA rfl (by decide) ?A0 m.cs.length (iv m.cs) rfl aj (p_ nb 0) 1 1 [I_ E] rfl rfl (λj u Y=>by rw[zaP,zA_];exact zb N_ j u (by rw[<-Array.getElem?_toList];exact Y)) (by intro u Y;simp at Y;subst Y;rfl) (by unfold maxLen;omega) (by omega) (nZ_ _) ?_;intro v3 V3 ai G3;obtain⟨N,O,an⟩:=zH ai;subst an;have ah:∀q,(Value.slice m.ca m.cs.length m.cc).ownBlock=some q->o q=true/\q≠F:=λq e=>by have k:=A.uco q (by rw[s.out.1];exact zp e);exact⟨k.1,k.2.1⟩
  have ag:=ae.us B (by have:=ze q0;exact nL_ this (by have:=y.size;exact this)) ad.out;have ak:=G3.row ac (λe=>by have k:=(ah B e).1;rw[ag]at k;cases k);have af:=G3.row (A.nd 0 (by decide)).blk (λe=>(ah F e).2 rfl);refine d.out _ _ ak (λc=>?_);simp only[zf];refine tks_ 2 [(13,35,(P_ F 0)),(14,36,(P_ F 79))] c ?_;simp only[tkf_,zf];refine zE 15 rfl (λL d=>?_);have aD:=zb af 79 _ A.c79;have aE:=zd af 79;refine zX rfl rfl (V3.setCell (p_ F 79) (.slice N (m.cs.length+1) O)) (by go_simp) ?_;have ap:=zh (b:=F) (j:=79) (v:=.slice N (m.cs.length+1) O) ak (λe=>by have k:=ag;rw[e,A.fu]at k;cases k);refine d.out _ _ ap (λc=>?_);refine wD_ (by kernel_rfl) ?_ _;go_wp2_with fail
  go_end0;exact au V2 V3 o aa r N O A (((FTo.below U D).trans (FTo.below U y)).trans ae) ar.out s.out.1 s.out.2.1 s.out.2.2 (by simpa[iv]using ai) (by simpa using G3)
 .have z:Hid (m.v.act 9 i p t=m.v.forge i t):=zuB;have R:=zul aw m i hi t ht W0 U F fc h0;go_wp2_with fail
  refine R.mono ?_;rintro e J⟨⟨v,l⟩,hF⟩;subst l;dsimp only;clear R;go_wp2_with fail
  go_end0;exact⟨⟨_,rfl⟩,by rw[z.out];exact zaa.after (FTo.below U D) hF⟩
 .have z:Hid (m.v.act 8 i p t=m.v.start i):=zuC;have R:=zsp m i hi W0 U F fc h0;go_wp2_with fail
  refine R.mono ?_;rintro e J⟨⟨v,l⟩,hF⟩;subst l;dsimp only;clear R;go_wp2_with fail
  go_end0;exact⟨⟨_,rfl⟩,by rw[z.out];exact zaa.after (FTo.below U D) hF⟩
 refine kA_ ?C0 ?_;exact #[I_ 2,I_ (i:Int),I_ (p:Int),.string t];refine kA_ ?D0 ?_;exact #[I_ 3,I_ (i:Int),I_ (p:Int),.string t];refine kA_ ?E0 ?_;exact #[I_ 7,I_ (i:Int),I_ (p:Int),.string t];have z:Hid (m.v.act f i p t=if m.v.runs i then(if f=2 then m.v.set i (m.v.node i).work else if f=3 then m.v.sync i else m.v.set i ((m.v.node i).crash p))else m.v):=zyI hk;have Z:=zj1 m i hi W0 U F fc h0;generalize m.v.runs i=b at Z z;have aq:Hid (∀V:World,B_ W0 V->Calls prog 23 #[P_ F 0,(P_ F (i*19)),.agg ?B0] V λe w'=>∃v,e=.returned v/\zaa V U F w' (if f=2 then m.v.set i (m.v.node i).work else if f=3 then m.v.sync i else m.v.set i ((m.v.node i).crash p))):=by
  show ∀V,_;intro V hV;refine(zsl m f hk i hi p hp t V U F fc (h0.below hV) aJ).mono (λe w' k=>?_);obtain⟨⟨v,l⟩,k⟩:=k;exact⟨v,l,k⟩
 have aL:(i:Int)<4:=by omega
 generalize aG:(if f=2 then m.v.set i (m.v.node i).work else if f=3 then m.v.sync i else m.v.set i ((m.v.node i).crash p))=GL at z aq;clear aG;rcases hk with rfl|rfl|rfl;cases b with
 | false=>
  go_wp2_with fail
  refine Z.mono ?_;rintro _ J⟨rfl,rfl⟩;dsimp only;clear Z;go_wp2_with fail
  go_end0;exact⟨⟨_,rfl⟩,by rw[z.out];exact zaa.quiet h D⟩
 | true=>
  go_wp2_with fail
  refine Z.mono ?_;rintro _ J⟨rfl,rfl⟩;dsimp only;clear Z;go_upto_region 18 with fail
  have y:=dB_ J;have I:=dQ_ q0;refine wR_ (S:=λw'=>R_ w' B ?C0 26) (by kernel_rfl) I (λc=>?_);generalize J.drew=X at y I c|-;refine tks_ 3 [(0,59,(P_ F 0)),(1,60,(P_ F 0)),(2,61,(P_ B 1))] c ?_;simp only[tkf_,zf];refine tQ_ 3 62 (I_ (i:Int)) rfl rfl (Or.inl ⟨by rfl,λw0 T=>by have k0:=zb T 1 _ rfl;go_simp⟩) c ?_;simp only[zf];refine tks_ 3 [(4,63,(P_ F 0)),(5,64,(P_ F 0)),(6,65,(P_ F (i*19)))] c ?_;simp only[tkf_,zf];refine tQ_ 7 66 (.agg ?C0) rfl rfl (Or.inl ⟨by rfl,λw0 T=>zL 26 _ rfl B rfl 26 ?C0 (0,0) _ T underlying26 rfl zsq⟩) c ?_;simp only[zf];refine zE 8 rfl (λL d=>?_);refine zj rfl 67 rfl 23 [.tmp 59,.tmp 65,.tmp 66] #[47,80,26] rfl [P_ F 0,(P_ F (i*19)),.agg ?C0] rfl (eO_ func23) (λv w'=>zaa X U F w' GL) ((aq.out X y).mono (λe w' k=>k)) ?_;rintro v g⟨o,aa,r,M,C,v9⟩;have ab:=C.box I ad.out;refine d.out _ _ ab (λc=>?_);simp only[zf];clear c;refine wD_ (by kernel_rfl) ?_ _;go_wp2_with fail
  go_end0;exact⟨⟨_,rfl⟩,by rw[z.out];exact zaa.after ((FTo.below U D).trans (FTo.below U y)) ⟨o,aa,r,M,C,v9⟩⟩
 cases b with
 | false=>
  go_wp2_with fail
  refine Z.mono ?_;rintro _ J⟨rfl,rfl⟩;dsimp only;clear Z;go_wp2_with fail
  go_end0;exact⟨⟨_,rfl⟩,by rw[z.out];exact zaa.quiet h D⟩
 | true=>
  go_wp2_with fail
  refine Z.mono ?_;rintro _ J⟨rfl,rfl⟩;dsimp only;clear Z;go_upto_region 18 with fail
  have y:=dB_ J;have I:=dQ_ q0;refine wR_ (S:=λw'=>R_ w' B ?D0 26) (by kernel_rfl) I (λc=>?_);generalize J.drew=X at y I c|-;refine tks_ 3 [(0,59,(P_ F 0)),(1,60,(P_ F 0)),(2,61,(P_ B 1))] c ?_;simp only[tkf_,zf];refine tQ_ 3 62 (I_ (i:Int)) rfl rfl (Or.inl ⟨by rfl,λw0 T=>by have k0:=zb T 1 _ rfl;go_simp⟩) c ?_;simp only[zf];refine tks_ 3 [(4,63,(P_ F 0)),(5,64,(P_ F 0)),(6,65,(P_ F (i*19)))] c ?_;simp only[tkf_,zf];refine tQ_ 7 66 (.agg ?D0) rfl rfl (Or.inl ⟨by rfl,λw0 T=>zL 26 _ rfl B rfl 26 ?D0 (0,0) _ T underlying26 rfl zsq⟩) c ?_;simp only[zf];refine zE 8 rfl (λL d=>?_);refine zj rfl 67 rfl 23 [.tmp 59,.tmp 65,.tmp 66] #[47,80,26] rfl [P_ F 0,(P_ F (i*19)),.agg ?D0] rfl (eO_ func23) (λv w'=>zaa X U F w' GL) ((aq.out X y).mono (λe w' k=>k)) ?_;rintro v g⟨o,aa,r,M,C,v9⟩;have ab:=C.box I ad.out;refine d.out _ _ ab (λc=>?_);simp only[zf];clear c;refine wD_ (by kernel_rfl) ?_ _;go_wp2_with fail
  go_end0;exact⟨⟨_,rfl⟩,by rw[z.out];exact zaa.after ((FTo.below U D).trans (FTo.below U y)) ⟨o,aa,r,M,C,v9⟩⟩
 cases b with
 | false=>
  go_wp2_with fail
  refine Z.mono ?_;rintro _ J⟨rfl,rfl⟩;dsimp only;clear Z;go_wp2_with fail
  go_end0;exact⟨⟨_,rfl⟩,by rw[z.out];exact zaa.quiet h D⟩
 | true=>
  go_wp2_with fail
  refine Z.mono ?_;rintro _ J⟨rfl,rfl⟩;dsimp only;clear Z;go_upto_region 18 with fail
  have y:=dB_ J;have I:=dQ_ q0;refine wR_ (S:=λw'=>R_ w' B ?E0 26) (by kernel_rfl) I (λc=>?_);generalize J.drew=X at y I c|-;refine tks_ 3 [(0,59,(P_ F 0)),(1,60,(P_ F 0)),(2,61,(P_ B 1))] c ?_;simp only[tkf_,zf];refine tQ_ 3 62 (I_ (i:Int)) rfl rfl (Or.inl ⟨by rfl,λw0 T=>by have k0:=zb T 1 _ rfl;go_simp⟩) c ?_;simp only[zf];refine tks_ 3 [(4,63,(P_ F 0)),(5,64,(P_ F 0)),(6,65,(P_ F (i*19)))] c ?_;simp only[tkf_,zf];refine tQ_ 7 66 (.agg ?E0) rfl rfl (Or.inl ⟨by rfl,λw0 T=>zL 26 _ rfl B rfl 26 ?E0 (0,0) _ T underlying26 rfl zsq⟩) c ?_;simp only[zf];refine zE 8 rfl (λL d=>?_);refine zj rfl 67 rfl 23 [.tmp 59,.tmp 65,.tmp 66] #[47,80,26] rfl [P_ F 0,(P_ F (i*19)),.agg ?E0] rfl (eO_ func23) (λv w'=>zaa X U F w' GL) ((aq.out X y).mono (λe w' k=>k)) ?_;rintro v g⟨o,aa,r,M,C,v9⟩;have ab:=C.box I ad.out;refine d.out _ _ ab (λc=>?_);simp only[zf];clear c;refine wD_ (by kernel_rfl) ?_ _;go_wp2_with fail
  go_end0;exact⟨⟨_,rfl⟩,by rw[z.out];exact zaa.after ((FTo.below U D).trans (FTo.below U y)) ⟨o,aa,r,M,C,v9⟩⟩
variable {k:Nat}{ops:Array Oper}{Q:Exit->Act->World->Prop}{a:Act}{r:Int}{K:Act->World->Prop}{E:Prop}
theorem zd5 {o:Oper}
  (l:o.guard=none) (j:o.dst=none) (ty:TypeId) (x y:Operand) (p:o.op=.store ty x y) (b d:Nat) (c:X_) (r:a.eval x=(P_ b d)) (s:a.eval y=.agg c)
  (q:w.there b d c.size) (m:(prog.info? ty).map (·.size)=some c.size) (f:c.all (·.oneCell')=true) (g:K a (w.setCells b d c.toList)) :
  if Region.wanted o (yielded ops a.tmps)=true then Oper.wp prog o a w K Q else E:=by
 rw[iP_ (by simp[Region.wanted,l])];exact wp_store_mid ty x y p b d c r s q m f (by rw[j];exact g)
theorem zxC (w:World):ze9 w none 0 []:=⟨nR_ _,by decide,by decide,.inl rfl,⟨.inl rfl,λp b=>by cases b⟩⟩
def zmF (nu:Int)(s:Nat):NM:={ zi3 nu s with up:=true }
theorem zxD {N s:Nat}{d:Int}(f:R_ w N fc T)(u:o+19<=fc.size)(m:∀j,j<19->fc[o+j]? = (zmF d s).cs[j]?)(t:R_ w s #[O_,O_] 84)(y:U N=true)(z:U s=true)(q:s≠N)(l:Bnd U w)(g:za2 (zq U w))(r:0<=d/\d<4):zo w U N o T fc (zmF d s):=by
 refine⟨f,u,λj p=>m j p,y,λb e=>?_,l,g,⟨nR_ _,nZ_ _,(λ_=>rfl),zhL _⟩,oN_ _ _ _ _,(λx c=>by cases c),oN_ _ _ _ _,(λx c=>by cases c),⟨t,oN_ _ _ _ _,oN_ _ _ _ _,(λx c=>by cases c),(λx c=>by cases c),rfl,(λx c=>by cases c)⟩,⟨ztZ _,⟨.inl rfl⟩,by show(0:Nat)<=_;omega⟩,zgx _,oN_ _ _ _ _,zgx _,(λx c=>by cases c),oN_ _ _ _ _,(λx c=>by cases c),(zjW r).up_ true⟩;rcases e with e|e|e|e|e|e|e;have e:b=s:=e;rw[e];exact⟨z,q⟩
 all_goals cases e
structure zdk (w w':World)(F:Nat)(r:Int)(k:Nat)(fc:X_)(ss:Nat->Nat):Prop where
 blk:R_ w' F fc 72
 siz:fc.size=80
 c76:fc[76]? = some (I_ r)
 c77:fc[77]? = some (O_)
 c78:fc[78]? = some (O_)
 c79:fc[79]? = some (O_)
 nd:∀j:Nat,j<k->∀t,t<19->fc[j*19+t]? = (zmF j (ss j)).cs[t]?
 stk:∀j,j<k->R_ w' (ss j) #[O_,O_] 84/\F<ss j
 inj:∀i j,i<k->j<k->i≠j->ss i≠ss j
 hF:w.heap.size<=F
 bel:B_ w w'
theorem zwf (b:Int)(s:Nat)(t:Nat)(c:t<19):(zmF b s).cs[t]? = if t=1 then some (.bool true)else(zbZ b s).toList[t]?:=by
 have:t=0\/t=1\/t=2\/t=3\/t=4\/t=5\/t=6\/t=7\/t=8\/t=9\/t=10\/t=11\/t=12\/t=13\/t=14\/t=15\/t=16\/t=17\/t=18:=by omega
 rcases this with e|e|e|e|e|e|e|e|e|e|e|e|e|e|e|e|e|e|e<;>subst e<;>rfl
theorem zdk.next {v:World}{s:Nat}{ss:Nat->Nat}(h:zdk w w' F r k fc ss)(L:k<4)(l:B_ w' v)(I:R_ v s #[O_,O_] 84)(M:w'.heap.size<=s):zdk w ((v.setCells F (k*19) (zbZ k s).toList).setCell (p_ F (k*19+1)) (.bool true)) F r (k+1) ((zd4 fc (k*19) (zbZ k s).toList).setIfInBounds (k*19+1) (.bool true)) (λj=>if j=k then s else ss j):=by
 have D:=ze h.blk;have G:=(l.block F D).trans h.blk;have J:=zb7 (zbZ k s).toList v fc (k*19) G;have m:(zbZ k s).toList.length=19:=rfl;have keep:∀q,q≠F->((v.setCells F (k*19) (zbZ k s).toList).setCell (p_ F (k*19+1)) (.bool true)).heap[q]? = v.heap[q]?:=λq A=>(hO_ _ (p_ F (k*19+1)) q _ A).trans (zbl _ v _ A);have b:∀t,76<=t->((zd4 fc (k*19) (zbZ k s).toList).setIfInBounds (k*19+1) (.bool true))[t]? = fc[t]?:=λt f=>by
  rw[sI_,iN_ (by omega),zdP _ _ _ _ (.inr (by rw[m];omega))]
 have p:=λj d=>ze (h.stk j d).1;refine⟨zbb J _,by simp[zcW,h.siz],by rw[b 76 (by omega)];exact h.c76,by rw[b 77 (by omega)];exact h.c77,by rw[b 78 (by omega)];exact h.c78,by rw[b 79 (by omega)];exact h.c79,λj d t f=>?_,λj d=>?_,λi j b d z=>?_,h.hF,?_⟩;by_cases e:j=k;subst e;simp only[if_true];rw[zwf _ _ _ f,sI_];by_cases e1:t=1;rw[iP_ (by omega),iP_ (by rw[zcW,h.siz];omega),iP_ e1];rw[iN_ (by omega),iN_ e1,zg8 _ _ _ _ (by rw[m];exact f) (by rw[m,h.siz];omega)];simp only[iN_ e];rw[sI_,iN_ (by omega),zdP _ _ _ _ (.inl (by omega))];exact h.nd j (by omega) t f;by_cases e:j=k;simp only[iP_ e];exact⟨(keep s (by omega)).trans I,by omega⟩;simp only[iN_ e];obtain⟨B,C⟩:=h.stk j (by omega);exact⟨(keep _ (by omega)).trans ((l.block _ (p j (by omega))).trans B),C⟩;by_cases e1:i=k;have c:j≠k:=λe=>z (e1.trans e.symm);simp only[iP_ e1,iN_ c];have:=p j (by omega);omega;by_cases c:j=k;simp only[iN_ e1,iP_ c];have:=p i (by omega);omega;simp only[iN_ e1,iN_ c];exact h.inj i j (by omega) (by omega) z;have E:=h.bel.trans (l.mono h.bel.size);have H:∀(y:List Value) (V:World) (o:Nat),B_ w V->B_ w (V.setCells F o y):=λy=>by
  induction y with
  | nil=>intro V o g;exact g
  | cons u r ih=>intro V o g;exact ih _ _ (g.setCell h.hF _)
 exact(H _ _ _ E).setCell h.hF _
theorem zdk.drew {ss:Nat->Nat}(h:zdk w w' F r k fc ss):zdk w w'.drew F r k fc ss:=
 ⟨h.blk,h.siz,h.c76,h.c77,h.c78,h.c79,h.nd,h.stk,h.inj,h.hF,h.bel.drew⟩
theorem zdk.there {v:World}{ss:Nat->Nat}(h:zdk w w' F r k fc ss)(l:k<4)(d:B_ w' v):v.there F (k*19) 19:=λj g=>by
 have c:=ze h.blk
 have b:=(d.block F c).trans h.blk
 have m:=h.siz
 have f:k*19+j<fc.size:=by omega
 exact⟨by rw[zb b (k*19+j) (fc[k*19+j]) (Array.getElem?_eq_getElem f)];rfl,zd b _⟩
theorem zdk.laid1 {v:World}{s:Nat}{ss:Nat->Nat}(h:zdk w w' F r k fc ss)(b:B_ w' v):(v.setCells F (k*19) (zbZ k s).toList).heap[F]? = some (.cells (zd4 fc (k*19) (zbZ k s).toList) 72 (0,0)):=
 zb7 (zbZ k s).toList v fc (k*19) ((b.block F (ze h.blk)).trans h.blk)
theorem zdk.cell1 {v:World}{s:Nat}{ss:Nat->Nat}(h:zdk w w' F r k fc ss)(d:k<4)(c:B_ w' v):(v.setCells F (k*19) (zbZ k s).toList).cell? (p_ F (k*19+1))=some (.bool false):=by
 have b:(zbZ k s).toList.length=19:=rfl;refine zb (h.laid1 c) _ _ ?_;rw[zg8 _ _ _ _ (by rw[b];decide) (by rw[b,h.siz];omega)]
 rfl
theorem zdk.free1 {v:World}{s:Nat}{ss:Nat->Nat}(h:zdk w w' F r k fc ss)(b:B_ w' v):(v.setCells F (k*19) (zbZ k s).toList).frozen? (p_ F (k*19+1))=false:=zd (h.laid1 b) _
def zss (r:Int)(ss:Nat->Nat):FM:=⟨λj=>zmF j (ss j),r,none,0,[],none,0,[],none,0,[]⟩
theorem zxE (r:Int)(ss:Nat->Nat):(zss r ss).v=Fl.z r:=rfl
theorem zdk.fleet {ss:Nat->Nat}(h:zdk w w' F r 4 fc ss)(D:-1<=r/\r<=3)(y:za2 w):∃U:Nat->Bool,zJ w' U F fc (zss r ss)/\(∀b,b<w.heap.size->U b=false):=by
 have A:∃U:Nat->Bool,∀b,U b=true↔b=F\/b=ss 0\/b=ss 1\/b=ss 2\/b=ss 3:=⟨λb=>decide (b=F)||decide (b=ss 0)||decide (b=ss 1)||decide (b=ss 2)||decide (b=ss 3),λb=>by simp[or_assoc]⟩;obtain⟨U,g⟩:=A;have f:∀j,j<4->F<ss j/\ss j<w'.heap.size:=λj d=>⟨(h.stk j d).2,ze (h.stk j d).1⟩;have J:=f 0 (by decide);have L:=f 1 (by decide);have M:=f 2 (by decide);have N:=f 3 (by decide);have I:=ze h.blk;have H:=h.hF;have o:∀b,b<w.heap.size->U b=false:=λb l=>by
  cases e:U b with
  | false=>rfl
  | true=>have:=(g b).1 e;omega
 have l:Bnd U w':=λb e=>by have:=(g b).1 e;omega
 have z:za2 (zq U w'):=y.sub ⟨by rw[zch];exact h.bel.size,λa v e=>by
  have m:=World.block_lt_of_cell? _ _ e;rw[cB_ (zdr (o _ m)),cB_ (h.bel.block _ m)];exact e⟩
 have G:∀j,j<4->U (ss j)=true:=λj d=>by
  refine(g _).2 ?_;have:j=0\/j=1\/j=2\/j=3:=by omega
  rcases this with e|e|e|e<;>subst e<;>simp
 have p:∀(j b:Nat),(zmF (j:Int) (ss j)).S b->b=ss j:=λj b e=>by
  rcases e with e|e|e|e|e|e|e;exact e
  all_goals cases e
 refine⟨U,⟨λi c=>zxD h.blk (by rw[h.siz];omega) (λt E=>h.nd i c t E) (h.stk i c).1 ((g F).2 (.inl rfl)) (G i c) (by have:=(f i c).1;omega) l z ⟨by omega,by omega⟩,h.siz,λi _=>rfl,λi j c d C b s u=>h.inj i j c d C ((p i b s).symm.trans (p j b u)),D,h.c76,h.c77,h.c78,h.c79,⟨zxC _⟩,oN_ _ _ _ _,(λq e=>by cases e),(λa B=>by cases B),nZ_ _,oN_ _ _ _ _,(λq e=>by cases e)⟩,o⟩
theorem zst (r:Int)(O:-1<=r/\r<=3)(w:World)(J:za2 w) :
  Calls prog 12 #[I_ r] w λe w'=>∃(F:Nat) (U:Nat->Bool) (c:X_) (m:FM),e=.returned (P_ F 0)/\zJ w' U F c m/\m.v=Fl.z r/\(∀b,b<w.heap.size->U b=false)/\w.heap.size<=F/\B_ w w':=by
 refine kO_ ?A0 ?_;exact Obj.cells ((Tryz.zeroCells72.setIfInBounds 76 (I_ r)).setIfInBounds 77 (O_)) 72;have u:=zC w ?A0;have C:=hN_ w ?A0;have l:zdk w (w.alloc ?A0) w.heap.size r 0 ((Tryz.zeroCells72.setIfInBounds 76 (I_ r)).setIfInBounds 77 (O_)) (λ_=>0):=⟨C,rfl,rfl,rfl,rfl,rfl,(λj M=>by omega),(λj M=>by omega),(λi j hi=>by omega),nR_ _,u⟩;go_in;go_upto_region 2 with fail
 generalize (((Tryz.zeroCells72.setIfInBounds 76 (I_ r)).setIfInBounds 77 (O_)):X_)=t at l|-;generalize w.alloc (.cells t 72)=Z at l|-;clear u C;generalize y:w.heap.size=F at l|-;have X:Hid (w.heap.size=F):=y;clear y;go_wp2_with fail
 go_loopw [9] (λj wr=>∃(k:Nat) (c:X_) (ss:Nat->Nat),k<=4/\j=I_ k/\zdk w wr F r k c ss) (λj _=>4-(intOf j).toNat)
 case atStart=>exact⟨0,t,_,by omega,rfl,l⟩
 case round=>
  obtain⟨k,c,ss,hk,rfl,o⟩:=hrel;by_cases hlt:k<4
  .have aa:(k:Int)<4:=by omega
   go_upto_region 5 with fail
   have d:=o.drew;refine wR_ (S:=λ_=>True) (by kernel_rfl) trivial (λf=>?_);generalize wr.drew=p at d f|-;refine tks_ 5 [(0,12,(P_ F 0)),(1,13,I_ k),(2,14,I_ k),(4,16,(P_ F 0)),(5,17,(P_ F 0))] f ?_;simp only[tkf_,zf];refine zE 3 rfl (λD q=>?_);refine zj rfl 15 rfl 16 [.tmp 14] #[3] rfl [I_ k] rfl (eO_ func16) (λv w'=>∃s,v=.agg (zbZ k s)/\R_ w' s #[O_,O_] 84/\p.heap.size<=s/\B_ p w') ((zoP k p).mono (λe w' h=>by obtain⟨s,G,H⟩:=h;exact⟨_,G,s,rfl,H⟩)) ?_;rintro v E⟨s,rfl,A,B,g⟩;refine q.out _ _ trivial (λf=>?_);simp only[zf];refine zU 6 18 (P_ F (k*19)) rfl rfl f ?_;simp only[zf];have z:=d.next hlt g A B;have R:=d.there hlt g;have T:=d.cell1 (s:=s) hlt g;have V:=d.free1 (s:=s) g;clear d A B g;refine zE 7 rfl (λD q=>?_);refine zd5 rfl rfl 69 (.tmp 18) (.tmp 15) rfl F (k*19) (zbZ k s) rfl rfl R zhM (by simp[zbZ,Value.oneCell']) ?_;refine q.out _ _ trivial (λf=>?_);clear f;refine wD_ (by kernel_rfl) ?_ _;generalize E.setCells F (k*19) (zbZ k s).toList=Y at z T V|-;go_wp2_with fail
   go_roundw
   case rel=>exact⟨k+1,_,_,by omega,by go_num,z⟩
   case measure=>simp[intOf];omega
  have L:k=4:=by omega
  subst L;go_wp2_with fail
  obtain⟨U,I,N⟩:=o.fleet O J;go_ret;exact⟨F,U,c,zss r ss,rfl,I,zxE r ss,N,o.hF,o.bel⟩
end Go.Proofs.YtpnpikpmdfipfaaGreatDoor
