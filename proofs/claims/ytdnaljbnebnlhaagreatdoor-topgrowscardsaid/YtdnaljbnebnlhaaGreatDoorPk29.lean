import Derived.Test.YtdnaljbnebnlhaaGreatDoorPk28
set_option maxRecDepth 100000
set_option maxHeartbeats 4000000
namespace Go.Proofs.YtdnaljbnebnlhaaGreatDoor
open Go.RowKit Tryz
theorem zjs (d au rd:Int)(bs:List Int)(f:Option Addr)(n c:Nat)(w:World)(H:n=bs.length)(I:zg w f c bs)(G:bs.length<=140737488355328) :
  Calls prog 218 #[.agg #[I_ d,I_ au,I_ rd,.slice f n c]] w λe w'=>∃j rc,e=.returned (.agg #[I_ d,I_ au,I_ rd,.slice j bs.length rc])/\zg w' j rc bs/\(∀b l,j=some ⟨b,l,none⟩->w.heap.size<=b/\b<w'.heap.size)/\B_ w w':=by
 subst H;refine kO_ ?A0 ?_;exact Obj.cells #[I_ d,I_ au,I_ rd,.slice f bs.length c] 55;refine kO_ ?B0 ?_;exact Obj.cells #[I_ 0,I_ 0,I_ 0,O_] 55;have p:B_ w ((w.alloc ?A0).alloc ?B0):=((bR_ _ _).alloc (nR_ _) _).alloc (by simp) _;have y:=hX_ w ?A0 ?B0;have s:((w.alloc ?A0).alloc ?B0).heap[w.heap.size+1]? = some (.cells #[I_ 0,I_ 0,I_ 0,O_] 55 (0,0)):=by
  have:=hN_ (w.alloc ?A0) ?B0;rw[zG]at this;exact this
 go_in;go_wp2_with fail
 generalize (w.alloc ?A0).alloc ?B0=t at p y s|-;refine(zeH bs f _ c t rfl (I.below p) G).mono ?_;rintro e Z⟨j,rc,E,m,u,q⟩;subst E;dsimp only;have X:w.heap.size+1<t.heap.size:=ze s;have o:=zk q y;have g:=zk q s;have J:=zb o 0 (I_ d) rfl;have L:=zb o 1 (I_ au) rfl;have M:=zb o 2 (I_ rd) rfl;have N:=zb o 3 (.slice f bs.length c) rfl;have z:=zb g 0 _ rfl;have A:=zb g 1 _ rfl;have B:=zb g 2 _ rfl;have C:=zb g 3 _ rfl;have R:=zd g 0;have T:=zd g 1;have U:=zd g 2;have V:=zd g 3;have O:=zd o 3;have Y:w.heap.size≠w.heap.size+1:=by omega
 go_wp2_with fail
 have D:=zm p q;refine bodyPost_ret (v:=.agg #[I_ d,I_ au,I_ rd,.slice j bs.length rc]) (by simp[results,results218,go_sem,z,A,B,C]) rfl ⟨j,rc,rfl,?_,?_,?_⟩
 .refine⟨m.le,m.max,m.some,m.nil,?_⟩;rcases m.bytes with r|⟨b,l,e,r⟩
  .exact .inl r
  .have:=(u b l e).1;exact .inr ⟨b,l,e,λk F=>((World.cell?_setCell_far _ _ _ _ (by show w.heap.size+1≠b;omega)).trans <| (World.cell?_setCell_far _ _ _ _ (by show w.heap.size+1≠b;omega)).trans ((World.cell?_setCell_far _ _ _ _ (by show w.heap.size+1≠b;omega)).trans ((World.cell?_setCell_far _ _ _ _ (by show w.heap.size+1≠b;omega)).trans (World.cell?_setCell_far _ _ _ _ (by show w.heap.size≠b;omega))))).trans (r k F)⟩
 .intro b l e;have:=u b l e
  simp;omega
 .exact((((D.setCell (nR_ _) _).setCell (Nat.le_succ _) _).setCell (Nat.le_succ _) _).setCell (Nat.le_succ _) _).setCell (Nat.le_succ _) _
variable {w w':World}{B:Nat}{qs:List zi}{g:GV}
theorem zsk {v:Value}(h:z8 w B v qs)(d:B_ w w'):z8 w' B v qs:=by
 intro p j;obtain⟨f,g⟩:=h p j;refine⟨f.below d,λl m e=>?_⟩;obtain⟨a,b,c⟩:=g l m e;have:=d.size
 first|exact⟨a,by omega,c⟩|exact⟨a,b,by omega⟩
theorem zut (w:World):ze9 w none 0 []:=⟨nR_ _,by decide,by decide,.inl rfl,⟨.inl rfl,λp b=>by cases b⟩⟩
theorem zuu (h:gF g=0):g.2.2.2.length=32:=by
 unfold gF zhD zbf at h
 split at h
 .cases h
 .split at h
  .cases h
  .split at h
   .cases h
   .omega
variable {ra:Option Addr}
def zwL (B:Nat)(w':World)(e:Ending)(l:List GV)(g:GV):Prop:=∃ra rc us er,e=.returned (.tuple #[.slice ra (List.length us) rc,I_ er])/\zec l g=(gvs us,er)/\ze9 w' ra rc us/\za1 B ra (gps us)
theorem zl2 (B:Nat):za1 B none (gps []):=⟨(λ_ _ e=>by cases e),(λp b=>by cases b)⟩
theorem zl3 {d:Nat}(h:za1 B ra qs)(f:d<=B):za1 d ra qs:=⟨λb c e=>nT_ f (h.row b c e),λp g b c e=>nT_ f (h.each p g b c e)⟩
theorem zyG (b:List Sg)(V:Option Addr)(n Z:Nat)(t:Sg)(w:World)(hn:n=b.length)(hl:b.length<=2932031007399)(r:ze9 w V Z b)(ht:zg w t.p.sa t.p.cap t.p.bs/\zaN t.p.bs) :
  Calls prog 189 #[.slice V n Z,.agg #[I_ t.nd,I_ t.au,I_ t.rd,.slice t.p.sa t.p.bs.length t.p.cap]] w λe w'=>zwL w.heap.size w' e (gvs b) t.v/\B_ w w':=by
 subst hn;obtain⟨i,hi,ao,ap,aq⟩:=info_parts zv8;refine kO_ ?A0 ?_;exact Obj.cells #[I_ t.nd,I_ t.au,I_ t.rd,.slice t.p.sa t.p.bs.length t.p.cap] 55;have M:=(bR_ w.heap.size w).alloc (nR_ _) ?A0;have r0:=hN_ w ?A0;go_in;go_wp2_with fail
 generalize w.alloc ?A0=W0 at M r0|-;have J:=zjm b V _ Z W0 rfl r.small (r.slots.below M);rcases zmZ (gvs b)with h0|h0;rw[h0]at J
 rotate_left
 have y:Hid (zec (gvs b) t.v=([],12)):=zvr h0;rw[h0]at J;clear h0
 rotate_left
 all_goals
  refine J.mono ?_;rintro _ w1⟨rfl,ab⟩;dsimp only
 .clear J;have af:=zm M ab;have T:=zk ab r0;have B:=zb T 0 _ rfl;have C:=zb T 1 _ rfl;have D:=zb T 2 _ rfl;have E:=zb T 3 _ rfl;have L:=zgF t.nd t.au t.rd t.p.sa t.p.bs.length t.p.cap w1
  change Calls _ _ _ _ λe w'=>e=.returned (I_ (gF t.v))/\_ at L
  have Y:Hid (zbF (gvs b)=0):=h0;clear h0;by_cases hg:gF t.v=0;rw[hg]at L;have HG:Hid (gF t.v=0):=hg;have aM:t.p.bs.length<=140737488355328:=by
   have:t.p.bs.length=32:=zuu hg;omega
  have HE:Hid (∀s∈b,s.p.bs.length<=140737488355328):=by
   show ∀s,_;intro s l;have:s.p.bs.length=32:=zuu ((zpT Y.out).1 s.v (List.mem_map.2 ⟨s,l,rfl⟩));omega
  clear hg
  rotate_left
  have y:Hid (zec (gvs b) t.v=([],gF t.v)):=ztq Y.out hg;generalize gF t.v=x at*;have hx:(x != 0)=true:=by simpa using hg
  rotate_left
  all_goals
   go_wp2_with fail
   refine L.mono ?_;rintro _ w2⟨rfl,ac⟩;dsimp only
  .clear L B C D E;have N:=zm af ac;have r2:=zk ac T;go_wp2_with (at_make;refine wpList_make_own _ rfl _ _ 25 rfl w2.heap.size 55 i (.agg #[I_ 0,I_ 0,I_ 0,O_]) 4 underlying25 hi ao ap .i64 .i64 _ (b.length+1) rfl rfl (by go_num) (by rw[aq];omega) (by unfold maxLen;omega) (nR_ _) ?_;intro w3 aF aE)
   go_wp2_with fail
   go_loopw [27,8] (λj v wr=>∃(k:Nat) (f:List Sg),k<=b.length/\j=I_ k/\gvs f=(gvs b).take k/\wr.ownsRow w2.heap.size 55 4 v k (gv f)/\z8 wr w2.heap.size v (gps f)/\B_ w2 wr) (λj _ _=>b.length-(intOf j).toNat)
   case atStart=>exact⟨0,[],nZ_ _,rfl,rfl,aF,(λp r=>by cases r),zgP aE⟩
   case round=>
    obtain⟨k,f,hk,rfl,hS,ho,ai,O⟩:=hrel;have H:=zm N O;by_cases hlt:k<b.length
    .have an:=r.slots.below H;obtain⟨m,o,rfl,hc⟩:∃m o,V=some ⟨m,o,none⟩/\∀j (h:j<b.length),wr.cell? ⟨m,o+j*4,none⟩=some (I_ (b[j]).nd)/\wr.cell? ⟨m,o+j*4+1,none⟩=some (I_ (b[j]).au)/\wr.cell? ⟨m,o+j*4+2,none⟩=some (I_ (b[j]).rd)/\wr.cell? ⟨m,o+j*4+3,none⟩=some (.slice (b[j]).p.sa (b[j]).p.bs.length (b[j]).p.cap):=by
      rcases an.cells with h|h
      .rw[h]at hlt;simp at hlt
      .exact h
     obtain⟨B,C,D,E⟩:=hc k hlt;obtain⟨hx,aP⟩:=an.each (b[k]) (gM_ hlt);have aN:=HE.out (b[k]) (gM_ hlt);have aL:Hid ((gvs b).take (k+1)=(gvs b).take k++[(b[k]).v]):=by
      show _=_;rw[tS_ (by rw[zfM];exact hlt)];simp[gvs]
     have aO:(k:Int)<b.length:=by omega
     clear hc an;generalize b[k]=s at*;have ay:=zC wr (.cells #[I_ s.nd,I_ s.au,I_ s.rd,.slice s.p.sa s.p.bs.length s.p.cap] 55);go_wp2_with fail
     refine(zjs s.nd s.au s.rd s.p.bs s.p.sa _ s.p.cap _ rfl (hx.below ay) aN).mono ?_;rintro e X⟨g,rc,c,aJ,ad,d⟩;subst c;dsimp only;rw[zG]at ad;replace d:=zS d;have aa:=zm O d;have R:=zw ho d;have am:=zag X [I_ s.nd,I_ s.au,I_ s.rd,.slice g s.p.bs.length rc] 55;go_wp2_with (at_builtin;refine wpList_append_own_at _ rfl _ _ 25 rfl w2.heap.size 55 i (.agg #[I_ 0,I_ 0,I_ 0,O_]) 4 48 underlying25 hi ao ap aq rfl (by decide) _ k _ rfl (oA_ R _) ⟨X.heap.size,0,none⟩ 1 1 [I_ s.nd,I_ s.au,I_ s.rd,.slice g s.p.bs.length rc] rfl rfl am (by intro u z;simp at z;rcases z with rfl|rfl|rfl|rfl<;>rfl) (by unfold maxLen;omega) (by omega) (zB aa.size _) ?_;intro v1 I aG av _ aj)
     have G:=zV.of av aj;have aC:=ai.more_at (q:=⟨g,rc,s.p.bs⟩) O.size ho d (λm o e=>by have:=ad m o e;omega) aJ G;have F:=Below.grown (aa.alloc aa.size _) av (zB aa.size _) (λq e=>(R.lt q e).1);go_wp2_with fail
     go_roundw
     case rel=>
      have hR:∃(k':Nat) (ar:List Sg),k'<=b.length/\(Value.int .i64 ((k:Int)+1))=I_ k'/\gvs ar=(gvs b).take k'/\I.ownsRow w2.heap.size 55 4 v1 k' (gv ar)/\z8 I w2.heap.size v1 (gps ar)/\B_ w2 I:=
       ⟨k+1,f++[⟨s.nd,s.au,s.rd,⟨g,rc,s.p.bs⟩⟩],by omega,by go_num,by rw[aL.out,<-hS];simp[gvs,Sg.v],by rw[zq9];exact aG,by simpa[gps]using aC,F⟩
      first|exact hR|((repeat apply Exists.intro);exact⟨hR,rfl⟩)
     case measure=>simp[intOf];omega
    .obtain rfl:k=b.length:=by omega
     rw[tL_ (by rw[zfM];exact nR_ _)]at hS;have ae:Hid (gvs f=gvs b):=hS;clear hS;have A:=zmf b V _ Z t wr rfl r.small (r.slots.below H) ⟨ht.1.below H,ht.2⟩;have U:=zk O r2;have B:=zb U 0 _ rfl;have C:=zb U 1 _ rfl;have D:=zb U 2 _ rfl;have E:=zb U 3 _ rfl;have HU:Hid (∀s∈f,zaN s.p.bs):=zyF ae.out (λs l=>(r.slots.each s l).2);by_cases hm:t.v∈gvs b;rw[dT_ hm]at A;have y:Hid (zec (gvs b) t.v=(gvs f,0)):=by
      show _=_;rw[zvs Y.out HG.out hm,ae.out]
     rotate_left
     rw[dF_ hm]at A;have y:Hid (∀us:List Sg,gvs us=gvs f++[t.v]->zec (gvs b) t.v=(gvs us,0)):=by
      show ∀us,_;intro us z;rw[zvt Y.out HG.out hm,z,ae.out]
     rotate_left
     all_goals
      clear hm;go_wp2_with fail
      refine A.mono ?_;rintro _ X⟨rfl,d⟩;dsimp only;clear A B C D E
     .obtain⟨g,rc,rfl,al,hL,ag⟩:=zj6 ho ai HU.out;have ah:=(hL (by omega)).below d;go_wp2_with fail
      go_ret2;refine⟨⟨g,rc,f,0,?_,y.out,ah,zl3 ag N.size⟩,H.trans (d.mono H.size)⟩;rw[<-al];rfl
     .have aA:=zm H d;have r4:=zk d U;have B:=zb r4 0 _ rfl;have C:=zb r4 1 _ rfl;have D:=zb r4 2 _ rfl;have E:=zb r4 3 _ rfl;have ax:=zw ho d;have au:=zm O d;have aB:z8 X w2.heap.size _ (gps f):=zsk ai d;go_wp2_with fail
      refine(zjs t.nd t.au t.rd t.p.bs t.p.sa _ t.p.cap _ rfl (ht.1.below aA) aM).mono ?_;rintro e I⟨g,rc,c,aK,ad,ak⟩;subst c;dsimp only;have F:=zm au ak;have R:=zw ax ak;have am:=zag I [I_ t.nd,I_ t.au,I_ t.rd,.slice g t.p.bs.length rc] 55;go_wp2_with (at_builtin;refine wpList_append_own_at _ rfl _ _ 25 rfl w2.heap.size 55 i (.agg #[I_ 0,I_ 0,I_ 0,O_]) 4 48 underlying25 hi ao ap aq rfl (by decide) _ b.length _ rfl (oA_ R _) ⟨I.heap.size,0,none⟩ 1 1 [I_ t.nd,I_ t.au,I_ t.rd,.slice g t.p.bs.length rc] rfl rfl am (by intro u z;simp at z;rcases z with rfl|rfl|rfl|rfl<;>rfl) (by unfold maxLen;omega) (by omega) (zB F.size _) ?_;intro v1 w6 aH aw _ aj)
      have G:=zV.of aw aj;have aD:=aB.more_at (q:=⟨g,rc,t.p.bs⟩) au.size ax ak (λm o e=>by have:=ad m o e;omega) aK G;have az:=Below.grown (F.alloc F.size _) aw (zB F.size _) (λq e=>(R.lt q e).1);have aI:w6.ownsRow w2.heap.size 55 4 v1 (b.length+1) (gv (f++[⟨t.nd,t.au,t.rd,⟨g,rc,t.p.bs⟩⟩])):=by rw[zq9];exact aH
      obtain⟨qa,qc,rfl,al,hL,ag⟩:=zj6 aI (by simpa[gps]using aD) (λs l=>by
       rcases List.mem_append.1 l with l|l
       .exact HU.out s l
       .rw[List.mem_singleton]at l;subst l;exact ht.2)
      have ah:=hL (by omega);go_wp2_with fail
      go_ret2;refine⟨⟨qa,qc,_,0,?_,y.out _ (by simp[gvs,Sg.v]),ah,zl3 ag N.size⟩,N.trans (az.mono N.size)⟩;rw[<-al];rfl
  .go_wp2_with fail
   go_ret2;exact⟨⟨none,0,[],x,rfl,y.out,zut _,zl2 _⟩,af.trans (ac.mono af.size)⟩
 .go_wp2_with fail
  go_ret2;exact⟨⟨none,0,[],12,rfl,y.out,zut _,zl2 _⟩,M.trans (ab.mono M.size)⟩
variable {U:Nat->Bool}{rc:Nat}
theorem ze9.hid {m:List Sg}(h:ze9 w ra rc m)(o:za1 B ra (gps m))(p:∀b,B<=b->U b=false):ze9 (zq U w) ra rc m:=by
 refine⟨h.le,h.max,h.small,h.some,⟨?_,λs l=>⟨zci (h.slots.each s l).1 (λc f e _=>p c (o.each s.p (List.mem_map.2 ⟨s,l,rfl⟩) c f e)),(h.slots.each s l).2⟩⟩⟩;rcases h.slots.cells with g|⟨c,f,e,g⟩
 .exact .inl g
 .have k:(zq U w).heap[c]? = w.heap[c]?:=zdr (p c (o.row c f e));exact .inr ⟨c,f,e,λj d=>⟨(cB_ k).trans (g j d).1,(cB_ k).trans (g j d).2.1,(cB_ k).trans (g j d).2.2.1,(cB_ k).trans (g j d).2.2.2⟩⟩
theorem zv9 (s:Sg)(d:Int)(t:Sl)(m o:Nat)(w:World)(q:zg w s.p.sa s.p.cap s.p.bs/\zaN s.p.bs)(D:zg w t.p.sa t.p.cap t.p.bs)(F:zaN t.p.bs)(z:R_ w m #[I_ d] 3)(A:R_ w o (srow_ t) 53) :
  Calls prog 187 (#[.agg #[I_ s.nd,I_ s.au,I_ s.rd,.slice s.p.sa s.p.bs.length s.p.cap]]++#[P_ m 0,(P_ o 0)]) w λe w'=>e=.returned (.bool (decide (s.v=(d,t.v))))/\B_ w w':=by
 refine kO_ ?A0 ?_;exact Obj.cells #[I_ s.nd,I_ s.au,I_ s.rd,.slice s.p.sa s.p.bs.length s.p.cap] 55;have c:=zC w ?A0;have g:=hN_ w ?A0;go_in;go_upto_region 1 with fail
 generalize w.alloc ?A0=u at c g|-;have E:=zk c z;have l:=zk c A;have y:=zb g 0 _ rfl;have G:=zb g 1 _ rfl;have H:=zb g 2 _ rfl;have I:=zb g 3 _ rfl;have J:=zb E 0 _ rfl;have L:=zb l 0 _ rfl;have M:=zb l 1 _ rfl;have N:=zb l 2 _ rfl;by_cases e1:s.nd=d
 .have j:Hid (decide ((⟨s.au,s.rd,s.p⟩:Sl).v=t.v)=decide (s.v=(d,t.v))):=by
   show _=_;refine decide_eq_decide.2 ?_;simp[Sl.v,Sg.v,e1]
  have f:=znc ⟨s.au,s.rd,s.p⟩ t u (q.1.below c) (D.below c) q.2 F;rw[j.out]at f;dsimp only [srow_]at f;rw[e1]at y;generalize p:decide (s.v=(d,t.v))=b at f;have r:Hid _:=p;clear e1 j p;go_wp2_with fail
  refine f.mono ?_;rintro _ R⟨rfl,B⟩;dsimp only;clear f;go_wp2_with fail
  go_ret;exact⟨by rw[r.out];rfl,c.trans (B.mono c.size)⟩
 .have j:Hid (decide (s.v=(d,t.v))=false):=by
   show _=_;refine dF_ (λe=>e1 ?_);exact congrArg Prod.fst e
  have O:(s.nd == d)=false:=by simpa using e1
  clear e1;go_wp2_with fail
  go_ret;exact⟨by rw[j.out];rfl,c⟩
theorem zxz (c:List Sg)(d:Int)(t:Sl):(c.any λs=>decide (s.v=(d,t.v)))=decide ((d,t.v)∈gvs c):=by
 rw[Bool.eq_iff_iff,List.any_eq_true,decide_eq_true_eq,gvs,List.mem_map]
 constructor
 all_goals rintro⟨s,b,h⟩;exact⟨s,b,by simpa using h⟩
theorem zpb (m:FM)(c:Int)(t:Sl)(w:World)(U:Nat->Bool)(F:Nat)(fc:Array Value)(h:zJ w U F fc m)(ht:zg (zq U w) t.p.sa t.p.cap t.p.bs)(ut:zaN t.p.bs)(hl:m.gs.length<=2932031007399) :
  Calls prog 152 #[P_ F 76,I_ c,.agg (srow_ t)] w λe w'=>(∃v,e=.returned v)/\zaa w U F w' { m.v with no:=⟨m.bad,zfS (gvs m.gs) (c,t.v)⟩ }:=by
 have aq:∀(fn:Fn) (first ab:Array Value) (w:World),(Instr.makeFunc fn first ab).run prog w=.ok (.func fn first ab) w:=λ_ _ _ _=>rfl;refine kW_ ?B0 ?_;exact(w.alloc (.cells #[I_ c] 3)).alloc (.cells (srow_ t) 53);have q:B_ w ?B0:=((bR_ _ _).alloc (nR_ _) _).alloc (by simp) _;have H:=hX_ w (.cells #[I_ c] 3) (.cells (srow_ t) 53);have I:=hY_ w (.cells #[I_ c] 3) (.cells (srow_ t) 53);go_in;go_upto_region 2 with fail
 generalize ?B0=C at q H I|-;have M:=h.below q;have X:=(ht.sub (h.later q)).sub (zK U C);generalize w.heap.size+1=z at I|-;generalize w.heap.size=J at H|-;have ae:=M.cell 77 M.c77;have y:=(M.sg.sub (zK U C)).tab;have o:=zfa 187 #[P_ J 0,(P_ z 0)] (λs=>decide (s.v=(c,t.v))) (eO_ func187) m.gs m.ga _ m.gc C rfl (by omega) y.slots (λs hs W E=>zv9 s c t J z W ⟨(y.slots.each s hs).1.below E,(y.slots.each s hs).2⟩ (X.below E) ut (zk E H) (zk E I));rw[zxz]at o;by_cases hm:(c,t.v)∈gvs m.gs;rw[dT_ hm]at o;have A:Hid (zfS (gvs m.gs) (c,t.v)=gvs m.gs):=if_pos hm;clear hm
 rotate_left
 rw[dF_ hm]at o;have A:Hid (zfS (gvs m.gs) (c,t.v)=if(zec (gvs m.gs) (c,t.v)).2=0 then(zec (gvs m.gs) (c,t.v)).1 else gvs m.gs):=if_neg hm;clear hm;refine kV_ ?A0 ?_;exact Value.agg #[I_ c,I_ t.au,I_ t.rd,.slice t.p.sa t.p.bs.length t.p.cap];refine kV_ ?C0 ?_;exact Value.slice m.ga m.gs.length m.gc;have ad:Hid (∀V:World,B_ C V->Calls prog 189 #[?C0,?A0] V λe w'=>zwL V.heap.size w' e (gvs m.gs) (c,t.v)/\B_ V w'):=by
  show ∀V,_;intro V hV;exact zyG m.gs m.ga _ m.gc ⟨c,t.au,t.rd,t.p⟩ V rfl hl (y.below hV) ⟨X.below hV,ut⟩
 clear y X ht
 rotate_left
 all_goals
  go_wp2_with fail
  refine o.mono ?_;rintro _ w1⟨rfl,p⟩;dsimp only
 .clear o;go_wp2_with fail
  refine bP_ (results_none rfl _ _ _) rfl ?_;exact⟨⟨_,rfl⟩,by rw[A.out];exact zaa.quiet h (q.trans (p.mono q.size))⟩
 .clear o ae;have N:=zm q p;have D:=h.below N;have r0:=zk p H;have r1:=zk p I;go_upto_region 3 with fail
  have u:=dB_ w1;have Y:=dQ_ r0;have Z:=dQ_ r1;refine wR_ (S:=λw'=>R_ w' J #[I_ c] 3/\R_ w' z (srow_ t) 53) (by kernel_rfl) ⟨Y,Z⟩ (λg=>?_);generalize w1.drew=B at u Y Z g|-;refine tks_ 3 [(0,17,(P_ F 76)),(1,18,(P_ F 76)),(2,19,(P_ F 77))] g ?_;simp only[tkf_,zf];refine tQ_ 4 21 (I_ c) rfl rfl (Or.inl ⟨by rfl,λw0 T=>by have k0:=zb T.1 0 _ rfl;go_simp⟩) g ?_;simp only[zf];refine tQ_ 5 22 (.agg (srow_ t)) rfl rfl (Or.inl ⟨by rfl,λw0 T=>zL 53 _ rfl z rfl 53 (srow_ t) (0,0) _ T.2 underlying53 rfl sSl⟩) g ?_;simp only[zf];refine zU 6 23 ?A0 rfl rfl g ?_;simp only[zf];refine zE 3 rfl (λK9 R=>?_);have ak:=(D.below u).cell 77 D.c77;refine zy rfl 20 rfl ?C0 B (by go_simp) ?_;refine R.out _ _ g (λg=>?_);simp only[zf];refine zE 7 rfl (λK9 R=>?_);refine zj rfl 24 rfl 189 [.tmp 20,.tmp 23] #[25,55] rfl [?C0,?A0] rfl (eO_ func189) (λv w'=>∃l rc d f,v=.tuple #[.slice l d.length rc,I_ f]/\zec (gvs m.gs) (c,t.v)=(gvs d,f)/\ze9 w' l rc d/\za1 B.heap.size l (gps d)/\B_ B w') ((ad.out B (p.trans (u.mono p.size))).mono (λe w' k=>by obtain⟨⟨l,rc,d,f,j,D,r,h3⟩,h4⟩:=k;exact⟨_,j,l,rc,d,f,rfl,D,r,h3,h4⟩)) ?_;rintro v V1⟨l,rc,d,f,rfl,ac,ag,ai,G⟩;have ao:=G;have aj:=zm u G;have al:=zk G Y;have am:=zk G Z;have aa:Hid _:=ac;clear ac;refine R.out _ _ ⟨al,am⟩ (λg=>?_);simp only[zf];refine tks_ 5 [(8,16,.tuple #[.slice l d.length rc,I_ f]),(9,25,.slice l d.length rc),(10,26,I_ f),(11,7,.slice l d.length rc),(12,8,I_ f)] g ?_;simp only[tkf_,zf];clear g;refine wD_ (by kernel_rfl) ?_ _;have O:=zm N aj;by_cases j:f=0
  .subst j;have L:Hid (zfS (gvs m.gs) (c,t.v)=gvs d):=by show _=_;rw[A.out,aa.out];rfl
   have af:=zm N u;have ah:zdj (zq U V1) l rc d:=⟨ag.hid ai (λb hb=>h.bnd.new (nT_ af.size hb))⟩;have r:=h.below O;have ak:=r.cell 77 r.c77;have an:=r.free 77;go_wp2_with fail
   go_end0;exact⟨⟨_,rfl⟩,by rw[L.out];exact h.put_sg O ah⟩
  .have ap:(f == 0)=false:=by simpa using j
   have L:Hid (zfS (gvs m.gs) (c,t.v)=gvs m.gs):=by show _=_;rw[A.out,aa.out];exact if_neg j
   clear j;go_wp2_with fail
   go_end0;exact⟨⟨_,rfl⟩,by rw[L.out];exact zaa.quiet h O⟩
theorem zuv (m:FM)(a:MV)(w:World)(U:Nat->Bool)(F:Nat)(u:Array Value)(h:zJ w U F u m)(p:GM (zq U w) a)(L:m.gs.length<=2932031007399) :
  Calls prog 114 #[P_ F 76,.agg (mrow_ a.m)] w λe w'=>(∃v,e=.returned v)/\zaa w U F w' { m.v with no:=m.v.no.sign a.c }:=by
 have j:=zC w (.cells (mrow_ a.m) 66);have c:=hN_ w (.cells (mrow_ a.m) 66);go_in;go_upto_region 1 with fail
 generalize w.alloc (.cells (mrow_ a.m) 66)=g at j c|-;have G:=h.below j;have I:=p.sub (h.later j);have Y:Hid (U w.heap.size=false):=h.bnd.new (nR_ _);generalize w.heap.size=B at c Y|-;have d:=zb c 2 _ rfl;have f0:=zb c 0 _ rfl;obtain⟨af,O⟩:=zlc p;have o:∀k:Int,a.m.ki=k->(k=1\/k=4\/k=5)->{ m.v with no:=m.v.no.sign a.c }=m.v:=λk hk ag=>by
  have e:m.v.no.sign a.c=m.v.no:=by
   unfold No.sign;rw[if_neg (show ¬a.c.ki=2 by show ¬a.m.ki=2;omega),if_neg (show ¬a.c.ki=3 by show ¬a.m.ki=3;omega)]
  rw[e]
 rcases O with⟨k,r⟩|⟨k,r⟩|⟨k,r⟩|⟨k,r⟩|k;replace d:g.cell? ⟨B,2,none⟩=some (I_ 1):=by rw[<-k];exact d
 have f:Hid _:=o 1 k (by omega)
 rotate_left
 replace d:g.cell? ⟨B,2,none⟩=some (I_ 2):=by rw[<-k];exact d
 have ad:(⟨a.m.hau,a.m.hrd,a.m.hba,a.m.hbc,a.bl,a.m.hpa,a.m.hpc,a.pl,none,0,[]⟩:Ct).v.hf=0:=by rw[<-Ct.hf_v];exact r
 have f:Hid (m.v.no.sign a.c=⟨m.bad,zfS (gvs m.gs) (a.m.fr,(⟨a.m.hau,a.m.hrd,a.m.hba,a.m.hbc,a.bl,a.m.hpa,a.m.hpc,a.pl,none,0,[]⟩:Ct).v.slot)⟩):=by
  show _=_;unfold No.sign;rw[if_pos (show a.c.ki=2 from k),if_pos (show a.c.h.hf=0 from ad)]
  rfl
 have C:=zb c 6 _ rfl;have D:=zb c 7 _ rfl;have E:g.cell? ⟨B,8,none⟩=some (.slice a.m.hba a.bl.length a.m.hbc):=by rw[<-p.lies.at'.e2];exact zb c 8 _ rfl
 have T:g.cell? ⟨B,9,none⟩=some (.slice a.m.hpa a.pl.length a.m.hpc):=by rw[<-p.lies.at'.e3];exact zb c 9 _ rfl
 have z:=zi1 a.m.hau a.m.hrd a.m.hba a.m.hbc a.bl a.m.hpa a.m.hpc a.pl g (I.shp.h.sub (zK _ _)) r ((G.nd 0 (by decide)).tabs.sub (zK _ _));have aa:Hid ((zaE a.m.hau a.m.hrd a.bl a.pl).length=32):=zbD _ _ _ _;have ab:Hid (zaN (zaE a.m.hau a.m.hrd a.bl a.pl)):=zkk _ _ _ _;have ac:Hid ((a.m.hau,a.m.hrd,zaE a.m.hau a.m.hrd a.bl a.pl)=(⟨a.m.hau,a.m.hrd,a.m.hba,a.m.hbc,a.bl,a.m.hpa,a.m.hpc,a.pl,none,0,[]⟩:Ct).v.slot):=by
  show _=_;rw[CV.slot,<-Ct.d_v]
  rfl
 rotate_left
 replace d:g.cell? ⟨B,2,none⟩=some (I_ 3):=by rw[<-k];exact d
 have f:Hid (m.v.no.sign a.c=⟨m.bad,zfS (gvs m.gs) (a.m.fr,(⟨a.m.sau,a.m.srd,⟨a.m.sda,a.m.sdc,a.ds⟩⟩:Sl).v)⟩):=by
  show _=_;unfold No.sign;rw[if_neg (show ¬a.c.ki=2 by show ¬a.m.ki=2;omega),if_pos (show a.c.ki=3 from k)]
  rfl
 have C:=zb c 10 _ rfl;have D:=zb c 11 _ rfl;have E:g.cell? ⟨B,12,none⟩=some (.slice a.m.sda a.ds.length a.m.sdc):=by rw[<-p.lies.dn];exact zb c 12 _ rfl
 have l:=zpb m a.m.fr (⟨a.m.sau,a.m.srd,⟨a.m.sda,a.m.sdc,a.ds⟩⟩:Sl) g U F u G I.lies.dig p.u8.sd L;dsimp only [srow_]at l
 rotate_left
 replace d:g.cell? ⟨B,2,none⟩=some (I_ 4):=by rw[<-k];exact d
 have f:Hid _:=o 4 k (by omega)
 rotate_left
 replace d:g.cell? ⟨B,2,none⟩=some (I_ 5):=by rw[<-k];exact d
 have f:Hid _:=o 5 k (by omega)
 rotate_left
 all_goals
  clear k o;go_wp2_with fail
 .go_end0;exact⟨⟨_,rfl⟩,by rw[f.out];exact zaa.quiet h j⟩
 .refine z.mono ?_;rintro e y⟨b,q,Z,ae,M,J⟩;subst q;dsimp only;clear z C D E T d;have X:=zm j J;refine kO_ ?A0 ?_;exact Obj.cells #[I_ a.m.hau,I_ a.m.hrd,.slice (some ⟨b,0,none⟩) 32 32] 53;have s:=zC y ?A0;have t:=hN_ y ?A0;have r0:=zk J c;go_upto_region 4 with fail
  generalize y.alloc ?A0=A at s t|-;have H:=zm X s;have V:=h.below H;have r2:=zk s r0;have g0:=zb r2 0 _ rfl;have e0:=zb t 0 _ rfl;have e1:=zb t 1 _ rfl;have e2:=zb t 2 _ rfl;have N:zg (zq U A) (some ⟨b,0,none⟩) 32 (zaE a.m.hau a.m.hrd a.bl a.pl):=zci (M.below s) (λsb so e _=>by cases e;exact h.bnd.new (nT_ j.size Z));have l:=zpb m a.m.fr ⟨a.m.hau,a.m.hrd,⟨some ⟨b,0,none⟩,32,zaE a.m.hau a.m.hrd a.bl a.pl⟩⟩ A U F u V N ab.out L;dsimp only [srow_]at l;rw[aa.out]at l;have R:Hid (m.v.no.sign a.c=⟨m.bad,zfS (gvs m.gs) (a.m.fr,(⟨a.m.hau,a.m.hrd,⟨some ⟨b,0,none⟩,32,zaE a.m.hau a.m.hrd a.bl a.pl⟩⟩:Sl).v)⟩):=by
   show _=_;rw[f.out,<-ac.out]
   rfl
  clear M N f;go_wp2_with fail
  refine l.mono ?_;rintro e w3⟨⟨v,q⟩,hF⟩;subst q;dsimp only;clear l;go_wp2_with fail
  go_end0;exact⟨⟨_,rfl⟩,by rw[R.out];exact zaa.after (FTo.below U H) hF⟩
 .refine l.mono ?_;rintro e w3⟨⟨v,q⟩,hF⟩;subst q;dsimp only;clear l;go_wp2_with fail
  go_end0;exact⟨⟨_,rfl⟩,by rw[f.out];exact zaa.after (FTo.below U j) hF⟩
 .go_end0;exact⟨⟨_,rfl⟩,by rw[f.out];exact zaa.quiet h j⟩
 .go_end0;exact⟨⟨_,rfl⟩,by rw[f.out];exact zaa.quiet h j⟩
theorem znr (m:FM)(a:MV)(w:World)(U:Nat->Bool)(F:Nat)(fc:Array Value)(h:zJ w U F fc m)(ha:GM (zq U w) a) :
  Calls prog 85 #[P_ F 0,.agg (mrow_ a.m)] w λe w'=>(∃v,e=.returned v)/\zaa w U F w' { m.v with away:=zct m.v.away a.c }:=by
 refine kO_ ?A0 ?_;exact Obj.cells (mrow_ a.m) 66;have L:=zC w ?A0;have q0:=hN_ w ?A0;go_in;go_upto_region 1 with fail
 generalize w.alloc ?A0=X at L q0|-;have I:=h.below L;have ao:=ha.sub (h.later L);have Y:Hid (U w.heap.size=false):=h.bnd.new (nR_ _);generalize w.heap.size=B at q0 Y|-;have am:=I.cell 78 I.c78;have E:m.v.away.length=m.aw.length:=by simp[FM.v]
 by_cases J:m.aw.length<400;refine kV_ ?B0 ?_;exact Value.slice m.aa m.aw.length m.ac
 .have aq:(m.aw.length:Int)<400:=by omega
  have V:Hid (zct m.v.away a.c=(m.aw++[a]).map MV.c):=by
   show _=_;rw[zct,if_pos (by rw[E];exact J)];simp[FM.v]
  have ap:Hid (m.aw.length<400):=J;clear E J;go_upto_region 2 with fail
  clear am;have J:=ap.out;have ah:∀P:Prop,¬(U B=true/\P):=λP k=>by have:=k.1;rw[Y.out]at this;cases this
  have ag:B≠F:=λe=>by have:=Y.out;rw[e,h.fu]at this;cases this
  have ad:∀(t r:World) (o:Option Addr) (p:Nat),B_ X t->r.ownsRow 0 66 19 (.slice o (m.aw++[a]).length p) (m.aw++[a]).length (zY (m.aw++[a]))->zV t ?B0 r (.slice o (m.aw++[a]).length p)->(∃v,Ending.returned (.tuple #[])=.returned v)/\zaa w U F (r.setCell ⟨F,78,none⟩ (.slice o (m.aw.length+1) p)) { m.v with away:=zct m.v.away a.c }:=by
   intro t r o p Z ho G;refine⟨⟨_,rfl⟩,?_⟩;rw[V.out];have h1:=I.below Z;have E:(m.aw++[a]).length=m.aw.length+1:=by simp
   have ar:∀q,(Value.slice m.aa m.aw.length m.ac).ownBlock=some q->U q=true:=λq e=>(h.uaw q (zp e)).1;have k:Sub (zq U t) (zq (zaF U (ob o)) r):=by
    have:=((zao.refl U t).grew G ar).sub
    rwa [zdb]at this
   have af:=h1.more_aw G ho (λs hs=>?_) (by rw[E];omega)
   .rw[E]at af;exact zaa.after ((FTo.below U L).trans (FTo.below U Z)) af
   .rcases List.mem_append.1 hs with g|g
    .exact(h1.eaw s g).sub k
    .obtain rfl:s=a:=by simpa using g
     exact(ao.sub (zao.below U Z).sub).sub k
  obtain⟨ti,ai,aj,ak,al⟩:=info_parts zkn;have R:=dB_ X;have T:=dQ_ q0;refine wR_ (S:=λw'=>R_ w' B (mrow_ a.m) 66) (by kernel_rfl) T (λc=>?_);generalize X.drew=f at R T c|-;have ae:=I.below R;refine tks_ 4 [(0,10,(P_ F 0)),(1,11,(P_ F 0)),(2,12,(P_ F 0)),(3,13,(P_ F 78))] c ?_;simp only[tkf_,zf];refine tQ_ 5 15 (.agg (mrow_ a.m)) rfl rfl (Or.inl ⟨by rfl,λw0 an=>zL 66 _ rfl B rfl 66 (mrow_ a.m) (0,0) _ an underlying66 rfl sMsg'⟩) c ?_;simp only[zf];refine wpAnyH_ready (rs:=[4,6]) (by kernel_rfl) (by simp) (AllReadyH.cons rfl (λA d=>?_) (AllReadyH.cons rfl (λA d=>?_) AllReadyH.nil));have ab:=ae.cell 78 ae.c78;refine zy rfl 14 rfl ?B0 f (by go_simp) ?_;refine d.out _ _ c (λc=>?_);simp only[zf];clear ab;refine zE 6 rfl (λA d=>?_)
  all_goals
   refine zy rfl 16 rfl (.slice (some ⟨f.heap.size,0,none⟩) 1 1) (f.alloc ?A0) (by go_simp) ?_;have y:=zC f ?A0;have D:=zm R y;have C:=hN_ f ?A0;have H:=zk y T;refine d.out _ _ H (λc=>?_);simp only[zf];generalize f.alloc ?A0=t at y D C H c|-;clear y;generalize f.heap.size=nb at C|-;have l:=I.below D
  rotate_left
  refine zE 4 rfl (λA d=>?_);have ab:=l.cell 78 l.c78;refine zy rfl 14 rfl ?B0 t (by go_simp) ?_;refine d.out _ _ c (λc=>?_);simp only[zf];clear ab
  rotate_left
  all_goals
   refine zE 7 rfl (λA d=>?_);refine zaz rfl 17 rfl (.tmp 14) (.tmp 16) 115 rfl 0 66 ti (.agg mz_) 19 264 underlying115 ai aj ak al rfl (by decide) ?B0 m.aw.length (zY m.aw) rfl l.raw ⟨nb,0,none⟩ 1 1 (zcR a.m) rfl rfl (λj u hu=>by rw[zaP,Nat.zero_add];exact zb C j u (by rw[<-Array.getElem?_toList];exact hu)) (zfv _) (by unfold maxLen;omega) (by omega) (nZ_ _) ?_;intro v3 r N z;obtain⟨o,p,aa⟩:=zH N;subst aa;have O:=z.row H (λe=>ah _ (l.uaw _ (zp e)));have M:=z.row (l.nd 0 (by decide)).blk (λe=>(l.uaw F (zp e)).2.1 rfl);refine d.out _ _ O (λc=>?_);simp only[zf];refine tks_ 2 [(8,18,(P_ F 0)),(9,19,(P_ F 78))] c ?_;simp only[tkf_,zf];refine zE 10 rfl (λA d=>?_);have au:=zb M (78) _ l.c78;have av:=zd M (78);refine zX rfl rfl (r.setCell ⟨F,78,none⟩ (.slice o (m.aw.length+1) p)) (by go_simp) ?_;have ac:=zh (b:=F) (j:=78) (v:=.slice o (m.aw.length+1) p) O (λe=>ag e);refine d.out _ _ ac (λc=>?_);refine wD_ (by kernel_rfl) ?_ _;go_wp2_with fail
   go_end0;exact ad t r o p D (by rw[zfi];simpa using N) (by simpa using z)
 .have aq:¬(m.aw.length:Int)<400:=by omega
  have V:Hid (zct m.v.away a.c=m.v.away):=by show _=_;rw[zct,if_neg (by rw[E];exact J)]
  clear E J;go_wp2_with fail
  go_end0;exact⟨⟨_,rfl⟩,by rw[V.out];exact zaa.quiet h L⟩
variable {F o c':Nat}{fc:Array Value}{T:TypeId}{x:NM}{w2:World}{a':Option Addr}
theorem zo.put_syncx {sy:Nat}(h:zo w U F o T fc x)(p:B_ w w2)(M:zg (zq U w2) a' c' (zam x.ms))(G:za3 ({ x with ba:=a',bc:=c',syn:=sy,wa:=none,wc:=0,wai:=[] }:NM).v) :
  ∃t,zo (((w2.setCell ⟨F,o+15,none⟩ (.slice a' (zam x.ms).length c')).setCell ⟨F,o+16,none⟩ (I_ sy)).setCell ⟨F,o+17,none⟩ (O_)) U F o T t ({ x with ba:=a',bc:=c',syn:=sy,wa:=none,wc:=0,wai:=[] }:NM)/\NTo U U w (((w2.setCell ⟨F,o+15,none⟩ (.slice a' (zam x.ms).length c')).setCell ⟨F,o+16,none⟩ (I_ sy)).setCell ⟨F,o+17,none⟩ (O_)) F o fc t x ({ x with ba:=a',bc:=c',syn:=sy,wa:=none,wc:=0,wai:=[] }:NM):=by
 have A:zao U U w w2:=zao.below U p;have d:U F=true:=h.fu;refine kV_ ?B0 ?_;exact Value.slice a' (zam x.ms).length c';have c:=(((A.set d (o+15) ?B0).set d (o+16) (I_ sy)).set d (o+17) (O_));have f:=c.sub;have J:∀b,x.S b->b<w.heap.size:=λb e=>h.bnd b (h.su b e).1;have C:R_ w2 F fc T:=(p.block F (ze h.blk)).trans h.blk;refine kW_ ?A0 ?_;exact((w2.setCell ⟨F,o+15,none⟩ (.slice a' (zam x.ms).length c')).setCell ⟨F,o+16,none⟩ (I_ sy)).setCell ⟨F,o+17,none⟩ (O_);have u:∀b,b≠F->(?A0).heap[b]? = w2.heap[b]?:=λb n=>by
  rw[hO_ _ ⟨F,o+17,none⟩ b _ n];rw[hO_ _ ⟨F,o+16,none⟩ b _ n];rw[hO_ _ ⟨F,o+15,none⟩ b _ n]
 have l:∀b,x.S b->(?A0).heap[b]? = w.heap[b]?:=λb e=>(u b (h.su b e).2).trans (p.block b (J b e));have H:zq U ?A0=zq U w2:=by rw[zb3 d,zb3 d,zb3 d]
 have y:∀b,({ x with ba:=a',bc:=c',syn:=sy,wa:=none,wc:=0,wai:=[] }:NM).S b->x.S b\/w.heap.size<=b:=by
  intro b e;rcases e with e|e|e|e|e|e|e
  .exact .inl (.inl e)
  .exact .inl (.inr (.inl e))
  .exact .inl (.inr (.inr (.inl e)))
  .exact .inl (.inr (.inr (.inr (.inl e))))
  .exact .inl (.inr (.inr (.inr (.inr (.inl e)))))
  .exact .inl (.inr (.inr (.inr (.inr (.inr (.inl e))))))
  .cases e
 have z:zio (((fc.setIfInBounds (o+15) ?B0).setIfInBounds (o+16) (I_ sy)).setIfInBounds (o+17) (O_)) o ({ x with ba:=a',bc:=c',syn:=sy,wa:=none,wc:=0,wai:=[] }):=by
  intro j r;have B:=h.cel j r;have L:=h.siz;rcases(by omega:j=0\/j=1\/j=2\/j=3\/j=4\/j=5\/j=6\/j=7\/j=8\/j=9\/j=10\/j=11\/j=12\/j=13\/j=14\/j=15\/j=16\/j=17\/j=18)with e|e|e|e|e|e|e|e|e|e|e|e|e|e|e|e|e|e|e<;>subst e<;>simp only[sI_,Array.size_setIfInBounds]<;>simp<;>first|exact B|omega|(simp[NM.cs];done)|(simp[NM.cs];omega)
 refine⟨(((fc.setIfInBounds (o+15) ?B0).setIfInBounds (o+16) (I_ sy)).setIfInBounds (o+17) (O_)),⟨(zbb (zbb (zbb C _) _) _),(by simpa using h.siz),z,d,(λb e=>by
   rcases y b e with g|g
   .exact⟨(h.su b g).1,(h.su b g).2⟩
   .refine⟨?_,λN=>by have:=ze h.blk;omega⟩;rcases e with e|e|e|e|e|e|e
    .exact id (h.su b (.inl e)).1
    .exact id (h.su b (.inr (.inl e))).1
    .exact id (h.su b (.inr (.inr (.inl e)))).1
    .exact id (h.su b (.inr (.inr (.inr (.inl e))))).1
    .exact id (h.su b (.inr (.inr (.inr (.inr (.inl e)))))).1
    .exact id (h.su b (.inr (.inr (.inr (.inr (.inr (.inl e))))))).1
    .cases e),(λb D=>by have:=h.bnd.mono p.size b D;simpa using this),h.tabs.sub f,h.etx.sub f,(zu h.rsh (λq e=>l q (.inr (.inr (.inr (.inl (zp e))))))),(λs m=>(h.esh s m).sub f),(zu h.rtb (λq e=>l q (.inr (.inr (.inr (.inr (.inl (zp e)))))))),(λs m=>(h.etb s m).sub f),(h.stk.keep f c.us (λb e=>by
   rcases e with e|e|e
   .subst e;exact l _ (.inl rfl)
   .exact l b (.inr (.inl e))
   .exact l b (.inr (.inr (.inl e))))),h.hdr.sub f,h.slt.sub f,(zu h.rvo (λq e=>l q (.inr (.inr (.inr (.inr (.inr (.inl (zp e))))))))),(by rw[H];exact M),h.ems,(oN_ _ _ _ _),(λs m=>by cases m),G⟩,⟨c.os,c.tape,c.output,c.size,λb I L E=>(u b E).trans (p.block b I),c.us,y,by simp,λj r=>?_⟩⟩
 rw[zip _ o 17 _ (by decide) j r];rw[zip _ o 16 _ (by decide) j r];rw[zip _ o 15 _ (by decide) j r]
theorem zpc (bs:List Int)(c:Option Addr)(n b:Nat)(sy:Int)(w:World)(U:n=bs.length)(E:zg w c b bs)(D:bs.length<=140737488355328) :
  Calls prog 150 #[.agg #[.slice c n b,I_ sy]] w λe w'=>zdM w w' e (bs.take (zhF bs.length sy)) (zhF bs.length sy) (ziS bs.length sy):=by
 subst U;refine kO_ ?A0 ?_;exact Obj.cells #[.slice c bs.length b,I_ sy] 114;refine kO_ ?B0 ?_;exact Obj.cells #[O_,I_ 0] 114;have o:B_ w ((w.alloc ?A0).alloc ?B0):=((bR_ _ _).alloc (nR_ _) _).alloc (by simp) _;have A:=hX_ w ?A0 ?B0;have t:=hY_ w ?A0 ?B0;have j:=zhG c bs.length b sy ((w.alloc ?A0).alloc ?B0) D;have H:Hid (∀W:World,B_ w W->Calls prog 154 #[.agg #[.slice c bs.length b,I_ sy],I_ (bs.length:Int),I_ (bs.length:Int)] W λe w'=>∃m rc,e=.returned (.agg #[.slice m bs.length rc,I_ (bs.length:Int)])/\zg w' m rc (bs.take bs.length)/\(∀d g,m=some ⟨d,g,none⟩->W.heap.size<=d/\d<w'.heap.size)/\B_ W w'):=by
  show ∀_,_;intro W R;exact zh1 bs c _ b bs.length sy _ W rfl (E.below R) (nR_ _) D
 clear E;cases ht:zbO bs.length sy with
 | false=>
  have p:Hid (ziS bs.length sy=12/\zhF bs.length sy=0):=by show _/\_;simp[ziS,zhF,ht]
  rw[ht]at j;clear ht;go_in;go_wp2_with fail
  generalize (w.alloc ?A0).alloc ?B0=I at o A t j|-;refine j.mono ?_;rintro _ B⟨rfl,l⟩;dsimp only;have f:=zk l t;have u:=zb f 0 (O_) rfl;have y:=zb f 1 (I_ 0) rfl;have M:=zd f 0;have N:=zd f 1;go_wp2_with fail
  rw[p.out.1,p.out.2];refine bodyPost_ret (v:=.tuple #[.agg #[O_,I_ 0],I_ 12]) (by simp[results,results150,go_sem,u,y]) rfl (zdM.bad _ ?_);exact((o.trans (l.mono o.size)).setCell (by simp) _).setCell (by simp) _
 | true=>
  have p:Hid (ziS bs.length sy=0/\zhF bs.length sy=bs.length):=by show _/\_;simp[ziS,zhF,ht]
  rw[ht]at j;clear ht;go_in;go_wp2_with fail
  generalize (w.alloc ?A0).alloc ?B0=I at o A t j|-;refine j.mono ?_;rintro _ B⟨rfl,l⟩;dsimp only;have r:=zm o l;have G:=zk l A;have f:=zk l t;have J:=zb G 0 (.slice c bs.length b) rfl;have L:=zb G 1 (I_ sy) rfl;go_wp2_with fail
  refine(H.out B r).mono ?_;rintro e w2⟨m,rc,q,F,z,C⟩;subst q;dsimp only;have T:w.heap.size+1<B.heap.size:=ze f;have s:=(C.block _ T).trans f;have u:=zb s 0 (O_) rfl;have y:=zb s 1 (I_ 0) rfl;have M:=zd s 0;have N:=zd s 1;clear J L;go_wp2_with fail
  rw[p.out.1,p.out.2];rw[tL_ (nR_ _)]at F|-;refine bodyPost_ret (v:=.tuple #[.agg #[.slice m bs.length rc,I_ (bs.length:Int)],I_ 0]) (by simp[results,results150,go_sem,u,y]) rfl ⟨m,rc,rfl,?_,?_,?_⟩
  .exact(F.setCellT _ _ _ (λd g e=>by have:=(z d g e).1;omega)).setCellT _ _ _ (λd g e=>by have:=(z d g e).1;omega)
  .intro d g e;obtain⟨V,O⟩:=z d g e;have:=r.size;exact⟨by omega,by simpa using O⟩
  .exact((r.trans (C.mono r.size)).setCell (by simp) _).setCell (by simp) _
structure zzj (w w':World)(e:Ending)(U:Nat->Bool)(F o:Nat)(T:TypeId)(fc:Array Value)(x:NM):Prop where
 told:e=.returned (.slice x.wa x.wai.length x.wc)
 acts:∃U' fc' x',zo w' U' F o T fc' x'/\NTo U U' w w' F o fc fc' x x'/\x'.v={ x.v with wai:=[],syn:=(zae x.v.recs).length }/\w'.ownsRow 0 66 19 (.slice x.wa x.wai.length x.wc) x.wai.length (zY x.wai)/\(∀q,ob x.wa=some q->¬x'.S q)
theorem zqs (x:NM)(w:World)(U:Nat->Bool)(F o:Nat)(T:TypeId)(z:Array Value)(h:zo w U F o T z x) :
  Calls prog 113 #[P_ F o] w λe w'=>zzj w w' e U F o T z x:=by
 have p:Hid ((zam x.ms).length=(zae x.v.recs).length):=by show _=_;rw[zes];rfl
 have m:(zam x.ms).length<=400000/\x.syn<=(zam x.ms).length:=by rw[p.out];exact⟨h.inv.tape,h.inv.syn⟩
 have f:=zpc (zam x.ms) x.ba _ x.bc x.syn w rfl (h.tap.sub (zK U w)) (by omega);have E:zhF (zam x.ms).length x.syn=(zam x.ms).length:=by rw[zhF,if_pos (zcr.2 ⟨m.1,by omega,by omega⟩)]
 have D:ziS (zam x.ms).length x.syn=0:=by rw[ziS,if_pos (zcr.2 ⟨m.1,by omega,by omega⟩)]
 have G:(zam x.ms).take (zam x.ms).length=zam x.ms:=List.take_length;rw[E,D,G]at f;have H:=h.cell 15 _ rfl;have I:=h.cell 16 _ rfl;clear E D G m;go_in;go_wp2_with fail
 refine f.mono ?_;rintro e u⟨d,rc,O,C,B,N⟩;subst O;dsimp only;clear f H I;refine kO_ ?A0 ?_;exact Obj.cells #[.slice d (zam x.ms).length rc,I_ ((zam x.ms).length:Int)] 114;have j:=zC u ?A0;have t:=hN_ u ?A0;go_upto_region 2 with fail
 generalize u.alloc ?A0=y at j t|-;have A:=zm N j;have b:=h.below A;have e0:=zb t 0 _ rfl;have e1:=zb t 1 _ rfl;have ac:=b.cell 17 _ rfl;have aa:=b.cell 15 _ rfl;have ab:=b.cell 16 _ rfl;have ad:=b.free (o+15);have ae:=b.free (o+16);have af:=b.free (o+17);have R:Hid (zg (zq U y) d rc (zam x.ms)):=zci (C.below j) (λY Z e _=>h.bnd.new (B Y Z e).1);clear C B;go_wp2_with fail
 go_ret;refine⟨rfl,?_⟩;have M:=p.out;obtain⟨J,V,X⟩:=h.put_syncx (w2:=y) (a':=d) (c':=rc) (sy:=(zam x.ms).length) A R.out ((h.inv.wai_ (l:=[]) (nZ_ _)).tape_ (l:=x.v.recs) (s:=(zam x.ms).length) h.inv.tape (by rw[M];exact nR_ _))
 .refine⟨U,J,_,V,X,by rw[<-p.out];rfl,?_,?_⟩
  .have r:∀q,(Value.slice x.wa x.wai.length x.wc).ownBlock=some q->q≠F:=λq e=>(h.su q (.inr (.inr (.inr (.inr (.inr (.inr (zp e)))))))).2;exact zaQ (zaQ (zaQ b.rwa F _ _ (λe=>r F e rfl)) F _ _ (λe=>r F e rfl)) F _ _ (λe=>r F e rfl)
  .intro q e L;have c:=zaK x.wai.length x.wc e;rcases L with g|g|g|g|g|g|g
   .exact zc2 h.rwa h.stk.box (by decide) (by rw[c,g])
   .exact zcu h.rwa h.stk.rc (by decide) q c g
   .exact zcu h.rwa h.stk.rd (by decide) q c g
   .exact zcu h.rwa h.rsh (by decide) q c (zaK _ _ g)
   .exact zcu h.rwa h.rtb (by decide) q c (zaK _ _ g)
   .exact zcu h.rwa h.rvo (by decide) q c (zaK _ _ g)
   .cases g
end Go.Proofs.YtdnaljbnebnlhaaGreatDoor
