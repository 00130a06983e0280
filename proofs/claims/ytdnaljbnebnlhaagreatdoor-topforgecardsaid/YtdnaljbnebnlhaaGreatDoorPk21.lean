import Derived.Test.YtdnaljbnebnlhaaGreatDoorPk20
set_option maxRecDepth 100000
set_option maxHeartbeats 4000000
namespace Go.Proofs.YtdnaljbnebnlhaaGreatDoor
open Go.RowKit Tryz
theorem znM (c:Ct)(w:World)(N:za7 w c)(h1:c.bl.length<=1000)(h2:c.pl.length<=1000)(h3:c.vl.length<=1000)(h4:∀p∈c.bl,p.bs.length<=140737488355328)(h5:∀p∈c.pl,p.bs.length<=140737488355328) :
  Calls prog 192 #[.agg #[.int .i64 c.au,.int .i64 c.rd,.slice c.ba c.bl.length c.bc,.slice c.pa c.pl.length c.pc,.slice c.va c.vl.length c.vc]] w λe w'=>∃k:Ct,e=.returned (.agg #[.int .i64 k.au,.int .i64 k.rd,.slice k.ba k.bl.length k.bc,.slice k.pa k.pl.length k.pc,.slice k.va k.vl.length k.vc])/\k.v=c.v/\za7 w' k/\(∀b,zfq k b->w.heap.size<=b)/\Below w.heap.size w w':=by
 have HB:Hid (∀p∈c.bl,p.bs.length<=140737488355328):=h4;have HP:Hid (∀p∈c.pl,p.bs.length<=140737488355328):=h5;clear h4 h5;have R:Below w.heap.size w ((w.alloc (.cells #[.int .i64 c.au,.int .i64 c.rd,.slice c.ba c.bl.length c.bc,.slice c.pa c.pl.length c.pc,.slice c.va c.vl.length c.vc] 64)).alloc (.cells #[.int .i64 0,.int .i64 0,.slice none 0 0,.slice none 0 0,.slice none 0 0] 64)):=((bR_ _ _).alloc (nR_ _) _).alloc (by rw[zG];omega) _;have Y:=hX_ w (.cells #[.int .i64 c.au,.int .i64 c.rd,.slice c.ba c.bl.length c.bc,.slice c.pa c.pl.length c.pc,.slice c.va c.vl.length c.vc] 64) (.cells #[.int .i64 0,.int .i64 0,.slice none 0 0,.slice none 0 0,.slice none 0 0] 64);have Z:((w.alloc (.cells #[.int .i64 c.au,.int .i64 c.rd,.slice c.ba c.bl.length c.bc,.slice c.pa c.pl.length c.pc,.slice c.va c.vl.length c.vc] 64)).alloc (.cells #[.int .i64 0,.int .i64 0,.slice none 0 0,.slice none 0 0,.slice none 0 0] 64)).heap[w.heap.size+1]? = some (.cells #[.int .i64 0,.int .i64 0,.slice none 0 0,.slice none 0 0,.slice none 0 0] 64 (0,0)):=by
  have:=hN_ (w.alloc (.cells #[.int .i64 c.au,.int .i64 c.rd,.slice c.ba c.bl.length c.bc,.slice c.pa c.pl.length c.pc,.slice c.va c.vl.length c.vc] 64)) (.cells #[.int .i64 0,.int .i64 0,.slice none 0 0,.slice none 0 0,.slice none 0 0] 64);rw[zG]at this;exact this
 go_in;go_wp2_with fail
 generalize (w.alloc (.cells #[.int .i64 c.au,.int .i64 c.rd,.slice c.ba c.bl.length c.bc,.slice c.pa c.pl.length c.pc,.slice c.va c.vl.length c.vc] 64)).alloc (.cells #[.int .i64 0,.int .i64 0,.slice none 0 0,.slice none 0 0,.slice none 0 0] 64)=C at R Y Z|-;have q:w.heap.size+1<C.heap.size:=ze Z;have E:w.heap.size<C.heap.size:=ze Y;have c0:=N.below R;refine(zhq c.bl c.ba _ c.bc C rfl h1 HB.out c0.hat.lb.parts).mono ?_;rintro e w1⟨l,o,xs,G,ac,y,M,r,ao⟩;subst G;dsimp only;have I:=(M.block _ E).trans Y;have r1:=(M.block _ q).trans Z;have e2:=zb I 2 _ rfl;have f2:=zd I 2;have O:=zb I 3 _ rfl;have ai:=zm R M;have s0:=hS_ _ _ 2 _ _ (.slice l c.bl.length o) I;have s1:=zh (b:=w.heap.size) (j:=2) (v:=.slice l c.bl.length o) r1 (Nat.succ_ne_self _);have U:=ai.setCell (p:=⟨w.heap.size,2,none⟩) (nR_ _) (.slice l c.bl.length o);have y:=y.setCell r w.heap.size 2 (.slice l c.bl.length o) E;have X:C.heap.size<=(w1.setCell ⟨w.heap.size,2,none⟩ (.slice l c.bl.length o)).heap.size:=by simpa using M.size
 have ae:∀f d,l=some ⟨f,d,none⟩->f<(w1.setCell ⟨w.heap.size,2,none⟩ (.slice l c.bl.length o)).heap.size:=λf d e=>by simpa using ao f d e
 go_wp2_with fail
 generalize w1.setCell ⟨w.heap.size,2,none⟩ (.slice l c.bl.length o)=X1 at s0 s1 U y X ae|-;have aa:X1.heap[w.heap.size]? = some (.cells #[.int .i64 c.au,.int .i64 c.rd,.slice l c.bl.length o,.slice c.pa c.pl.length c.pc,.slice c.va c.vl.length c.vc] 64 (0,0)):=by simpa using s0
 clear s0 e2 f2 O I r1;have c1:=N.below U;refine(zhq c.pl c.pa _ c.pc X1 rfl h2 HP.out c1.hat.lp.parts).mono ?_;rintro e w2⟨g,m,ys,G,ad,L,D,ab,ap⟩;subst G;dsimp only;have J:=(D.block _ (ze aa)).trans aa;have t1:=zk D s1;have O:=zb J 3 _ rfl;have f3:=zd J 3;have e4:=zb J 4 _ rfl;have aj:=zm U D;have u0:=hS_ _ _ 3 _ _ (.slice g c.pl.length m) J;have u1:=zh (b:=w.heap.size) (j:=3) (v:=.slice g c.pl.length m) t1 (Nat.succ_ne_self _);have V:=aj.setCell (p:=⟨w.heap.size,3,none⟩) (nR_ _) (.slice g c.pl.length m);have t:za1 C.heap.size g ys:=⟨λf d e=>nT_ X (ab.row f d e),λp A f d e=>nT_ X (ab.each p A f d e)⟩;have y:=(y.below D).setCell r w.heap.size 3 (.slice g c.pl.length m) E;have L:=L.setCell t w.heap.size 3 (.slice g c.pl.length m) E;have ar:C.heap.size<=(w2.setCell ⟨w.heap.size,3,none⟩ (.slice g c.pl.length m)).heap.size:=by have:=D.size;simp;omega
 have af:∀f d,l=some ⟨f,d,none⟩->f<(w2.setCell ⟨w.heap.size,3,none⟩ (.slice g c.pl.length m)).heap.size:=λf d e=>by have:=ae f d e;have:=D.size;simp;omega
 have ag:∀f d,g=some ⟨f,d,none⟩->f<(w2.setCell ⟨w.heap.size,3,none⟩ (.slice g c.pl.length m)).heap.size:=λf d e=>by simpa using ap f d e
 go_wp2_with fail
 generalize w2.setCell ⟨w.heap.size,3,none⟩ (.slice g c.pl.length m)=X2 at u0 u1 V y L ar af ag|-;have ah:X2.heap[w.heap.size]? = some (.cells #[.int .i64 c.au,.int .i64 c.rd,.slice l c.bl.length o,.slice g c.pl.length m,.slice c.va c.vl.length c.vc] 64 (0,0)):=by simpa using u0
 clear u0 O f3 e4 J t1 aa s1;have c2:=N.below V;refine(znL c.vl c.va _ c.vc X2 rfl h3 c2.ints).mono ?_;rintro e w3⟨u,B,G,hZ,T,z⟩;subst G;dsimp only;have F:=(z.block _ (ze ah)).trans ah;have s:=zk z u1;have g0:=zb F 0 _ rfl;have g1:=zb F 1 _ rfl;have g2:=zb F 2 _ rfl;have g3:=zb F 3 _ rfl;have g4:=zb F 4 _ rfl;have av:=zd F 4;have d0:=zb s 0 _ rfl;have d1:=zb s 1 _ rfl;have d2:=zb s 2 _ rfl;have d3:=zb s 3 _ rfl;have d4:=zb s 4 _ rfl;have f0:=zd s 0;have f1:=zd s 1;have f2:=zd s 2;have f3:=zd s 3;have f4:=zd s 4;have aw:w.heap.size≠w.heap.size+1:=by omega
 have ak:=zm V z;have am:=(y.below z).setCell r w.heap.size 4 (.slice u c.vl.length B) E;have an:=(L.below z).setCell t w.heap.size 4 (.slice u c.vl.length B) E;have au:∀f d,u=some ⟨f,d,none⟩->w.heap.size≠f:=λf d e=>by have:=(T f d e).1;omega
 have H:∀f d,u=some ⟨f,d,none⟩->w.heap.size+1≠f:=λf d e=>by have:=(T f d e).1;omega
 have aq:=hZ.setCell w.heap.size 4 (.slice u c.vl.length B) au;have al:=ak.setCell (p:=⟨w.heap.size,4,none⟩) (nR_ _) (.slice u c.vl.length B);have E1:Hid (xs.length=c.bl.length):=ac.length;have E2:Hid (ys.length=c.pl.length):=ad.length;have HV:Hid ((⟨c.au,c.rd,l,o,xs,g,m,ys,u,B,c.vl⟩:Ct).v=c.v):=by
  show Ct.v _=_;simp only[Ct.v];rw[zor ac,zor ad]
 go_wp2_with fail
 refine bodyPost_ret (v:=.agg #[.int .i64 c.au,.int .i64 c.rd,.slice l c.bl.length o,.slice g c.pl.length m,.slice u c.vl.length B]) (by simp[results,results192,go_sem,d0,d1,d2,d3,d4]) rfl ⟨⟨c.au,c.rd,l,o,xs,g,m,ys,u,B,c.vl⟩,by rw[E1.out,E2.out],HV.out,⟨⟨?_,?_,?_,?_⟩,?_,N.vle⟩,?_,?_⟩
 .exact((((am.setCell r _ _ _ q).setCell r _ _ _ q).setCell r _ _ _ q).setCell r _ _ _ q).setCell r _ _ _ q
 .exact((((an.setCell t _ _ _ q).setCell t _ _ _ q).setCell t _ _ _ q).setCell t _ _ _ q).setCell t _ _ _ q
 .intro f d e;have:=af f d e;have:=z.size
  simp;omega
 .intro f d e;have:=ag f d e;have:=z.size
  simp;omega
 .exact((((aq.setCell _ _ _ H).setCell _ _ _ H).setCell _ _ _ H).setCell _ _ _ H).setCell _ _ _ H
 .rintro b (⟨d,e⟩|⟨d,e⟩|⟨p,A,_,d,e⟩|⟨_,d,e⟩)
  .have:=r.row b d e;omega
  .have:=t.row b d e;omega
  .rcases List.mem_append.1 A with A|A
   .have:=r.each p A b d e;omega
   .have:=t.each p A b d e;omega
  .have:=(T b d e).1;omega
 .exact((((al.setCell (Nat.le_succ _) _).setCell (Nat.le_succ _) _).setCell (Nat.le_succ _) _).setCell (Nat.le_succ _) _).setCell (Nat.le_succ _) _
structure zym (w w':World)(e:Ending)(s:Nat)(vc vd:Value)(ls:List Ct)(ds:List zi)(c:CV):Prop where
 told:e=.returned (I_ (za8 (zI ls) c))
 own:(za8 (zI ls) c≠0/\B_ w w')\/(za8 (zI ls) c=0/\∃(vc' vd':Value) (x:Ct) (p:zi),x.v=c/\p.bs=c.d/\Stk w' 0 s vc' vd' (ls++[x]) (ds++[p])/\Below 0 w w'/\(∀b,b<w.heap.size->b≠s->vc.ownBlock≠some b->vd.ownBlock≠some b->w'.heap[b]? = w.heap[b]?)/\(∀b,vc'.ownBlock=some b->vc.ownBlock=some b\/w.heap.size<=b)/\(∀b,vd'.ownBlock=some b->vd.ownBlock=some b\/w.heap.size<=b)/\(∀b,zfq x b->w.heap.size<=b)/\(∀sb so,p.sa=some ⟨sb,so,none⟩->w.heap.size<=sb))
theorem zlS (d:List Ct)(ds:List zi)(vc vd:Value)(s:Nat)(c:Ct)(w:World)(B:Stk w 0 s vc vd d ds)(ag:bss ds=(zI d).map CV.d)(a1:d.length<=400)(hc:za7 w c)(hT:zbJ w) :
  Calls prog 158 #[P_ s 0,.agg (crow_ c)] w λe w'=>zym w w' e s vc vd d ds c.v:=by
 have hB:0<=w.heap.size:=nZ_ _;obtain⟨m,o,y,z,e1,f,av⟩:=B.at ag a1;subst e1 f;obtain⟨i,hi,a5,a7,a9⟩:=info_parts zoI;obtain⟨i',aX,a6,a8,ba⟩:=info_parts zhc;have aM:Hid _:=ag;have aj:Hid (ds.length=d.length):=av.at'.len;have R:=(bR_ w.heap.size w).alloc (nR_ _) (.cells (crow_ c) 64);have r0:=hN_ w (.cells (crow_ c) 64);go_in;go_wp2_with fail
 generalize w.alloc (.cells (crow_ c) 64)=W0 at R r0|-;refine(znk d s m o y z ds c W0 (av.below R) (hc.below R)).mono ?_;rintro _ w1⟨rfl,aw⟩;dsimp only;have D:=zm R aw;have H:=zk aw r0;by_cases hx:za8 (zI d) c.v=0
 .have J:Hid _:=hx;obtain⟨f1,f2,f3⟩:=zg5 hx;rw[zbv]at f3;have ar:=zfO (vl:=c.vl) (by rw[Ct.f_v];exact f1);have ai:=zea (hc.below D).hat ar (hT.below D);obtain⟨m1,m2,m3,m4,m5⟩:=zow f1;have aI:Hid (∀W:World,B_ w W->_):=λW hW=>znM c W (hc.below hW) m1 m2 (by omega) m4 m5;rw[hx];clear hx f1 f2 ar m1 m2 m3 m4 m5 ag;have d0:=zb H 0 _ rfl;have d1:=zb H 1 _ rfl;have d2:=zb H 2 _ rfl;have d3:=zb H 3 _ rfl;go_wp2_with fail
  refine ai.mono ?_;rintro e w2⟨b,E,aW,ax,aE⟩;subst E;dsimp only;clear ai d0 d1 d2 d3;have j:=zm D ax;have I:=zk ax H;have T:=B.below j;have aa:0<=w2.heap.size:=nT_ hB j.size;have ae:b<w2.heap.size:=zgg aE (by intro h;have C:=zbD c.au c.rd c.bl c.pl;rw[h]at C;simp at C) b 0 rfl;have bg:s<w.heap.size:=ze B.box;have aR:w.heap.size<=b:=nT_ D.size aW;have aJ:Hid ((zaE c.au c.rd c.bl c.pl).length=32):=zbD _ _ _ _;have ak:Hid (zaE c.au c.rd c.bl c.pl=c.v.d):=c.d_v;have ay:=T.box;have k0:=zb ay 0 _ rfl;have bb:=dC_ k0;have e0:=zb I 0 _ rfl;have e1:=zb I 1 _ rfl;have f:=zb I 2 _ rfl;have e3:=zb I 3 _ rfl;have e4:=zb I 4 _ rfl;have aS:(Value.slice m d.length o).ownBlock≠some s:=zc2 T.rc ay (by decide);have aO:Hid _:=eO_ func192;go_wp2_with fail
  go_region_law (first
   | (refine zdF rfl 192 _ _ rfl [.agg (crow_ c)] rfl aO.out (λu w9=>∃x:Ct,u=.agg (crow_ x)/\x.v=c.v/\za7 w9 x/\(∀b,zfq x b->w2.heap.size<=b)/\B_ w2 w9) ((aI.out w2.drew j.drew).mono (λe w9 ⟨x,E,h1,h2,h3,h4⟩=>⟨_,E,x,rfl,h1,h2,h3,zbE h4⟩)) ?_;rintro u w4⟨x,rfl,aH,aG,ah,ad⟩;have af:=T.below ad;have M:=af.box;have m0:=zb M 0 _ rfl;have bc:(w4.alloc (.cells (crow_ x) 64)).cell? ⟨s,0,none⟩=some (.slice m d.length o):=zb (zR M) 0 _ rfl;have a4:0<=w4.heap.size:=nT_ aa ad.size)
   | (refine zcc rfl _ _ 42 rfl 0 64 i (.agg #[I_ 0,I_ 0,O_,O_,O_]) 5 88 underlying42 hi a5 a7 a9 rfl (by decide) (.slice m d.length o) d.length (ctv d) rfl (oA_ af.rc _) ⟨w4.heap.size,0,none⟩ 1 1 [I_ x.au,I_ x.rd,.slice x.ba x.bl.length x.bc,.slice x.pa x.pl.length x.pc,.slice x.va x.vl.length x.vc] rfl rfl (zag _ _ _) (by intro u G;simp at G;rcases G with rfl|rfl|rfl|rfl|rfl<;>rfl) (by unfold maxLen;omega) (by omega) (zB a4 _) ?_;intro v6 X aA G6;have x2:=G6.row (zR M) aS;have bd:=zb x2 0 _ rfl;have be:=zd x2 0;obtain⟨r,t,a2⟩:=zH aA;subst a2))
  all_goals
   obtain⟨F,A,ac,ab⟩:=T.moreC aa ad aG ah G6 aA;have aF:zg (X.setCell ⟨s,0,none⟩ (.slice r (d.length+1) t)) (some ⟨b,0,none⟩) 32 (zaE c.au c.rd c.bl c.pl):=zfU aE (λq V _ e=>by
    cases e;exact ac b ae (by omega) (λf=>by have:=(B.rc.lt b f).2;omega))
   have au:Hid (∀l V,some (⟨b,0,none⟩:Addr)=some ⟨l,V,none⟩->0<=l/\l<(X.setCell ⟨s,0,none⟩ (.slice r (d.length+1) t)).heap.size/\l≠s/\(Value.slice r (d.length+1) t).ownBlock≠some l/\(Value.slice y d.length z).ownBlock≠some l):=by
    show ∀l,_;intro l V e;cases e;exact⟨by omega,nL_ ae A.size,by omega,λf=>by have:=(B.rc.lt b (ab b ae f)).2;omega,λf=>by have:=(B.rd.lt b f).2;omega⟩
   have ao:Hid (x.v=c.v):=aH;have am:Hid (∀q,q<w2.heap.size->q≠s->(Value.slice m d.length o).ownBlock≠some q->(X.setCell ⟨s,0,none⟩ (.slice r (d.length+1) t)).heap[q]? = w2.heap[q]?):=ac;have aK:Hid (∀q,q<w2.heap.size->(Value.slice r (d.length+1) t).ownBlock=some q->(Value.slice m d.length o).ownBlock=some q):=ab;have aN:Hid (∀q,zfq x q->w.heap.size<=q):=λq U=>nT_ j.size (ah q U);clear bd be x2 ac ab aH ah aG m0 bc M af k0 bb e0 e1 f e3 e4;go_upto_region 8 with fail
   generalize X.setCell ⟨s,0,none⟩ (.slice r (d.length+1) t)=L at F A aF au am|-;have ap:0<=L.heap.size:=nT_ aa A.size;have b7:=F.box;have n1:=zb b7 1 _ rfl;have aT:(Value.slice y d.length z).ownBlock≠some s:=zc2 F.rd b7 (by decide);have aU:=aj.out;go_wp2_with (at_builtin;refine wpList_append_own_at _ rfl _ _ 59 rfl 0 51 i' (O_) 1 24 underlying59 aX a6 a8 ba rfl (by decide) _ ds.length (pv ds) rfl (oA_ F.rd _) ⟨L.heap.size,0,none⟩ 1 1 [.slice (some ⟨b,0,none⟩) 32 32] rfl rfl (zag _ _ _) (by intro u G;simp at G;subst G;rfl) (by unfold maxLen;omega) (by omega) (zB ap _) ?_;intro v8 Y aB aV _ aP;have Z:=zV.of aV aP;have x8:=Z.row (zR b7) aT;have bi:=zb x8 1 _ rfl;have bj:=zd x8 1;obtain⟨N,O,a3⟩:=zH aB;subst a3)
   obtain⟨az,aQ⟩:=F.moreD (p:=⟨some ⟨b,0,none⟩,32,zaE c.au c.rd c.bl c.pl⟩) ap (bR_ _ _) aF au.out Z (by simpa[zi.val,aJ.out]using aB);have bf:Hid (bss (ds++[(⟨some ⟨b,0,none⟩,32,zaE c.au c.rd c.bl c.pl⟩:zi)])=(zI (d++[x])).map CV.d):=by
    show _=_;have C:=aM.out;simp only[bss,zI,List.map_append,List.map_cons,List.map_nil]at C|-;rw[C,ak.out,ao.out]
   have aq:Below 0 w (Y.setCell ⟨s,1,none⟩ (.slice N (ds.length+1) O)):=((j.mono hB).trans A).trans aQ;have G9:zV (L.alloc (.cells #[.slice (some ⟨b,0,none⟩) 32 32] 51)) (.slice y d.length z) Y (.slice N (ds.length+1) O):=Z;have al:Hid (∀q,q<w.heap.size->q≠s->(Value.slice m d.length o).ownBlock≠some q->(Value.slice y d.length z).ownBlock≠some q->(Y.setCell ⟨s,1,none⟩ (.slice N (ds.length+1) O)).heap[q]? = w.heap[q]?):=by
    show ∀q,_;intro q U aD aZ a0;have aC:q<w2.heap.size:=nL_ U j.size;have aY:q<L.heap.size:=nL_ aC A.size;rw[hO_ Y ⟨s,1,none⟩ q _ aD,G9.grown.block q (by rw[zG];omega) (λe=>a0 e.symm),heap_alloc_old _ _ aY,am.out q aC aD aZ];exact j.block q U
   have aL:Hid (∀q,(Value.slice r (d.length+1) t).ownBlock=some q->(Value.slice m d.length o).ownBlock=some q\/w.heap.size<=q):=λq e=>by
    rcases Nat.lt_or_ge q w2.heap.size with g|g
    .exact .inl (aK.out q g e)
    .exact .inr (nT_ j.size g)
   have an:Hid (∀q,(Value.slice N (ds.length+1) O).ownBlock=some q->(Value.slice y d.length z).ownBlock=some q\/w.heap.size<=q):=λq e=>by
    rcases G9.fresh q e with g|g
    .exact .inl g
    .have:=j.size;have:=A.size;rw[zG]at g;exact .inr (by omega)
   clear aU;rw[aj.out]at az aq al an;clear G9;go_wp2_with fail
   go_ret;exact⟨zt J.out.symm,.inr ⟨J.out,_,_,x,⟨some ⟨b,0,none⟩,32,zaE c.au c.rd c.bl c.pl⟩,ao.out,ak.out,az,aq,al.out,aL.out,an.out,aN.out,λl V e=>by cases e;exact aR⟩⟩
 .have J:Hid _:=hx;have bh:(za8 (zI d) c.v != 0)=true:=by simpa using hx
  have HS:Hid (za8 (zI d) c.v=za8 (zI d) c.v):=rfl;generalize hE:za8 (zI d) c.v=x at*;have HE:Hid _:=hE;clear hE hx;go_wp2_with fail
  go_ret;exact⟨zt HE.out.symm,.inl ⟨by rw[HE.out];exact J.out,D⟩⟩
variable {w w':World}{U:Nat->Bool}{F o cap:Nat}{fc:Array Value}{T:TypeId}{sa:Option Addr}{x:NM}{bs:List Int}
theorem zoW (h:zg (zq U w) sa cap bs)(f:bs≠[]){b j:Nat}(e:sa=some ⟨b,j,none⟩):U b=false/\b<w.heap.size:=by
 rcases h.bytes with g|⟨l,m,c,g⟩
 .exact absurd g f
 .rw[e]at c;cases c;have d:=zhJ (g 0 (zdA f));exact⟨d.1,World.block_lt_of_cell? _ _ d.2⟩
theorem zyn (c:CV):c.d≠[]:=λh=>by have:=c.d_length;rw[h]at this;cases this
theorem zo.dsd (h:zo w U F o T fc x)(p:zi)(d:p∈x.ds):p.bs≠[]:=by
 have b:p.bs∈bss x.ds:=List.mem_map.2 ⟨p,d,rfl⟩;rw[h.stk.same]at b;obtain⟨c,_,e⟩:=List.mem_map.1 b;rw[<-e];exact zyn c
theorem zo.stkIn (h:zo w U F o T fc x):Stk w 0 x.s x.vc x.vd x.ls x.ds:=by
 have k:=zK U w;have f:∀b,x.S b->U b=true:=λb e=>(h.su b e).1;refine⟨h.stk.box,nZ_ _,h.stk.rc,h.stk.rd,λc l=>⟨(h.stk.ec c l).sub k,λb m=>⟨nZ_ _,λe=>?_⟩⟩,λp g=>⟨(h.stk.ed p g).sub k,λq s e=>?_⟩,λc l b m=>⟨λe=>?_,λe=>?_⟩,λp g q s e=>?_⟩
 .have:=h.stk.ic c l b m;rw[f b (.inr (.inl e))]at this;cases this
 .obtain⟨d,r⟩:=zoW (h.stk.ed p g) (h.dsd p g) e;exact⟨nZ_ _,r,λj=>by rw[f q (.inr (.inr (.inl j)))]at d;cases d⟩
 .have:=h.stk.ic c l b m;rw[f b (.inl e)]at this;cases this
 .have:=h.stk.ic c l b m;rw[f b (.inr (.inr (.inl e)))]at this;cases this
 .obtain⟨d,_⟩:=zoW (h.stk.ed p g) (h.dsd p g) e;refine⟨λj=>?_,λj=>?_⟩
  .rw[f q (.inl j)]at d;cases d
  .rw[f q (.inr (.inl j))]at d;cases d
theorem zvM {l:List CV}{c:CV}(h:zbV l=0)(j:za8 l c=0):zbV (l++[c])=0:=by
 refine zvz (λk o=>?_);obtain⟨p,m⟩:=zgw h;rcases Nat.lt_or_ge k l.length with g|g
 .have b:(l++[c]).take k=l.take k:=List.take_append_of_le_length (by omega);have d:zaM (l++[c]) k=zaM l k:=by simp[zaM,List.getD,List.getElem?_append_left g]
  rw[b,d];have f:=m k g;simp only[zgH,Bool.or_eq_false_iff,decide_eq_false_iff_not,Decidable.not_not]at f;rw[za8,if_neg (by rw[f.1];decide),if_neg (by rw[f.2];decide),if_neg (by rw[lT9_];omega)]
 .have e:k=l.length:=by simp at o;omega
  subst e;have b:(l++[c]).take l.length=l:=by simp
  have d:zaM (l++[c]) l.length=c:=by simp[zaM,List.getD]
  rw[b,d];exact j
theorem za3.dag_ {n:Nd}(h:za3 n){c:CV}(f:za8 n.k.dag c=0)(l:∀b∈c.bl++c.pl,∀x∈b,0<=x/\x<=255):za3 { n with k:={ n.k with dag:=n.k.dag++[c] } }:=
 ⟨h.nu,h.pool,h.sh,h.shf,zvM h.dag f,h.own,h.ovl,h.vot,h.tape,h.syn,h.wai,h.trn,h.tab,h.u8t,h.u8s,h.ou8,λd j=>by
  rcases List.mem_append.1 j with g|g
  .exact h.du8 d g
  .obtain rfl:d=c:=by simpa using g
   exact l⟩
theorem NM.v_dag (x:NM)(vc vd:Value)(c:Ct)(p:zi):({ x with vc:=vc,vd:=vd,ls:=x.ls++[c],ds:=x.ds++[p] }:NM).v={ x.v with k:={ x.v.k with dag:=x.v.k.dag++[c.v] } }:=by simp[NM.v,zI]
theorem zo.inserts {e:Ending}{c:CV}(h:zo w U F o T fc x)(hI:zym w w' e x.s x.vc x.vd x.ls x.ds c)(d:∀b∈c.bl++c.pl,∀x∈b,0<=x/\x<=255) :
  zal w U F o T fc x w' (if za8 x.v.k.dag c=0 then { x.v with k:={ x.v.k with dag:=x.v.k.dag++[c] } } else x.v):=by
 rcases hI.own with⟨M,r⟩|⟨M,G,H,y,p,O,hp,f,j,B,ab,ac,hx,ag⟩
 .have A:¬za8 x.v.k.dag c=0:=M;rw[if_neg A];exact zal.quiet h r
 .have A:za8 x.v.k.dag c=0:=M;rw[if_pos A];have N:F≠x.s/\x.vc.ownBlock≠some F/\x.vd.ownBlock≠some F:=⟨λe=>(h.su F (.inl e)).2 rfl,λe=>(h.su F (.inr (.inl e))).2 rfl,λe=>(h.su F (.inr (.inr (.inl e)))).2 rfl⟩;have hF:R_ w' F fc T:=(B F (ze h.blk) N.1 N.2.1 N.2.2).trans h.blk;have ae:∀b,x.S b->b<w.heap.size:=λb e=>h.bnd b (h.su b e).1;have g:zao U (zaF (zaF U G.ownBlock) H.ownBlock) w w':=⟨j.os,j.tape,j.output,j.size,λb C d=>B b C (λe=>by rw[(h.su b (.inl e)).1]at d;cases d) (λe=>by rw[(h.su b (.inr (.inl e))).1]at d;cases d) (λe=>by rw[(h.su b (.inr (.inr (.inl e)))).1]at d;cases d),λb C=>by
   cases d:U b with
   | true=>exact zaB (zaB d)
   | false=>
    refine zbw (zbw d (λe=>?_)) (λe=>?_)
    .rcases ab b e with q|q
     .rw[(h.su b (.inr (.inl q))).1]at d;cases d
     .omega
    .rcases ac b e with q|q
     .rw[(h.su b (.inr (.inr (.inl q)))).1]at d;cases d
     .omega⟩
  have l:=g.sub;have E:∀{t:TypeId} {X n:Nat} {v:Value} {Y:List Value},w.ownsRow 0 t X v n Y->(∀q,v.ownBlock=some q->x.S q)->t≠152->t≠64->t≠51->w'.ownsRow 0 t X v n Y:=λ{t X n v Y} ho z t1 t2 t3=>zu ho (λq e=>B q (ae q (z q e)) (λeq=>zc2 ho h.stk.box t1 (by rw[e,eq])) (λL=>zcu h.stk.rc ho (Ne.symm t2) q L e) (λL=>zcu h.stk.rd ho (Ne.symm t3) q L e));have aa:∀c∈x.ls++[y],∀b,zfq c b->zaF (zaF U G.ownBlock) H.ownBlock b=false:=λc u b r=>by
   have I:=(f.ac c u).2 b r;have J:=f.sc c u b r;refine zbw (zbw ?_ I.2) J.2;rcases List.mem_append.1 u with q|q
   .exact h.stk.ic c q b r
   .obtain rfl:c=y:=by simpa using q
    exact h.bnd.new (hx b r)
  have ad:∀b,({ x with vc:=G,vd:=H,ls:=x.ls++[y],ds:=x.ds++[p] }:NM).S b->x.S b\/w.heap.size<=b:=by
   intro b e;rcases e with e|e|e|e|e|e|e
   .exact .inl (.inl e)
   .rcases ab b e with q|q
    .exact .inl (.inr (.inl q))
    .exact .inr q
   .rcases ac b e with q|q
    .exact .inl (.inr (.inr (.inl q)))
    .exact .inr q
   .exact .inl (.inr (.inr (.inr (.inl e))))
   .exact .inl (.inr (.inr (.inr (.inr (.inl e)))))
   .exact .inl (.inr (.inr (.inr (.inr (.inr (.inl e))))))
   .exact .inl (.inr (.inr (.inr (.inr (.inr (.inr e))))))
  have ah:bss (x.ds++[p])=(zI (x.ls++[y])).map CV.d:=by
   have Z:=h.stk.same;simp only[bss,zI,List.map_append,List.map_cons,List.map_nil]at Z|-;rw[Z,hp,O]
  refine⟨_,fc,{ x with vc:=G,vd:=H,ls:=x.ls++[y],ds:=x.ds++[p] },⟨hF,h.siz,h.cel,zaB (zaB h.fu),?_,?_,h.tabs.sub l,h.etx.sub l,E h.rsh (λq e=>.inr (.inr (.inr (.inl (zp e))))) (by decide) (by decide) (by decide),λs m=>(h.esh s m).sub l,E h.rtb (λq e=>.inr (.inr (.inr (.inr (.inl (zp e)))))) (by decide) (by decide) (by decide),λs m=>(h.etb s m).sub l,
   ⟨f.box,f.rc,f.rd,?_,?_,ah,aa⟩,h.hdr.sub l,h.slt.sub l,E h.rvo (λq e=>.inr (.inr (.inr (.inr (.inr (.inl (zp e))))))) (by decide) (by decide) (by decide),h.tap.sub l,h.ems,E h.rwa (λq e=>.inr (.inr (.inr (.inr (.inr (.inr (zp e))))))) (by decide) (by decide) (by decide),λm e=>(h.ewa m e).sub l,?_⟩,⟨j.os,j.tape,j.output,j.size,λb C z hf=>B b C (λe=>z (.inl e)) (λe=>z (.inr (.inl e))) (λe=>z (.inr (.inr (.inl e)))),g.us,ad,rfl,λ_ _=>rfl⟩,?_⟩
  .intro b e;rcases ad b e with q|q
   .exact⟨zaB (zaB (h.su b q).1),(h.su b q).2⟩
   .refine⟨?_,λef=>by have:=ze h.blk;omega⟩;rcases e with e|e|e|e|e|e|e
    .exact zaB (zaB (h.su b (.inl e)).1)
    .exact zaB (zeM e)
    .exact zeM e
    .exact zaB (zaB (h.su b (.inr (.inr (.inr (.inl e))))).1)
    .exact zaB (zaB (h.su b (.inr (.inr (.inr (.inr (.inl e)))))).1)
    .exact zaB (zaB (h.su b (.inr (.inr (.inr (.inr (.inr (.inl e))))))).1)
    .exact zaB (zaB (h.su b (.inr (.inr (.inr (.inr (.inr (.inr e))))))).1)
  .exact(h.bnd.grew j.size f.rc).grew (nR_ _) f.rd
  .exact λc u=>(f.ac c u).1.hid (aa c u)
  .intro q D;refine zci (f.ad q D).1 (λR V e af=>?_);have I:=(f.ad q D).2 R V e;have J:=f.sd q D R V e;refine zbw (zbw ?_ J.2) I.2.2;rcases List.mem_append.1 D with q1|q1
   .exact(zoW (h.stk.ed q q1) af e).1
   .obtain rfl:q=p:=by simpa using q1
    exact h.bnd.new (ag R V e)
  .rw[NM.v_dag,O];exact h.inv.dag_ A d
  .rw[NM.v_dag,O]
def zla (f:FuncId)(first caps:Array Value)(P:List Int->Bool)(ps:List zi)(w:World):Prop:=
 ∀p∈ps,∀W:World,B_ w W->Calls prog f (first++#[.slice p.sa p.bs.length p.cap]++caps) W λe w'=>e=.returned (.bool (P p.bs))/\B_ W w'
theorem zmC (f:FuncId)(first u:Array Value)(P:List Int->Bool)(R:∀B w,(callFunc f B).run prog w=.ok (.enter f B) w)(vl:List zi)(A:Option Addr)(n H:Nat)(w:World)(d:n=vl.length)(T:vl.length<=9000000000000000000)(M:zbT w A vl)(C:zla f first u P vl w) :
  Calls prog 159 #[.slice A n H,.func (.func f) first u] w λe w'=>B_ w w'/\∃r:Int,e=.returned (I_ r)/\(((bss vl).any P=true/\0<=r)\/((bss vl).any P=false/\r=-1)):=by
 subst d;have G:Hid (zla f first u P vl w):=C;clear C;go_in;go_wp2_with fail
 go_loopw [8] (λi wr=>∃m:Nat,m<=vl.length/\i=I_ m/\(∀s∈vl.take m,P s.bs=false)/\B_ w wr) (λi _=>vl.length-(intOf i).toNat)
 case atStart=>exact⟨0,nZ_ _,rfl,(λs c=>by simp at c),bR_ _ _⟩
 case round=>
  obtain⟨m,V,rfl,g,l⟩:=hrel;by_cases hlt:m<vl.length
  .have F:=M.below l;obtain⟨y,z,rfl,E⟩:∃y z,A=some ⟨y,z,none⟩/\∀j (h:j<vl.length),wr.cell? ⟨y,z+j,none⟩=some (.slice (vl[j]).sa (vl[j]).bs.length (vl[j]).cap):=by
    rcases F.cells with h|h
    .rw[h]at hlt;simp at hlt
    .exact h
   have O:=E m hlt;have U:(m:Int)<vl.length:=by omega
   have q:Hid (P (vl[m]).bs=true->(bss vl).any P=true):=by
    show _->_;intro h;exact List.any_eq_true.2 ⟨_,List.mem_map.2 ⟨_,gM_ hlt,rfl⟩,h⟩
   have p:Hid (P (vl[m]).bs=false->∀s∈vl.take (m+1),P s.bs=false):=by
    show _->_;intro h s c;rw[zjN hlt]at c;rcases c with c|rfl
    .exact g s c
    .exact h
   have o:=G.out (vl[m]) (gM_ hlt) wr l;clear E g F;generalize vl[m]=t at*;go_wp2_with fail
   refine o.mono ?_;rintro _ X⟨rfl,J⟩;dsimp only;have D:=zm l J;cases hP:P t.bs with
   | true=>
    have N:Hid _:=q.out hP;clear q p hP o;go_wp2_with fail
    go_ret;exact⟨D,(m:Int),rfl,.inl ⟨N.out,by omega⟩⟩
   | false=>
    have d:Hid _:=p.out hP;clear q p hP o;go_wp2_with fail
    go_roundw
    case rel=>exact⟨m+1,by omega,by go_num,d.out,D⟩
    case measure=>simp[intOf];omega
  .obtain rfl:m=vl.length:=by omega
   have d:Hid ((bss vl).any P=false):=by
    show _=_;rw[tL_ (nR_ _)]at g;rw[List.any_eq_false];intro b I;obtain⟨s,c,rfl⟩:=List.mem_map.1 I;rw[g s c];simp
   clear g;go_wp2_with fail
   go_ret;exact⟨l,(-1:Int),rfl,.inr ⟨d.out,rfl⟩⟩
theorem zfe (f:FuncId)(first d:Array Value)(P:List Int->Bool)(t:∀j w,(callFunc f j).run prog w=.ok (.enter f j) w)(vl:List zi)(g:Option Addr)(n l:Nat)(w:World)(y:n=vl.length)(u:vl.length<=9000000000000000000)(z:zbT w g vl)(m:zla f first d P vl w) :
  Calls prog 121 #[.slice g n l,.func (.func f) first d] w λe w'=>e=.returned (.bool ((bss vl).any P))/\B_ w w':=by
 subst y;have q:=zmC f first d P t vl g _ l w rfl u z m;clear m;go_in;go_wp2_with fail
 refine q.mono ?_;rintro e A⟨o,r,s,p⟩;subst s;dsimp only;rcases p with⟨b,p⟩|⟨b,rfl⟩
 all_goals
  have c:Hid _:=b;clear b;go_wp2_with fail
  go_ret;exact⟨zN (by rw[c.out]),o⟩
variable {rd:Int}{pl:List zi}
theorem zo.stkAt (h:zo w U F o T fc x):∃s t u y,zee w x.s x.ls s t u y x.ds:=by
 have G:x.ds.length=x.ls.length:=by have:=congrArg List.length h.stk.same;simpa[bss,zI]using this
 have C:x.ls.length<=400:=zlE h.inv.dag;obtain⟨s,t,A⟩:=zH h.stk.rc;obtain⟨u,y,B⟩:=zH h.stk.rd;have m:=h.stk.rc;have l:=h.stk.rd;have q:=h.stk.box;rw[A]at m q;rw[B]at l q;rw[G]at q;have k:=zK U w;refine⟨s,t,u,y,q,⟨?_,λc D=>(h.stk.ec c D).sub k,⟨?_,?_,by omega,?_,⟨?_,λp H=>(h.stk.ed p H).sub k⟩⟩,h.stk.same,C,?_,?_⟩⟩
 .refine⟨?_⟩;rcases m.2 with⟨_,b⟩|⟨g,d,f,e,_⟩
  .exact .inl (eN_ b)
  .cases e;refine .inr ⟨g,0,rfl,λj z=>?_⟩;have e:∀i,i<5->w.cell? ⟨g,j*5+i,none⟩=(x.ls[j]).cs[i]?:=λi E=>by rw[World.ownsRow.cellAt m (j*5+i) (by omega),zfx x.ls j i z E]
   simp only[Nat.zero_add];exact⟨e 0 (by omega),e 1 (by omega),e 2 (by omega),e 3 (by omega),e 4 (by omega)⟩
 .rcases l.2 with⟨e,b⟩|⟨g,d,f,e,r⟩
  .simp only[Value.slice.injEq]at e;omega
  .cases e;exact r.2.2.1
 .rcases l.2 with⟨e,b⟩|⟨g,d,f,e,r⟩
  .simp only[Value.slice.injEq]at e;rw[e.2.2];decide
  .cases e;exact nT_ r.2.2.2.1 (by decide)
 .rcases l.2 with⟨e,b⟩|⟨g,d,f,e,r⟩
  .simp only[Value.slice.injEq]at e;exact .inl e.2.2
  .cases e;exact .inr ⟨g,0,rfl⟩
 .rcases l.2 with⟨_,b⟩|⟨g,d,f,e,_⟩
  .exact .inl (eN_ b)
  .cases e;refine .inr ⟨g,0,rfl,λj z=>?_⟩;rw[Nat.zero_add,World.ownsRow.cellAt l j (by omega)];simp[pv,z,zi.val]
 .rcases m.2 with⟨e,b⟩|⟨g,d,f,e,r⟩
  .simp only[Value.slice.injEq]at e;omega
  .cases e;exact r.2.2.1
 .rcases m.2 with⟨e,b⟩|⟨g,d,f,e,r⟩
  .simp only[Value.slice.injEq]at e;rw[e.2.2];decide
  .cases e;exact nT_ r.2.2.2.1 (by decide)
theorem sHd:(prog.info? 61).map (·.size)=some 4:=by kernel_rfl
theorem zyo {e:Ending}{l:List CV}(k:zwI w w' e l rd pl/\B_ w w'):∃v,e=.returned v/\(∃(f:Option Addr) (m j:Nat) (b:Int),v=.tuple #[.slice f m j,I_ b]/\((b=0/\(m=0↔zdz l rd (bss pl)=0))\/(b=9/\zdz l rd (bss pl)≠0)))/\B_ w w':=by
 rcases k.1 with⟨c,d⟩|⟨c,f,j,ms,d,q,_,_⟩
 .exact⟨_,d,⟨none,0,0,9,rfl,.inr ⟨rfl,by rw[c];decide⟩⟩,k.2⟩
 .refine⟨_,d,⟨f,_,j,0,rfl,.inl ⟨rfl,?_⟩⟩,k.2⟩;have o:ms.length=(zmj l (bss pl)).length:=by rw[<-q,zcQ]
  have p:zdz l rd (bss pl)=if(zmj l (bss pl)).length=0 then 0 else 8:=zm6 l rd (bss pl) _ c;rw[p,o]
  constructor
  .intro g;rw[if_pos g]
  .intro g;by_cases g2:(zmj l (bss pl)).length=0
   .exact g2
   .rw[if_neg g2]at g;cases g
theorem zoX {b:Ct}(c:b.v.hf=0):b.pl.length<=4/\(1<=b.rd/\b.rd<=1048576)/\(∀p∈b.pl,p.bs.length=32)/\(∀p∈b.bl,p.bs.length=32):=by
 rw[<-Ct.hf_v]at c;obtain⟨_,d,_,f,g,j⟩:=zbi c;exact⟨f,d,j,g⟩
theorem zlT (x:NM)(b:Ct)(w:World)(U:Nat->Bool)(F o:Nat)(T:TypeId)(Z:Array Value)(h:zo w U F o T Z x)(C:HAt w b.ba b.bc b.bl b.pa b.pc b.pl)(hf:b.v.hf=0) :
  Calls prog 163 #[P_ F o,.agg (hrow_ b)] w λe w'=>e=.returned (.bool (x.v.k.knows b.v))/\B_ w w':=by
 have aj:∀(fn:Fn) (first X:Array Value) (w:World),(Instr.makeFunc fn first X).run prog w=.ok (.func fn first X) w:=λ_ _ _ _=>rfl;obtain⟨f1,f2,f3,f4⟩:=zoX hf;have q:=zC w (.cells (hrow_ b) 61);have G:=hN_ w (.cells (hrow_ b) 61);go_in;go_upto_region 1 with fail
 generalize w.alloc (.cells (hrow_ b) 61)=W0 at q G|-;have h0:=h.below q;have a2:=zb G 2 _ rfl;have aa:=C.lb.small;have H:=zfe 135 #[P_ F o] #[] (λd=>!zb1 (shw x.sh) d) (eO_ func135) b.bl b.ba _ b.bc W0 rfl aa (C.lb.below q).parts (λp L W hW=>zgX x p.bs p.sa _ p.cap W U F o T Z (h0.below hW) rfl (((C.lb.below q).parts.each p L).below hW));have u:Hid (x.v.k.knows b.v=(!(bss b.bl).any (λd=>!zb1 (shw x.sh) d)&&decide (zdz (zI x.ls) b.rd (bss b.pl)=0))):=by
  show _=_;have e:(bss b.bl).all (zb1 (shw x.sh))=!(bss b.bl).any (λd=>!zb1 (shw x.sh) d):=by rw[List.not_any_eq_all_not];simp
  rw[<-e];rfl
 clear aa;generalize (bss b.bl).any (λd=>!zb1 (shw x.sh) d)=r at H u;go_wp2_with fail
 refine H.mono ?_;rintro _ O⟨rfl,m⟩;dsimp only;clear H a2;have z:=zm q m;have M:=zk m G;cases r with
 | true=>
  go_wp2_with fail
  go_ret;exact⟨by rw[u.out];rfl,z⟩
 | false=>
  have h1:=h.below z;obtain⟨ca,cc,da,dc,ag⟩:=h1.stkAt;have V:=h1.cell 6 _ rfl;clear h0 G m q;generalize w.heap.size=B at M|-;go_upto_region 3 with fail
  go_cut [5,6] (λu5 u6 wx=>∃(j:Option Addr) (f l:Nat) (c:Int),u5=.slice j f l/\u6=I_ c/\B_ O wx/\Hid ((c=0/\(f=0↔zdz (zI x.ls) b.rd (bss b.pl)=0))\/(c=9/\zdz (zI x.ls) b.rd (bss b.pl)≠0)))
  case first=>
   have D:=dB_ O;have I:=dC_ V;have N:=dQ_ M;refine wR_ (S:=λw'=>w'.cell? ⟨F,o+6,none⟩=some (P_ x.s 0)/\R_ w' B (hrow_ b) 61) (by kernel_rfl) ⟨I,N⟩ (λs=>?_);generalize O.drew=R at D I N s|-;refine tks_ 4 [(0,13,(P_ F o)),(1,14,(P_ F o)),(2,15,(P_ F (o+6))),(3,16,(P_ x.s 0))] s ?_;simp only[tkf_,zf];refine tQ_ 4 17 (.agg (hrow_ b)) rfl rfl (Or.inl ⟨by rfl,λw0 ac=>zL 61 _ rfl B rfl 61 (hrow_ b) (0,0) _ ac.2 underlying61 rfl sHd⟩) s ?_;simp only[zf];refine zE 5 rfl (λK9 hK=>?_);refine zj rfl 18 rfl 194 [.tmp 16,.tmp 17] #[112,61] rfl [P_ x.s 0,.agg (hrow_ b)] rfl (eO_ func194) (λv w'=>(∃(j:Option Addr) (f l:Nat) (c:Int),v=.tuple #[.slice j f l,I_ c]/\((c=0/\(f=0↔zdz (zI x.ls) b.rd (bss b.pl)=0))\/(c=9/\zdz (zI x.ls) b.rd (bss b.pl)≠0)))/\B_ R w') ((zkO x.ls x.s ca cc da dc x.ds b.au b.rd b.ba _ b.bc b.pl b.pa b.pc R (ag.below D) f1 f2 ((C.lp.parts.below (z.trans (D.mono z.size)))) (λp L=>by rw[f3 p L];decide)).mono (λe w' k=>zyo k)) ?_;rintro v V1⟨⟨j,f,l,c,rfl,af⟩,m⟩;have ad:=zm D m;have ab:=zr m I;have ah:=zk m N;refine hK.out _ _ ⟨ab,ah⟩ (λs=>?_);simp only[zf];refine tks_ 5 [(6,12,.tuple #[.slice j f l,I_ c]),(7,19,.slice j f l),(8,20,I_ c),(9,5,.slice j f l),(10,6,I_ c)] s ?_;simp only[tkf_,zf];clear s;refine wD_ (by kernel_rfl) ?_ _;go_wp2_with fail
   go_meet
   case rel=>exact⟨j,f,l,c,rfl,rfl,ad,af⟩
  case rest=>
   obtain⟨j,f,l,c,rfl,rfl,ae,E⟩:=hcut;apply_assumption;clear V M;have J:=zm z ae;have A:=E.out;by_cases e0:c=0
   .subst e0;have t:f=0↔zdz (zI x.ls) b.rd (bss b.pl)=0:=by
     rcases A with g|g
     .exact g.2
     .exact absurd g.1 (by decide)
    by_cases e1:f=0
    .subst e1;have y:Hid _:=t.1 rfl;clear t A E;go_wp2_with fail
     go_ret;exact⟨by rw[u.out,y.out];rfl,J⟩
    .have y:Hid (¬zdz (zI x.ls) b.rd (bss b.pl)=0):=λg=>e1 (t.2 g);have ai:((f:Int) == 0)=false:=by simp;omega
     clear t A E e1;go_wp2_with fail
     go_ret;exact⟨by rw[u.out,dF_ y.out];rfl,J⟩
   .have t:c=9/\zdz (zI x.ls) b.rd (bss b.pl)≠0:=by
     rcases A with g|g
     .exact absurd g.1 e0
     .exact g
    obtain⟨rfl,Y⟩:=t;have y:Hid (¬zdz (zI x.ls) b.rd (bss b.pl)=0):=Y;clear A E Y e0;go_wp2_with fail
    go_ret;exact⟨by rw[u.out,dF_ y.out];rfl,J⟩
theorem zjZ (f:Int)(d:List Sg)(g:Option Addr)(j:Nat)(c:Ct)(w:World)(U:zdj w g j d)(M:HAt w c.ba c.bc c.bl c.pa c.pc c.pl)(T:c.v.hf=0)(N:zbJ w) :
  Calls prog 164 #[.agg (hrow_ c),.agg #[I_ f,.slice g d.length j]] w λe w'=>e=.returned (.bool (No.signed ⟨f,gvs d⟩ c.au c.v.slot))/\B_ w w':=by
 refine kO_ ?B0 ?_;exact Obj.cells #[I_ f,.slice g d.length j] 108;have p:B_ w ((w.alloc (.cells (hrow_ c) 61)).alloc ?B0):=((bR_ _ _).alloc (nR_ _) _).alloc (by simp) _;have l:=hX_ w (.cells (hrow_ c) 61) ?B0;have A:=hY_ w (.cells (hrow_ c) 61) ?B0;have z:Hid (zaE c.au c.rd c.bl c.pl=c.v.d):=c.d_v;have O:Hid (zaN c.v.d):=by show zaN _;rw[<-z.out];exact zkk _ _ _ _
 have J:Hid (c.v.d.length=32):=c.v.d_length;go_in;go_upto_region 1 with fail
 generalize ((w.alloc (.cells (hrow_ c) 61)).alloc ?B0)=D at p l A|-;have F:=zb l 0 _ rfl;have G:=zb l 1 _ rfl;have H:=zb l 2 _ rfl;have I:=zb l 3 _ rfl;have r:=zi1 c.au c.rd c.ba c.bc c.bl c.pa c.pc c.pl D (M.below p) (by rw[Ct.hf_v];exact T) (N.below p);rw[z.out]at r;go_wp2_with fail
 refine r.mono ?_;rintro e y⟨b,u,ad,ae,V,t⟩;subst u;dsimp only;have L:=zm p t;have aa:=zk t l;have ac:=zk t A;clear r F G H I;refine kO_ ?A0 ?_;exact Obj.cells #[I_ c.au,I_ c.rd,.slice (some ⟨b,0,none⟩) 32 32] 53;have o:=zC y ?A0;have q:=hN_ y ?A0;go_upto_region 2 with fail
 generalize y.alloc ?A0=E at o q|-;have s:=zm L o;have ab:=zk o aa;have B:=zk o ac;have X:=zb ab 0 _ rfl;have Y:=zb B 0 _ rfl;have Z:=zb B 1 _ rfl;have s0:=zb q 0 _ rfl;have s1:=zb q 1 _ rfl;have s2:=zb q 2 _ rfl;have m:=zkM f d g j c.au ⟨c.au,c.rd,⟨some ⟨b,0,none⟩,32,c.v.d⟩⟩ E (U.below s) (V.below o) O.out;dsimp only at m;rw[J.out]at m;have C:Hid (Sl.v ⟨c.au,c.rd,⟨some ⟨b,0,none⟩,32,c.v.d⟩⟩=c.v.slot):=rfl;rw[C.out]at m;go_wp2_with fail
 refine m.mono ?_;rintro _ w3⟨rfl,R⟩;dsimp only;clear m X Y Z s0 s1 s2;go_wp2_with fail
 go_ret;exact⟨rfl,s.trans (R.mono s.size)⟩
theorem zyp:(prog.info? 108).map (·.size)=some 2:=by kernel_rfl
theorem sCt:(prog.info? 64).map (·.size)=some 5:=by kernel_rfl
theorem zt8 {c:Ct}(f:U8L c.bl)(j:U8L c.pl):∀b∈c.v.bl++c.v.pl,∀x∈b,0<=x/\x<=255:=by
 intro b l;rcases List.mem_append.1 l with g|g
 .obtain⟨p,d,rfl⟩:=List.mem_map.1 g;exact f p d
 .obtain⟨p,d,rfl⟩:=List.mem_map.1 g;exact j p d
theorem znl (n:Nd)(o:No)(c:CV):n.proofs o c=(decide (za8 n.k.dag c=0)&&o.proven c&&n.room (zdh c)):=rfl
theorem zlU (x:NM)(c:Ct)(f:Int)(d:List Sg)(m:Option Addr)(p:Nat)(w:World)(U:Nat->Bool)(F o:Nat)(T:TypeId)(A:Array Value)(h:zo w U F o T A x)(hc:za7 (zq U w) c)(aw:U8L c.bl)(ax:U8L c.pl)(hg:zdj (zq U w) m p d) :
  Calls prog 129 #[P_ F o,.agg (crow_ c),.agg #[I_ f,.slice m d.length p]] w λe w'=>e=.returned (.bool (x.v.proofs ⟨f,gvs d⟩ c.v))/\zal w U F o T A x w' (x.v.hearP ⟨f,gvs d⟩ c.v):=by
 refine kA_ ?A0 ?_;exact #[I_ f,.slice m d.length p];refine kW_ ?C0 ?_;exact(w.alloc (.cells (crow_ c) 64)).alloc (.cells ?A0 108);have hA:B_ w ?C0:=((bR_ _ _).alloc (nR_ _) _).alloc (by simp) _;have Y:=hX_ w (.cells (crow_ c) 64) (.cells ?A0 108);have q1:=hY_ w (.cells (crow_ c) 64) (.cells ?A0 108);go_in;go_upto_region 1 with fail
 generalize ?C0=z at hA Y q1|-;have t:=h.below hA;have ag:=hc.sub (h.later hA);have aG:=hg.sub (h.later hA);have ac:Hid (U w.heap.size=false/\U (w.heap.size+1)=false):=⟨h.bnd.new (nR_ _),h.bnd.new (Nat.le_succ _)⟩;have af:=NTo.below (F:=F) (o:=o) U A x hA;have c6:=t.cell 6 _ rfl;have aB:Hid _:=Y;obtain⟨ca,cc,da,dc,av⟩:=t.stkAt;generalize w.heap.size+1=B1 at q1 ac|-;generalize w.heap.size=y at Y aB ac|-;refine kV_ ?B0 ?_;exact Value.agg (crow_ c);have ae:Hid (∀W:World,B_ z W->Calls prog 171 #[P_ x.s 0,?B0] W λe w'=>e=.returned (I_ (za8 x.v.k.dag c.v))/\B_ W w'):=by
  show ∀W,_;intro W B;exact znk x.ls x.s ca cc da dc x.ds c W (av.below B) ((ag.sub (zK _ _)).below B)
 have aj:Hid (∀W:World,B_ z W->Calls prog 172 #[.agg ?A0,?B0] W λe w'=>e=.returned (.bool (No.proven ⟨f,gvs d⟩ c.v))/\B_ W w'):=by
  show ∀W,_;intro W B;exact zqb f d m p c W ((aG.sub (zK _ _)).below B) ((ag.sub (zK _ _)).below B) ((t.below B).tabs.sub (zK _ _))
 have L:Hid _:=znl x.v ⟨f,gvs d⟩ c.v;have ad:Hid (x.v.hearP ⟨f,gvs d⟩ c.v=if x.v.proofs ⟨f,gvs d⟩ c.v then x.v.log (zdh c.v) { x.v.k with dag:=x.v.k.dag++[c.v] } else x.v):=rfl;have ak:Hid (∀W:World,B_ z W->za8 x.v.k.dag c.v=0->Calls prog 140 #[P_ F o,.agg (mrow_ (zef c).m)] W λe w'=>e=.returned (.bool (x.v.room (zdh c.v)))/\zal W U F o T A x w' (x.v.wrt (zdh c.v))):=by
  show ∀W,_;intro W B h9;have aF:zap c.au c.rd c.bl c.pl c.vl=0:=by rw[Ct.f_v];exact(zg5 h9).1
  exact zgZ x (zef c) W U F o T A (t.below B) (ztP (ag.sub (t.later B))) (zqY aF) (ztT aw ax)
 generalize hE:za8 x.v.k.dag c.v=E at ae L ak;have HE:Hid _:=hE;generalize No.proven ⟨f,gvs d⟩ c.v=pv at aj L;generalize hR:x.v.room (zdh c.v)=rm at L ak;have HR:Hid _:=hR;clear hE hR av;by_cases e0:E=0
 .subst e0;cases pv with
  | false=>
   go_cut [26] (λu J=>u=.bool true/\B_ z J)
   case first=>
    have l:=dB_ z;have G:=dQ_ Y;have H:=dQ_ q1;refine wR_ (S:=λw'=>R_ w' y (crow_ c) 64/\R_ w' B1 ?A0 108) (by kernel_rfl) ⟨G,H⟩ (λb=>?_);generalize z.drew=s at l G H b|-;refine tks_ 3 [(0,7,(P_ F o)),(1,8,(P_ F o)),(2,9,(P_ F (o+6)))] b ?_;simp only[tkf_,zf];refine tQ_ 4 11 ?B0 rfl rfl (Or.inl ⟨by rfl,λw0 q=>zL 64 _ rfl y rfl 64 (crow_ c) (0,0) _ q.1 underlying64 rfl sCt⟩) b ?_;simp only[zf];refine zE 3 rfl (λC g=>?_);have k6:=(t.below l).cell 6 _ rfl;refine zy rfl 10 rfl (P_ x.s 0) s (by go_simp) ?_;refine g.out _ _ b (λb=>?_);simp only[zf];refine zE 5 rfl (λC g=>?_);refine zj rfl 12 rfl 171 [.tmp 10,.tmp 11] #[112,64] rfl [P_ x.s 0,?B0] rfl (eO_ func171) (λv w'=>v=I_ 0/\B_ s w') ((ae.out s l).mono (λe w' k=>⟨_,k.1,rfl,k.2⟩)) ?_;rintro v M⟨rfl,r⟩;have R:=zm l r;have Z:=zk r G;have aa:=zk r H;refine g.out _ _ ⟨Z,aa⟩ (λb=>?_);simp only[zf];refine tks_ 2 [(6,13,.bool false),(7,14,.bool false)] b ?_;simp only[tkf_,zf];refine tQ_ 8 15 (.agg ?A0) rfl rfl (Or.inl ⟨by rfl,λw0 q=>zL 108 _ rfl B1 rfl 108 ?A0 (0,0) _ q.2 underlying108 rfl zyp⟩) b ?_;simp only[zf];refine tQ_ 9 16 ?B0 rfl rfl (Or.inl ⟨by rfl,λw0 q=>zL 64 _ rfl y rfl 64 (crow_ c) (0,0) _ q.1 underlying64 rfl sCt⟩) b ?_;simp only[zf];refine zE 10 rfl (λC g=>?_);refine zaJ (by rfl) 17 rfl 172 [.tmp 15,.tmp 16] #[108,64] rfl [.agg ?A0,?B0] rfl (eO_ func172) (λv w'=>v=.bool false/\B_ M w') ((aj.out M R).mono (λe w' k=>⟨_,k.1,rfl,k.2⟩)) ?_;rintro v V2⟨rfl,V⟩;have am:=zm R V;have ah:=zk V Z;have ai:=zk V aa;refine g.out _ _ ⟨ah,ai⟩ (λb=>?_);simp only[zf];refine tks_ 9 [(11,18,.bool (!false)),(12,19,.bool (!false)),(13,20,.bool (!false)),(14,21,undef),(15,22,undef),(16,23,undef),(17,24,undef),(18,25,undef),(19,26,.bool true)] b ?_;simp only[tkf_,zf];clear b;refine wD_ (by kernel_rfl) ?_ _;go_wp2_with fail
    go_meet
    case rel=>exact⟨rfl,am⟩
   case rest=>
    obtain⟨rfl,r⟩:=hcut;apply_assumption;clear c6;go_wp2_with fail
    go_ret;have D:x.v.proofs ⟨f,gvs d⟩ c.v=false:=by rw[L.out];rfl
    exact⟨by rw[D];rfl,by rw[ad.out,D];exact⟨U,A,x,t.below r,af.trans (NTo.below (F:=F) (o:=o) U A x r),rfl⟩⟩
  | true=>
   go_cut [26] (λu J=>u=.bool (!rm)/\∃(I:Nat->Bool) (N:Array Value) (j:NM),zo J I F o T N j/\NTo U I z J F o A N x j/\Hid (j.v=x.v.wrt (zdh c.v))/\R_ J y (crow_ c) 64/\Hid (za7 (zq I J) c))
   case first=>
    have l:=dB_ z;have G:=dQ_ Y;have H:=dQ_ q1;refine wR_ (S:=λw'=>R_ w' y (crow_ c) 64/\R_ w' B1 ?A0 108) (by kernel_rfl) ⟨G,H⟩ (λb=>?_);generalize z.drew=s at l G H b|-;refine tks_ 3 [(0,7,(P_ F o)),(1,8,(P_ F o)),(2,9,(P_ F (o+6)))] b ?_;simp only[tkf_,zf];refine tQ_ 4 11 ?B0 rfl rfl (Or.inl ⟨by rfl,λw0 q=>zL 64 _ rfl y rfl 64 (crow_ c) (0,0) _ q.1 underlying64 rfl sCt⟩) b ?_;simp only[zf];refine zE 3 rfl (λC g=>?_);have k6:=(t.below l).cell 6 _ rfl;refine zy rfl 10 rfl (P_ x.s 0) s (by go_simp) ?_;refine g.out _ _ b (λb=>?_);simp only[zf];refine zE 5 rfl (λC g=>?_);refine zj rfl 12 rfl 171 [.tmp 10,.tmp 11] #[112,64] rfl [P_ x.s 0,?B0] rfl (eO_ func171) (λv w'=>v=I_ 0/\B_ s w') ((ae.out s l).mono (λe w' k=>⟨_,k.1,rfl,k.2⟩)) ?_;rintro v M⟨rfl,r⟩;have R:=zm l r;have Z:=zk r G;have aa:=zk r H;refine g.out _ _ ⟨Z,aa⟩ (λb=>?_);simp only[zf];refine tks_ 2 [(6,13,.bool false),(7,14,.bool false)] b ?_;simp only[tkf_,zf];refine tQ_ 8 15 (.agg ?A0) rfl rfl (Or.inl ⟨by rfl,λw0 q=>zL 108 _ rfl B1 rfl 108 ?A0 (0,0) _ q.2 underlying108 rfl zyp⟩) b ?_;simp only[zf];refine tQ_ 9 16 ?B0 rfl rfl (Or.inl ⟨by rfl,λw0 q=>zL 64 _ rfl y rfl 64 (crow_ c) (0,0) _ q.1 underlying64 rfl sCt⟩) b ?_;simp only[zf];refine zE 10 rfl (λC g=>?_);refine zaJ (by rfl) 17 rfl 172 [.tmp 15,.tmp 16] #[108,64] rfl [.agg ?A0,?B0] rfl (eO_ func172) (λv w'=>v=.bool true/\B_ M w') ((aj.out M R).mono (λe w' k=>⟨_,k.1,rfl,k.2⟩)) ?_;rintro v V2⟨rfl,V⟩;have am:=zm R V;have ah:=zk V Z;have ai:=zk V aa;refine g.out _ _ ⟨ah,ai⟩ (λb=>?_);simp only[zf];refine tks_ 4 [(11,18,.bool (!true)),(12,19,.bool (!true)),(13,20,.bool (!true)),(14,21,(P_ F o))] b ?_;simp only[tkf_,zf];refine tQ_ 15 22 ?B0 rfl rfl (Or.inl ⟨by rfl,λw0 q=>zL 64 _ rfl y rfl 64 (crow_ c) (0,0) _ q.1 underlying64 rfl sCt⟩) b ?_;simp only[zf];refine zE 16 rfl (λC g=>?_);refine zaJ (by rfl) 23 rfl 170 [.tmp 22] #[64] rfl [?B0] rfl (eO_ func170) (λv w'=>v=.agg (mrow_ (zef c).m)/\B_ V2 w') ((zmB c V2).mono (λe w' k=>⟨_,k.1,rfl,k.2⟩)) ?_;rintro v V3⟨rfl,an⟩;have ab:=zm am an;have az:=zk an ah;have aC:=zk an ai;refine g.out _ _ ⟨az,aC⟩ (λb=>?_);simp only[zf];refine zE 17 rfl (λC g=>?_);refine zaJ (by rfl) 24 rfl 140 [.tmp 21,.tmp 23] #[127,66] rfl [P_ F o,.agg (mrow_ (zef c).m)] rfl (eO_ func140) (λv w'=>v=.bool rm/\zal V3 U F o T A x w' (x.v.wrt (zdh c.v))) ((ak.out V3 ab rfl).mono (λe w' k=>⟨_,k.1,rfl,k.2⟩)) ?_;rintro v V4⟨rfl,U9,al,x9,h9,X,v9⟩;have aA:=X.box (t.below ab) az ac.out.1;have aJ:=X.box (t.below ab) aC ac.out.2;refine g.out _ _ ⟨aA,aJ⟩ (λb=>?_);simp only[zf];refine tks_ 2 [(18,25,.bool (!rm)),(19,26,.bool (!rm))] b ?_;simp only[tkf_,zf];clear b;refine wD_ (by kernel_rfl) ?_ _;go_wp2_with fail
    go_meet
    case rel=>exact⟨rfl,U9,al,x9,h9,(NTo.below (F:=F) (o:=o) U A x ab).trans X,v9,aA,((ag.sub (t.later ab)).sub (X.sub (t.below ab)))⟩
   case rest=>
    obtain⟨rfl,I,N,j,O,n1,v1,ay,aq⟩:=hcut;apply_assumption;clear c6 Y q1;obtain⟨W1,ap⟩:∃W,W=wc:=⟨_,rfl⟩;rw[<-ap]at O n1 ay aq|-;clear ap;cases rm with
    | false=>
     go_wp2_with fail
     go_ret;have D:x.v.proofs ⟨f,gvs d⟩ c.v=false:=by rw[L.out];rfl
     exact⟨by rw[D];rfl,by rw[ad.out,D];exact⟨I,N,j,O,af.trans n1,by rw[v1.out,Nd.wrt,HR.out];rfl⟩⟩
    | true=>
     have D:Hid (x.v.proofs ⟨f,gvs d⟩ c.v=true):=by show _=_;rw[L.out];rfl
     have ar:Hid (j.v.k=x.v.k):=by show _=_;rw[v1.out,Nd.wrt,HR.out];rfl
     have au:Hid (za8 j.v.k.dag c.v=0):=by show _=_;rw[ar.out];exact HE.out
     have d6:=O.cell 6 _ rfl;have aD:Hid (∀W:World,B_ W1 W->Calls prog 158 #[P_ j.s 0,?B0] W λe w'=>e=.returned (I_ 0)/\zal W I F o T N j w' (x.v.log (zdh c.v) { x.v.k with dag:=x.v.k.dag++[c.v] })):=by
      show ∀W,_;intro W B;have h2:=O.below B;refine(zlS j.ls j.ds j.vc j.vd j.s c W h2.stkIn h2.stk.same (zlE h2.inv.dag) ((aq.out.sub (O.later B)).sub (zK _ _)) (h2.tabs.sub (zK _ _))).mono (λe w' k=>?_);have k2:=h2.inserts k (zt8 aw ax);rw[if_pos au.out]at k2;have aH:za8 (zI j.ls) c.v=0:=au.out;refine⟨by rw[k.told,aH],?_⟩;have e9:({ j.v with k:={ j.v.k with dag:=j.v.k.dag++[c.v] } }:Nd)=x.v.log (zdh c.v) { x.v.k with dag:=x.v.k.dag++[c.v] }:=by
       rw[ar.out,v1.out,Nd.wrt,HR.out];rfl
      rw[<-e9];exact k2
     go_upto_region 3 with fail
     have l:=dB_ W1;have ao:=dQ_ ay;refine wR_ (S:=λw'=>R_ w' y (crow_ c) 64) (by kernel_rfl) ao (λb=>?_);generalize W1.drew=s at l ao b|-;refine tks_ 3 [(0,27,(P_ F o)),(1,28,(P_ F o)),(2,29,(P_ F (o+6)))] b ?_;simp only[tkf_,zf];refine tQ_ 4 31 ?B0 rfl rfl (Or.inl ⟨by rfl,λw0 q=>zL 64 _ rfl y rfl 64 (crow_ c) (0,0) _ q underlying64 rfl sCt⟩) b ?_;simp only[zf];refine zE 3 rfl (λC g=>?_);have k6:=(O.below l).cell 6 _ rfl;refine zy rfl 30 rfl (P_ j.s 0) s (by go_simp) ?_;refine g.out _ _ b (λb=>?_);simp only[zf];refine zE 5 rfl (λC g=>?_);refine zj rfl 32 rfl 158 [.tmp 30,.tmp 31] #[112,64] rfl [P_ j.s 0,?B0] rfl (eO_ func158) (λv w'=>v=I_ 0/\zal s I F o T N j w' (x.v.log (zdh c.v) { x.v.k with dag:=x.v.k.dag++[c.v] })) ((aD.out s l).mono (λe w' k=>⟨_,k.1,rfl,k.2⟩)) ?_;rintro v M⟨rfl,U9,al,x9,h9,X,v9⟩;have aI:=X.box (O.below l) ao (n1.hides (ze aB.out) ac.out.1);refine g.out _ _ aI (λb=>?_);simp only[zf];refine tks_ 2 [(6,33,.bool true),(7,6,.bool true)] b ?_;simp only[tkf_,zf];clear b;refine wD_ (by kernel_rfl) ?_ _;go_wp2_with fail
     go_ret;exact⟨by rw[D.out];rfl,by rw[ad.out,D.out];exact⟨U9,al,x9,h9,((af.trans n1).trans (NTo.below (F:=F) (o:=o) I N j l)).trans X,v9⟩⟩
 .have aE:(E != 0)=true:=by simpa using e0
  have D:Hid (x.v.proofs ⟨f,gvs d⟩ c.v=false):=by show _=_;rw[L.out,dF_ e0];rfl
  go_cut [26] (λu J=>u=.bool true/\B_ z J)
  case first=>
   have l:=dB_ z;have G:=dQ_ Y;have H:=dQ_ q1;refine wR_ (S:=λw'=>R_ w' y (crow_ c) 64/\R_ w' B1 ?A0 108) (by kernel_rfl) ⟨G,H⟩ (λb=>?_);generalize z.drew=s at l G H b|-;refine tks_ 3 [(0,7,(P_ F o)),(1,8,(P_ F o)),(2,9,(P_ F (o+6)))] b ?_;simp only[tkf_,zf];refine tQ_ 4 11 ?B0 rfl rfl (Or.inl ⟨by rfl,λw0 q=>zL 64 _ rfl y rfl 64 (crow_ c) (0,0) _ q.1 underlying64 rfl sCt⟩) b ?_;simp only[zf];refine zE 3 rfl (λC g=>?_);have k6:=(t.below l).cell 6 _ rfl;refine zy rfl 10 rfl (P_ x.s 0) s (by go_simp) ?_;refine g.out _ _ b (λb=>?_);simp only[zf];refine zE 5 rfl (λC g=>?_);refine zj rfl 12 rfl 171 [.tmp 10,.tmp 11] #[112,64] rfl [P_ x.s 0,?B0] rfl (eO_ func171) (λv w'=>v=I_ E/\B_ s w') ((ae.out s l).mono (λe w' k=>⟨_,k.1,rfl,k.2⟩)) ?_;rintro v M⟨rfl,r⟩;have R:=zm l r;have Z:=zk r G;have aa:=zk r H;refine g.out _ _ ⟨Z,aa⟩ (λb=>?_);simp only[zf];refine zU 6 13 (.bool (E != 0)) rfl rfl b ?_;simp only[zf];rw[aE];refine tks_ 13 [(7,14,.bool true),(8,15,undef),(9,16,undef),(10,17,undef),(11,18,undef),(12,19,.bool true),(13,20,.bool true),(14,21,undef),(15,22,undef),(16,23,undef),(17,24,undef),(18,25,undef),(19,26,.bool true)] b ?_;simp only[tkf_,zf];clear b;refine wD_ (by kernel_rfl) ?_ _;go_wp2_with fail
   go_meet
   case rel=>exact⟨rfl,R⟩
  case rest=>
   obtain⟨rfl,r⟩:=hcut;apply_assumption;clear c6;go_wp2_with fail
   go_ret;exact⟨by rw[D.out];rfl,by rw[ad.out,D.out];exact⟨U,A,x,t.below r,af.trans (NTo.below (F:=F) (o:=o) U A x r),rfl⟩⟩
theorem zvN (b:List Sl)(Y:Option Addr)(n H:Nat)(au rd:Int)(bs:List Int)(l:Option Addr)(dn t:Nat)(w:World)(hn:n=b.length)(am:dn=bs.length)(D:zeb w Y H b)(O:zdt (vs b)=0)(hd:zg w l t bs)(al:bs.length<=140737488355328) :
  Calls prog 181 #[.slice Y n H,.agg #[I_ au,I_ rd,.slice l dn t]] w λe w'=>∃z rc c,e=.returned (.tuple #[.slice z (List.length c) rc,I_ (za6 (vs b) (au,rd,bs)).2])/\vs c=(za6 (vs b) (au,rd,bs)).1/\zeb w' z rc c/\B_ w w'/\za1 w.heap.size z (ps c)/\w'.ownsRow w.heap.size 53 3 (.slice z (List.length c) rc) (List.length c) (slv c)/\z8 w' w.heap.size (.slice z (List.length c) rc) (ps c):=by
 subst hn am;have ax:=D.le;have az:=D.max;have ag:b.length<=400:=by have:=(zmY O).1;rw[zay]at this;exact this
 have R:=zy0 O;refine kV_ ?A0 ?_;exact Value.slice l bs.length t;refine kO_ ?B0 ?_;exact Obj.cells #[I_ au,I_ rd,?A0] 53;have hA:=(bR_ w.heap.size w).alloc (nR_ _) ?B0;have r0:=hN_ w ?B0;go_in;go_wp2_with fail
 generalize w.alloc ?B0=W0 at hA r0|-;refine(zoi b Y _ H au rd W0 (nR_ _) D.small (D.slots.below hA)).mono ?_;rintro e E⟨r,he,hF,af⟩;subst he;dsimp only;have d:=zm hA af;have M:=zk af r0;have d0:=zb M 0 (I_ au) rfl;have d1:=zb M 1 (I_ rd) rfl;have d2:=zb M 2 ?A0 rfl;have ah:w.heap.size<E.heap.size:=ze M;rcases hF.found with⟨m,L,rfl,B⟩|⟨rfl,B⟩
 .have ae:=D.slots.below d;obtain⟨f,g,rfl,hc⟩:∃f g,Y=some ⟨f,g,none⟩/\∀j (h:j<b.length),E.cell? ⟨f,g+j*3,none⟩=some (I_ (b[j]).au)/\E.cell? ⟨f,g+j*3+1,none⟩=some (I_ (b[j]).rd)/\E.cell? ⟨f,g+j*3+2,none⟩=some (.slice (b[j]).p.sa (b[j]).p.bs.length (b[j]).p.cap):=by
   rcases ae.cells with h|h
   .rw[h]at L;simp at L
   .exact h
  obtain⟨_,_,c2⟩:=hc m L;have hx:=ae.each (b[m]) (gM_ L);have ay:(m:Int)<b.length:=by omega
  have hE:=zeI (b[m]).p.bs bs (b[m]).p.sa l _ _ (b[m]).p.cap t E.drew rfl rfl (hx.below ((bR_ _ _).drew)) ((hd.below d).below ((bR_ _ _).drew));rw[<-zay]at B;have hS:Hid (txL (b[m]).p.bs=txL bs->za6 (vs b) (au,rd,bs)=(vs b,0)):=by
   show _->_;intro h;exact ziG (s:=(au,rd,bs)) B (by rw[zhl b m L];exact h)
  have hT:Hid (¬txL (b[m]).p.bs=txL bs->za6 (vs b) (au,rd,bs)=([],7)):=by
   show _->_;intro h;exact zhY (s:=(au,rd,bs)) B (by rw[zhl b m L];exact h)
  have HC:Hid (∀W:World,B_ w W->Calls prog 211 #[.slice (some ⟨f,g,none⟩) b.length H] W λe w'=>∃v c,e=.returned v/\vs c=vs b/\w'.ownsRow W.heap.size 53 3 v b.length (slv c)/\z8 w' W.heap.size v (ps c)/\B_ W w'):=by
   show ∀W,_;intro W T;exact zie b _ _ H W rfl ag R (D.slots.below T)
  clear hc B hF ae R O D;generalize b[m]=s at*;go_wp2_with fail
  go_region_held3 (λw'=>w'.cell? ⟨f,g+m*3+2,none⟩=some (.slice s.p.sa s.p.bs.length s.p.cap)/\w'.cell? ⟨w.heap.size,2,none⟩=some ?A0) (go_keep) ((go_at_call 120;refine hE.mono ?_;rintro e w9⟨rfl,rfl⟩))
  all_goals
   by_cases h:txL s.p.bs=txL bs
   .have A:=hS.out h;rw[dT_ h];clear hS hT h hE;go_wp2_with fail
    refine(HC.out _ (d.trans ((bR_ _ _).drew.mono d.size))).mono ?_;rintro e w3⟨v3,c,he,aa,J,I,C⟩;subst he;dsimp only;have ad:b.length=c.length:=by have:=congrArg List.length aa;rw[zay,zay]at this;exact this.symm
    obtain⟨z,rc,hv,hl,hL,ac⟩:=zkD J I;subst hv;rw[ad];go_wp2_with fail
    go_ret2;exact⟨z,rc,c,by rw[A];rfl,by rw[A];exact aa,hL (by omega),d.trans ((zbE C).mono d.size),ziI ac (by simpa using d.size),by rw[<-ad];exact zcf J (by simpa using d.size),λp y=>⟨(I p y).1,λf g e=>⟨nT_ d.size (by simpa using((I p y).2 f g e).1),((I p y).2 f g e).2.1,by rw[<-ad];exact((I p y).2 f g e).2.2⟩⟩⟩
   .have A:=hT.out h;rw[dF_ h];clear hS hT h hE;go_wp2_with fail
    go_ret2;exact⟨none,0,[],by rw[A];rfl,by rw[A];rfl,zkj _,d.drew,zjM _,oN_ _ _ _ _,(λp y=>by cases y)⟩
 .rw[<-zay]at B;by_cases hfull:400<=b.length
  .have A:=ziH (s:=(au,rd,bs)) B (by rw[zay];exact hfull);have hI:(400:Int)<=b.length:=by omega
   clear B hF R O;go_wp2_with fail
   go_ret2;exact⟨none,0,[],by rw[A];rfl,by rw[A];rfl,zkj _,d,zjM _,oN_ _ _ _ _,(λp y=>by cases y)⟩
  .have A:=zjL (s:=(au,rd,bs)) B (by rw[zay];exact hfull);have hI:¬(400:Int)<=b.length:=by omega
   have HC:Hid (∀W:World,B_ w W->Calls prog 211 #[.slice Y b.length H] W λe w'=>∃v c,e=.returned v/\vs c=vs b/\w'.ownsRow W.heap.size 53 3 v b.length (slv c)/\z8 w' W.heap.size v (ps c)/\B_ W w'):=by
    show ∀W,_;intro W T;exact zie b _ _ H W rfl ag R (D.slots.below T)
   have HD:Hid (∀W:World,B_ w W->Calls prog 212 #[.agg #[I_ au,I_ rd,?A0]] W λe w'=>∃z rc,e=.returned (.agg #[I_ au,I_ rd,.slice z bs.length rc])/\zg w' z rc bs/\(∀f g,z=some ⟨f,g,none⟩->W.heap.size<=f/\f<w'.heap.size)/\B_ W w'):=by
    show ∀W,_;intro W T;exact zjk au rd bs l _ t W rfl (hd.below T) al
   obtain⟨i,hi,aq,ar,av⟩:=info_parts zk0;clear B hF R O D hd;go_wp2_with fail
   go_region_held3 (λw'=>w'.cell? ⟨w.heap.size,0,none⟩=some (I_ au)/\w'.cell? ⟨w.heap.size,1,none⟩=some (I_ rd)/\w'.cell? ⟨w.heap.size,2,none⟩=some ?A0) (go_keep) (first
    | (go_at_call 212;refine(HD.out _ (d.trans (C.mono d.size))).mono ?_;rintro e N⟨F,G,rfl,ap,ao,ab⟩;have V:=C.trans (ab.mono C.size);have X:=(V.block _ ah).trans M;have g0:N.cell? ⟨w.heap.size,0,none⟩=some (I_ au):=zb X 0 _ rfl;have g1:N.cell? ⟨w.heap.size,1,none⟩=some (I_ rd):=zb X 1 _ rfl;have g2:N.cell? ⟨w.heap.size,2,none⟩=some ?A0:=zb X 2 _ rfl)
    | (go_at_call 211;refine(HC.out _ (d.trans ((bR_ _ _).drew.mono d.size))).mono ?_;rintro e w3⟨v3,c,rfl,aa,J,I,C⟩;replace C:=zbE C;have q3:=(C.block _ ah).trans M;have f0:w3.cell? ⟨w.heap.size,0,none⟩=some (I_ au):=zb q3 0 _ rfl;have f1:w3.cell? ⟨w.heap.size,1,none⟩=some (I_ rd):=zb q3 1 _ rfl;have f2:w3.cell? ⟨w.heap.size,2,none⟩=some ?A0:=zb q3 2 _ rfl)
    | (refine zcc rfl _ _ 44 rfl E.heap.size 53 i (.agg #[I_ 0,I_ 0,O_]) 3 40 underlying44 hi aq ar av rfl (by decide) v3 b.length (slv c) rfl (oA_ (zw J ab) _) ⟨N.heap.size,0,none⟩ 1 1 [I_ au,I_ rd,.slice F bs.length G] rfl rfl (zag N [I_ au,I_ rd,.slice F bs.length G] 53) (by intro u hu;simp at hu;rcases hu with rfl|rfl|rfl<;>rfl) (by unfold maxLen;omega) (by omega) (by rw[zG];have:=V.size;omega) ?_;intro v5 Z an G5;have q5:=(G5.grown.block w.heap.size (by rw[zG];have:=ze X;omega) (λe=>by have h9:E.heap.size<=w.heap.size:=(J.lt _ e.symm).1;omega)).trans (zR (o:=.cells #[I_ au,I_ rd,.slice F bs.length G] 53) X);have k0:Z.cell? ⟨w.heap.size,0,none⟩=some (I_ au):=zb q5 0 _ rfl;have k1:Z.cell? ⟨w.heap.size,1,none⟩=some (I_ rd):=zb q5 1 _ rfl;have k2:Z.cell? ⟨w.heap.size,2,none⟩=some ?A0:=zb q5 2 _ rfl))
   all_goals
    have aw:=zC N (.cells #[I_ au,I_ rd,.slice F bs.length G] 53);have ak:=I.more_at (q:=⟨F,G,bs⟩) C.size J ab ao ap G5;have aj:=Below.grown (V.alloc V.size _) G5.grown (zB V.size _) (λq e=>(J.lt q e).1);have ai:Z.ownsRow E.heap.size 53 3 v5 (b.length+1) (slv (c++[⟨au,rd,⟨F,G,bs⟩⟩])):=by rw[zki];exact an
    have U:z8 Z E.heap.size v5 (ps (c++[⟨au,rd,⟨F,G,bs⟩⟩])):=by simpa[ps]using ak
    obtain⟨z,rc,hv,hl,hL,ac⟩:=zkD ai U;subst hv;rw[hl];go_wp2_with fail
    go_ret2;exact⟨z,rc,c++[⟨au,rd,⟨F,G,bs⟩⟩],by rw[A];rfl,by rw[A,<-aa];simp[vs,Sl.v],hL (by omega),d.trans (aj.mono d.size),ziI ac d.size,by rw[<-hl];exact zcf ai d.size,λp y=>⟨(U p y).1,λf g e=>⟨nT_ d.size ((U p y).2 f g e).1,((U p y).2 f g e).2.1,by rw[<-hl];exact((U p y).2 f g e).2.2⟩⟩⟩
structure zit (w w':World)(e:Ending)(R:List SV×SV×Int):Prop where
 out:∃ra rc ks da dc xa xr ds er,e=.returned (.tuple #[.slice ra (List.length ks) rc,.agg #[I_ xa,I_ xr,.slice da (List.length ds) dc],I_ er])/\(vs ks,(xa,xr,ds),er)=R/\zeb w' ra rc ks/\zg w' da dc ds/\za1 w.heap.size ra (ps ks)/\(∀sb so,da=some ⟨sb,so,none⟩->w.heap.size<=sb)/\B_ w w'/\w'.ownsRow w.heap.size 53 3 (.slice ra (List.length ks) rc) (List.length ks) (slv ks)/\z8 w' w.heap.size (.slice ra (List.length ks) rc) (ps ks)/\(∀sb so,da=some ⟨sb,so,none⟩->(Value.slice ra (List.length ks) rc).ownBlock≠some sb)
theorem zit.bad {b:Int}{R:List SV×SV×Int}(c:([],(0,0,[]),b)=R)(d:B_ w w'):zit w w' (.returned (.tuple #[O_,.agg #[I_ 0,I_ 0,O_],I_ b])) R:=
 ⟨none,0,[],none,0,0,0,[],b,rfl,c,zkj _,zu2 _,zjM _,(λ_ _ e=>by cases e),d,oN_ _ _ _ _,(λp f=>by cases f),(λ_ _ e=>by cases e)⟩
theorem zgh (c:List Sl)(I:Option Addr)(G:Nat)(au rd:Int)(d:Option Addr)(f:Nat)(bl:List zi)(j:Option Addr)(l:Nat)(pl:List zi)(w:World)(ht:zeb w I G c)(h:HAt w d f bl j l pl)(hT:zbJ w) :
  Calls prog 139 #[.slice I c.length G,.agg #[I_ au,I_ rd,.slice d bl.length f,.slice j pl.length l]] w λe w'=>zit w w' e (zcL (vs c) au rd bl pl):=by
 refine kA_ ?A0 ?_;exact #[I_ au,I_ rd,.slice d bl.length f,.slice j pl.length l];refine kO_ ?C0 ?_;exact Obj.cells #[I_ 0,I_ 0,O_] 53;refine kW_ ?E0 ?_;exact w.alloc (.cells ?A0 61);have y:B_ w ((?E0).alloc ?C0):=((bR_ _ _).alloc (nR_ _) _).alloc (by simp) _;have q0:=hX_ w (.cells ?A0 61) ?C0;refine kA_ ?F0 ?_;exact #[I_ 0,I_ 0,O_];have T:((?E0).alloc ?C0).heap[w.heap.size+1]? = some (.cells ?F0 53 (0,0)):=by
  have:=hN_ ?E0 ?C0;rw[zG]at this;exact this
 rcases zwY (vs c)with h0|h0
 rotate_left
 .have E:([],(0,0,[]),12)=zcL (vs c) au rd bl pl:=by rw[zcL,if_pos (by rw[h0];decide)]
  generalize zcL (vs c) au rd bl pl=R at*;go_in;go_wp2_with fail
  generalize (?E0).alloc ?C0=V at y q0 T|-;refine(zhm c I _ G V rfl (ht.below y)).mono ?_;rintro e w1⟨m,s⟩;rw[h0]at m;subst m;dsimp only;have r:=zk s T;have J:=zb r 0 _ rfl;have L:=zb r 1 _ rfl;have M:=zb r 2 _ rfl;have f0:=zd r 0;have f1:=zd r 1;have f2:=zd r 2;have F:=zm y s;go_wp2_with fail
  refine bP_ (v:=.tuple #[O_,.agg ?F0,I_ 12]) (by simp[results,results139,go_sem,J,L,M]) rfl (zit.bad E ?_);exact((F.setCell (Nat.le_succ _) _).setCell (Nat.le_succ _) _).setCell (Nat.le_succ _) _
 by_cases hF:zO au rd bl pl=0
 rotate_left
 .have E:([],(0,0,[]),zO au rd bl pl)=zcL (vs c) au rd bl pl:=by rw[zcL,if_neg (by rw[h0];decide),if_pos hF]
  generalize zcL (vs c) au rd bl pl=R at*;have HO:Hid (∀W:World,B_ w W->Calls prog 180 #[.agg ?A0] W λe w'=>e=.returned (.tuple #[.agg ?F0,I_ (zO au rd bl pl)])/\B_ W w'):=by
   show ∀W,_;intro W N;exact zrt au rd d f bl j l pl _ W (h.below N) rfl hF
  generalize zO au rd bl pl=ec at*;go_in;go_wp2_with fail
  generalize (?E0).alloc ?C0=V at y q0 T|-;refine(zhm c I _ G V rfl (ht.below y)).mono ?_;rintro e w1⟨m,s⟩;rw[h0]at m;subst m;dsimp only;have z:=zk s q0;have r:=zk s T;have F:=zm y s;have c0:=zb z 0 (I_ au) rfl;have c1:=zb z 1 (I_ rd) rfl;have c2:=zb z 2 (.slice d bl.length f) rfl;have c3:=zb z 3 (.slice j pl.length l) rfl;go_wp2_with fail
  refine(HO.out _ F).mono ?_;rintro _ w2⟨rfl,H⟩;dsimp only;have A:=zk H r;have Y:w.heap.size+1<w2.heap.size:=ze A;have an:¬w.heap.size+1=w2.heap.size:=by omega
  have aA:¬w2.heap.size=w.heap.size+1:=by omega
  have ag:=zm F H;have J:=zb A 0 _ rfl;have L:=zb A 1 _ rfl;have M:=zb A 2 _ rfl;have f0:=zd A 0;have f1:=zd A 1;have f2:=zd A 2;have ap:(ec != 0)=true:=by simpa using hF
  go_wp2_with fail
  refine bP_ (v:=.tuple #[O_,.agg ?F0,I_ ec]) (by simp[results,results139,go_sem,J,L,M,World.cell?_alloc_lt,Y]) rfl (zit.bad E ?_);refine Below.alloc ?_ ?_ _
  .exact((ag.setCell (Nat.le_succ _) _).setCell (Nat.le_succ _) _).setCell (Nat.le_succ _) _
  .simp;omega
 have E:zcL (vs c) au rd bl pl=if(za6 (vs c) (au,rd,zaE au rd bl pl)).2≠0 then([],(0,0,[]),(za6 (vs c) (au,rd,zaE au rd bl pl)).2)else((za6 (vs c) (au,rd,zaE au rd bl pl)).1,(au,rd,zaE au rd bl pl),0):=by
  rw[zcL,if_neg (by rw[h0];decide),if_neg (by rw[hF];decide)]
 have ah:=zbD au rd bl pl;have HO:Hid (∀W:World,B_ w W->Calls prog 180 #[.agg ?A0] W λe w'=>∃b,e=.returned (.tuple #[.agg #[I_ au,I_ rd,.slice (some ⟨b,0,none⟩) 32 32],I_ 0])/\W.heap.size<=b/\b<w'.heap.size/\zg w' (some ⟨b,0,none⟩) 32 (zaE au rd bl pl)/\B_ W w'):=by
  show ∀W,_;intro W N;exact ztj au rd d f bl j l pl W (h.below N) hF (hT.below N)
 have HW:Hid (∀(W:World) (b:Nat),B_ w W->zg W (some ⟨b,0,none⟩) 32 (zaE au rd bl pl)->Calls prog 181 #[.slice I c.length G,.agg #[I_ au,I_ rd,.slice (some ⟨b,0,none⟩) 32 32]] W λe w'=>∃t rc g,e=.returned (.tuple #[.slice t (List.length g) rc,I_ (za6 (vs c) (au,rd,zaE au rd bl pl)).2])/\vs g=(za6 (vs c) (au,rd,zaE au rd bl pl)).1/\zeb w' t rc g/\B_ W w'/\za1 W.heap.size t (ps g)/\w'.ownsRow W.heap.size 53 3 (.slice t (List.length g) rc) (List.length g) (slv g)/\z8 w' W.heap.size (.slice t (List.length g) rc) (ps g)):=by
  show ∀W b,_;intro W b N hs;exact zvN c I _ G au rd (zaE au rd bl pl) _ 32 32 W rfl ah.symm (ht.below N) h0 hs (by omega)
 have ao:Hid ((zaE au rd bl pl).length=32):=ah;clear hF ah;generalize zaE au rd bl pl=D at*;generalize za6 (vs c) (au,rd,D)=C at*;obtain⟨cl,ad⟩:=C;dsimp only at*;go_in;go_wp2_with fail
 generalize (?E0).alloc ?C0=V at y q0 T|-;refine(zhm c I _ G V rfl (ht.below y)).mono ?_;rintro e w1⟨m,s⟩;rw[h0]at m;subst m;dsimp only;have z:=zk s q0;have r:=zk s T;have F:=zm y s;have c0:=zb z 0 (I_ au) rfl;have c1:=zb z 1 (I_ rd) rfl;have c2:=zb z 2 (.slice d bl.length f) rfl;have c3:=zb z 3 (.slice j pl.length l) rfl;clear h0;go_wp2_with fail
 refine(HO.out _ F).mono ?_;rintro e w2⟨b,m,av,az,ax,H⟩;subst m;dsimp only;have A:=zk H r;have Y:w.heap.size+1<w1.heap.size:=ze r;have ag:=zm F H;have ak:=zR (o:=.cells #[I_ au,I_ rd,.slice (some ⟨b,0,none⟩) 32 32] 53) A;refine kO_ ?D0 ?_;exact Obj.cells #[I_ au,I_ rd,.slice (some ⟨b,0,none⟩) 32 32] 53;have s2:=hN_ w2 ?D0;have X:=zC w2 ?D0;have O:=zm ag X;have aj:=ax.below X;have an:w2.heap.size≠w.heap.size+1:=by have:=H.size;omega
 have aB:w.heap.size+1≠w2.heap.size:=an.symm;go_wp2_with fail
 generalize w2.alloc ?D0=w3 at ak s2 X O aj|-;refine(HW.out w3 b O aj).mono ?_;rintro e w4⟨t,rc,g,m,aw,ar,aa,ab,ae,al⟩;subst m;dsimp only;have U:=(aa.block _ (ze ak)).trans ak;have t2:=zk aa s2;have am:=zm O aa;have J:=zb U 0 _ rfl;have L:=zb U 1 _ rfl;have M:=zb U 2 _ rfl;have f0:=zd U 0;have f1:=zd U 1;have f2:=zd U 2;have e0:=zb t2 0 (I_ au) rfl;have e1:=zb t2 1 (I_ rd) rfl;have e2:=zb t2 2 (.slice (some ⟨b,0,none⟩) 32 32) rfl;by_cases hc:ad=0;refine kW_ ?B0 ?_;exact((w4.setCell ⟨w.heap.size+1,0,none⟩ (I_ au)).setCell ⟨w.heap.size+1,1,none⟩ (I_ rd)).setCell ⟨w.heap.size+1,2,none⟩ (.slice (some ⟨b,0,none⟩) 32 32)
 .subst hc;rw[if_neg (by decide)]at E;clear c0 c1 c2 c3;go_wp2_with fail
  refine kV_ ?G0 ?_;exact Value.slice (some ⟨b,0,none⟩) 32 32;go_region_held3 (λw'=>w'.cell? ⟨w2.heap.size,0,none⟩=some (I_ au)/\w'.cell? ⟨w2.heap.size,1,none⟩=some (I_ rd)/\w'.cell? ⟨w2.heap.size,2,none⟩=some ?G0) (go_keep) (fail)
  all_goals
   go_wp2_with fail
   have ai:w.heap.size+1<w3.heap.size:=by have:=H.size;have:=X.size;omega
   have ac:∀B u,(some ⟨b,0,none⟩:Option Addr)=some ⟨B,u,none⟩->w1.heap.size<=B:=λB u e=>by cases e;exact av
   have ay:=aj.below aa;have aq:D.length=32:=ao.out;refine bP_ (v:=.tuple #[.slice t g.length rc,.agg #[I_ au,I_ rd,?G0],I_ 0]) (by simp[results,results139,go_sem,J,L,M]) rfl ⟨t,rc,g,some ⟨b,0,none⟩,32,au,rd,D,0,by rw[aq],by rw[E,aw],?_,?_,ziI ab O.size,(λB u e=>nT_ F.size (ac B u e)),?_,?_,?_,(λB u e e2=>by cases e;have:=(ae.lt _ e2).1;have:=X.size;omega)⟩
   .exact(((ar.setCell ab _ _ _ ai).setCell ab _ _ _ ai).setCell ab _ _ _ ai).below ((bR_ _ _).drew)
   .exact(zfu (zfu (zfu ay ac _ _ _ Y) ac _ _ _ Y) ac _ _ _ Y).below ((bR_ _ _).drew)
   .exact(((am.setCell (Nat.le_succ _) _).setCell (Nat.le_succ _) _).setCell (Nat.le_succ _) _).drew
   .have hq:(Value.slice t g.length rc).ownBlock≠some (w.heap.size+1):=λe=>by have:=(ae.lt _ e).1;omega
    exact zcf (zw (zaQ (zaQ (zaQ ae _ 0 (I_ au) hq) _ 1 (I_ rd) hq) _ 2 ?G0 hq) ((bR_ _ _).drew)) O.size
   .have af:z8 ((?B0).drew) w3.heap.size (.slice t g.length rc) (ps g):=al.same (by simp) (λp Z q u e=>by
     have h9:=((al p Z).2 q u e).1;have hn:q≠w.heap.size+1:=by omega
     show(?B0).heap[q]? = _;rw[hO_ _ ⟨w.heap.size+1,2,none⟩ q _ hn,hO_ _ ⟨w.heap.size+1,1,none⟩ q _ hn,hO_ _ ⟨w.heap.size+1,0,none⟩ q _ hn])
    exact λp Z=>⟨(af p Z).1,λB u e=>⟨nT_ O.size ((af p Z).2 B u e).1,((af p Z).2 B u e).2⟩⟩
 .rw[if_pos hc]at E;have ap:(ad != 0)=true:=by simpa using hc
  clear c0 c1 c2 c3;go_wp2_with fail
  refine bP_ (v:=.tuple #[O_,.agg ?F0,I_ ad]) (by simp[results,results139,go_sem,J,L,M]) rfl (zit.bad E.symm ?_);exact((am.setCell (Nat.le_succ _) _).setCell (Nat.le_succ _) _).setCell (Nat.le_succ _) _
end Go.Proofs.YtdnaljbnebnlhaaGreatDoor
