import Derived.Test.YtdnaljbnebnlhaaGreatDoorPk22
set_option maxRecDepth 100000
set_option maxHeartbeats 4000000
namespace Go.Proofs.YtdnaljbnebnlhaaGreatDoor
open Go.RowKit Tryz
structure zyr (w w':World)(e:Ending)(R:Nat)(ls:List (List Int))(l:List Int)(sh:Bool):Prop where
 out:∃ra rc qs,e=.returned (.slice ra (List.length qs) rc)/\qs.map (·.bs)=ls/\zx w' ra rc qs/\za1 w.heap.size ra qs/\zaw w' R l sh/\zaG R w w'/\(qs=[]->ra=none)
theorem zlX (R:Nat)(l:List Int)(sh:Bool)(w:World)(hR:zaw w R l sh)(hl:l.length<=100000)(hu:zZ l) :
  Calls prog 102 #[P_ R 0] w λe w'=>zyr w w' e R (dgD (tkL 1 l sh) (tkS 1 l sh) (dN l sh)) (dgL (tkL 1 l sh) (tkS 1 l sh) (dN l sh)).1 (dgL (tkL 1 l sh) (tkS 1 l sh) (dN l sh)).2:=by
 obtain⟨i,hi,hz0,hz1,hz2⟩:=info_parts zhc;have hN:=ziA R 1 l sh w hR hl (by omega) hu;obtain⟨hb0,hb1⟩:=zhe (sh:=sh) hu;have hNI:((dN l sh:Nat):Int)=zbe (tkT 1 l sh):=by unfold dN;omega
 have hl1:(tkL 1 l sh).length<=100000:=nT_ zn5 hl;have hlt:=hR.lt;rw[<-hNI]at hN hb1;generalize dN l sh=N at*;generalize tkL 1 l sh=l1 at*;generalize tkS 1 l sh=s1 at*;clear hNI hb0;go_in;go_wp2_with fail
 refine hN.mono ?_;rintro _ w1⟨rfl,hR1,ho1⟩;dsimp only;clear hN;go_upto_region 3 with fail
 go_loopw [6,3] (λj v wr=>∃(k:Nat) (qs:List zi) (tv:Value),k<=N/\j=I_ k/\tv=v/\Hid (qs.map (·.bs)=dgD l1 s1 k)/\wr.ownsRow w.heap.size 51 1 tv k (pv qs)/\z8 wr w.heap.size tv qs/\zaw wr R (dgL l1 s1 k).1 (dgL l1 s1 k).2/\zaG R w wr/\Hid (k=0->tv=O_)) (λj _ _=>N-(intOf j).toNat)
 case atStart=>exact⟨0,[],_,nZ_ _,rfl,rfl,rfl,oN_ _ _ _ _,(λp hp=>by cases hp),hR1,ho1,(λ_=>rfl)⟩
 case round=>
  obtain⟨k,qs,tv,hk,rfl,rfl,hq,ho,hap,hRk,hok,hnz⟩:=hrel;by_cases hltk:k<N
  .have hltI:(k:Int)<N:=by omega
   have hD:=zkA R _ _ wr hRk (nT_ (zqL l1 s1 k) hl1);have hst:Hid (dgD l1 s1 (k+1)=dgD l1 s1 k++[tkT 32 (dgL l1 s1 k).1 (dgL l1 s1 k).2]):=rfl;have hst2:Hid ((dgL l1 s1 (k+1)).1=tkL 32 (dgL l1 s1 k).1 (dgL l1 s1 k).2/\(dgL l1 s1 (k+1)).2=tkS 32 (dgL l1 s1 k).1 (dgL l1 s1 k).2):=⟨rfl,rfl⟩;have htl:=zg4 (n:=32) (l:=(dgL l1 s1 k).1) (sh:=(dgL l1 s1 k).2);generalize tkT 32 (dgL l1 s1 k).1 (dgL l1 s1 k).2=t at*;go_wp2_with fail
   refine hD.mono ?_;rintro e w2⟨da,dc,he,hs2,hf2,hR2,ho2⟩;subst he;dsimp only;clear hD;have hB2:=hok.trans ho2;have hob:=zjy ho ho2 hlt;have hap2:=zri hap ho2 hlt;have hszw:=hok.size;have hszr:=hB2.size;go_wp2_with (at_builtin;refine wpList_append_own_at _ rfl _ _ 59 rfl w.heap.size 51 i (O_) 1 24 underlying59 hi hz0 hz1 hz2 rfl (by decide) _ k _ rfl (oA_ hob _) ⟨w2.heap.size,0,none⟩ 1 1 [.slice da t.length dc] rfl rfl (zag _ _ _) (by intro u hu;simp at hu;subst hu;rfl) (by unfold maxLen;omega) (by omega) (zB hB2.size _) ?_;intro v3 w3 ho3 hg3 _ hat3)
   have G:=zV.of hg3 hat3;have hap3:=zrj (q:=⟨da,dc,t⟩) hap2 hs2 (λsb so e=>by
    have h:=hf2 sb so e;exact⟨by omega,h.2,λhv=>by have:=(ho.lt sb hv).2;omega⟩) G
   have hb3:=zC w2 (.cells #[.slice da t.length dc] 51);have ho3w:zaG R w w3:=by
    have hg:=G.grown;refine⟨hg.os.trans hB2.os,hg.tape.trans hB2.tape,hg.output.trans hB2.output,nT_ hB2.size (nT_ hb3.size hg.size),λq hq hn=>?_⟩;exact(hg.block q (by have:=hb3.size;omega) (λe=>by have:=(ho.lt q e.symm).1;omega)).trans ((hb3.block q (by omega)).trans (hB2.block q hq hn))
   have hR3:zaw w3 R (dgL l1 s1 (k+1)).1 (dgL l1 s1 (k+1)).2:=by
    rw[hst2.out.1,hst2.out.2];refine(hR2.below hb3).stays (λq hq=>G.grown.block q (by have:=hb3.size;have:=hR2.lt;omega) (λe=>by have:=(ho.lt q e.symm).1;omega))
   go_roundw
   case rel=>
    have hR:∃(k':Nat) (qs':List zi) (tv':Value),k'<=N/\(Value.int .i64 ((k:Int)+1))=I_ k'/\tv'=v3/\Hid (qs'.map (·.bs)=dgD l1 s1 k')/\w3.ownsRow w.heap.size 51 1 tv' k' (pv qs')/\z8 w3 w.heap.size tv' qs'/\zaw w3 R (dgL l1 s1 k').1 (dgL l1 s1 k').2/\zaG R w w3/\Hid (k'=0->tv'=O_):=
     ⟨k+1,qs++[⟨da,dc,t⟩],v3,by omega,by go_num,rfl,(show _=_ by rw[hst.out,List.map_append,hq.out];rfl),by simpa[pv,zi.val]using ho3,hap3,hR3,ho3w,(λh=>by omega)⟩
    first|exact hR|((repeat apply Exists.intro);exact⟨hR,rfl⟩)
   case measure=>simp[intOf];omega
  .obtain rfl:k=N:=by omega
   have hltI:¬(k:Int)<k:=by omega
   obtain⟨ra,rc,hv,hlq,hL,hfr⟩:=zcI ho hap;subst hv;have HL:Hid (k=qs.length):=hlq;clear hlq;go_wp2_with fail
   go_ret;exact⟨ra,rc,qs,by rw[<-HL.out];rfl,hq.out,hL (by omega),hfr,hRk,hok,(λh0=>by have e:=hnz.out (by rw[HL.out,h0];rfl);injection e)⟩
structure zuc (w w':World)(e:Ending)(R:Nat)(s:St):Prop where
 out:∃ba bc bl pa pc pl,e=.returned (.agg #[I_ (nB 1 s),I_ (nB 3 (nx 1 s)),.slice ba (List.length bl) bc,.slice pa (List.length pl) pc])/\bl.map (·.bs)=dgs (nx 3 (nx 1 s))/\pl.map (·.bs)=dgs (dgS (nx 3 (nx 1 s)))/\zx w' ba bc bl/\zx w' pa pc pl/\za1 w.heap.size ba bl/\za1 w.heap.size pa pl/\RdS w' R (dgS (dgS (nx 3 (nx 1 s))))/\zaG R w w'/\(bl=[]->ba=none)/\(pl=[]->pa=none)
theorem znm (R:Nat)(s:St)(w:World)(T:RdS w R s)(o:zbC s) :
  Calls prog 73 #[P_ R 0] w λe w'=>zuc w w' e R s:=by
 have y:R<w.heap.size:=T.lt;refine kO_ ?B0 ?_;exact Obj.cells #[I_ 0,I_ 0,O_,O_] 61;have F:=zC w ?B0;have L:=hN_ w ?B0;have ab:w.heap.size<(w.alloc ?B0).heap.size:=ze L;go_in;go_wp2_with fail
 generalize w.alloc ?B0=W0 at F L ab|-;refine(zdn R 1 s W0 (zaw.below T F) o (by omega)).mono ?_;rintro _ w1⟨rfl,U,z⟩;dsimp only;go_wp2_with fail
 refine(ziB R _ w1 U o.nx).mono ?_;rintro _ w2⟨rfl,V,A⟩;dsimp only;go_wp2_with fail
 refine(zlX R _ _ w2 V o.nx.nx.len o.nx.nx.u8).mono ?_;rintro e w3⟨q,u,bl,g,Z,N,d,X,H,ac⟩;subst g;dsimp only;go_wp2_with fail
 refine(zlX R _ _ w3 X (zbC.dgS o.nx.nx).len (zbC.dgS o.nx.nx).u8).mono ?_;rintro e w4⟨t,C,pl,g,aa,O,f,Y,I,ad⟩;subst g;dsimp only;have G:=((z.trans A).trans H).trans I;have af:=(z.trans A).size;have ag:=((z.trans A).trans H).size;have b:=(G.block _ ab (by omega)).trans L;have d0:=zb b 0 _ rfl;have d1:=zb b 1 _ rfl;have d2:=zb b 2 _ rfl;have d3:=zb b 3 _ rfl;have f0:=zd b 0;have f1:=zd b 1;have f2:=zd b 2;have f3:=zd b 3;have M:Hid ((bl=[]->q=none)/\(pl=[]->t=none)):=⟨ac,ad⟩;clear ac ad;refine kA_ ?A0 ?_;exact #[I_ (nB 1 s),I_ (nB 3 (nx 1 s)),.slice q bl.length u,.slice t pl.length C];have hX:Hid (zuc w ((((w4.setCell ⟨w.heap.size,0,none⟩ (I_ (nB 1 s))).setCell ⟨w.heap.size,1,none⟩ (I_ (nB 3 (nx 1 s)))).setCell ⟨w.heap.size,2,none⟩ (.slice q bl.length u)).setCell ⟨w.heap.size,3,none⟩ (.slice t pl.length C)) (.returned (.agg ?A0)) R s):=by
  have ae:=zjz N d I (by omega);have c:∀(W:World) (E:Option Addr) (rc:Nat) (D:List zi) (B j:Nat) (v:Value),w.heap.size<B->za1 B E D->zx W E rc D->zx (W.setCell ⟨w.heap.size,j,none⟩ v) E rc D:=λW E rc D B j v hB hF h=>h.setCell hF _ _ _ hB;refine⟨q,u,bl,t,C,pl,rfl,Z,aa,?_,?_,⟨λl m e=>by have:=d.row l m e;omega,λp J l m e=>by have:=d.each p J l m e;omega⟩,⟨λl m e=>by have:=f.row l m e;omega,λp J l m e=>by have:=f.each p J l m e;omega⟩,(((Y.far y).far y).far y).far y,?_,M.out.1,M.out.2⟩
  .exact c _ _ _ _ _ _ _ (by omega) d (c _ _ _ _ _ _ _ (by omega) d (c _ _ _ _ _ _ _ (by omega) d (c _ _ _ _ w2.heap.size _ _ (by omega) d ae)))
  .exact c _ _ _ _ _ _ _ (by omega) f (c _ _ _ _ _ _ _ (by omega) f (c _ _ _ _ _ _ _ (by omega) f (c _ _ _ _ w3.heap.size _ _ (by omega) f O)))
  .have r:=(zbR (R:=R) F).trans G;refine⟨r.os,r.tape,r.output,by simpa using r.size,λk hk hn=>?_⟩;exact(hO_ _ ⟨w.heap.size,3,none⟩ k _ (by show k≠w.heap.size;omega)).trans ((hO_ _ ⟨w.heap.size,2,none⟩ k _ (by show k≠w.heap.size;omega)).trans ((hO_ _ ⟨w.heap.size,1,none⟩ k _ (by show k≠w.heap.size;omega)).trans ((hO_ _ ⟨w.heap.size,0,none⟩ k _ (by show k≠w.heap.size;omega)).trans (r.block k hk hn))))
 clear Z aa N O d f X Y U V G z A H I b af ag;go_wp2_with fail
 exact bodyPost_ret (v:=.agg ?A0) (by simp[results,results73,go_sem,d0,d1,d2,d3]) rfl hX.out
structure zud (w w':World)(e:Ending)(R:Nat)(s:St):Prop where
 out:∃ba bc bl pa pc pl va vc,e=.returned (.agg #[I_ (nB 1 s),I_ (nB 3 (nx 1 s)),.slice ba (List.length bl) bc,.slice pa (List.length pl) pc,.slice va (cN s) vc])/\bl.map (·.bs)=dgs (nx 3 (nx 1 s))/\pl.map (·.bs)=dgs (dgS (nx 3 (nx 1 s)))/\zx w' ba bc bl/\zx w' pa pc pl/\za1 w.heap.size ba bl/\za1 w.heap.size pa pl/\zax w' va (nV (nx 1 (hS4 s)) (cN s))/\(∀sb so,va=some ⟨sb,so,none⟩->w.heap.size<=sb)/\RdS w' R (nL (nx 1 (hS4 s)) (cN s))/\zaG R w w'/\(bl=[]->ba=none)/\(pl=[]->pa=none)
theorem zxp (R:Nat)(s:St)(w:World)(hR:RdS w R s)(hs:zbC s) :
  Calls prog 75 #[P_ R 0] w λe w'=>zud w w' e R s:=by
 obtain⟨i,hi,a4,a6,a5⟩:=info_parts zu5;have aa:R<w.heap.size:=hR.lt;refine kO_ ?B0 ?_;exact Obj.cells #[I_ 0,I_ 0,O_,O_,O_] 64;have hA:=zC w ?B0;have q0:=hN_ w ?B0;have ai:w.heap.size<(w.alloc ?B0).heap.size:=ze q0;have ag:zbC (hS4 s):=zbC.dgS (zbC.dgS hs.nx.nx);obtain⟨aQ,aR⟩:=zhe (l:=(hS4 s).1) (sh:=(hS4 s).2) ag.u8;have aJ:Hid (((cN s:Nat):Int)=nB 1 (hS4 s)):=by show _=_;show((zbe (tkT 1 (hS4 s).1 (hS4 s).2)).toNat:Int)=zbe (tkT 1 (hS4 s).1 (hS4 s).2);omega
 have bb:cN s<=255:=by show(zbe (tkT 1 (hS4 s).1 (hS4 s).2)).toNat<=255;omega
 clear aQ aR;go_in;go_wp2_with fail
 generalize w.alloc ?B0=W0 at hA q0 ai|-;refine(znm R s W0 (zaw.below hR hA) hs).mono ?_;rintro e g⟨t,B,bl,z,E,pl,Z,az,aA,an,ap,C,D,aL,ax,aD,aE⟩;have ak:Hid ((bl=[]->t=none)/\(pl=[]->z=none)):=⟨aD,aE⟩;clear aD aE;subst Z;dsimp only;have p0:=(ax.block _ ai (by omega)).trans q0;have au:=(zbR (R:=R) hA).trans ax;have aT:w.heap.size<g.heap.size:=ze p0;generalize hAU':nB 1 s=o at*;generalize hRD':nB 3 (nx 1 s)=r at*;have aG:Hid (nB 1 s=o):=hAU';have aP:Hid (nB 3 (nx 1 s)=r):=hRD';clear hAU' hRD';go_upto_region 2 with fail
 refine kO_ ?A0 ?_;exact Obj.cells #[I_ o,I_ r,.slice t bl.length B,.slice z pl.length E,O_] 64;have ad:=zC g ?A0;have qC:=hN_ g ?A0;have ac:g.heap.size<(g.alloc ?A0).heap.size:=ze qC;generalize am:g.heap.size=c at qC ac|-;generalize g.alloc ?A0=J at ad qC ac|-;have aj:Hid (g.heap.size=c):=am;have aO:R<c:=by omega
 have bd:w.heap.size<c:=by omega
 clear am;have hN:=zdn R 1 (hS4 s) J (zaw.below aL ad) ag (by omega);rw[<-aJ.out]at hN;go_wp2_with fail
 refine hN.mono ?_;rintro _ w2⟨rfl,aM,ah⟩;dsimp only;clear hN;have p2:=(ah.block _ ac (by omega)).trans qC;have aK:zaG R g w2:=(zbR ad).trans ah;have aS:zbC (nx 1 (hS4 s)):=ag.nx;generalize aB:nx 1 (hS4 s)=b at*;generalize aw:cN s=N at*;have aF:Hid (nx 1 (hS4 s)=b):=aB;have HK:Hid (cN s=N):=aw;clear aB aw;go_upto_region 3 with fail
 refine kV_ ?C0 ?_;exact Value.slice t bl.length B;refine kV_ ?D0 ?_;exact Value.slice z pl.length E;go_loopw [9] (λj wr=>∃(k:Nat) (A:Value),k<=N/\j=I_ k/\wr.ownsRow J.heap.size 3 1 A k (iv (nV b k))/\R_ wr c #[I_ o,I_ r,?C0,?D0,A] 64/\RdS wr R (nL b k)/\zaG R g wr/\J.heap.size<=wr.heap.size) (λj _=>N-(intOf j).toNat)
 case atStart=>exact⟨0,O_,nZ_ _,rfl,oN_ _ _ _ _,p2,aM,aK,ah.size⟩
 case round=>
  obtain⟨k,A,hk,rfl,ho,F,ae,O,a0⟩:=hrel;by_cases hltk:k<N
  .have aU:(k:Int)<N:=by omega
   have ar:=zdn R 1 (nL b k) wr.drew (zaw.below ae ((bR_ _ _).drew)) (zwR aS k) (by omega);have aY:Hid (nV b (k+1)=nV b k++[nB 1 (nL b k)]):=rfl;have aZ:Hid (nL b (k+1)=nx 1 (nL b k)):=rfl;have aI:Hid (∀al w,(callFunc 71 al).run prog w=.ok (.enter 71 al) w):=eO_ func71;have aH:c<wr.heap.size:=ze F;have aV:c≠R:=by omega
   have c4:wr.cell? ⟨c,4,none⟩=some A:=zb F 4 _ rfl;have a8:wr.drew.cell? ⟨c,4,none⟩=some A:=c4;generalize nB 1 (nL b k)=X at*;generalize nx 1 (nL b k)=s6 at*;have a7:Hid _:=ar;have a1:A.ownBlock≠some c:=λe=>by have:=(ho.lt _ e).1;omega
   go_wp2_with fail
   go_region_law (first
    | (refine zdF rfl 71 _ _ rfl [P_ R 0,I_ 1] rfl aI.out (λu w9=>u=I_ X/\RdS w9 R s6/\zaG R wr w9) (ar.mono (λe w9 ⟨Z,h1,h2⟩=>⟨_,Z,rfl,h1,zjA h2⟩)) ?_;rintro u w5⟨rfl,av,ab⟩;have v5:=(ab.block _ aH aV).trans F;have d4:w5.cell? ⟨c,4,none⟩=some A:=zb v5 4 _ rfl;have a9:(w5.alloc (.cells #[I_ X] 3)).cell? ⟨c,4,none⟩=some A:=zb (zR v5) 4 _ rfl;have aX:=zjy ho ab (by omega);have a3:J.heap.size<=w5.heap.size:=nT_ a0 ab.size)
    | (refine zcc rfl _ _ 62 rfl J.heap.size 3 i (I_ 0) 1 8 underlying62 hi a4 a6 a5 rfl (by decide) A k (iv (nV b k)) rfl (oA_ aX _) ⟨w5.heap.size,0,none⟩ 1 1 [I_ X] rfl rfl (zag _ _ _) (by intro u hu;simp at hu;subst hu;rfl) (by unfold maxLen;omega) (by omega) (zB a3 _) ?_;intro v6 w6 ay G6;have x5:=G6.row (zR v5) a1;have be:=zb x5 4 _ rfl;have bf:=zd x5 4;obtain⟨fa,fc,a2⟩:=zH ay;subst a2))
   all_goals
    have H:=G6.grown;have M:=zC w5 (.cells #[I_ X] 3);have I:=O.trans ab;have aC:∀q,A.ownBlock=some q->J.heap.size<=q:=λq e=>(ho.lt q e).1;have aW:=ownsRow_base' ay (nR_ _);have Y:zaG R g w6:=by
     refine⟨H.os.trans I.os,H.tape.trans I.tape,H.output.trans I.output,nT_ I.size (nT_ M.size H.size),λq T hn=>?_⟩;have:=aj.out;exact(H.block q (by have:=M.size;have:=I.size;omega) (λe=>by have:=aC q e.symm;omega)).trans ((M.block q (by have:=I.size;omega)).trans (I.block q T hn))
    have aN:RdS w6 R s6:=(av.below M).stays (λq T=>H.block q (by have:=M.size;have:=av.lt;omega) (λe=>by have:=aC q e.symm;omega));go_wp2_with fail
    go_roundw
    case rel=>
     refine⟨k+1,.slice fa (k+1) fc,by omega,by go_num,?_,by simpa using hS_ _ _ 4 _ _ (.slice fa (k+1) fc) x5,?_,?_,?_⟩
     .rw[aY.out];have h:=zQ aW c 4 (.slice fa (k+1) fc) ac
      simpa[iv]using h
     .rw[aZ.out];exact zaw.far aN aO
     .have:=aj.out;exact⟨Y.os,Y.tape,Y.output,by simpa using Y.size,λq T hn=>(hO_ _ ⟨c,4,none⟩ q _ (by show q≠c;omega)).trans (Y.block q T hn)⟩
     .have:=M.size;have:=H.size
      simp
      omega
    case measure=>simp[intOf];omega
  .obtain rfl:k=N:=by omega
   have aU:¬(k:Int)<k:=by omega
   have ao:=zjz an C O (by omega);have aq:=zjz ap D O (by omega);obtain⟨U,vc,hv,hI,af⟩:=zpL ho;subst hv;have m:=(O.block _ aT (by omega)).trans p0;have L:=au.trans O;have c0:=zb F 0 _ rfl;have c1:=zb F 1 _ rfl;have c2:=zb F 2 _ rfl;have c3:=zb F 3 _ rfl;have c4:=zb F 4 _ rfl;have d0:=zb m 0 _ rfl;have d1:=zb m 1 _ rfl;have d2:=zb m 2 _ rfl;have d3:=zb m 3 _ rfl;have d4:=zb m 4 _ rfl;have f0:=zd m 0;have f1:=zd m 1;have f2:=zd m 2;have f3:=zd m 3;have f4:=zd m 4;have G:Hid (nB 1 s=o/\nB 3 (nx 1 s)=r/\cN s=k/\nx 1 (hS4 s)=b):=⟨aG.out,aP.out,HK.out,aF.out⟩;have hX:Hid (zud w (((((wr.setCell ⟨w.heap.size,0,none⟩ (I_ o)).setCell ⟨w.heap.size,1,none⟩ (I_ r)).setCell ⟨w.heap.size,2,none⟩ ?C0).setCell ⟨w.heap.size,3,none⟩ ?D0).setCell ⟨w.heap.size,4,none⟩ (.slice U k vc)) (.returned (.agg #[I_ o,I_ r,?C0,?D0,.slice U k vc])) R s):=by
    have y:∀(W:World) (ra:Option Addr) (rc:Nat) (qs:List zi) (j:Nat) (v:Value),za1 W0.heap.size ra qs->zx W ra rc qs->zx (W.setCell ⟨w.heap.size,j,none⟩ v) ra rc qs:=λW ra rc qs j v hF h=>h.setCell hF _ _ _ ai;have V:∀(W:World) (j:Nat) (v:Value),zax W U (nV b k)->zax (W.setCell ⟨w.heap.size,j,none⟩ v) U (nV b k):=λW j v h=>zs6 (R:=w.heap.size) h ((zaG.refl _ W).setCell) (λd f e e2=>by have:=af d f e;omega);refine⟨t,B,bl,z,E,pl,U,vc,?_,az,aA,?_,?_,⟨λd f e=>by have:=C.row d f e;omega,λp hp d f e=>by have:=C.each p hp d f e;omega⟩,⟨λd f e=>by have:=D.row d f e;omega,λp hp d f e=>by have:=D.each p hp d f e;omega⟩,?_,(λd f e=>by have:=af d f e;omega),?_,?_,ak.out.1,ak.out.2⟩
    .rw[G.out.1,G.out.2.1,G.out.2.2.1]
    .exact y _ _ _ _ _ _ C (y _ _ _ _ _ _ C (y _ _ _ _ _ _ C (y _ _ _ _ _ _ C (y _ _ _ _ _ _ C (ao)))))
    .exact y _ _ _ _ _ _ D (y _ _ _ _ _ _ D (y _ _ _ _ _ _ D (y _ _ _ _ _ _ D (y _ _ _ _ _ _ D (aq)))))
    .rw[G.out.2.2.1,G.out.2.2.2];exact V _ _ _ (V _ _ _ (V _ _ _ (V _ _ _ (V _ _ _ (hI)))))
    .rw[G.out.2.2.1,G.out.2.2.2];exact zaw.far (zaw.far (zaw.far (zaw.far (zaw.far (ae) aa) aa) aa) aa) aa
    .exact⟨L.os,L.tape,L.output,by simpa using L.size,λq T hn=>((hO_ _ ⟨w.heap.size,4,none⟩ q _ (by show q≠w.heap.size;omega)).trans ((hO_ _ ⟨w.heap.size,3,none⟩ q _ (by show q≠w.heap.size;omega)).trans ((hO_ _ ⟨w.heap.size,2,none⟩ q _ (by show q≠w.heap.size;omega)).trans ((hO_ _ ⟨w.heap.size,1,none⟩ q _ (by show q≠w.heap.size;omega)).trans ((hO_ _ ⟨w.heap.size,0,none⟩ q _ (by show q≠w.heap.size;omega)).trans (L.block q T hn))))))⟩
   clear az aA an ap C D ao aq hI af ae O L au ho m F;go_wp2_with fail
   exact bP_ (v:=.agg #[I_ o,I_ r,?C0,?D0,.slice U k vc]) (by simp[results,results75,go_sem,d0,d1,d2,d3,d4]) rfl hX.out
structure zhr (x:MV):Prop where
 bt:x.ss.length<=x.m.btc/\x.m.btc<=maxLen/\(x.m.bta=none->x.m.btc=0)/\(x.m.ki≠1->x.m.bta=none)
 hb:x.bl=[]->x.m.hba=none
 hp:x.pl=[]->x.m.hpa=none
 cb:x.cbl=[]->x.m.cba=none
 cp:x.cpl=[]->x.m.cpa=none
def CEq (x:MV)(s:St):Prop:=x.c=pM s/\zhr x
structure zzd (w w':World)(e:Ending)(R:Nat)(s:St):Prop where
 out:∃x:MV,e=.returned (.agg (mrow_ x.m))/\MAt w' x/\zbU (λq=>w.heap.size<=q) x/\CEq x s/\RdS w' R (mS s)/\zaG R w w'
theorem zr5 (R:Nat)(s:St)(w:World)(hR:RdS w R s)(hs:zbC s)(B:1<=nB 1 s/\nB 1 s<=5) :
  Calls prog 48 #[P_ R 0] w λe w'=>zzd w w' e R s:=by
 have a9:R<w.heap.size:=zaw.lt hR;refine kO_ ?F0 ?_;exact Obj.cells mz_ 66;have hA:=zC w ?F0;have q0:=hN_ w ?F0;have aM:w.heap.size<(w.alloc ?F0).heap.size:=ze q0;refine K_ (?A0:St) ?_;exact nx 1 (nx 1 (nx 1 s));have ah:zbC ?A0:=hs.nx.nx.nx;have aP:bN ?A0<=255:=by have:=zfE (s:=bS3 ?A0) ah.nx.nx;show(nB 1 (bS3 ?A0)).toNat<=255;omega
 have aQ:cN ?A0<=255:=by have:=zfE (s:=hS4 ?A0) (zbC.dgS (zbC.dgS ah.nx.nx));show(nB 1 (hS4 ?A0)).toNat<=255;omega
 go_in;go_wp2_with fail
 generalize w.alloc ?F0=W0 at hA q0 aM|-;refine(zdn R 1 s W0 (zaw.below hR hA) hs (by omega)).mono ?_;rintro _ w1⟨rfl,aC,aJ⟩;dsimp only;go_wp2_with fail
 refine(zdn R 1 _ w1 aC hs.nx (by omega)).mono ?_;rintro _ w2⟨rfl,aD,aK⟩;dsimp only;go_wp2_with fail
 refine(zdn R 1 _ w2 aD hs.nx.nx (by omega)).mono ?_;rintro _ w3⟨rfl,aE,aL⟩;dsimp only;have az:=(aJ.trans aK).trans aL;have p3:=(az.block _ aM (by omega)).trans q0;have aI:w.heap.size<w3.heap.size:=ze p3;have qz:=hN_ w3 ?F0;refine kA_ ?B0 ?_;exact #[I_ (nB 1 (nx 1 s)),I_ (nB 1 (nx 1 (nx 1 s))),I_ (nB 1 s),I_ 0,I_ 0,O_,I_ 0,I_ 0,O_,O_,I_ 0,I_ 0,O_,I_ 0,I_ 0,O_,O_,O_,I_ 0];have ak:B_ w3 ((w3.alloc ?F0).setRow w3.heap.size ?B0):=zbs w3 mz_ ?B0 66;have X:=setRow_heap _ _ _ ?B0 _ _ qz;have zM:=(ak.block _ aI).trans p3;have ai:w3.heap.size<((w3.alloc ?F0).setRow w3.heap.size ?B0).heap.size:=ze X;go_upto_region 2 with(refine wpList_store_row rfl 66 _ _ rfl w3.heap.size ?B0 rfl rfl 66 _ qz sMsg' rfl (by simp[Value.oneCell']) ?_)
 generalize (w3.alloc ?F0).setRow w3.heap.size ?B0=H at ak X zM ai|-;have ar:RdS H R ?A0:=zaw.below aE ak;have ap:zaG R W0 H:=az.trans (zbR ak);have aq:zaG R w W0:=zbR hA;generalize aN:w3.heap.size=b at X ai aI|-;clear aN ak qz p3 az aJ aK aL aC aD aE q0;have c2:=zb X 2 (I_ (nB 1 s)) rfl;have aO:nB 1 s=1\/nB 1 s=2\/nB 1 s=3\/nB 1 s=4\/nB 1 s=5:=by omega
 clear B;rcases aO with B|B|B|B|B;refine kV_ ?C0 ?_;exact I_ (nB 3 (nx 1 ?A0));refine kV_ ?D0 ?_;exact I_ (nB 1 ?A0);refine kV_ ?E0 ?_;exact I_ (nB 1 (nx 1 (nx 1 s)));refine kV_ ?G0 ?_;exact I_ (nB 1 (nx 1 s))
 .rw[B]at X c2|-;have T:Hid (nB 1 s=1):=B;clear B;go_wp2_with fail
  refine(zvV R ?A0 H ar ah).mono ?_;rintro e c⟨I,D,O,aA,au,ab,E,aF,aG,aH⟩;have ay:Hid (bN ?A0<=D/\D<=maxLen/\(I=none->D=0)):=⟨aF,aG,aH⟩;clear aF aG aH;subst O;dsimp only;have d:=(E.block _ ai (by omega)).trans X;have Z:=(E.block _ (by omega) (by omega)).trans zM;have aa:=ap.trans E;have ac:w.heap.size≠b:=by omega
  have C:=ac;have x3:=zb d 3 (I_ 0) rfl;have y3:=zd d 3;have x4:=zb d 4 (I_ 0) rfl;have y4:=zd d 4;have x5:=zb d 5 (O_) rfl;have y5:=zd d 5;refine kW_ ?H0 ?_;exact((c.setCell ⟨b,3,none⟩ ?D0).setCell ⟨b,4,none⟩ ?C0).setCell ⟨b,5,none⟩ (.slice I (bN ?A0) D);refine kA_ ?I0 ?_;exact #[?G0,?E0,I_ 1,?D0,?C0,.slice I (bN ?A0) D,I_ 0,I_ 0,O_,O_,I_ 0,I_ 0,O_,I_ 0,I_ 0,O_,O_,O_,I_ 0];have Y:(?H0).heap[b]? = some (.cells ?I0 66 (0,0)):=by simpa using(hS_ _ _ 5 _ _ (.slice I (bN ?A0) D) (hS_ _ _ 4 _ _ ?C0 (hS_ _ _ 3 _ _ ?D0 d)))
  have F:=(zh (j:=5) (v:=.slice I (bN ?A0) D) (zh (j:=4) (v:=I_ (nB 3 (nx 1 ?A0))) (zh (j:=3) (v:=I_ (nB 1 ?A0)) Z C) C) C);have HX:Hid (∃x:MV,(.agg (mrow_ x.m):Value)=.agg ?I0/\MAt c x/\zbU (λq=>H.heap.size<=q) x/\CEq x s/\RdS c R (mS s)):=by
   refine⟨⟨⟨nB 1 (nx 1 s),nB 1 (nx 1 (nx 1 s)),1,nB 1 ?A0,nB 3 (nx 1 ?A0),0,0,0,0,0,0,0,I,none,none,none,none,none,none,bN ?A0,D,0,0,0,0,0,0,0,0,0,0,0,0⟩,bT (nx 1 (bS3 ?A0)) (bN ?A0),[],[],[],[],[],[]⟩,rfl,⟨⟨(zjC _ _).symm,rfl,rfl,rfl,rfl,rfl,by rw[zjC];have:=aP;omega,by simp,by simp,aA,(zaj _),(zaj _),(zaj _),(zaj _),⟨.inl rfl⟩⟩,(zgD _),rfl⟩,ziF.has (x:=⟨⟨nB 1 (nx 1 s),nB 1 (nx 1 (nx 1 s)),1,nB 1 ?A0,nB 3 (nx 1 ?A0),0,0,0,0,0,0,0,I,none,none,none,none,none,none,bN ?A0,D,0,0,0,0,0,0,0,0,0,0,0,0⟩,bT (nx 1 (bS3 ?A0)) (bN ?A0),[],[],[],[],[],[]⟩) ⟨au,⟨(λ_ _ e=>by cases e),(λp r=>by cases r)⟩,⟨(λ_ _ e=>by cases e),(λp r=>by cases r)⟩,(λ_ _ e=>by cases e),⟨(λ_ _ e=>by cases e),(λp r=>by cases r)⟩,⟨(λ_ _ e=>by cases e),(λp r=>by cases r)⟩,(λ_ _ e=>by cases e)⟩,?_,?_⟩
   .refine⟨?_,⟨⟨(by show(bT _ _).length<=D;rw[zjC];exact ay.out.1),ay.out.2.1,ay.out.2.2,(λh=>absurd rfl h)⟩,(λ_=>rfl),(λ_=>rfl),(λ_=>rfl),(λ_=>rfl)⟩⟩;simp only[MV.c,pM,T.out];rfl
   .simp only[mS,T.out];exact ab
  have z:Hid (∀q,q≠b->(?H0).heap[q]? = c.heap[q]?):=by
   show ∀_,_;intro q u;exact((hO_ _ ⟨b,5,none⟩ q _ u).trans ((hO_ _ ⟨b,4,none⟩ q _ u).trans ((hO_ _ ⟨b,3,none⟩ q _ u).trans (rfl:c.heap[q]? = c.heap[q]?))))
  have U:Hid ((?H0).heap.size=c.heap.size):=by show _=_;simp
  have y:Hid ((?H0).os=c.os/\(?H0).tape=c.tape/\(?H0).output=c.output):=⟨rfl,rfl,rfl⟩;go_upto_region 13 with fail
  generalize ?H0=VF at Y F z U y|-;clear d Z x3 y3 x4 y4 x5 y5;go_wp2_with (first|refine wpList_load_row rfl 66 _ rfl b rfl 66 ?I0 (0,0) _ Y underlying66 rfl sMsg' ?_|refine wpList_store_row rfl 66 _ _ rfl w.heap.size ?I0 rfl rfl 66 _ F sMsg' rfl (by simp[Value.oneCell']) ?_)
  obtain⟨x,ag,ad,V,af,ae⟩:=HX.out;refine bP_ (v:=.agg ?I0) (results_cell_row (fn:=Tryz.f48) (p:=2) (ty:=66) rfl _ _ w.heap.size 66 _ (0,0) _ rfl (setRow_heap _ _ _ _ _ _ F) underlying66 rfl sMsg') rfl ⟨x,by rw[ag],?_,V.mono (λq A=>by omega),af,?_,?_⟩
  .refine ad.stays (G:=λq=>H.heap.size<=q) (λq A=>?_) V;exact(setRow_other _ w.heap.size q _ (by omega)).trans (z.out q (by omega))
  .refine zaw.stays ae (λq A=>?_);exact(setRow_other _ w.heap.size q _ (by omega)).trans (z.out q (by omega))
  .have t:=aq.trans aa;refine⟨y.out.1.trans t.os,y.out.2.1.trans t.tape,y.out.2.2.trans t.output,by have:=t.size;have:=U.out;simp[World.setRow];omega,λq A hn=>?_⟩;exact((setRow_other _ w.heap.size q _ (by omega)).trans (z.out q (by omega))).trans (t.block q A hn)
 .rw[B]at X c2|-;have T:Hid (nB 1 s=2):=B;clear B;go_wp2_with fail
  refine K_ (?L0:St) ?_;exact nx 1 (nx 1 (nx 1 s));refine(znm R ?L0 H ar ah).mono ?_;rintro e c⟨f,m,bl,g,o,pl,O,u,av,an,ao,al,am,ab,E,aw,ax⟩;have aj:Hid ((bl=[]->f=none)/\(pl=[]->g=none)):=⟨aw,ax⟩;clear aw ax;subst O;dsimp only;have d:=(E.block _ ai (by omega)).trans X;have Z:=(E.block _ (by omega) (by omega)).trans zM;have aa:=ap.trans E;have ac:w.heap.size≠b:=by omega
  have C:=ac;have x6:=zb d 6 (I_ 0) rfl;have y6:=zd d 6;have x7:=zb d 7 (I_ 0) rfl;have y7:=zd d 7;have x8:=zb d 8 (O_) rfl;have y8:=zd d 8;have x9:=zb d 9 (O_) rfl;have y9:=zd d 9;refine kV_ ?J0 ?_;exact Value.slice f bl.length m;refine kV_ ?K0 ?_;exact Value.slice g pl.length o;have Y:((((c.setCell ⟨b,6,none⟩ (I_ (nB 1 ?L0))).setCell ⟨b,7,none⟩ (I_ (nB 3 (nx 1 ?L0)))).setCell ⟨b,8,none⟩ ?J0).setCell ⟨b,9,none⟩ ?K0).heap[b]? = some (.cells #[I_ (nB 1 (nx 1 s)),I_ (nB 1 (nx 1 (nx 1 s))),I_ 2,I_ 0,I_ 0,O_,I_ (nB 1 ?L0),I_ (nB 3 (nx 1 ?L0)),?J0,?K0,I_ 0,I_ 0,O_,I_ 0,I_ 0,O_,O_,O_,I_ 0] 66 (0,0)):=by simpa using(hS_ _ _ 9 _ _ ?K0 (hS_ _ _ 8 _ _ ?J0 (hS_ _ _ 7 _ _ (I_ (nB 3 (nx 1 ?L0))) (hS_ _ _ 6 _ _ (I_ (nB 1 ?L0)) d))))
  have F:=(zh (j:=9) (v:=.slice g pl.length o) (zh (j:=8) (v:=.slice f bl.length m) (zh (j:=7) (v:=I_ (nB 3 (nx 1 ?L0))) (zh (j:=6) (v:=I_ (nB 1 ?L0)) Z C) C) C) C);have HX:Hid (∃x:MV,(.agg (mrow_ x.m):Value)=.agg #[I_ (nB 1 (nx 1 s)),I_ (nB 1 (nx 1 (nx 1 s))),I_ 2,I_ 0,I_ 0,O_,I_ (nB 1 (nx 1 (nx 1 (nx 1 s)))),I_ (nB 3 (nx 1 (nx 1 (nx 1 (nx 1 s))))),?J0,?K0,I_ 0,I_ 0,O_,I_ 0,I_ 0,O_,O_,O_,I_ 0]/\MAt c x/\zbU (λq=>H.heap.size<=q) x/\CEq x s/\RdS c R (mS s)):=by
   refine⟨⟨⟨nB 1 (nx 1 s),nB 1 (nx 1 (nx 1 s)),2,0,0,nB 1 (nx 1 (nx 1 (nx 1 s))),nB 3 (nx 1 (nx 1 (nx 1 (nx 1 s)))),0,0,0,0,0,none,f,g,none,none,none,none,0,0,bl.length,m,pl.length,o,0,0,0,0,0,0,0,0⟩,[],bl,pl,[],[],[],[]⟩,rfl,⟨⟨rfl,rfl,rfl,rfl,rfl,rfl,by simp,by simp,by simp,⟨.inl rfl,λs h=>by cases h⟩,an,ao,(zaj _),(zaj _),⟨.inl rfl⟩⟩,(zgD _),rfl⟩,ziF.has (x:=⟨⟨nB 1 (nx 1 s),nB 1 (nx 1 (nx 1 s)),2,0,0,nB 1 (nx 1 (nx 1 (nx 1 s))),nB 3 (nx 1 (nx 1 (nx 1 (nx 1 s)))),0,0,0,0,0,none,f,g,none,none,none,none,0,0,bl.length,m,pl.length,o,0,0,0,0,0,0,0,0⟩,[],bl,pl,[],[],[],[]⟩) ⟨(λ_ _ e=>by cases e),al,am,(λ_ _ e=>by cases e),⟨(λ_ _ e=>by cases e),(λp r=>by cases r)⟩,⟨(λ_ _ e=>by cases e),(λp r=>by cases r)⟩,(λ_ _ e=>by cases e)⟩,?_,?_⟩
   .refine⟨?_,⟨⟨(by decide:(0:Nat)<=0),(by decide:(0:Nat)<=maxLen),(λ_=>rfl),(λ_=>rfl)⟩,aj.out.1,aj.out.2,(λ_=>rfl),(λ_=>rfl)⟩⟩;simp only[MV.c,pM,T.out,u,av];rfl
   .simp only[mS,T.out];exact ab
  clear u av an ao al am;refine kW_ ?M0 ?_;exact(((c.setCell ⟨b,6,none⟩ (I_ (nB 1 (nx 1 (nx 1 (nx 1 s)))))).setCell ⟨b,7,none⟩ (I_ (nB 3 (nx 1 (nx 1 (nx 1 (nx 1 s))))))).setCell ⟨b,8,none⟩ ?J0).setCell ⟨b,9,none⟩ ?K0;have z:Hid (∀q,q≠b->(?M0).heap[q]? = c.heap[q]?):=by
   show ∀_,_;intro q u;exact((hO_ _ ⟨b,9,none⟩ q _ u).trans ((hO_ _ ⟨b,8,none⟩ q _ u).trans ((hO_ _ ⟨b,7,none⟩ q _ u).trans ((hO_ _ ⟨b,6,none⟩ q _ u).trans (rfl:c.heap[q]? = c.heap[q]?)))))
  have U:Hid ((?M0).heap.size=c.heap.size):=by show _=_;simp
  have y:Hid ((?M0).os=c.os/\(?M0).tape=c.tape/\(?M0).output=c.output):=⟨rfl,rfl,rfl⟩;go_upto_region 13 with fail
  generalize ?M0=VF at Y F z U y|-;clear d Z x6 y6 x7 y7 x8 y8 x9 y9;go_wp2_with (first|refine wpList_load_row rfl 66 _ rfl b rfl 66 #[I_ (nB 1 (nx 1 s)),I_ (nB 1 (nx 1 (nx 1 s))),I_ 2,I_ 0,I_ 0,O_,I_ (nB 1 (nx 1 (nx 1 (nx 1 s)))),I_ (nB 3 (nx 1 (nx 1 (nx 1 (nx 1 s))))),?J0,?K0,I_ 0,I_ 0,O_,I_ 0,I_ 0,O_,O_,O_,I_ 0] (0,0) _ Y underlying66 rfl sMsg' ?_|refine wpList_store_row rfl 66 _ _ rfl w.heap.size #[I_ (nB 1 (nx 1 s)),I_ (nB 1 (nx 1 (nx 1 s))),I_ 2,I_ 0,I_ 0,O_,I_ (nB 1 (nx 1 (nx 1 (nx 1 s)))),I_ (nB 3 (nx 1 (nx 1 (nx 1 (nx 1 s))))),?J0,?K0,I_ 0,I_ 0,O_,I_ 0,I_ 0,O_,O_,O_,I_ 0] rfl rfl 66 _ F sMsg' rfl (by simp[Value.oneCell']) ?_)
  obtain⟨x,ag,ad,V,af,ae⟩:=HX.out;refine bP_ (v:=.agg #[I_ (nB 1 (nx 1 s)),I_ (nB 1 (nx 1 (nx 1 s))),I_ 2,I_ 0,I_ 0,O_,I_ (nB 1 (nx 1 (nx 1 (nx 1 s)))),I_ (nB 3 (nx 1 (nx 1 (nx 1 (nx 1 s))))),?J0,?K0,I_ 0,I_ 0,O_,I_ 0,I_ 0,O_,O_,O_,I_ 0]) (results_cell_row (fn:=Tryz.f48) (p:=2) (ty:=66) rfl _ _ w.heap.size 66 _ (0,0) _ rfl (setRow_heap _ _ _ _ _ _ F) underlying66 rfl sMsg') rfl ⟨x,by rw[ag],?_,V.mono (λq A=>by omega),af,?_,?_⟩
  .refine ad.stays (G:=λq=>H.heap.size<=q) (λq A=>?_) V;exact(setRow_other _ w.heap.size q _ (by omega)).trans (z.out q (by omega))
  .refine zaw.stays ae (λq A=>?_);exact(setRow_other _ w.heap.size q _ (by omega)).trans (z.out q (by omega))
  .have t:=aq.trans aa;refine⟨y.out.1.trans t.os,y.out.2.1.trans t.tape,y.out.2.2.trans t.output,by have:=t.size;have:=U.out;simp[World.setRow];omega,λq A hn=>?_⟩;exact((setRow_other _ w.heap.size q _ (by omega)).trans (z.out q (by omega))).trans (t.block q A hn)
 .rw[B]at X c2|-;have T:Hid (nB 1 s=3):=B;clear B;go_wp2_with fail
  refine K_ (?N0:St) ?_;exact nx 1 (nx 1 (nx 1 s));refine(zu3 R ?N0 H ar ah).mono ?_;rintro e c⟨J,L,O,aA,au,ab,E⟩;subst O;dsimp only;have d:=(E.block _ ai (by omega)).trans X;have Z:=(E.block _ (by omega) (by omega)).trans zM;have aa:=ap.trans E;have ac:w.heap.size≠b:=by omega
  have C:=ac;have aR:=zb d 10 (I_ 0) rfl;have a0:=zd d 10;have aS:=zb d 11 (I_ 0) rfl;have a1:=zd d 11;have aT:=zb d 12 (O_) rfl;have a2:=zd d 12;refine kV_ ?P0 ?_;exact Value.slice J (tT 32 (nx 3 (nx 1 ?N0))).length L;have Y:(((c.setCell ⟨b,10,none⟩ (I_ (nB 1 ?N0))).setCell ⟨b,11,none⟩ (I_ (nB 3 (nx 1 ?N0)))).setCell ⟨b,12,none⟩ ?P0).heap[b]? = some (.cells #[I_ (nB 1 (nx 1 s)),I_ (nB 1 (nx 1 (nx 1 s))),I_ 3,I_ 0,I_ 0,O_,I_ 0,I_ 0,O_,O_,I_ (nB 1 ?N0),I_ (nB 3 (nx 1 ?N0)),?P0,I_ 0,I_ 0,O_,O_,O_,I_ 0] 66 (0,0)):=by simpa using(hS_ _ _ 12 _ _ ?P0 (hS_ _ _ 11 _ _ (I_ (nB 3 (nx 1 ?N0))) (hS_ _ _ 10 _ _ (I_ (nB 1 ?N0)) d)))
  have F:=(zh (j:=12) (v:=.slice J (tT 32 (nx 3 (nx 1 ?N0))).length L) (zh (j:=11) (v:=I_ (nB 3 (nx 1 ?N0))) (zh (j:=10) (v:=I_ (nB 1 ?N0)) Z C) C) C);have HX:Hid (∃x:MV,(.agg (mrow_ x.m):Value)=.agg #[I_ (nB 1 (nx 1 s)),I_ (nB 1 (nx 1 (nx 1 s))),I_ 3,I_ 0,I_ 0,O_,I_ 0,I_ 0,O_,O_,I_ (nB 1 (nx 1 (nx 1 (nx 1 s)))),I_ (nB 3 (nx 1 (nx 1 (nx 1 (nx 1 s))))),.slice J (tT 32 (nx 3 (nx 1 (nx 1 (nx 1 (nx 1 s)))))).length L,I_ 0,I_ 0,O_,O_,O_,I_ 0]/\MAt c x/\zbU (λq=>H.heap.size<=q) x/\CEq x s/\RdS c R (mS s)):=by
   refine⟨⟨⟨nB 1 (nx 1 s),nB 1 (nx 1 (nx 1 s)),3,0,0,0,0,nB 1 (nx 1 (nx 1 (nx 1 s))),nB 3 (nx 1 (nx 1 (nx 1 (nx 1 s)))),0,0,0,none,none,none,J,none,none,none,0,0,0,0,0,0,(tT 32 (nx 3 (nx 1 (nx 1 (nx 1 (nx 1 s)))))).length,L,0,0,0,0,0,0⟩,[],[],[],[],[],tT 32 (nx 3 (nx 1 (nx 1 (nx 1 (nx 1 s))))),[]⟩,rfl,⟨⟨rfl,rfl,rfl,rfl,rfl,rfl,by simp,by simp,by have:=zg4 (n:=32) (l:=(nx 3 (nx 1 (nx 1 (nx 1 (nx 1 s))))).1) (sh:=(nx 3 (nx 1 (nx 1 (nx 1 (nx 1 s))))).2);show(tkT _ _ _).length<=_;omega,⟨.inl rfl,λs h=>by cases h⟩,(zaj _),(zaj _),(zaj _),(zaj _),⟨.inl rfl⟩⟩,aA,rfl⟩,ziF.has (x:=⟨⟨nB 1 (nx 1 s),nB 1 (nx 1 (nx 1 s)),3,0,0,0,0,nB 1 (nx 1 (nx 1 (nx 1 s))),nB 3 (nx 1 (nx 1 (nx 1 (nx 1 s)))),0,0,0,none,none,none,J,none,none,none,0,0,0,0,0,0,(tT 32 (nx 3 (nx 1 (nx 1 (nx 1 (nx 1 s)))))).length,L,0,0,0,0,0,0⟩,[],[],[],[],[],tT 32 (nx 3 (nx 1 (nx 1 (nx 1 (nx 1 s))))),[]⟩) ⟨(λ_ _ e=>by cases e),⟨(λ_ _ e=>by cases e),(λp r=>by cases r)⟩,⟨(λ_ _ e=>by cases e),(λp r=>by cases r)⟩,au,⟨(λ_ _ e=>by cases e),(λp r=>by cases r)⟩,⟨(λ_ _ e=>by cases e),(λp r=>by cases r)⟩,(λ_ _ e=>by cases e)⟩,?_,?_⟩
   .refine⟨?_,⟨⟨(by decide:(0:Nat)<=0),(by decide:(0:Nat)<=maxLen),(λ_=>rfl),(λ_=>rfl)⟩,(λ_=>rfl),(λ_=>rfl),(λ_=>rfl),(λ_=>rfl)⟩⟩;simp only[MV.c,pM,T.out];rfl
   .simp only[mS,T.out];exact ab
  refine kW_ ?O0 ?_;exact((c.setCell ⟨b,10,none⟩ (I_ (nB 1 (nx 1 (nx 1 (nx 1 s)))))).setCell ⟨b,11,none⟩ (I_ (nB 3 (nx 1 (nx 1 (nx 1 (nx 1 s))))))).setCell ⟨b,12,none⟩ (.slice J (tT 32 (nx 3 (nx 1 (nx 1 (nx 1 (nx 1 s)))))).length L);have z:Hid (∀q,q≠b->(?O0).heap[q]? = c.heap[q]?):=by
   show ∀_,_;intro q u;exact((hO_ _ ⟨b,12,none⟩ q _ u).trans ((hO_ _ ⟨b,11,none⟩ q _ u).trans ((hO_ _ ⟨b,10,none⟩ q _ u).trans (rfl:c.heap[q]? = c.heap[q]?))))
  have U:Hid ((?O0).heap.size=c.heap.size):=by show _=_;simp
  have y:Hid ((?O0).os=c.os/\(?O0).tape=c.tape/\(?O0).output=c.output):=⟨rfl,rfl,rfl⟩;go_upto_region 13 with fail
  generalize ?O0=VF at Y F z U y|-;clear d Z aR a0 aS a1 aT a2;go_wp2_with (first|refine wpList_load_row rfl 66 _ rfl b rfl 66 #[I_ (nB 1 (nx 1 s)),I_ (nB 1 (nx 1 (nx 1 s))),I_ 3,I_ 0,I_ 0,O_,I_ 0,I_ 0,O_,O_,I_ (nB 1 (nx 1 (nx 1 (nx 1 s)))),I_ (nB 3 (nx 1 (nx 1 (nx 1 (nx 1 s))))),.slice J (tT 32 (nx 3 (nx 1 (nx 1 (nx 1 (nx 1 s)))))).length L,I_ 0,I_ 0,O_,O_,O_,I_ 0] (0,0) _ Y underlying66 rfl sMsg' ?_|refine wpList_store_row rfl 66 _ _ rfl w.heap.size #[I_ (nB 1 (nx 1 s)),I_ (nB 1 (nx 1 (nx 1 s))),I_ 3,I_ 0,I_ 0,O_,I_ 0,I_ 0,O_,O_,I_ (nB 1 (nx 1 (nx 1 (nx 1 s)))),I_ (nB 3 (nx 1 (nx 1 (nx 1 (nx 1 s))))),.slice J (tT 32 (nx 3 (nx 1 (nx 1 (nx 1 (nx 1 s)))))).length L,I_ 0,I_ 0,O_,O_,O_,I_ 0] rfl rfl 66 _ F sMsg' rfl (by simp[Value.oneCell']) ?_)
  obtain⟨x,ag,ad,V,af,ae⟩:=HX.out;refine bP_ (v:=.agg #[I_ (nB 1 (nx 1 s)),I_ (nB 1 (nx 1 (nx 1 s))),I_ 3,I_ 0,I_ 0,O_,I_ 0,I_ 0,O_,O_,I_ (nB 1 (nx 1 (nx 1 (nx 1 s)))),I_ (nB 3 (nx 1 (nx 1 (nx 1 (nx 1 s))))),.slice J (tT 32 (nx 3 (nx 1 (nx 1 (nx 1 (nx 1 s)))))).length L,I_ 0,I_ 0,O_,O_,O_,I_ 0]) (results_cell_row (fn:=Tryz.f48) (p:=2) (ty:=66) rfl _ _ w.heap.size 66 _ (0,0) _ rfl (setRow_heap _ _ _ _ _ _ F) underlying66 rfl sMsg') rfl ⟨x,by rw[ag],?_,V.mono (λq A=>by omega),af,?_,?_⟩
  .refine ad.stays (G:=λq=>H.heap.size<=q) (λq A=>?_) V;exact(setRow_other _ w.heap.size q _ (by omega)).trans (z.out q (by omega))
  .refine zaw.stays ae (λq A=>?_);exact(setRow_other _ w.heap.size q _ (by omega)).trans (z.out q (by omega))
  .have t:=aq.trans aa;refine⟨y.out.1.trans t.os,y.out.2.1.trans t.tape,y.out.2.2.trans t.output,by have:=t.size;have:=U.out;simp[World.setRow];omega,λq A hn=>?_⟩;exact((setRow_other _ w.heap.size q _ (by omega)).trans (z.out q (by omega))).trans (t.block q A hn)
 .rw[B]at X c2|-;have T:Hid (nB 1 s=4):=B;clear B;go_wp2_with fail
  refine K_ (?Q0:St) ?_;exact nx 1 (nx 1 (nx 1 s));refine(zxp R ?Q0 H ar ah).mono ?_;rintro e c⟨f,m,bl,g,o,pl,M,N,O,u,av,an,ao,al,am,aB,au,ab,E,aw,ax⟩;have aj:Hid ((bl=[]->f=none)/\(pl=[]->g=none)):=⟨aw,ax⟩;clear aw ax;subst O;dsimp only;have d:=(E.block _ ai (by omega)).trans X;have Z:=(E.block _ (by omega) (by omega)).trans zM;have aa:=ap.trans E;have ac:w.heap.size≠b:=by omega
  have C:=ac;have aU:=zb d 13 (I_ 0) rfl;have a3:=zd d 13;have aV:=zb d 14 (I_ 0) rfl;have a4:=zd d 14;have aW:=zb d 15 (O_) rfl;have a5:=zd d 15;have aX:=zb d 16 (O_) rfl;have a6:=zd d 16;have aY:=zb d 17 (O_) rfl;have a7:=zd d 17;refine kV_ ?S0 ?_;exact Value.slice f bl.length m;refine kV_ ?T0 ?_;exact Value.slice g pl.length o;have Y:(((((c.setCell ⟨b,13,none⟩ (I_ (nB 1 ?Q0))).setCell ⟨b,14,none⟩ (I_ (nB 3 (nx 1 ?Q0)))).setCell ⟨b,15,none⟩ ?S0).setCell ⟨b,16,none⟩ ?T0).setCell ⟨b,17,none⟩ (.slice M (cN ?Q0) N)).heap[b]? = some (.cells #[I_ (nB 1 (nx 1 s)),I_ (nB 1 (nx 1 (nx 1 s))),I_ 4,I_ 0,I_ 0,O_,I_ 0,I_ 0,O_,O_,I_ 0,I_ 0,O_,I_ (nB 1 ?Q0),I_ (nB 3 (nx 1 ?Q0)),?S0,?T0,.slice M (cN ?Q0) N,I_ 0] 66 (0,0)):=by simpa using(hS_ _ _ 17 _ _ (.slice M (cN ?Q0) N) (hS_ _ _ 16 _ _ ?T0 (hS_ _ _ 15 _ _ ?S0 (hS_ _ _ 14 _ _ (I_ (nB 3 (nx 1 ?Q0))) (hS_ _ _ 13 _ _ (I_ (nB 1 ?Q0)) d)))))
  have F:=(zh (j:=17) (v:=.slice M (cN ?Q0) N) (zh (j:=16) (v:=.slice g pl.length o) (zh (j:=15) (v:=.slice f bl.length m) (zh (j:=14) (v:=I_ (nB 3 (nx 1 ?Q0))) (zh (j:=13) (v:=I_ (nB 1 ?Q0)) Z C) C) C) C) C);have HX:Hid (∃x:MV,(.agg (mrow_ x.m):Value)=.agg #[I_ (nB 1 (nx 1 s)),I_ (nB 1 (nx 1 (nx 1 s))),I_ 4,I_ 0,I_ 0,O_,I_ 0,I_ 0,O_,O_,I_ 0,I_ 0,O_,I_ (nB 1 (nx 1 (nx 1 (nx 1 s)))),I_ (nB 3 (nx 1 (nx 1 (nx 1 (nx 1 s))))),?S0,?T0,.slice M (cN (nx 1 (nx 1 (nx 1 s)))) N,I_ 0]/\MAt c x/\zbU (λq=>H.heap.size<=q) x/\CEq x s/\RdS c R (mS s)):=by
   refine⟨⟨⟨nB 1 (nx 1 s),nB 1 (nx 1 (nx 1 s)),4,0,0,0,0,0,0,nB 1 (nx 1 (nx 1 (nx 1 s))),nB 3 (nx 1 (nx 1 (nx 1 (nx 1 s)))),0,none,none,none,none,f,g,M,0,0,0,0,0,0,0,0,bl.length,m,pl.length,o,cN (nx 1 (nx 1 (nx 1 s))),N⟩,[],[],[],bl,pl,[],nV (nx 1 (hS4 (nx 1 (nx 1 (nx 1 s))))) (cN (nx 1 (nx 1 (nx 1 s))))⟩,rfl,⟨⟨rfl,rfl,rfl,rfl,rfl,(zmT _ _).symm,by simp,by rw[zmT];have:=aQ;omega,by simp,⟨.inl rfl,λs h=>by cases h⟩,(zaj _),(zaj _),an,ao,aB⟩,(zgD _),rfl⟩,ziF.has (x:=⟨⟨nB 1 (nx 1 s),nB 1 (nx 1 (nx 1 s)),4,0,0,0,0,0,0,nB 1 (nx 1 (nx 1 (nx 1 s))),nB 3 (nx 1 (nx 1 (nx 1 (nx 1 s)))),0,none,none,none,none,f,g,M,0,0,0,0,0,0,0,0,bl.length,m,pl.length,o,cN (nx 1 (nx 1 (nx 1 s))),N⟩,[],[],[],bl,pl,[],nV (nx 1 (hS4 (nx 1 (nx 1 (nx 1 s))))) (cN (nx 1 (nx 1 (nx 1 s))))⟩) ⟨(λ_ _ e=>by cases e),⟨(λ_ _ e=>by cases e),(λp r=>by cases r)⟩,⟨(λ_ _ e=>by cases e),(λp r=>by cases r)⟩,(λ_ _ e=>by cases e),al,am,au⟩,?_,?_⟩
   .refine⟨?_,⟨⟨(by decide:(0:Nat)<=0),(by decide:(0:Nat)<=maxLen),(λ_=>rfl),(λ_=>rfl)⟩,(λ_=>rfl),(λ_=>rfl),aj.out.1,aj.out.2⟩⟩;simp only[MV.c,pM,T.out,u,av];rfl
   .simp only[mS,T.out];exact ab
  clear u av an ao al am aB;refine kW_ ?R0 ?_;exact((((c.setCell ⟨b,13,none⟩ (I_ (nB 1 (nx 1 (nx 1 (nx 1 s)))))).setCell ⟨b,14,none⟩ (I_ (nB 3 (nx 1 (nx 1 (nx 1 (nx 1 s))))))).setCell ⟨b,15,none⟩ (.slice f bl.length m)).setCell ⟨b,16,none⟩ (.slice g pl.length o)).setCell ⟨b,17,none⟩ (.slice M (cN (nx 1 (nx 1 (nx 1 s)))) N);have z:Hid (∀q,q≠b->(?R0).heap[q]? = c.heap[q]?):=by
   show ∀_,_;intro q u;exact((hO_ _ ⟨b,17,none⟩ q _ u).trans ((hO_ _ ⟨b,16,none⟩ q _ u).trans ((hO_ _ ⟨b,15,none⟩ q _ u).trans ((hO_ _ ⟨b,14,none⟩ q _ u).trans ((hO_ _ ⟨b,13,none⟩ q _ u).trans (rfl:c.heap[q]? = c.heap[q]?))))))
  have U:Hid ((?R0).heap.size=c.heap.size):=by show _=_;simp
  have y:Hid ((?R0).os=c.os/\(?R0).tape=c.tape/\(?R0).output=c.output):=⟨rfl,rfl,rfl⟩;go_upto_region 13 with fail
  generalize ?R0=VF at Y F z U y|-;clear d Z aU a3 aV a4 aW a5 aX a6 aY a7;go_wp2_with (first|refine wpList_load_row rfl 66 _ rfl b rfl 66 #[I_ (nB 1 (nx 1 s)),I_ (nB 1 (nx 1 (nx 1 s))),I_ 4,I_ 0,I_ 0,O_,I_ 0,I_ 0,O_,O_,I_ 0,I_ 0,O_,I_ (nB 1 (nx 1 (nx 1 (nx 1 s)))),I_ (nB 3 (nx 1 (nx 1 (nx 1 (nx 1 s))))),?S0,?T0,.slice M (cN (nx 1 (nx 1 (nx 1 s)))) N,I_ 0] (0,0) _ Y underlying66 rfl sMsg' ?_|refine wpList_store_row rfl 66 _ _ rfl w.heap.size #[I_ (nB 1 (nx 1 s)),I_ (nB 1 (nx 1 (nx 1 s))),I_ 4,I_ 0,I_ 0,O_,I_ 0,I_ 0,O_,O_,I_ 0,I_ 0,O_,I_ (nB 1 (nx 1 (nx 1 (nx 1 s)))),I_ (nB 3 (nx 1 (nx 1 (nx 1 (nx 1 s))))),?S0,?T0,.slice M (cN (nx 1 (nx 1 (nx 1 s)))) N,I_ 0] rfl rfl 66 _ F sMsg' rfl (by simp[Value.oneCell']) ?_)
  obtain⟨x,ag,ad,V,af,ae⟩:=HX.out;refine bP_ (v:=.agg #[I_ (nB 1 (nx 1 s)),I_ (nB 1 (nx 1 (nx 1 s))),I_ 4,I_ 0,I_ 0,O_,I_ 0,I_ 0,O_,O_,I_ 0,I_ 0,O_,I_ (nB 1 (nx 1 (nx 1 (nx 1 s)))),I_ (nB 3 (nx 1 (nx 1 (nx 1 (nx 1 s))))),?S0,?T0,.slice M (cN (nx 1 (nx 1 (nx 1 s)))) N,I_ 0]) (results_cell_row (fn:=Tryz.f48) (p:=2) (ty:=66) rfl _ _ w.heap.size 66 _ (0,0) _ rfl (setRow_heap _ _ _ _ _ _ F) underlying66 rfl sMsg') rfl ⟨x,by rw[ag],?_,V.mono (λq A=>by omega),af,?_,?_⟩
  .refine ad.stays (G:=λq=>H.heap.size<=q) (λq A=>?_) V;exact(setRow_other _ w.heap.size q _ (by omega)).trans (z.out q (by omega))
  .refine zaw.stays ae (λq A=>?_);exact(setRow_other _ w.heap.size q _ (by omega)).trans (z.out q (by omega))
  .have t:=aq.trans aa;refine⟨y.out.1.trans t.os,y.out.2.1.trans t.tape,y.out.2.2.trans t.output,by have:=t.size;have:=U.out;simp[World.setRow];omega,λq A hn=>?_⟩;exact((setRow_other _ w.heap.size q _ (by omega)).trans (z.out q (by omega))).trans (t.block q A hn)
 .rw[B]at X c2|-;have T:Hid (nB 1 s=5):=B;clear B;go_wp2_with fail
  refine(ziB R (nx 1 (nx 1 (nx 1 s))) H ar ah).mono ?_;rintro _ c⟨rfl,ab,E⟩;dsimp only;have d:=(E.block _ ai (by omega)).trans X;have Z:=(E.block _ (by omega) (by omega)).trans zM;have aa:=ap.trans E;have ac:w.heap.size≠b:=by omega
  have C:=ac;have aZ:=zb d 18 (I_ 0) rfl;have a8:=zd d 18;refine K_ (?U0:Int) ?_;exact nB 3 (nx 1 (nx 1 (nx 1 s)));have Y:(c.setCell ⟨b,18,none⟩ (I_ ?U0)).heap[b]? = some (.cells #[I_ (nB 1 (nx 1 s)),I_ (nB 1 (nx 1 (nx 1 s))),I_ 5,I_ 0,I_ 0,O_,I_ 0,I_ 0,O_,O_,I_ 0,I_ 0,O_,I_ 0,I_ 0,O_,O_,O_,I_ ?U0] 66 (0,0)):=by simpa using(hS_ _ _ 18 _ _ (I_ ?U0) d)
  have F:=(zh (j:=18) (v:=I_ ?U0) Z C);have HX:Hid (∃x:MV,(.agg (mrow_ x.m):Value)=.agg #[I_ (nB 1 (nx 1 s)),I_ (nB 1 (nx 1 (nx 1 s))),I_ 5,I_ 0,I_ 0,O_,I_ 0,I_ 0,O_,O_,I_ 0,I_ 0,O_,I_ 0,I_ 0,O_,O_,O_,I_ (nB 3 (nx 1 (nx 1 (nx 1 s))))]/\MAt c x/\zbU (λq=>H.heap.size<=q) x/\CEq x s/\RdS c R (mS s)):=by
   refine⟨⟨⟨nB 1 (nx 1 s),nB 1 (nx 1 (nx 1 s)),5,0,0,0,0,0,0,0,0,nB 3 (nx 1 (nx 1 (nx 1 s))),none,none,none,none,none,none,none,0,0,0,0,0,0,0,0,0,0,0,0,0,0⟩,[],[],[],[],[],[],[]⟩,rfl,⟨⟨rfl,rfl,rfl,rfl,rfl,rfl,by simp,by simp,by simp,⟨.inl rfl,λs h=>by cases h⟩,(zaj _),(zaj _),(zaj _),(zaj _),⟨.inl rfl⟩⟩,(zgD _),rfl⟩,ziF.has (x:=⟨⟨nB 1 (nx 1 s),nB 1 (nx 1 (nx 1 s)),5,0,0,0,0,0,0,0,0,nB 3 (nx 1 (nx 1 (nx 1 s))),none,none,none,none,none,none,none,0,0,0,0,0,0,0,0,0,0,0,0,0,0⟩,[],[],[],[],[],[],[]⟩) ⟨(λ_ _ e=>by cases e),⟨(λ_ _ e=>by cases e),(λp r=>by cases r)⟩,⟨(λ_ _ e=>by cases e),(λp r=>by cases r)⟩,(λ_ _ e=>by cases e),⟨(λ_ _ e=>by cases e),(λp r=>by cases r)⟩,⟨(λ_ _ e=>by cases e),(λp r=>by cases r)⟩,(λ_ _ e=>by cases e)⟩,?_,?_⟩
   .refine⟨?_,⟨⟨(by decide:(0:Nat)<=0),(by decide:(0:Nat)<=maxLen),(λ_=>rfl),(λ_=>rfl)⟩,(λ_=>rfl),(λ_=>rfl),(λ_=>rfl),(λ_=>rfl)⟩⟩;simp only[MV.c,pM,T.out];rfl
   .simp only[mS,T.out];exact ab
  refine kW_ ?V0 ?_;exact c.setCell ⟨b,18,none⟩ (I_ (nB 3 (nx 1 (nx 1 (nx 1 s)))));have z:Hid (∀q,q≠b->(?V0).heap[q]? = c.heap[q]?):=by
   show ∀_,_;intro q u;exact((hO_ _ ⟨b,18,none⟩ q _ u).trans (rfl:c.heap[q]? = c.heap[q]?))
  have U:Hid ((?V0).heap.size=c.heap.size):=by show _=_;simp
  have y:Hid ((?V0).os=c.os/\(?V0).tape=c.tape/\(?V0).output=c.output):=⟨rfl,rfl,rfl⟩;go_upto_region 13 with fail
  generalize ?V0=VF at Y F z U y|-;clear d Z aZ a8;go_wp2_with (first|refine wpList_load_row rfl 66 _ rfl b rfl 66 #[I_ (nB 1 (nx 1 s)),I_ (nB 1 (nx 1 (nx 1 s))),I_ 5,I_ 0,I_ 0,O_,I_ 0,I_ 0,O_,O_,I_ 0,I_ 0,O_,I_ 0,I_ 0,O_,O_,O_,I_ (nB 3 (nx 1 (nx 1 (nx 1 s))))] (0,0) _ Y underlying66 rfl sMsg' ?_|refine wpList_store_row rfl 66 _ _ rfl w.heap.size #[I_ (nB 1 (nx 1 s)),I_ (nB 1 (nx 1 (nx 1 s))),I_ 5,I_ 0,I_ 0,O_,I_ 0,I_ 0,O_,O_,I_ 0,I_ 0,O_,I_ 0,I_ 0,O_,O_,O_,I_ (nB 3 (nx 1 (nx 1 (nx 1 s))))] rfl rfl 66 _ F sMsg' rfl (by simp[Value.oneCell']) ?_)
  obtain⟨x,ag,ad,V,af,ae⟩:=HX.out;refine bP_ (v:=.agg #[I_ (nB 1 (nx 1 s)),I_ (nB 1 (nx 1 (nx 1 s))),I_ 5,I_ 0,I_ 0,O_,I_ 0,I_ 0,O_,O_,I_ 0,I_ 0,O_,I_ 0,I_ 0,O_,O_,O_,I_ (nB 3 (nx 1 (nx 1 (nx 1 s))))]) (results_cell_row (fn:=Tryz.f48) (p:=2) (ty:=66) rfl _ _ w.heap.size 66 _ (0,0) _ rfl (setRow_heap _ _ _ _ _ _ F) underlying66 rfl sMsg') rfl ⟨x,by rw[ag],?_,V.mono (λq A=>by omega),af,?_,?_⟩
  .refine ad.stays (G:=λq=>H.heap.size<=q) (λq A=>?_) V;exact(setRow_other _ w.heap.size q _ (by omega)).trans (z.out q (by omega))
  .refine zaw.stays ae (λq A=>?_);exact(setRow_other _ w.heap.size q _ (by omega)).trans (z.out q (by omega))
  .have t:=aq.trans aa;refine⟨y.out.1.trans t.os,y.out.2.1.trans t.tape,y.out.2.2.trans t.output,by have:=t.size;have:=U.out;simp[World.setRow];omega,λq A hn=>?_⟩;exact((setRow_other _ w.heap.size q _ (by omega)).trans (z.out q (by omega))).trans (t.block q A hn)
structure zys (w w':World)(e:Ending)(bs:List Int):Prop where
 out:(zbt bs≠0/\e=.returned (.tuple #[.agg mz_,I_ (zbt bs)])\/zbt bs=0/\∃x:MV,e=.returned (.tuple #[.agg (mrow_ x.m),I_ 0])/\MAt w' x/\zbU (λq=>w.heap.size<=q) x/\CEq x (bs,false))
 below:B_ w w'
theorem zxq (bs:List Int)(T:Option Addr)(n r:Nat)(w:World)(hn:n=bs.length)(C:zg w T r bs)(E:zZ bs)(hl:bs.length<=140737488355328) :
  Calls prog 28 #[.slice T n r] w λe w'=>zys w w' e bs:=by
 subst hn;refine kO_ ?A0 ?_;exact Obj.cells mz_ 66;have d:=zC w ?A0;have c:=hN_ w ?A0;have D:w.heap.size<(w.alloc ?A0).heap.size:=ze c;by_cases h1:4000<bs.length
 .have g:Hid (zbt bs=1):=by show _=_;rw[zbt,if_pos h1]
  have aj:(4000:Int)<bs.length:=by omega
  go_in;go_upto_region 2 with fail
  generalize w.alloc ?A0=V at d c D|-;go_wp2_with (refine wpList_store_row rfl 66 _ _ rfl w.heap.size mz_ rfl rfl 66 _ c sMsg' rfl (by simp[Value.oneCell']) ?_)
  have b:=g.out;refine bP_ (v:=.tuple #[.agg mz_,I_ 1]) (zak (fn:=Tryz.f28) (p:=2) (q:=3) (ty:=66) rfl _ _ w.heap.size 66 _ (0,0) _ (I_ 1) ⟨rfl,rfl⟩ (setRow_heap _ _ _ _ _ _ c) underlying66 rfl sMsg') rfl ⟨.inl ⟨by rw[b];decide,by rw[b]⟩,(Upd.setRow c).below d d.size (nR_ _)⟩
 .have aj:¬(4000:Int)<bs.length:=by omega
  by_cases h2:bs=[]
  .have g:Hid (zbt bs=5):=by show _=_;rw[zbt,if_neg h1,if_pos h2]
   have ak:((bs.length:Int) == 0)=true:=by rw[h2];rfl
   clear h2 C E;go_in;go_upto_region 4 with fail
   generalize w.alloc ?A0=V at d c D|-;go_wp2_with (refine wpList_store_row rfl 66 _ _ rfl w.heap.size mz_ rfl rfl 66 _ c sMsg' rfl (by simp[Value.oneCell']) ?_)
   have b:=g.out;refine bP_ (v:=.tuple #[.agg mz_,I_ 5]) (zak (fn:=Tryz.f28) (p:=2) (q:=3) (ty:=66) rfl _ _ w.heap.size 66 _ (0,0) _ (I_ 5) ⟨rfl,rfl⟩ (setRow_heap _ _ _ _ _ _ c) underlying66 rfl sMsg') rfl ⟨.inl ⟨by rw[b];decide,by rw[b]⟩,(Upd.setRow c).below d d.size (nR_ _)⟩
  .have L:0<bs.length:=by cases bs with|nil=>exact absurd rfl h2|cons _ _=>simp
   have aw:(0:Int)<bs.length:=by omega
   have ak:((bs.length:Int) == 0)=false:=by simp;omega
   obtain⟨l,m,rfl,J⟩:∃l m,T=some ⟨l,m,none⟩/\∀j,j<bs.length->w.cell? ⟨l,m+j,none⟩=some (.int .u8 (bs.getD j 0)):=by
    rcases C.bytes with h|h
    .exact absurd h h2
    .exact h
   have aq:l<w.heap.size:=bL_ (J 0 L);have Y:(w.alloc ?A0).cell? ⟨l,m,none⟩=some (.int .u8 (bs.getD 0 0)):=(d.cell (p:=⟨l,m,none⟩) aq).trans (J 0 L);obtain⟨ay,az⟩:=E (bs.getD 0 0) (by simp[List.getD,L]);have hK:=zta h2;have ab:zbt bs=if ¬(1<=bs.getD 0 0/\bs.getD 0 0<=5)then 3 else if(mS (bs,false)).2=true then 5 else if(mS (bs,false)).1≠[]then 4 else 0:=by rw[zbt,if_neg h1,if_neg h2]
   have H:Hid _:=ab;have ar:Hid (bs≠[]):=h2;clear ab J h2;generalize hX:bs.getD 0 0=X at*;have ai:Hid (nB 1 (bs,false)=X):=hK;clear hK hX;by_cases hk:1<=X/\X<=5;refine kV_ ?B0 ?_;exact Value.slice (some ⟨l,m,none⟩) bs.length r
   .have z:decide (1<=X/\X<=5)=true:=dT_ hk;have G:Hid (∀W:World,Calls prog 47 #[I_ X] W λe w'=>e=.returned (.bool true)/\W=w'):=by
     show ∀_,_;intro W;exact zkB X true W z.symm
    have U:Hid (1<=X/\X<=5):=hk;clear z;obtain⟨au,av⟩:=hk;go_in;go_upto_region 8 with(go_at_call 47;refine(G.out _).mono ?_;rintro e w9⟨rfl,rfl⟩)
    have I:B_ w ((w.alloc ?A0).alloc (.cells #[?B0,.bool false] 102)):=d.alloc d.size _;have N:=hY_ w ?A0 (.cells #[?B0,.bool false] 102);have ah:=hX_ w ?A0 (.cells #[?B0,.bool false] 102);generalize (w.alloc ?A0).alloc (.cells #[?B0,.bool false] 102)=y at I N ah|-;have ad:RdS y (w.heap.size+1) (bs,false):=⟨some ⟨l,m,none⟩,r,N,C.below I,λaA aB e=>by cases e;exact⟨by omega,λ_=>by omega⟩⟩;have aa:=zr5 (w.heap.size+1) (bs,false) y ad ⟨by show bs.length<=_;omega,E⟩ (by rw[ai.out];exact U.out);have ax:w.heap.size+1<y.heap.size:=ze N;have u:Hid (zbt bs=if(mS (bs,false)).2=true then 5 else if(mS (bs,false)).1≠[]then 4 else 0):=by show _=_;rw[H.out,if_neg (λh=>h U.out)]
    clear ad Y H C E d c D;go_wp2_with fail
    refine aa.mono ?_;rintro e f⟨x,he,hM,Z,ae,ac,af⟩;subst he;dsimp only;clear aa;have z3:=(af.block _ (by omega) (by omega)).trans ah;obtain⟨la,lc,M,-,-⟩:=zaw.out ac;generalize (mS (bs,false)).1=F at*;generalize (mS (bs,false)).2=ag at*;have an:zaG (w.heap.size+1) w f:=(zbR I).trans af;have al:=an.below (B:=w.heap.size) (by omega) (nR_ _);have ao:w.heap.size+1<f.heap.size:=ze M;have O:=hN_ f ?A0;have s:B_ f ((f.alloc ?A0).setRow f.heap.size (mrow_ x.m)):=zbs f mz_ (mrow_ x.m) 66;have qM:=setRow_heap _ _ _ (mrow_ x.m) _ _ O;have o:=(s.block _ (by omega)).trans z3;have R:=(s.block _ ao).trans M;have A:Hid (MAt f x/\zbU (λq=>y.heap.size<=q) x/\CEq x (bs,false)):=⟨hM,Z,ae⟩;clear hM Z ae ac;go_upto_region 9 with(refine wpList_store_row rfl 66 _ _ rfl f.heap.size (mrow_ x.m) rfl rfl 66 _ O sMsg' rfl (by simp[Value.oneCell']) ?_)
    generalize (f.alloc ?A0).setRow f.heap.size (mrow_ x.m)=W4 at s qM o R|-;have t:=zm al s;have am:Hid (MAt W4 x):=A.out.1.below s;have s0:=zb R 0 (.slice la F.length lc) rfl;have s1:=zb R 1 (.bool ag) rfl;clear O z3 M s;cases ag with
    | true=>
     have g:Hid (zbt bs=5):=by show _=_;rw[u.out,if_pos rfl]
     go_wp2_with (refine wpList_store_row rfl 66 _ _ rfl w.heap.size mz_ rfl rfl 66 _ o sMsg' rfl (by simp[Value.oneCell']) ?_)
     have b:=g.out;refine bP_ (v:=.tuple #[.agg mz_,I_ 5]) (zak (fn:=Tryz.f28) (p:=2) (q:=3) (ty:=66) rfl _ _ w.heap.size 66 _ (0,0) _ (I_ 5) ⟨rfl,rfl⟩ (setRow_heap _ _ _ _ _ _ o) underlying66 rfl sMsg') rfl ⟨.inl ⟨by rw[b];decide,by rw[b]⟩,(Upd.setRow o).below t t.size (nR_ _)⟩
    | false=>
     by_cases hml:F=[]
     .have g:Hid (zbt bs=0):=by show _=_;rw[u.out,if_neg (by decide),if_neg (λh=>h hml)]
      have ap:¬(0:Int)<(F.length:Int):=by rw[hml];decide
      clear hml u;go_wp2_with (first|refine wpList_load_row rfl 66 _ rfl f.heap.size rfl 66 (mrow_ x.m) (0,0) _ qM underlying66 rfl sMsg' ?_|refine wpList_store_row rfl 66 _ _ rfl w.heap.size (mrow_ x.m) rfl rfl 66 _ o sMsg' rfl (by simp[Value.oneCell']) ?_)
      refine bP_ (v:=.tuple #[.agg (mrow_ x.m),I_ 0]) (zak (fn:=Tryz.f28) (p:=2) (q:=3) (ty:=66) rfl _ _ w.heap.size 66 _ (0,0) _ (I_ 0) ⟨rfl,rfl⟩ (setRow_heap _ _ _ _ _ _ o) underlying66 rfl sMsg') rfl ⟨.inr ⟨g.out,x,rfl,?_,A.out.2.1.mono (λq hq=>by omega),A.out.2.2⟩,(Upd.setRow o).below t t.size (nR_ _)⟩;exact am.out.setRow (B:=y.heap.size) A.out.2.1 (by omega)
     .have g:Hid (zbt bs=4):=by show _=_;rw[u.out,if_neg (by decide),if_pos hml]
      have ap:(0:Int)<(F.length:Int):=by have:=zdA hml;omega
      clear hml u;go_wp2_with (refine wpList_store_row rfl 66 _ _ rfl w.heap.size mz_ rfl rfl 66 _ o sMsg' rfl (by simp[Value.oneCell']) ?_)
      have b:=g.out;refine bP_ (v:=.tuple #[.agg mz_,I_ 4]) (zak (fn:=Tryz.f28) (p:=2) (q:=3) (ty:=66) rfl _ _ w.heap.size 66 _ (0,0) _ (I_ 4) ⟨rfl,rfl⟩ (setRow_heap _ _ _ _ _ _ o) underlying66 rfl sMsg') rfl ⟨.inl ⟨by rw[b];decide,by rw[b]⟩,(Upd.setRow o).below t t.size (nR_ _)⟩
   .have z:decide (1<=X/\X<=5)=false:=dF_ hk;have G:Hid (∀W:World,Calls prog 47 #[I_ X] W λe w'=>e=.returned (.bool false)/\W=w'):=by
     show ∀_,_;intro W;exact zkB X false W z.symm
    have g:Hid (zbt bs=3):=by show _=_;rw[H.out,if_pos hk]
    clear z hk;go_in;go_upto_region 6 with(go_at_call 47;refine(G.out _).mono ?_;rintro e w9⟨rfl,rfl⟩)
    generalize w.alloc ?A0=V at d c D Y|-;go_wp2_with (refine wpList_store_row rfl 66 _ _ rfl w.heap.size mz_ rfl rfl 66 _ c sMsg' rfl (by simp[Value.oneCell']) ?_)
    have b:=g.out;refine bP_ (v:=.tuple #[.agg mz_,I_ 3]) (zak (fn:=Tryz.f28) (p:=2) (q:=3) (ty:=66) rfl _ _ w.heap.size 66 _ (0,0) _ (I_ 3) ⟨rfl,rfl⟩ (setRow_heap _ _ _ _ _ _ c) underlying66 rfl sMsg') rfl ⟨.inl ⟨by rw[b];decide,by rw[b]⟩,(Upd.setRow c).below d d.size (nR_ _)⟩
structure zi6 (w w':World)(e:Ending)(bs:List Int):Prop where
 out:(zbt bs≠0/\e=.returned (.tuple #[.agg mz_,I_ (zbt bs)]))\/(zbt bs=0/\∃x:MV,CEq x (bs,false)/\MAt w' x/\zbU (λq=>w.heap.size<=q) x/\((zP x.m x.car=0/\e=.returned (.tuple #[.agg (mrow_ x.m),I_ 0]))\/(zP x.m x.car≠0/\e=.returned (.tuple #[.agg mz_,I_ (zP x.m x.car)]))))
 below:B_ w w'
theorem zj0 (bs:List Int)(L:Option Addr)(n B:Nat)(w:World)(hn:n=bs.length)(hs:zg w L B bs)(hu:zZ bs)(hl:bs.length<=140737488355328) :
  Calls prog 18 #[.slice L n B] w λe w'=>zi6 w w' e bs:=by
 refine kO_ ?A0 ?_;exact Obj.cells mz_ 66;have C:=zC w ?A0;have J:=hN_ w ?A0;have t:w.heap.size<(w.alloc ?A0).heap.size:=ze J;have G:=zxq bs L n B _ hn (hs.below C) hu hl;clear hn hs hu hl;go_in;go_wp2_with fail
 generalize w.alloc ?A0=W0 at C J t G|-;refine G.mono ?_;rintro e b⟨ac,Z⟩;clear G;have R:=zm C Z;have I:=(Z.block _ t).trans J;have H:w.heap.size<b.heap.size:=ze I;rcases ac with⟨f,l⟩|⟨f,x,l,X,V,hc⟩
 .subst l;dsimp only;have y:Hid (zbt bs≠0):=f;generalize U:zbt bs=F at*;have M:Hid (zbt bs=F):=U;clear U;have ad:(F == 0)=false:=by simp[f]
  have m:=hN_ b ?A0;have d:B_ b ((b.alloc ?A0).setRow b.heap.size mz_):=zbs b mz_ mz_ 66;have g:=(d.block _ H).trans I;go_upto_region 2 with(refine wpList_store_row rfl 66 _ _ rfl b.heap.size mz_ rfl rfl 66 _ m sMsg' rfl (by simp[Value.oneCell']) ?_)
  generalize (b.alloc ?A0).setRow b.heap.size mz_=A at d g|-;have o:=zm R d;go_wp2_with (refine wpList_store_row rfl 66 _ _ rfl w.heap.size mz_ rfl rfl 66 _ g sMsg' rfl (by simp[Value.oneCell']) ?_)
  exact bP_ (v:=.tuple #[.agg mz_,I_ F]) (zak (fn:=Tryz.f18) (p:=2) (q:=3) (ty:=66) rfl _ _ w.heap.size 66 _ (0,0) _ (I_ F) ⟨rfl,rfl⟩ (setRow_heap _ _ _ _ _ _ g) underlying66 rfl sMsg') rfl ⟨.inl ⟨by rw[M.out];exact y.out,by rw[M.out]⟩,(Upd.setRow g).below o o.size (nR_ _)⟩
 .subst l;dsimp only;have c:Hid (zbt bs=0/\MAt b x/\zbU (λq=>W0.heap.size<=q) x/\CEq x (bs,false)):=⟨f,X,V,hc⟩;clear f X V hc;have m:=hN_ b ?A0;have d:B_ b ((b.alloc ?A0).setRow b.heap.size (mrow_ x.m)):=zbs b mz_ (mrow_ x.m) 66;have u:=setRow_heap _ _ _ (mrow_ x.m) _ _ m;have g:=(d.block _ H).trans I;go_upto_region 2 with(refine wpList_store_row rfl 66 _ _ rfl b.heap.size (mrow_ x.m) rfl rfl 66 _ m sMsg' rfl (by simp[Value.oneCell']) ?_)
  generalize (b.alloc ?A0).setRow b.heap.size (mrow_ x.m)=A at d u g|-;have o:=zm R d;have E:=c.out.2.1.below d;have D:=zjT x.m x.ss x.bl x.pl x.cbl x.cpl x.vl A E.at';have T:zP x.m (zD x.m x.ss x.bl x.pl x.cbl x.cpl x.vl)=zP x.m x.car:=rfl;rw[T]at D;have aa:Hid (MAt A x):=E;clear E T m;generalize ab:b.heap.size=O at u H|-;clear ab;go_wp2_with (refine wpList_load_row rfl 66 _ rfl O rfl 66 (mrow_ x.m) (0,0) _ u underlying66 rfl sMsg' ?_)
  refine D.mono ?_;rintro _ w5⟨rfl,s⟩;dsimp only;clear D;have q5:=zk s u;have j:=zk s g;have r:=zm o s;have N:Hid (MAt w5 x):=aa.out.below s;generalize Y:zP x.m x.car=F at*;have z:Hid (zP x.m x.car=F):=Y;clear Y;by_cases f:F=0
  .subst f;go_wp2_with (first|refine wpList_load_row rfl 66 _ rfl O rfl 66 (mrow_ x.m) (0,0) _ q5 underlying66 rfl sMsg' ?_|refine wpList_store_row rfl 66 _ _ rfl w.heap.size (mrow_ x.m) rfl rfl 66 _ j sMsg' rfl (by simp[Value.oneCell']) ?_)
   exact bP_ (v:=.tuple #[.agg (mrow_ x.m),I_ 0]) (zak (fn:=Tryz.f18) (p:=2) (q:=3) (ty:=66) rfl _ _ w.heap.size 66 _ (0,0) _ (I_ 0) ⟨rfl,rfl⟩ (setRow_heap _ _ _ _ _ _ j) underlying66 rfl sMsg') rfl ⟨.inr ⟨c.out.1,x,c.out.2.2.2,N.out.setRow c.out.2.2.1 t,c.out.2.2.1.mono (λq hq=>by omega),.inl ⟨z.out,rfl⟩⟩,(Upd.setRow j).below r r.size (nR_ _)⟩
  .have y:Hid (F≠0):=f;go_wp2_with (refine wpList_store_row rfl 66 _ _ rfl w.heap.size mz_ rfl rfl 66 _ j sMsg' rfl (by simp[Value.oneCell']) ?_)
   refine bP_ (v:=.tuple #[.agg mz_,I_ F]) (zak (fn:=Tryz.f18) (p:=2) (q:=3) (ty:=66) rfl _ _ w.heap.size 66 _ (0,0) _ (I_ F) ⟨rfl,rfl⟩ (setRow_heap _ _ _ _ _ _ j) underlying66 rfl sMsg') rfl ⟨.inr ⟨c.out.1,x,c.out.2.2.2,N.out.setRow c.out.2.2.1 t,c.out.2.2.1.mono (λq hq=>by omega),.inr ⟨?_,?_⟩⟩,(Upd.setRow j).below r r.size (nR_ _)⟩
   .rw[z.out];exact y.out
   .rw[z.out]
variable {w w':World}{bs:List Int}
theorem zi6.dec {e:Ending}(h:zi6 w w' e bs):zwG w w' e bs:=by
 refine⟨?_,h.below⟩;rcases h.out with g|⟨b,x,c,d⟩
 .exact .inl g
 .exact .inr ⟨b,x,c.1,d⟩
theorem zo0 {e:Ending}(h:zi6 w w' e bs)(p:zZ bs) :
  (∃F:Int,F≠0/\e=.returned (.tuple #[.agg mz_,I_ F]))\/∃y:MV,MAt w' y/\zbU (λq=>w.heap.size<=q) y/\zP y.m y.car=0/\y.bytes=bs/\e=.returned (.tuple #[.agg (mrow_ y.m),I_ 0])/\zhr y:=by
 rcases h.out with⟨b,c⟩|⟨b,y,f,l,m,r⟩
 .exact .inl ⟨_,b,c⟩
 .rcases r with⟨d,c⟩|⟨d,c⟩
  .refine .inr ⟨y,l,m,d,?_,c,f.2⟩;have o:mS (bs,false)=([],false):=by
    unfold zbt at b
    split at b
    .cases b
    .split at b
     .cases b
     .split at b
      .cases b
      .split at b
       .cases b
       .rename_i j
        split at b
        .cases b
        .rename_i g
         refine Prod.ext ?_ ?_
         .exact Decidable.not_not.1 g
         .exact eq_false_of_ne_true j
   exact zyk d p o f.1
  .exact .inl ⟨_,d,c⟩
structure zmD (w w':World)(e:Ending)(bs:List Int):Prop where
 out:(e=.returned (.tuple #[.agg mz_,I_ 0])/\zcS bs)\/∃(y:MV) (r:List Int),bs=y.onTape++r/\MAt w' y/\zbU (λq=>w.heap.size<=q) y/\(zaT y/\zhr y)/\e=.returned (.tuple #[.agg (mrow_ y.m),I_ (y.onTape.length:Int)])
 below:B_ w w'
theorem zo1 (bs:List Int)(sa:Option Addr)(n ak:Nat)(w:World)(hn:n=bs.length)(hs:zg w sa ak bs)(hu:zZ bs)(hl:bs.length<=400000) :
  Calls prog 155 #[.slice sa n ak] w λe w'=>zmD w w' e bs:=by
 refine kO_ ?A0 ?_;exact Obj.cells mz_ 66;have U:=zC w ?A0;have q0:=hN_ w ?A0;by_cases f:n<2;refine kA_ ?B0 ?_;exact(#[.agg mz_,I_ 0]:Array Value)
 .have C:Hid (zcS bs):=by
   show zcS bs;intro w0 x r _ _ e;have:=(zet e).2.2.1;omega
  have aK:(n:Int)<2:=by omega
  clear hs hu hn hl;go_in;go_upto_region 2 with fail
  generalize w.alloc ?A0=W0 at U q0|-;go_wp2_with (refine wpList_store_row rfl 66 _ _ rfl w.heap.size mz_ rfl rfl 66 _ q0 sMsg' rfl (by simp[Value.oneCell']) ?_)
  exact bP_ (v:=.tuple ?B0) (zak (fn:=Tryz.f155) (p:=2) (q:=3) (ty:=66) rfl _ _ w.heap.size 66 _ (0,0) _ (I_ 0) ⟨rfl,rfl⟩ (setRow_heap _ _ _ _ _ _ q0) underlying66 rfl sMsg') rfl ⟨.inl ⟨rfl,C.out⟩,(Upd.setRow q0).below U U.size (nR_ _)⟩
 .obtain⟨b0,an⟩:∃b,bs.getD 0 0=b:=⟨_,rfl⟩;obtain⟨b1,ao⟩:∃b,bs.getD 1 0=b:=⟨_,rfl⟩;obtain⟨sb,so,rfl,hc⟩:∃sb so,sa=some ⟨sb,so,none⟩/\∀j,j<bs.length->w.cell? ⟨sb,so+j,none⟩=some (.int .u8 (bs.getD j 0)):=by
   rcases hs.bytes with h|h
   .subst h;simp at hn;omega
   .exact h
  have c0:=hc 0 (by omega);have c1:=hc 1 (by omega);rw[an]at c0;rw[ao]at c1;have aK:¬((n:Int)<2):=by omega
  have aV:(0:Int)<n:=by omega
  have aW:(1:Int)<n:=by omega
  go_in;go_upto_region 3 with fail
  have d0:(w.alloc ?A0).cell? ⟨sb,so,none⟩=some (.int .u8 b0):=(cB_ (U.block sb (bL_ c0))).trans c0;have d1:=(cB_ (U.block sb (bL_ c1))).trans c1;have aC:=hs.below U;have aQ:=hu b0 (by rw[<-an];exact znh (by omega));have aR:=hu b1 (by rw[<-ao];exact znh (by omega));clear c0 c1 hc;generalize w.alloc ?A0=W0 at U q0 d0 d1 aC|-;obtain⟨L,hL⟩:∃L:Nat,b0*256+b1=L:=⟨(b0*256+b1).toNat,by omega⟩;have ar:2+b0*256+b1=((2+L:Nat):Int):=by omega
  have HF:Hid (∀(x:MV) (r:List Int),bs=x.onTape++r->x.bytes.length=L/\2+L<=n/\(bs.drop 2).take L=x.bytes):=by
   show ∀_,_;intro x r e;obtain⟨f1,f2,f3,f4⟩:=zet e;have aB:x.bytes.length=L:=by omega
   rw[aB]at f4;exact⟨aB,by omega,f4⟩
  obtain⟨E,hE⟩:∃E:Nat,2+L=E:=⟨_,rfl⟩;rw[hE]at ar;have aE:Hid _:=ar;have aF:Hid _:=hs;have aG:Hid _:=hu;have Hn:Hid _:=hn;clear ar hs hu hn;go_cut [4] (λv J=>v=I_ (E:Int)/\B_ w J/\R_ J w.heap.size mz_ 66)
  case first=>
   go_region
   all_goals
    go_wp2_with fail
    go_meet
    case rel=>exact⟨by rw[<-aE.out],U.drew,q0⟩
  case rest=>
   obtain⟨rfl,ab,q2⟩:=hcut;clear U q0 d0 d1 aC;have ae:=aF.out.below ab;have hu:=aG.out;have hn:=Hn.out;generalize wc=M at ab q2 ae|-;apply_assumption;by_cases hEn:n<E
   .have aA:(n:Int)<E:=by omega
    have C:Hid (zcS bs):=by
     show zcS bs;intro w0 x r _ _ e;have:=(HF.out x r e).2.1;omega
    clear hu ae;go_wp2_with (refine wpList_store_row rfl 66 _ _ rfl w.heap.size mz_ rfl rfl 66 _ q2 sMsg' rfl (by simp[Value.oneCell']) ?_)
    exact bP_ (v:=.tuple ?B0) (zak (fn:=Tryz.f155) (p:=2) (q:=3) (ty:=66) rfl _ _ w.heap.size 66 _ (0,0) _ (I_ 0) ⟨rfl,rfl⟩ (setRow_heap _ _ _ _ _ _ q2) underlying66 rfl sMsg') rfl ⟨.inl ⟨rfl,C.out⟩,(Upd.setRow q2).below ab ab.size (nR_ _)⟩
   .have aA:¬((n:Int)<E):=by omega
    have aP:=ae.le;have aO:(E:Int)<=ak:=by omega
    have aJ:(2:Int)<=E:=by omega
    have ay:=(zjw (n:=2) ae (by omega)).takeR L L (by rw[List.length_drop];omega) (nR_ _) (by omega) (λe=>by cases e);have az:E=2->zg M (some ⟨sb,so,none⟩) L ((bs.drop 2).take L):=by
     intro h;have aM:L=0:=by omega
     rw[aM];exact ae.takeR 0 0 (nZ_ _) (nR_ _) (nZ_ _) (λe=>by cases e)
    have al:((bs.drop 2).take L).length=L:=by rw[lT9_,List.length_drop];omega
    have am:zZ ((bs.drop 2).take L):=λz hz=>hu z (List.mem_of_mem_drop (List.mem_of_mem_take hz));have hB:Hid (∀y:MV,y.bytes=(bs.drop 2).take L->bs=y.onTape++bs.drop E/\(y.onTape.length:Int)=E):=by
     show ∀_,_;intro y hy;have aD:y.bytes.length=L:=by rw[hy,al]
     have hb:bs=b0::b1::bs.drop 2:=by
      match bs,an,ao,hn with
      | a::b::l,e1,e2,_=>
       have aH:a=b0:=e1;have aI:b=b1:=e2;rw[aH,aI];rfl
      | [],_,_,h9=>simp at h9;omega
      | [_],_,_,h9=>simp at h9;omega
     have hd:bs.drop E=(bs.drop 2).drop L:=by rw[List.drop_drop];congr 1;omega
     constructor
     .rw[MV.onTape,aD,hd,hy,List.append_assoc,List.take_append_drop];rw[show(L:Int) / 256=b0 by omega,show(L:Int) % 256=b1 by omega];exact hb
     .rw[MV.onTape,lP_,aD]
      simp
      omega
    have av:Hid (Calls prog 18 #[.slice (some ⟨sb,so+2,none⟩) (E-2) (E-2)] M λe w'=>zi6 M w' e ((bs.drop 2).take L)):=by
     show Calls _ _ _ _ _;rw[show E-2=L by omega];exact zj0 _ _ L L M al.symm ay am (by omega)
    have aw:Hid (E=2->Calls prog 18 #[.slice (some ⟨sb,so,none⟩) 0 0] M λe w'=>zi6 M w' e ((bs.drop 2).take L)):=λh=>by
     have h9:=zj0 _ _ L L M al.symm (az h) am (by omega);rw[show L=0 by omega]at h9|-;exact h9
    have ax:Hid _:=am;have HE:Hid _:=hE;clear al an ao ay az ae hu am hL aQ aR;rcases(by omega:E=2\/2<E)with hE2|hE2
    .subst hE2;have HD:Hid _:=aw.out rfl;have aX:¬((n:Int)<2):=by omega
     have aU:(2:Int)<=ak:=by omega
     clear av aw HE aA aO aJ hEn aP hn hE;go_upto_region 6 with fail
     go_cut [5,6] (λx v J=>∃A:Nat,x=(P_ A 0)/\B_ w J/\R_ J w.heap.size mz_ 66/\((∃F:Int,F≠0/\v=I_ F/\Hid (zcS bs))\/∃y:MV,v=I_ 0/\MAt J y/\zbU (λq=>M.heap.size<=q) y/\zP y.m y.car=0/\y.bytes=(bs.drop 2).take L/\R_ J A (mrow_ y.m) 66/\zhr y))
     case first=>
      clear hB;go_wp2_with fail
      refine Calls.mono (HD.out) ?_
      all_goals
       intro e c H;have ah:=H.below;have af:=zm ab ah;have z3:=zk ah q2;have HX:Hid (∀(w0:World) (x:MV) (r:List Int),MAt w0 x->zaT x->bs=x.onTape++r->(bs.drop 2).take L=x.bytes/\∃m:Msg,e=.returned (.tuple #[.agg (mrow_ m),I_ 0])):=by
        show ∀_,_;intro w0 x r t f u;have g:=(HF.out x r u).2.2;rw[g]at H;obtain⟨y,_,_,_,s,_⟩:=zoS t f.check H.dec;exact⟨g,y.m,s⟩
       rcases zo0 H ax.out with⟨F,X,s⟩|⟨y,hY,Y,G,N,s,ad⟩
       .have C:Hid (zcS bs):=by
         show zcS bs;intro w0 x r t f u;obtain⟨_,m,g⟩:=HX.out w0 x r t f u;rw[s]at g
         simp at g
         exact X g.2
        clear H HX;subst s;dsimp only;have T:=hN_ c ?A0;have D:B_ c ((c.alloc ?A0).setRow c.heap.size mz_):=zbs c mz_ mz_ 66;have O:=setRow_heap _ _ _ mz_ _ _ T;have d:=zk D z3;have o:=zm af D;go_wp2_with (refine wpList_store_row rfl 66 _ _ rfl c.heap.size mz_ rfl rfl 66 _ T sMsg' rfl (by simp[Value.oneCell']) ?_)
        go_meet
        case rel=>exact⟨c.heap.size,rfl,o,d,.inl ⟨F,X,rfl,C⟩⟩
       .clear H HX;subst s;dsimp only;have Z:=hY;have T:=hN_ c ?A0;have D:B_ c ((c.alloc ?A0).setRow c.heap.size (mrow_ y.m)):=zbs c mz_ (mrow_ y.m) 66;have O:=setRow_heap _ _ _ (mrow_ y.m) _ _ T;have d:=zk D z3;have o:=zm af D;go_wp2_with (refine wpList_store_row rfl 66 _ _ rfl c.heap.size (mrow_ y.m) rfl rfl 66 _ T sMsg' rfl (by simp[Value.oneCell']) ?_)
        go_meet
        case rel=>exact⟨c.heap.size,rfl,o,d,.inr ⟨y,rfl,hY.below D,Y,G,N,O,ad⟩⟩
     case rest=>
      obtain⟨A,rfl,o,d,h⟩:=hcut;generalize wc=W4 at o d h|-;apply_assumption;rcases h with⟨F,X,rfl,C⟩|⟨y,rfl,Z,Y,G,N,O,ad⟩
      .have aL:(F != 0)=true:=by simp[X]
       clear hB;go_wp2_with (refine wpList_store_row rfl 66 _ _ rfl w.heap.size mz_ rfl rfl 66 _ d sMsg' rfl (by simp[Value.oneCell']) ?_)
       exact bP_ (v:=.tuple ?B0) (zak (fn:=Tryz.f155) (p:=2) (q:=3) (ty:=66) rfl _ _ w.heap.size 66 _ (0,0) _ (I_ 0) ⟨rfl,rfl⟩ (setRow_heap _ _ _ _ _ _ d) underlying66 rfl sMsg') rfl ⟨.inl ⟨rfl,C.out⟩,(Upd.setRow d).below o o.size (nR_ _)⟩
      .obtain⟨ai,aj⟩:=hB.out y N;have ac:=zgI y.m y.ss y.bl y.pl y.cbl y.cpl y.vl W4 Z.at';have ag:zP y.m (zD y.m y.ss y.bl y.pl y.cbl y.cpl y.vl)=0:=G;rw[ag]at ac;have HR:Hid (∀(w0:World) (x:MV) (r:List Int),MAt w0 x->zaT x->bs=x.onTape++r->zcO y.m 0=0):=by
        show ∀_,_;intro w0 x r t f u;have g:=(HF.out x r u).2.2;rw[zt2 (zoU t Z f.check G (N.trans g))];exact zq3 f
       have HI:Hid (zcO y.m 0=0->zaT y):=zt1 G;have ap:Hid _:=ai;have aq:Hid _:=aj;clear ai aj N G ag hB;generalize zcO y.m 0=R at*;go_wp2_with (refine zfb rfl 66 _ rfl A rfl 66 (mrow_ y.m) (0,0) _ O underlying66 rfl sMsg' ?_)
       refine ac.mono ?_;rintro e w5⟨s,aa⟩;clear ac;subst s;dsimp only;have V:=zm o aa;have I:=zk aa d;have q5:=zk aa O;have au:=Z.below aa;by_cases hR:R=0
       .have hI:Hid (zaT y):=HI.out hR;subst hR;go_wp2_with (first|refine wpList_load_row rfl 66 _ rfl A rfl 66 (mrow_ y.m) (0,0) _ q5 underlying66 rfl sMsg' ?_|refine wpList_store_row rfl 66 _ _ rfl w.heap.size (mrow_ y.m) rfl rfl 66 _ I sMsg' rfl (by simp[Value.oneCell']) ?_)
        exact bP_ (v:=.tuple #[.agg (mrow_ y.m),I_ ((2:Nat):Int)]) (zak (fn:=Tryz.f155) (p:=2) (q:=3) (ty:=66) rfl _ _ w.heap.size 66 _ (0,0) _ (I_ ((2:Nat):Int)) ⟨rfl,rfl⟩ (setRow_heap _ _ _ _ _ _ I) underlying66 rfl sMsg') rfl ⟨.inr ⟨y,bs.drop 2,ap.out,au.setRow (B:=M.heap.size) Y (ze q2),Y.mono (λq hq=>nT_ ab.size hq),⟨hI.out,ad⟩,by rw[aq.out]⟩,(Upd.setRow I).below V V.size (nR_ _)⟩
       .have C:Hid (zcS bs):=by
         show zcS bs;intro w0 x r t f u;exact hR (HR.out w0 x r t f u)
        have aN:(R != 0)=true:=by simp[hR]
        go_wp2_with (refine wpList_store_row rfl 66 _ _ rfl w.heap.size mz_ rfl rfl 66 _ I sMsg' rfl (by simp[Value.oneCell']) ?_)
        exact bP_ (v:=.tuple ?B0) (zak (fn:=Tryz.f155) (p:=2) (q:=3) (ty:=66) rfl _ _ w.heap.size 66 _ (0,0) _ (I_ 0) ⟨rfl,rfl⟩ (setRow_heap _ _ _ _ _ _ I) underlying66 rfl sMsg') rfl ⟨.inl ⟨rfl,C.out⟩,(Upd.setRow I).below V V.size (nR_ _)⟩
    .have aS:(2:Int)<E:=by omega
     have aT:¬E=2:=by omega
     clear hn hE;go_upto_region 6 with fail
     go_cut [5,6] (λx v J=>∃A:Nat,x=(P_ A 0)/\B_ w J/\R_ J w.heap.size mz_ 66/\((∃F:Int,F≠0/\v=I_ F/\Hid (zcS bs))\/∃y:MV,v=I_ 0/\MAt J y/\zbU (λq=>M.heap.size<=q) y/\zP y.m y.car=0/\y.bytes=(bs.drop 2).take L/\R_ J A (mrow_ y.m) 66/\zhr y))
     case first=>
      clear hB;go_wp2_with fail
      refine Calls.mono (av.out) ?_
      all_goals
       intro e c H;have ah:=H.below;have af:=zm ab ah;have z3:=zk ah q2;have HX:Hid (∀(w0:World) (x:MV) (r:List Int),MAt w0 x->zaT x->bs=x.onTape++r->(bs.drop 2).take L=x.bytes/\∃m:Msg,e=.returned (.tuple #[.agg (mrow_ m),I_ 0])):=by
        show ∀_,_;intro w0 x r t f u;have g:=(HF.out x r u).2.2;rw[g]at H;obtain⟨y,_,_,_,s,_⟩:=zoS t f.check H.dec;exact⟨g,y.m,s⟩
       rcases zo0 H ax.out with⟨F,X,s⟩|⟨y,hY,Y,G,N,s,ad⟩
       .have C:Hid (zcS bs):=by
         show zcS bs;intro w0 x r t f u;obtain⟨_,m,g⟩:=HX.out w0 x r t f u;rw[s]at g
         simp at g
         exact X g.2
        clear H HX;subst s;dsimp only;have T:=hN_ c ?A0;have D:B_ c ((c.alloc ?A0).setRow c.heap.size mz_):=zbs c mz_ mz_ 66;have O:=setRow_heap _ _ _ mz_ _ _ T;have d:=zk D z3;have o:=zm af D;go_wp2_with (refine wpList_store_row rfl 66 _ _ rfl c.heap.size mz_ rfl rfl 66 _ T sMsg' rfl (by simp[Value.oneCell']) ?_)
        go_meet
        case rel=>exact⟨c.heap.size,rfl,o,d,.inl ⟨F,X,rfl,C⟩⟩
       .clear H HX;subst s;dsimp only;have Z:=hY;have T:=hN_ c ?A0;have D:B_ c ((c.alloc ?A0).setRow c.heap.size (mrow_ y.m)):=zbs c mz_ (mrow_ y.m) 66;have O:=setRow_heap _ _ _ (mrow_ y.m) _ _ T;have d:=zk D z3;have o:=zm af D;go_wp2_with (refine wpList_store_row rfl 66 _ _ rfl c.heap.size (mrow_ y.m) rfl rfl 66 _ T sMsg' rfl (by simp[Value.oneCell']) ?_)
        go_meet
        case rel=>exact⟨c.heap.size,rfl,o,d,.inr ⟨y,rfl,hY.below D,Y,G,N,O,ad⟩⟩
     case rest=>
      obtain⟨A,rfl,o,d,h⟩:=hcut;generalize wc=W4 at o d h|-;apply_assumption;rcases h with⟨F,X,rfl,C⟩|⟨y,rfl,Z,Y,G,N,O,ad⟩
      .have aL:(F != 0)=true:=by simp[X]
       clear hB;go_wp2_with (refine wpList_store_row rfl 66 _ _ rfl w.heap.size mz_ rfl rfl 66 _ d sMsg' rfl (by simp[Value.oneCell']) ?_)
       exact bP_ (v:=.tuple ?B0) (zak (fn:=Tryz.f155) (p:=2) (q:=3) (ty:=66) rfl _ _ w.heap.size 66 _ (0,0) _ (I_ 0) ⟨rfl,rfl⟩ (setRow_heap _ _ _ _ _ _ d) underlying66 rfl sMsg') rfl ⟨.inl ⟨rfl,C.out⟩,(Upd.setRow d).below o o.size (nR_ _)⟩
      .obtain⟨ai,aj⟩:=hB.out y N;have ac:=zgI y.m y.ss y.bl y.pl y.cbl y.cpl y.vl W4 Z.at';have ag:zP y.m (zD y.m y.ss y.bl y.pl y.cbl y.cpl y.vl)=0:=G;rw[ag]at ac;have HR:Hid (∀(w0:World) (x:MV) (r:List Int),MAt w0 x->zaT x->bs=x.onTape++r->zcO y.m 0=0):=by
        show ∀_,_;intro w0 x r t f u;have g:=(HF.out x r u).2.2;rw[zt2 (zoU t Z f.check G (N.trans g))];exact zq3 f
       have HI:Hid (zcO y.m 0=0->zaT y):=zt1 G;have ap:Hid _:=ai;have aq:Hid _:=aj;clear ai aj N G ag hB;generalize zcO y.m 0=R at*;go_wp2_with (refine zfb rfl 66 _ rfl A rfl 66 (mrow_ y.m) (0,0) _ O underlying66 rfl sMsg' ?_)
       refine ac.mono ?_;rintro e w5⟨s,aa⟩;clear ac;subst s;dsimp only;have V:=zm o aa;have I:=zk aa d;have q5:=zk aa O;have au:=Z.below aa;by_cases hR:R=0
       .have hI:Hid (zaT y):=HI.out hR;subst hR;go_wp2_with (first|refine wpList_load_row rfl 66 _ rfl A rfl 66 (mrow_ y.m) (0,0) _ q5 underlying66 rfl sMsg' ?_|refine wpList_store_row rfl 66 _ _ rfl w.heap.size (mrow_ y.m) rfl rfl 66 _ I sMsg' rfl (by simp[Value.oneCell']) ?_)
        exact bP_ (v:=.tuple #[.agg (mrow_ y.m),I_ (E:Int)]) (zak (fn:=Tryz.f155) (p:=2) (q:=3) (ty:=66) rfl _ _ w.heap.size 66 _ (0,0) _ (I_ (E:Int)) ⟨rfl,rfl⟩ (setRow_heap _ _ _ _ _ _ I) underlying66 rfl sMsg') rfl ⟨.inr ⟨y,bs.drop E,ap.out,au.setRow (B:=M.heap.size) Y (ze q2),Y.mono (λq hq=>nT_ ab.size hq),⟨hI.out,ad⟩,by rw[aq.out]⟩,(Upd.setRow I).below V V.size (nR_ _)⟩
       .have C:Hid (zcS bs):=by
         show zcS bs;intro w0 x r t f u;exact hR (HR.out w0 x r t f u)
        have aN:(R != 0)=true:=by simp[hR]
        go_wp2_with (refine wpList_store_row rfl 66 _ _ rfl w.heap.size mz_ rfl rfl 66 _ I sMsg' rfl (by simp[Value.oneCell']) ?_)
        exact bP_ (v:=.tuple ?B0) (zak (fn:=Tryz.f155) (p:=2) (q:=3) (ty:=66) rfl _ _ w.heap.size 66 _ (0,0) _ (I_ 0) ⟨rfl,rfl⟩ (setRow_heap _ _ _ _ _ _ I) underlying66 rfl sMsg') rfl ⟨.inl ⟨rfl,C.out⟩,(Upd.setRow I).below V V.size (nR_ _)⟩
structure zze (w w':World)(e:Ending)(bs:List Int)(sy:Int):Prop where
 out:(zbO bs.length sy=false/\e=.returned (.tuple #[O_,.agg #[O_,I_ 0],I_ 12]))\/(zbO bs.length sy=true/\∃(v:Value) (ys:List MV) (r:List Int) (ra:Option Addr) (rc:Nat),(∀y∈ys,zhr y)/\bs=zam ys++r/\zcS r/\w'.ownsRow w.heap.size 66 19 v ys.length (zY ys)/\zda w' w.heap.size v ys/\zg w' ra rc (zam ys)/\(∀sb so,ra=some ⟨sb,so,none⟩->w.heap.size<=sb/\sb<w'.heap.size)/\e=.returned (.tuple #[v,.agg #[.slice ra (zam ys).length rc,I_ (min sy (zam ys).length)],I_ 0]))
 below:B_ w w'
theorem zr6 (bs:List Int)(m:Option Addr)(n c:Nat)(sy:Int)(w:World)(hn:n=bs.length)(hs:zg w m c bs)(hu:zZ bs)(hl:bs.length<=140737488355328) :
  Calls prog 116 #[.agg #[.slice m n c,I_ sy]] w λe w'=>zze w w' e bs sy:=by
 subst hn;obtain⟨i,hi,aI,aJ,aK⟩:=info_parts zkn;refine kA_ ?A0 ?_;exact(#[.slice m bs.length c,I_ sy]:Array Value);refine kO_ ?B0 ?_;exact Obj.cells #[O_,I_ 0] 114;refine kW_ ?C0 ?_;exact w.alloc (.cells ?A0 114);have Z:B_ w ((?C0).alloc ?B0):=((bR_ _ _).alloc (nR_ _) _).alloc (by simp) _;have r0:=hX_ w (.cells ?A0 114) ?B0;have r1:=hY_ w (.cells ?A0 114) ?B0;have T:=zhG m bs.length c sy ((?C0).alloc ?B0) hl;cases ht:zbO bs.length sy with
 | false=>
  have hF:Hid (zbO bs.length sy=false):=ht;rw[ht]at T;clear ht hs hu;go_in;go_wp2_with fail
  generalize (?C0).alloc ?B0=W0 at Z r0 r1 T|-;refine T.mono ?_;rintro _ J⟨rfl,U⟩;dsimp only;have O:=zk U r1;have d0:=zb O 0 (O_) rfl;have d1:=zb O 1 (I_ 0) rfl;have f0:=zd O 0;have f1:=zd O 1;go_wp2_with fail
  refine bP_ (v:=.tuple #[O_,.agg #[O_,I_ 0],I_ 12]) (by simp[results,results116,go_sem,d0,d1]) rfl ⟨.inl ⟨hF.out,rfl⟩,?_⟩;exact((Z.trans (U.mono Z.size)).setCell (by simp) _).setCell (by simp) _
 | true=>
  have hF:Hid (zbO bs.length sy=true):=ht;obtain⟨t1,t2,t3⟩:=zcr.1 ht;have h4:bs.length<=400000:=by omega
  rw[ht]at T;clear ht;have Hs:Hid _:=hs;have Hu:Hid _:=hu;clear hs hu;go_in;go_wp2_with fail
  generalize (?C0).alloc ?B0=W0 at Z r0 r1 T|-;refine T.mono ?_;rintro _ J⟨rfl,U⟩;dsimp only;have az:=zm Z U;have p0:=zk U r0;have O:=zk U r1;clear T Z r0 r1 U t1;have N:w.heap.size+1<J.heap.size:=ze O;go_wp2_with fail
  go_loopw [5,6] (λv j wr=>∃(k:Nat) (ys:List MV) (r:List Int) (C:Value),j=I_ k/\C=v/\k<=bs.length/\Hid (bs=zam ys++r/\k=(zam ys).length)/\wr.ownsRow J.heap.size 66 19 C ys.length (zY ys)/\zda wr J.heap.size C ys/\R_ wr w.heap.size ?A0 114/\R_ wr (w.heap.size+1) #[O_,I_ 0] 114/\B_ J wr/\Hid (∀y∈ys,zhr y)) (λ_ j _=>bs.length-(intOf j).toNat)
  case atStart=>exact⟨0,[],bs,_,rfl,rfl,nZ_ _,⟨rfl,rfl⟩,oN_ _ _ _ _,(λx hx=>by cases hx),p0,O,bR_ _ _,(λx hx=>by cases hx)⟩
  case round=>
   obtain⟨k,ys,r,C,rfl,rfl,hk,t,ho,ha,q0,q1,hb,ag⟩:=hrel;have ad:=zm az hb;have ab:=Hs.out.below ad;have aO:=ab.le;have ak:Hid (bs.drop k=r):=by
    show _=_;rw[t.out.1,t.out.2,List.drop_left]
   have ax:Hid (r.length=bs.length-k):=by show _=_;rw[<-ak.out,List.length_drop]
   have aq:Hid (zZ r):=by
    show zZ r;intro z hz;exact Hu.out z (by rw[t.out.1];exact List.mem_append_right _ hz)
   have ay:Hid (ys.length<=200000):=by
    show _<=_;have h1:=zni ys (λy _=>zfW y);have h2:=t.out.2;omega
   have HA:Hid (zda wr J.heap.size C ys):=ha;clear ha;obtain⟨sx,cx,ac,au⟩:∃sx cx,Hid (Calls prog 155 #[.slice sx (bs.length-k) cx] wr λe w'=>zmD wr w' e r)/\((k=c/\bs.length=c/\sx=m/\cx=0)\/(∃d l,m=some ⟨d,l,none⟩/\k<c/\sx=some ⟨d,l+k,none⟩/\cx=c-k)):=by
    have aR:=ax.out;by_cases af:k=c
    .refine⟨m,0,?_,.inl ⟨af,by omega,rfl,rfl⟩⟩;show Calls _ _ _ _ _;have aH:r=[]:=List.length_eq_zero_iff.1 (by omega);refine zo1 r _ _ 0 wr (by omega) ?_ aq.out (by omega);have:=ab.takeR 0 0 (nZ_ _) (nR_ _) (nZ_ _) (λ_=>rfl);rw[aH]
     simpa using this
    .rcases ab.some with h|⟨d,l,h⟩
     .omega
     .subst h;refine⟨some ⟨d,l+k,none⟩,c-k,?_,.inr ⟨d,l,rfl,by omega,rfl,rfl⟩⟩;show Calls _ _ _ _ _;refine zo1 r _ _ (c-k) wr (by omega) ?_ aq.out (by omega);rw[<-ak.out];exact zjw ab hk
   have c0:=zb q0 0 (.slice m bs.length c) rfl;have c1:=zb q0 1 (I_ sy) rfl;have HS:Hid (∀(W:World) (mm:Int),B_ w W->Calls prog 154 #[.agg ?A0,I_ (k:Int),I_ mm] W λe w'=>∃I rc,e=.returned (.agg #[.slice I k rc,I_ mm])/\zg w' I rc (bs.take k)/\(∀d l,I=some ⟨d,l,none⟩->W.heap.size<=d/\d<w'.heap.size)/\B_ W w'):=by
    show ∀_,_;intro W mm hW;exact zh1 bs m _ c k sy mm W rfl (Hs.out.below hW) hk hl
   have HT:Hid (bs.take k=zam ys):=by show _=_;rw[t.out.1,t.out.2,List.take_left]
   have kI:(k:Int)<=bs.length:=by omega
   have k0:(0:Int)<=k:=by omega
   clear ab;go_upto_region 5 with fail
   go_cut [7,8]from 13 to 37 (λp v wx=>∃A:Nat,p=(P_ A 0)/\wr.heap.size<=A/\B_ wr wx/\((v=I_ 0/\Hid (zcS r))\/∃(y:MV) (B:List Int),v=I_ (y.onTape.length:Int)/\Hid (r=y.onTape++B/\MAt wx y/\zaT y/\zbU (λq=>wr.heap.size<=q) y/\zhr y)/\R_ wx A (mrow_ y.m) 66))
   case first=>
    clear HS HT ak ax aq ay t HA Hs Hu ho q1 hF t2 t3 hl;rcases au with⟨af,aD,rfl,rfl⟩|⟨d,l,rfl,af,rfl,rfl⟩;have aE:(bs.length:Int)<=c:=by omega
    have aA:Hid (Calls prog 155 #[.slice sx 0 0] wr λe w'=>zmD wr w' e r):=by
     have h:=ac.out;rw[show bs.length-k=0 by omega]at h;exact h
    subst af;clear aD ac;go_wp2_with fail
    refine aA.out.mono ?_
    rotate_left
    have aE:(bs.length:Int)<=c:=by omega
    have aN:(k:Int)<c:=by omega
    go_wp2_with fail
    refine ac.out.mono ?_
    rotate_left
    all_goals
     rintro e w2 F;have f:=F.below;have u:=zm ad f;rcases F.out with⟨o,M⟩|⟨y,B,aa,hY,hH,⟨hI,ah⟩,o⟩
     all_goals
      clear F;subst o;dsimp only;have H:=hN_ w2 (.cells mz_ 66)
     .have E:B_ w2 ((w2.alloc (.cells mz_ 66)).setRow w2.heap.size mz_):=zbs w2 mz_ mz_ 66;have R:=zm f E;have hN:Hid (zcS r):=M;clear M;go_wp2_with (refine wpList_store_row rfl 66 _ _ rfl w2.heap.size mz_ rfl rfl 66 _ H sMsg' rfl (by simp[Value.oneCell']) ?_)
      go_meet
      case rel=>exact⟨w2.heap.size,rfl,f.size,R,.inl ⟨rfl,hN⟩⟩
     .have E:B_ w2 ((w2.alloc (.cells mz_ 66)).setRow w2.heap.size (mrow_ y.m)):=zbs w2 mz_ (mrow_ y.m) 66;have q4:=setRow_heap _ _ _ (mrow_ y.m) _ _ H;have R:=zm f E;have D:Hid (r=y.onTape++B/\MAt ((w2.alloc (.cells mz_ 66)).setRow w2.heap.size (mrow_ y.m)) y/\zaT y/\zbU (λq=>wr.heap.size<=q) y/\zhr y):=⟨aa,hY.below E,hI,hH,ah⟩;clear aa hY hI hH;go_wp2_with (refine wpList_store_row rfl 66 _ _ rfl w2.heap.size (mrow_ y.m) rfl rfl 66 _ H sMsg' rfl (by simp[Value.oneCell']) ?_)
      go_meet
      case rel=>exact⟨w2.heap.size,rfl,f.size,R,.inr ⟨y,B,rfl,D,q4⟩⟩
   case rest=>
    obtain⟨A,rfl,aL,f,h⟩:=hcut;generalize wc=Y at f h|-;apply_assumption;clear ac au c0 c1;have u0:=zk f q0;have u1:=zk f q1;have u:=zm ad f;have s:=zm hb f;have an:=zw ho f;rcases h with⟨rfl,M⟩|⟨y,B,rfl,D,qy⟩
    .have ar:Hid (zda Y J.heap.size C ys):=HA.out.below f;have c0:=zb u0 0 (.slice m bs.length c) rfl;have c1:=zb u0 1 (I_ sy) rfl;by_cases hm:sy<=k;have am:Hid (sy=min sy (k:Int)):=by show _=_;omega
     go_wp2_with fail
     refine(HS.out Y sy u).mono ?_
     rotate_left
     have am:Hid ((k:Int)=min sy (k:Int)):=by show _=_;omega
     have aP:(k:Int)<sy:=by omega
     go_wp2_with fail
     refine(HS.out Y (k:Int) u).mono ?_
     rotate_left
     all_goals
      rintro e w3⟨I,rc,o,ap,V,s⟩;subst o;dsimp only;have al:w.heap.size+1<Y.heap.size:=ze u1;have G:=(s.block _ al).trans u1;have d0:=zb G 0 (O_) rfl;have d1:=zb G 1 (I_ 0) rfl;have f0:=zd G 0;have f1:=zd G 1;have ao:=zw an s;have ai:=ar.out.below s;clear c0 c1;go_wp2_with fail
     .refine bP_ (v:=.tuple #[C,.agg #[.slice I k rc,I_ sy],I_ 0]) (by simp[results,results116,go_sem,d0,d1]) rfl ⟨.inr ⟨hF.out,C,ys,r,I,rc,ag.out,t.out.1,M.out,?_,?_,?_,?_,?_⟩,?_⟩
      .exact zcX (zQ (zQ ao _ _ _ N) _ _ _ N) (by omega)
      .exact((ai.far (b:=w.heap.size+1) N (λq X=>hO_ _ ⟨w.heap.size+1,0,none⟩ q _ X)).far (b:=w.heap.size+1) N (λq X=>hO_ _ ⟨w.heap.size+1,1,none⟩ q _ X)).mono (by omega)
      .rw[<-HT.out];exact(ap.setCellT _ _ _ (λd l e=>by have:=(V d l e).1;omega)).setCellT _ _ _ (λd l e=>by have:=(V d l e).1;omega)
      .intro d l e;obtain⟨g1,g2⟩:=V d l e;have:=u.size;exact⟨by omega,by simpa using g2⟩
      .rw[<-t.out.2,<-am.out]
      .exact((u.trans (s.mono u.size)).setCell (by simp) _).setCell (by simp) _
     .refine bP_ (v:=.tuple #[C,.agg #[.slice I k rc,I_ (k:Int)],I_ 0]) (by simp[results,results116,go_sem,d0,d1]) rfl ⟨.inr ⟨hF.out,C,ys,r,I,rc,ag.out,t.out.1,M.out,?_,?_,?_,?_,?_⟩,?_⟩
      .exact zcX (zQ (zQ ao _ _ _ N) _ _ _ N) (by omega)
      .exact((ai.far (b:=w.heap.size+1) N (λq X=>hO_ _ ⟨w.heap.size+1,0,none⟩ q _ X)).far (b:=w.heap.size+1) N (λq X=>hO_ _ ⟨w.heap.size+1,1,none⟩ q _ X)).mono (by omega)
      .rw[<-HT.out];exact(ap.setCellT _ _ _ (λd l e=>by have:=(V d l e).1;omega)).setCellT _ _ _ (λd l e=>by have:=(V d l e).1;omega)
      .intro d l e;obtain⟨g1,g2⟩:=V d l e;have:=u.size;exact⟨by omega,by simpa using g2⟩
      .rw[<-t.out.2,<-am.out]
      .exact((u.trans (s.mono u.size)).setCell (by simp) _).setCell (by simp) _
    .have aQ:=zfW y;have ae:Hid (bs=zam (ys++[y])++B/\k+y.onTape.length=(zam (ys++[y])).length):=by
      show _/\_;rw[zfQ,List.append_assoc,<-D.out.1,lP_,<-t.out.2];exact⟨t.out.1,rfl⟩
     have aw:k+y.onTape.length<=bs.length:=by
      have h1:=ae.out.1;have h2:=ae.out.2;rw[h1,lP_];omega
     have aU:((y.onTape.length:Int) == 0)=false:=by rw[beq_eq_false_iff_ne];omega
     have aT:k+y.onTape.length<=400000:=by omega
     have aS:IntKind.i64.wrap ((k:Int)+(y.onTape.length:Int))=((k+y.onTape.length:Nat):Int):=by rw[IntKind.wrap_i64];omega
     have aV:=ay.out;have HB:Hid _:=ae;have HK:Hid _:=aw;clear ae aw HS HT t;generalize y.onTape.length=L at*;go_wp2_with (first|refine wpList_load_row rfl 66 _ rfl A rfl 66 (mrow_ y.m) (0,0) _ qy underlying66 rfl sMsg' ?_|(at_builtin;go_loud (refine wpList_append_own_at _ rfl _ _ 115 rfl J.heap.size 66 i (.agg mz_) 19 264 underlying115 hi aI aJ aK rfl (by decide) _ ys.length _ rfl (oA_ an _) ⟨Y.heap.size,0,none⟩ 1 1 (zcR y.m) rfl (zd7 y.m) (zag _ _ _) (zfv y.m) (by unfold maxLen;omega) (by omega) (zB s.size _) ?_;intro v6 w6 aF av _ aC)))
     have G6:=zV.of av aC;have aB:=HA.out.more hb.size ho f D.out.2.1 D.out.2.2.1 D.out.2.2.2.1 G6;have aj:=Below.grown (s.alloc s.size (.cells (zcR y.m).toArray 66)) av (zB s.size _) (λq e=>(ho.lt q e).1);have aG:w6.ownsRow J.heap.size 66 19 v6 (ys++[y]).length (zY (ys++[y])):=by rw[zfi,lP_];exact aF
     have s0:R_ w6 w.heap.size ?A0 114:=(aj.block _ (by omega)).trans p0;have s1:R_ w6 (w.heap.size+1) #[O_,I_ 0] 114:=(aj.block _ (by omega)).trans O;go_roundw
     case rel=>
      exact⟨k+L,ys++[y],B,v6,by go_num,rfl,HK.out,HB,aG,aB,s0,s1,aj,(λz hz=>by rcases List.mem_append.1 hz with g|g;exact ag.out z g;rw[List.mem_singleton.1 g];exact D.out.2.2.2.2)⟩
     case measure=>have aM:=HK.out;simp[intOf];omega
end Go.Proofs.YtdnaljbnebnlhaaGreatDoor
