import Derived.Test.YtdnaljbnebnlhaaGreatDoorPkTopGrows0
set_option maxRecDepth 100000
set_option maxHeartbeats 4000000
namespace Go.Proofs.YtdnaljbnebnlhaaGreatDoor
open Go.RowKit _root_.Go.Proofs.Tryz
theorem topGrows_walk (sa:Option Addr)(ax:Nat)(rs:List Ft)(n:Int)(F D E:Int)(G:ByteArray)(w:World)(b8:zfn w sa rs)(_hc_rs:rs.length<=ax)(n1:-9223372036854775808<=n)(n2:n<=9223372036854775807)(g1:I64 F)(g2:I64 D)(g3:I64 E)(g4:G.size<=maxLen)(hT:zcw w/\zbJ w) :
  Calls prog 4 #[.slice sa rs.length ax,I_ n,.agg #[I_ F,I_ D,I_ E,.string G]] w λe w'=>e=.returned (.bool true)/\B_ w w':=by
 have HT:Hid (∀W:World,B_ w W->zcw W/\zbJ W):=λW hW=>⟨hT.1.below hW hT.1.lt,hT.2.below hW⟩;clear hT;obtain⟨cn,co⟩:=zW n 5 (by decide);have au:Hid (∀W:World,Calls prog 9 #[I_ n] W λe w'=>e=.returned (I_ (pk n 5-1))/\W=w'):=λW=>zg9 n W n1 n2;obtain⟨b,al⟩:∃b,b=pk n 5-1:=⟨_,rfl⟩;have br:-1<=b/\b<=3:=by omega
 rw[<-al]at au;clear al cn co n1 n2;refine kA_ ?B0 ?_;exact #[I_ F,I_ D,I_ E,.string G];have aX:Hid (∀W:World,Calls prog 15 #[.agg ?B0] W λe w'=>zzm W w' e):=λW=>zsA F D E G W g1 g2 g3 g4;clear g1 g2 g3 g4;go_in;have ay:=zC w (.cells ?B0 38);have qg:=hN_ w (.cells ?B0 38);go_upto_region 1 with fail
 generalize w.alloc (.cells ?B0 38)=Wg at ay qg|-;obtain⟨Bg,ba⟩:∃B,B=w.heap.size:=⟨_,rfl⟩;rw[<-ba]at qg|-;clear ba;have az:=ay;clear ay;go_wp2_with fail
 refine(au.out _).mono ?_;rintro _ w0⟨rfl,rfl⟩;dsimp only;clear au;go_wp2_with fail
 refine(zeu rs sa _ ax 60 Wg rfl (b8.below az) (by decide)).mono ?_;rintro e cF⟨v,l,r,X,hl,cB,g⟩;subst r;dsimp only;obtain⟨aa,ac,hv,bu,bv⟩:=zbd X hl;subst hv;have av:Hid _:=hl;have bP:Hid _:=bv;clear X hl bv;have a7:=zm az g;have Z:=zk g qg;clear az qg;clear g;have b0:=zb Z 0 (I_ F) rfl;have b1:=zb Z 1 (I_ D) rfl;have b2:=zb Z 2 (I_ E) rfl;have b3:=zb Z 3 (.string G) rfl;go_wp2_with fail
 refine(aX.out _).mono ?_;rintro e z⟨⟨q,r,bo,bp,-⟩,g⟩;subst r;dsimp only;clear aX b0 b1 b2 b3;have a9:=zm a7 g;have bg:=bu.below g;have cE:=zk g Z;clear a7 bu Z;clear g;refine kO_ ?A0 ?_;exact Obj.cells #[I_ q.k,I_ q.n,I_ q.p,.string q.t] 40;have ai:=zC z ?A0;have s:=hN_ z ?A0;go_upto_region 4 with fail
 generalize z.alloc ?A0=Wa at ai s|-;have b6:z.heap.size<=z.heap.size:=nR_ _;generalize b7:z.heap.size=M at s|-;have ab:Hid (z.heap.size<=M):=by show _<=_;omega
 clear b6 b7;have a2:=zb s 0 _ rfl;have bT:=zb s 1 _ rfl;have bU:=zb s 2 _ rfl;have bV:=zb s 3 _ rfl;have cv:=zd s 0;have aT:=zd s 1;have aU:=zd s 2;have aV:=zd s 3;go_cut [25] (λu wx=>u=.bool (decide (q.k=7))/\Wa=wx)
 case first=>
  by_cases h7:q.k=7
  .rw[h7]at a2|-;go_wp2_with fail
   go_meet
   case rel=>exact⟨by rw[dT_ h7],rfl⟩
  .have O:(q.k == 7)=false:=by simpa using h7
   go_wp2_with fail
   go_meet
   case rel=>exact⟨by rw[dF_ h7],rfl⟩
 case rest=>
  obtain⟨rfl,hw⟩:=hcut;subst hw;apply_assumption;go_upto_if 25 with fail
  go_cut [] (λwx=>∃A:AV,(A.e=0/\A.t.size<=4000)/\Hid (¬A.k=7)/\R_ wx M #[I_ A.k,I_ A.n,I_ A.p,.string A.t] 40/\B_ z wx)
  case first=>
   by_cases h7:q.k=7
   .have O:decide (q.k=7)=true:=dT_ h7;rw[O];clear O;go_wp2_with fail
    go_meet
    case rel=>exact⟨⟨10,0,0,⟨#[]⟩⟩,⟨zaL _ _ _ _ (by decide) (by decide) (by decide) (by decide) (λ_=>rfl) (λ_=>rfl) (λ_=>rfl),by show ByteArray.size ⟨#[]⟩<=4000;decide⟩,(show ¬(10:Int)=7 by decide),by simpa using hS_ _ _ 3 _ _ (.string ⟨#[]⟩) (hS_ _ _ 2 _ _ (I_ 0) (hS_ _ _ 1 _ _ (I_ 0) (hS_ _ _ 0 _ _ (I_ 10) s))),(((ai.setCell (p:=⟨M,0,none⟩) ab.out _).setCell (p:=⟨M,1,none⟩) ab.out _).setCell (p:=⟨M,2,none⟩) ab.out _).setCell (p:=⟨M,3,none⟩) ab.out _⟩
   .have O:decide (q.k=7)=false:=dF_ h7;rw[O];clear O;go_wp2_with fail
    go_meet
    case rel=>exact⟨q,⟨bo,bp⟩,h7,s,ai⟩
  case rest=>
   clear a2 bT bU bV cv aT aU aV s ai ab bo bp;obtain⟨A,a3,bL,qA,am⟩:=hcut;apply_assumption;obtain⟨W3,bm⟩:∃W,W=wc:=⟨_,rfl⟩;rw[<-bm]at qA am|-;clear bm;have aY:Hid _:=a3;clear a3;have ak:=zm a9 am;have aD:=bg.below am;clear a9 bg;clear am;have ad:=zc4 b br l aa _ ac W3 rfl (by omega) aD (λa U=>(av.out a U).1) (HT.out W3 ak).1 (HT.out W3 ak).2;go_wp2_with fail
   refine ad.mono ?_;rintro e aq⟨x,r,bA,bC,cd,g⟩;subst r;dsimp only;clear ad;have bQ:Hid _:=bC;clear bC;have a4:=zm ak g;have bb:=aD.below g;have bG:=zk g qA;clear ak aD qA;clear g;refine kO_ ?C0 ?_;exact Obj.cells #[.slice x.na 4 x.nc,.slice x.ga x.gs.length x.gc,I_ x.aw,.slice x.ca x.cs.length x.cc] 28;have R:=zC aq ?C0;have ao:=hN_ aq ?C0;go_upto_region 7 with fail
   generalize aq.alloc ?C0=ah at R ao|-;generalize aq.heap.size=Bx at ao|-;have a5:=zm a4 R;have bh:=bA.below R;have bc:=bb.below R;have Y:=zk R bG;clear a4 bA bb bG;clear R;have bW:=zb Y 0 (I_ A.k) rfl;have bX:=zb Y 1 (I_ A.n) rfl;have bY:=zb Y 2 (I_ A.p) rfl;have bZ:=zb Y 3 (.string A.t) rfl;refine kO_ ?E0 ?_;exact Obj.cells #[I_ A.k,I_ A.n,I_ A.p,.string A.t] 40;have I:=zC ah ?E0;have ap:=hN_ ah ?E0;go_wp2_with fail
   generalize ah.alloc ?E0=a1 at I ap|-;generalize ah.heap.size=aW at ap|-;have aG:∀a∈[(A:AV)],a.e=0/\a.t.size<=4000:=by
    intro a U;simp only[List.mem_cons,List.not_mem_nil,or_false]at U;subst U;exact aY.out
   have a6:=zm a5 I;have bi:=bh.below I;have aC:=bc.below I;have bH:=zk I Y;have bI:=zk I ao;clear a5 bh bc Y ao;have bw:zbq a1 (some ⟨aW,0,none⟩) [(A:AV)]:=zdw ap aG;have bn:=zcZ l [(A:AV)] aa _ ac (some ⟨aW,0,none⟩) 1 1 a1 rfl rfl aC bw bP.out (λe=>by cases e) (by simp;omega);refine bn.mono ?_;rintro e aS⟨v,r,X,g⟩;subst r;dsimp only;clear bn bw ap I;have aw:Hid _:=zc9 av.out aG;clear aG;obtain⟨m,an⟩:∃z9,z9=l++[(A:AV)]:=⟨_,rfl⟩;rw[<-an]at X aw;have aZ:Hid (m.length=l.length+1/\m=l++[(A:AV)]):=⟨by rw[an];simp,an⟩;clear an;obtain⟨ma,mc,hv,aF,bx⟩:=zbd X aw.out;subst hv;have cx:Hid _:=bx;have cC:m.length<=61:=by have:=aZ.out.1;omega
   clear X bx;have aj:=zm a6 g;have bj:=bi.below g;have bd:=aC.below g;have cD:=zk g bH;have bJ:=zk g bI;clear a6 bi aC bH bI;clear g;clear bW bX bY bZ;have ad:=zc4 b br m ma _ mc aS rfl (by omega) aF (λa U=>(aw.out a U).1) (HT.out aS aj).1 (HT.out aS aj).2;go_wp2_with fail
   refine ad.mono ?_;rintro e ar⟨y,r,bD,bF,ce,g⟩;subst r;dsimp only;clear ad;have bR:Hid _:=bF;clear bF;have a8:=zm aj g;have bk:=bj.below g;have be:=bd.below g;have bf:=aF.below g;have bK:=zk g bJ;clear aj bj bd aF bJ;clear g;refine kO_ ?D0 ?_;exact Obj.cells #[.slice y.na 4 y.nc,.slice y.ga y.gs.length y.gc,I_ y.aw,.slice y.ca y.cs.length y.cc] 28;have H:=zC ar ?D0;have aO:=hN_ ar ?D0;go_upto_region 8 with fail
   generalize ar.alloc ?D0=bS at H aO|-;generalize ar.heap.size=By at aO|-;have b5:=zm a8 H;have b9:=bk.below H;have ca:=bD.below H;have cy:=be.below H;have cz:=bf.below H;have ct:=zk H bK;clear a8 bk bD be bf bK;clear H;obtain⟨f,hf⟩:∃f,f=(Fl.z b).run (l.map AV.ac):=⟨_,rfl⟩;have ex:x.v=f.told:=by rw[bQ.out,hf]
   have ey:y.v=(f.does A.ac).told:=by rw[bR.out,aZ.out.2,zcP,<-hf];rfl
   have aE:=zBq (f:=f) (by rw[hf];exact zcn.run _ (zcn.z b) (ziz av.out)) (zhy aY.out.1) bL.out;have bN:Hid (∀i,i<4->zA8 (x.y i) (y.y i)):=λi hi=>zBr (by rw[zb0 ex i hi,zb0 ey i hi];exact aE.1 i hi);have bO:Hid (x.gs.length<=y.gs.length):=by show _<=_;rw[ziw ex,ziw ey];exact aE.2
   clear aE ex ey hf f;go_wp2_with fail
   go_loopw [14] (λj wr=>∃k:Nat,k<=4/\j=I_ k/\B_ bS wr) (λj _=>4-(intOf j).toNat)
   case atStart=>exact⟨0,nZ_ _,rfl,bR_ _ _⟩
   case round=>
    obtain⟨k,hk,rfl,J⟩:=hrel;have aP:=zk J ct;have aQ:=zk J aO;by_cases hlt:k<4
    .have cc:(k:Int)<4:=by omega
     have bB:=b9.below J;have bE:=ca.below J;have C:=bN.out k hlt;have vx:=bB.vm k hlt;have vy:=bE.vm k hlt;have aK:=cd.vw k hlt;have aL:=ce.vw k hlt;obtain⟨cb,bs,aI⟩:=bB.row hlt;obtain⟨db,bt,aJ⟩:=bE.row hlt;generalize x.y k=c at C vx aK aI;generalize y.y k=d at C vy aL aJ;have cm:wr.cell? ⟨Bx,0,none⟩=some (.slice (some ⟨cb,0,none⟩) 4 x.nc):=by rw[<-bs];exact zb aP 0 _ rfl
     have aR:wr.cell? ⟨By,0,none⟩=some (.slice (some ⟨db,0,none⟩) 4 y.nc):=by rw[<-bt];exact zb aQ 0 _ rfl
     clear bs bt;have T:=zC wr (.cells (vrow_ c) 47);have qP:=hN_ wr (.cells (vrow_ c) 47);go_upto_region 14 with(refine wpList_load_mid rfl 47 _ rfl cb (k*6) rfl [.bool c.up,I_ c.rd,.slice c.ca c.ls.length c.cc,.slice c.ba c.bl.length c.bc,.slice c.ta c.tab.length c.tc,.slice c.pa c.txs.length c.pc] _ aI underlying47 rfl zck ?_)
     generalize wr.alloc (.cells (vrow_ c) 47)=N at T qP|-;obtain⟨Bp,aA⟩:∃B,B=wr.heap.size:=⟨_,rfl⟩;have bM:Hid (Bp=wr.heap.size):=aA;rw[<-aA]at qP|-;clear aA;have cu:N.cell? ⟨By,0,none⟩=some (.slice (some ⟨db,0,none⟩) 4 y.nc):=(T.cell (bL_ aR)).trans aR;have bz:=zdd aJ T;have hQ:=zC N (.cells (vrow_ d) 47);have t:=hN_ N (.cells (vrow_ d) 47);go_upto_region 15 with(refine wpList_load_mid rfl 47 _ rfl db (k*6) rfl [.bool d.up,I_ d.rd,.slice d.ca d.ls.length d.cc,.slice d.ba d.bl.length d.bc,.slice d.ta d.tab.length d.tc,.slice d.pa d.txs.length d.pc] _ bz underlying47 rfl zck ?_)
     have L:=zk hQ qP;have bl:Bp<N.heap.size:=ze qP;have aH:=zm T hQ;generalize N.alloc (.cells (vrow_ d) 47)=V2 at hQ t L aH|-;obtain⟨o,aB⟩:∃B,B=N.heap.size:=⟨_,rfl⟩;rw[<-aB]at t bl|-;have af:wr.heap.size<=o:=by rw[aB];exact T.size
     clear aB T hQ cm aR cu aI aJ bz qP;have ag:Bp≠o:=by omega
     obtain⟨m1,m2,m3,m4,m5⟩:=C;have C:zA8 c d:=⟨m1,m2,m3,m4,m5⟩;have k2:c.ls.length<=d.cc:=nT_ m1 (zAV vy.rc);have k3:c.bl.length<=d.bc:=nT_ m2 (zAV vy.rb);have k4:c.tab.length<=d.tc:=nT_ m3 (zAV vy.rt);have g2:=zAW d.ca;have g3:=zAW d.ba;have g4:=zAW d.ta;refine kA_ ?G0 ?_;exact(#[.bool d.up,I_ c.rd,.slice d.ca c.ls.length d.cc,.slice d.ba c.bl.length d.bc,.slice d.ta c.tab.length d.tc,.slice d.pa d.txs.length d.pc]:Array Value);have HR:Hid (∀V:World,B_ wr V->Calls prog 16 #[.agg (vrow_ c),.agg ?G0] V λe w'=>e=.returned (.bool true)/\B_ V w'):=λV hV=>by
      have h:=zdC c (d.cut c) V (vx.below hV) ((vy.below hV).cut C) (C.ok aK aL) C.same;have e1:(d.cut c).ls.length=c.ls.length:=by show(d.ls.take _).length=_;rw[lT9_];omega
      have e2:(d.cut c).bl.length=c.bl.length:=by show(d.bl.take _).length=_;rw[lT9_];omega
      have e3:(d.cut c).tab.length=c.tab.length:=by show(d.tab.take _).length=_;rw[lT9_];omega
      rw[e1,e2,e3]at h;exact h
     clear m5 C vx vy aK aL;have n2:¬(d.ls.length:Int)<c.ls.length:=by omega
     have n3:¬(d.bl.length:Int)<c.bl.length:=by omega
     have n4:¬(d.tab.length:Int)<c.tab.length:=by omega
     have n1:¬d.rd<c.rd:=by omega
     have ci:=zb L 1 _ rfl;have cp:=zb t 1 _ rfl;have aT:=zd t 1;have cj:=zb L 2 _ rfl;have cq:=zb t 2 _ rfl;have aU:=zd t 2;have ck:=zb L 3 _ rfl;have cr:=zb t 3 _ rfl;have aV:=zd t 3;have cl:=zb L 4 _ rfl;have cs:=zb t 4 _ rfl;have cw:=zd t 4;clear m1 m2 m3 m4;have cf:(c.ls.length:Int)<=d.cc:=by omega
     have cg:(c.bl.length:Int)<=d.bc:=by omega
     have ch:(c.tab.length:Int)<=d.tc:=by omega
     go_upto_region 21 with fail
     refine kW_ ?F0 ?_;exact(((V2.setCell ⟨o,2,none⟩ (.slice d.ca c.ls.length d.cc)).setCell ⟨o,3,none⟩ (.slice d.ba c.bl.length d.bc)).setCell ⟨o,4,none⟩ (.slice d.ta c.tab.length d.tc)).setCell ⟨o,1,none⟩ (I_ c.rd);have ae:B_ wr ?F0:=((((aH.setCell (p:=⟨o,2,none⟩) af (.slice d.ca c.ls.length d.cc)).setCell (p:=⟨o,3,none⟩) af (.slice d.ba c.bl.length d.bc)).setCell (p:=⟨o,4,none⟩) af (.slice d.ta c.tab.length d.tc)).setCell (p:=⟨o,1,none⟩) af (I_ c.rd));have aM:=(zh (j:=1) (v:=I_ c.rd) (zh (j:=4) (v:=.slice d.ta c.tab.length d.tc) (zh (j:=3) (v:=.slice d.ba c.bl.length d.bc) (zh (j:=2) (v:=.slice d.ca c.ls.length d.cc) L ag) ag) ag) ag);have aN:(?F0).heap[o]? = some (.cells ?G0 47 (0,0)):=by simpa using(hS_ _ _ 1 _ _ (I_ c.rd) (hS_ _ _ 4 _ _ (.slice d.ta c.tab.length d.tc) (hS_ _ _ 3 _ _ (.slice d.ba c.bl.length d.bc) (hS_ _ _ 2 _ _ (.slice d.ca c.ls.length d.cc) t))))
     clear ci cj ck cl cp cq cr cs aT aU aV cw L t aH;generalize ?F0=V3 at ae aM aN|-;have HC:=HR.out V3 ae;clear HR k2 k3 k4 cf cg ch n1 n2 n3 n4 g2 g3 g4;go_wp2_with (first|refine wpList_load_row rfl 47 _ rfl Bp rfl 47 (vrow_ c) (0,0) _ aM underlying47 rfl zck ?_|refine wpList_load_row rfl 47 _ rfl o rfl 47 ?G0 (0,0) _ aN underlying47 rfl zck ?_)
     refine HC.mono ?_;rintro _ z⟨rfl,bq⟩;dsimp only;have al:=J.trans ((ae.trans (bq.mono ae.size)).mono J.size);clear HC ae aM aN bq af ag bl bM;go_wp2_with fail
     go_roundw
     case rel=>exact⟨k+1,by omega,by go_num,al⟩
     case measure=>simp[intOf];omega
    .obtain rfl:k=4:=by omega
     have cc:¬((4:Nat):Int)<4:=by omega
     have f1:=zb aP 1 (.slice x.ga x.gs.length x.gc) rfl;have g1:=zb aQ 1 (.slice y.ga y.gs.length y.gc) rfl;have cA:(x.gs.length:Int)<=y.gs.length:=by have:=bO.out;omega
     have b4:=zm b5 J;clear aP aQ hlt hk;go_wp2_with fail
     go_ret;exact⟨by simp,b4⟩
open Go.ChangeShapes Go.WideShapes Go.ChangeAt
theorem open_gear {H : Type} {enc : TypeId × Value → H} {W : World} {base : Nat} {v : Value} {d : DataW H} {p : List MemPlace}
    (hv : Value.okWide prog W .any base 38 v) (h : DataW.Trod enc prog W 0 (fun _ => true) true 38 v d p) (_hfit : ∀ n ∈ d.weights prog 38, n ≤ reachBytes) :
    ∃ fk fa fb' ft, v = .agg #[.int .i64 fk, .int .i64 fa, .int .i64 fb', .string ft] ∧ I64 fk ∧ I64 fa ∧ I64 fb' ∧ ft.size ≤ maxLen := by
  obtain ⟨cs, rfl, _⟩ := okWide_struct underlying38 hv
  obtain ⟨fuel, hf⟩ := h
  obtain ⟨r, hr, h1, h2, h3, h4⟩ := zl7 hf
  obtain ⟨l⟩ := cs
  simp [Value.cells] at hr
  subst hr
  exact ⟨_, _, _, _, rfl, h1, h2, h3, h4⟩
end Go.Proofs.YtdnaljbnebnlhaaGreatDoor
