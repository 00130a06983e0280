import Derived.Test.YtdepbohhmfkjgaaGreatDoorPk36
set_option maxRecDepth 100000
set_option maxHeartbeats 4000000
namespace Go.Proofs.YtdepbohhmfkjgaaGreatDoor
open Go.RowKit Tryz
variable {g:Fl}
theorem zev {f:Fl}(h:f.nd=g.nd)(i:Int):f.node i=g.node i:=by rw[Fl.node,Fl.node,h]
theorem zxS (f:Fl)(p:Int):(f.pick 5 p).nd=f.nd∧(f.pick 5 p).no=f.no∧(f.pick 5 p).away.length=f.away.length-1:=by
 unfold Fl.pick;by_cases h:f.away.length=0
 ·rw[if_pos h];exact ⟨rfl,rfl,by omega⟩
 ·rw[if_neg h,if_neg (by decide),if_neg (by decide)];refine ⟨rfl,rfl,?_⟩;show (f.away.eraseIdx _).length=_;rw[List.length_eraseIdx,if_pos (Nat.mod_lt _ (by omega))]
theorem ziw {o:Om}{f:Fl}(h:o.v=f.told):o.gs.length=f.no.sg.length:=by
 have e:(zA o.gs).length=f.no.sg.length:=congrArg (fun x:Ou=>x.sg.length) h;rw[zgj] at e;exact e
theorem zcA {o:Om}{f:Fl}(h:o.v=f.told):o.aw=f.away.length:=congrArg (fun x:Ou=>x.aw) h
theorem zxT {f:Fl}(h:g.nd=f.nd)(b:g.no.bad=f.no.bad)(i:Int):g.view i=f.view i:=by
 unfold Fl.view;rw[b,zev h]
theorem zcx.of {p q:Vw}(h:p=q):zcx p q:=by subst h;exact ⟨rfl,rfl,rfl,rfl⟩
theorem topLost_walk (sa:Option Addr)(ah:Nat)(rs:List Ft)(n:Int)(p:Int)(w:World)(a5:zfn w sa rs)(_hc_rs:rs.length≤ah)(n1:-9223372036854775808≤n)(n2:n≤9223372036854775807)(p1:-9223372036854775808≤p)(p2:p≤9223372036854775807)(M:zcw w∧za2 w) :
  Calls prog 8 #[.slice sa rs.length ah,I_ n,I_ p] w fun e w'=>e=.returned (.bool true)∧B_ w w':=by
 have aA:∀ W:World,B_ w W→zcw W∧za2 W:=fun W hW=>⟨M.1.below hW M.1.lt,M.2.below hW⟩;have I:Hid _:=aA;clear aA M;obtain ⟨bd,be⟩:=zW n 5 (by decide);have ae:=zg9 n w n1 n2;obtain ⟨b,aC⟩:∃ b,b=pk n 5-1:=⟨_,rfl⟩;have aD:-1≤b∧b≤3:=by omega
 rw[←aC] at ae;clear aC bd be n1 n2;obtain ⟨bf,bg⟩:=zW p 400 (by decide);have aT:Hid (∀ W:World,Calls prog 10 #[I_ p,I_ 400] W fun e w'=>e=.returned (I_ (pk p 400))∧W=w'):=fun W=>zbI p 400 W p1 p2 (by decide) (by decide);generalize pk p 400=f at *;clear p1 p2;go_in;go_wp2_with fail
 refine ae.mono ?_;rintro _ w0 ⟨rfl,rfl⟩;dsimp only;clear ae;go_wp2_with fail
 refine (zeu rs sa _ ah 60 w rfl a5 (by decide)).mono ?_;rintro e w1 ⟨v,l,g,F,hl,bh,ak⟩;subst g;dsimp only;obtain ⟨aa,ac,hv,al,aI⟩:=zbd F hl;subst hv;have aw:Hid _:=hl;have aW:Hid _:=aI;clear F hl aI;have B:=zc4 b aD l aa _ ac w1 rfl (by omega) al (fun a E=>(aw.out a E).1) (I.out w1 ak).1 (I.out w1 ak).2;go_wp2_with fail
 refine B.mono ?_;rintro e w2 ⟨x,g,aM,aP,ba,aE⟩;subst g;dsimp only;clear B;have af:Hid _:=aP;clear aP;refine kO_ ?A0 ?_;exact Obj.cells #[.slice x.na 4 x.nc,.slice x.ga x.gs.length x.gc,I_ x.aw,.slice x.ca x.cs.length x.cc] 34;have L:=zC w2 ?A0;have G:=hN_ w2 ?A0;go_upto_region 4 with fail
 generalize w2.alloc ?A0=J at L G ⊢;generalize w2.heap.size=Bx at G ⊢;have aZ:=zm ak aE;have a0:=zm aZ L;have aN:=aM.below L;have aH:=(al.below aE).below L;clear aM al;refine kO_ ?C0 ?_;exact Obj.cells #[I_ 5,I_ 0,I_ f,.string ⟨#[]⟩] 29;have t:=zC J ?C0;have T:=hN_ J ?C0;go_wp2_with (go_at_call 10;refine (aT.out _).mono ?_;rintro e w9 ⟨rfl,rfl⟩)
 generalize J.alloc ?C0=W4 at t T ⊢;generalize J.heap.size=B4 at T ⊢;have am:∀ a∈[(⟨5,0,f,⟨#[]⟩⟩:AV)],a.e=0∧a.t.size≤4000:=fun a E=>by
  obtain rfl:a=(⟨5,0,f,⟨#[]⟩⟩:AV):=by simpa using E
  exact ⟨zaL _ _ _ _ (by decide) (by decide) (by omega) (by decide) (fun _=>rfl) (fun h=>by cases h) (fun _=>rfl),(by show ByteArray.size ⟨#[]⟩≤4000;decide)⟩
 have a1:=zm a0 t;have aJ:zbq W4 (some ⟨B4,0,none⟩) [(⟨5,0,f,⟨#[]⟩⟩:AV)]:=zdw T am;have aB:=zcZ l [(⟨5,0,f,⟨#[]⟩⟩:AV)] aa _ ac (some ⟨B4,0,none⟩) 1 1 W4 rfl rfl (aH.below t) aJ aW.out (fun e=>by cases e) (by simp;omega);refine aB.mono ?_;rintro e w5 ⟨v,g,F,aj⟩;subst g;dsimp only;clear aB;have av:Hid ((l++[(⟨5,0,f,⟨#[]⟩⟩:AV)]).length≤3000∧(Fl.z b).run ((l++[(⟨5,0,f,⟨#[]⟩⟩:AV)]).map AV.ac)=((Fl.z b).run (l.map AV.ac)).pick 5 f):=⟨by simp;omega,by rw[zcP];rfl⟩;have ax:Hid _:=zc9 aw.out am;generalize l++[(⟨5,0,f,⟨#[]⟩⟩:AV)]=m at *;obtain ⟨ma,mc,hv,aK,a8⟩:=zbd F ax.out;subst hv;have ai:=zm a1 aj;have aO:=(aN.below t).below aj;have ar:=(aj.block _ (ze (zk t G))).trans (zk t G);have aX:=av.out.1;clear F a8 aJ am T aH aN G;have B:=zc4 b aD m ma _ mc w5 rfl (by omega) aK (fun a E=>(ax.out a E).1) (I.out w5 ai).1 (I.out w5 ai).2;go_wp2_with fail
 refine B.mono ?_;rintro e w6 ⟨y,g,aQ,aR,bc,O⟩;subst g;dsimp only;clear B;have ag:Hid _:=aR;clear aR;refine kO_ ?B0 ?_;exact Obj.cells #[.slice y.na 4 y.nc,.slice y.ga y.gs.length y.gc,I_ y.aw,.slice y.ca y.cs.length y.cc] 34;have D:=zC w6 ?B0;have X:=hN_ w6 ?B0;go_upto_region 5 with fail
 generalize w6.alloc ?B0=Wy at D X ⊢;generalize w6.heap.size=H at X ⊢;have a2:=zm ai O;have a3:=zm a2 D;have bb:=aQ.below D;have a9:=(aO.below O).below D;have aS:=(D.block _ (ze (zk O ar))).trans (zk O ar);clear aQ aO ar aK aX;have q:=zxS ((Fl.z b).run (l.map AV.ac)) f;rw[←av.out.2] at q;have ay:y.aw=x.aw-1:=by rw[zcA ag.out,zcA af.out];exact q.2.2
 have az:y.gs.length=x.gs.length:=by rw[ziw ag.out,ziw af.out,q.2.1]
 have aV:Hid (∀ i,i<4→zcx (x.y i).v (y.y i).v):=fun i hi=>zcx.of (by rw[zb0 af.out i hi,zb0 ag.out i hi];exact (zxT q.1 (congrArg No.bad q.2.1) _).symm);have bi:=ba.aw;clear q;have c2:=zb aS 2 (I_ x.aw) rfl;have d2:=zb X 2 (I_ y.aw) rfl;have aL:IntKind.i64.wrap ((x.aw:Int)-1)=(x.aw:Int)-1:=by rw[IntKind.wrap_i64];omega
 have au:Hid (y.aw=x.aw-1):=ay;have aU:Hid (y.gs.length=x.gs.length):=az;clear ay az;go_cut [49] (fun u wx=>u=.bool false∧Wy=wx)
 case first=>
  by_cases h0:x.aw=0
  ·have C:y.aw=0:=by have:=au.out;omega
   rw[h0] at c2 aL;rw[C] at d2;clear h0 C;go_wp2_with fail
   all_goals
    go_meet
    case rel=>exact ⟨rfl,rfl⟩
  ·have C:(y.aw:Int)=(x.aw:Int)-1:=by have:=au.out;omega
   have e2:¬((x.aw:Int)-1<0):=by omega
   have e3:max ((x.aw:Int)-1) 0=(x.aw:Int)-1:=by omega
   rw[C] at d2;clear h0 C;go_wp2_with fail
   all_goals
    go_meet
    case rel=>exact ⟨by simp,rfl⟩
 case rest=>
  obtain ⟨rfl,hw⟩:=hcut;subst hw;apply_assumption;clear c2 d2 aL;go_wp2_with fail
  go_loopw [13] (fun j wr=>∃ k:Nat,k≤4∧j=I_ k∧B_ Wy wr) (fun j _=>4-(intOf j).toNat)
  case atStart=>exact ⟨0,nZ_ _,rfl,bR_ _ _⟩
  case round=>
   obtain ⟨k,hk,rfl,A⟩:=hrel;have U:=zk A aS;have Y:=zk A X;by_cases hlt:k<4
   ·have a7:(k:Int)<4:=by omega
    have ap:=a9.below A;have aq:=bb.below A;have HR:Hid (∀ V:World,B_ wr V→Calls prog 14 #[.agg (vrow_ (x.y k)),.agg (vrow_ (y.y k))] V fun e w'=>e=.returned (.bool true)∧B_ V w'):=fun V hV=>zdC (x.y k) (y.y k) V ((ap.vm k hlt).below hV) ((aq.vm k hlt).below hV) (bc.vw k hlt) (aV.out k hlt);obtain ⟨r,aF,an⟩:=ap.row hlt;obtain ⟨s,aG,ao⟩:=aq.row hlt;generalize x.y k=c at HR an;generalize y.y k=d at HR ao;have N:=dB_ wr;have R:wr.drew.cell? ⟨Bx,0,none⟩=some (.slice (some ⟨r,0,none⟩) 4 x.nc):=by rw[←aF];exact zb U 0 _ rfl
    have ab:wr.drew.cell? ⟨H,0,none⟩=some (.slice (some ⟨s,0,none⟩) 4 y.nc):=by rw[←aG];exact zb Y 0 _ rfl
    have Z:=zde an;have ad:=zde ao;clear ap aq an ao aF aG U Y;go_upto_region 10 with fail
    refine wR_ (S:=fun w'=>w'.cell? ⟨Bx,0,none⟩=some (.slice (some ⟨r,0,none⟩) 4 x.nc)∧w'.cell? ⟨H,0,none⟩=some (.slice (some ⟨s,0,none⟩) 4 y.nc)∧w'.rangeAt r (k*6) c.cs∧w'.rangeAt s (k*6) d.cs) (by kernel_rfl) ⟨R,ab,Z,ad⟩ (fun o=>?_);generalize wr.drew=V0 at N R ab Z ad o ⊢;refine tks_ 4 [(0,54,(P_ Bx 0)),(1,55,.slice (some ⟨r,0,none⟩) 4 x.nc),(2,56,I_ (k:Int)),(3,57,(P_ r (k*6)))] o ?_;simp only[tkf_,zf];refine tQ_ 4 58 (.agg (vrow_ c)) rfl rfl (yieldsIf_load_mid (by rfl) 42 _ rfl r (k*6) rfl c.cs _ (fun w0 h=>h.2.2.1) underlying42 rfl zck) o ?_;simp only[zf];refine tks_ 4 [(5,59,(P_ H 0)),(6,60,.slice (some ⟨s,0,none⟩) 4 y.nc),(7,61,I_ (k:Int)),(8,62,(P_ s (k*6)))] o ?_;simp only[tkf_,zf];refine tQ_ 9 63 (.agg (vrow_ d)) rfl rfl (yieldsIf_load_mid (by rfl) 42 _ rfl s (k*6) rfl d.cs _ (fun w0 h=>h.2.2.2) underlying42 rfl zck) o ?_;simp only[zf];refine zE 10 rfl (fun K9 hK=>?_);refine zj rfl 64 rfl 14 [.tmp 58,.tmp 63] #[42,42] rfl [.agg (vrow_ c),.agg (vrow_ d)] rfl (eO_ func14) (fun v w'=>v=.bool true∧B_ V0 w') ((HR.out V0 N).mono (fun e w2 h=>⟨_,h.1,rfl,h.2⟩)) ?_;rintro v V1 ⟨rfl,z⟩;have a6:=zm N z;refine hK.out _ _ ⟨zr z R,zr z ab,zdd Z z,zdd ad z⟩ (fun o=>?_);simp only[zf];refine zU 11 65 (.bool false) rfl rfl o ?_;simp only[zf];refine wD_ (by kernel_rfl) ?_ _;have aY:=zm A a6;clear R ab Z ad o N z;go_wp2_with fail
    go_roundw
    case rel=>exact ⟨k+1,by omega,by go_num,aY⟩
    case measure=>simp[intOf];omega
   ·obtain rfl:k=4:=by omega
    have a7:¬((4:Nat):Int)<4:=by omega
    have f1:=zb U 1 (.slice x.ga x.gs.length x.gc) rfl;have f2:wr.cell? ⟨H,1,none⟩=some (.slice y.ga x.gs.length y.gc):=by rw[←aU.out];exact zb Y 1 _ rfl
    have a4:=zm a3 A;clear U Y hlt hk;go_wp2_with fail
    go_ret;exact ⟨rfl,a4⟩
end Go.Proofs.YtdepbohhmfkjgaaGreatDoor
