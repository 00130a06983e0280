import Derived.Test.YtdepbohhmfkjgaaGreatDoorPk36
set_option maxRecDepth 100000
set_option maxHeartbeats 4000000
namespace Go.Proofs.YtdepbohhmfkjgaaGreatDoor
open Go.RowKit Tryz
variable {i:Int}{g:Fl}
theorem Fl.run_cons (f:Fl)(a:Ac)(l:List Ac):f.run (a::l)=(f.does a).run l:=rfl
theorem zfZ {f:Fl}{a:Ac}(h:a.k=8):f.does a=f.start a.i:=by
 rw[Fl.does,Fl.act,if_neg (by omega),if_neg (by omega),if_neg (by omega),if_neg (by omega),if_pos h]
theorem zgB {f:Fl}{a:Ac}(h:a.k=3):f.does a=if f.runs a.i then f.sync a.i else f:=by
 rw[Fl.does,Fl.act,if_neg (by omega),if_neg (by omega),if_neg (by omega),if_neg (by omega),if_neg (by omega),if_pos (by omega),if_neg (show ¬a.k=2 by omega),if_pos h]
theorem zau (f:Fl)(i:Int)(n:Nd):(f.set i n).nd.length=f.nd.length:=by simp[Fl.set]
theorem set_here {f:Fl}(n:Nd)(b:f.nd.length=4)(c:0≤i∧i<4):(f.set i n).node i=n:=by
 have:i.toNat<f.nd.length:=by omega
 simp[Fl.set,Fl.node,List.getD,this]
theorem set_there {f:Fl}{j:Int}(n:Nd)(b:0≤i)(c:0≤j)(d:j≠i):(f.set i n).node j=f.node j:=by
 have:i.toNat≠j.toNat:=by omega
 simp[Fl.set,Fl.node,List.getD,this]
theorem zwz {f:Fl}(d:f.nd.length=4)(g:0≤i∧i<4):f.set i (f.node i)=f:=by
 have h:i.toNat<f.nd.length:=by omega
 have e:f.nd.set i.toNat (f.node i)=f.nd:=by
  apply List.ext_getElem (by simp)
  intro j b c;rw[List.getElem_set]
  split
  ·rename_i e;subst e;simp[Fl.node,List.getD,h]
  ·rfl
 unfold Fl.set;rw[e]
theorem zdO (l:List MC)(f:Fl):(l.foldl Fl.out f).nd=f.nd:=by
 induction l generalizing f with
 | nil=>rfl
 | cons m l ih=>rw[List.foldl_cons,ih];rfl
theorem zhv (o:No)(m:MC):(o.sign m).bad=o.bad:=by
 unfold No.sign
 split
 ·split<;>rfl
 ·split<;>rfl
theorem zha (l:List MC)(f:Fl):(l.foldl Fl.out f).no.bad=f.no.bad:=by
 induction l generalizing f with
 | nil=>rfl
 | cons m l ih=>rw[List.foldl_cons,ih];exact zhv _ _
theorem zev {f:Fl}(h:f.nd=g.nd)(i:Int):f.node i=g.node i:=by rw[Fl.node,Fl.node,h]
theorem zca (f:Fl)(i:Int)(m:MC):(f.come i m).nd.length=f.nd.length:=by unfold Fl.come;split;exact zau _ _ _;rfl
theorem zeT (l:List MC)(f:Fl):(comes f l).nd.length=f.nd.length:=by
 induction l generalizing f with
 | nil=>rfl
 | cons m l ih=>exact (ih _).trans (zca _ _ _)
theorem zfs (f:Fl)(a:Ac):(f.does a).nd.length=f.nd.length:=by
 unfold Fl.does Fl.act
 split
 ·unfold Fl.pick
  split
  ·rfl
  ·split
   ·rfl
   ·split
    ·exact zca _ _ _
    ·rfl
 ·split
  ·exact zeT _ _
  ·split
   ·unfold Fl.submit
    split
    ·rfl
    ·split
     ·exact zau _ _ _
     ·rfl
   ·split
    ·exact zcq (P:=fun g=>g.nd.length=f.nd.length) _ _ rfl (fun m=>zca _ _ _)
    ·split
     ·unfold Fl.start
      split
      ·rfl
      ·exact zau _ _ _
     ·split
      ·split
       ·split
        ·exact zau _ _ _
        ·split
         ·unfold Fl.sync;rw[zdO];exact zau _ _ _
         ·exact zau _ _ _
       ·rfl
      ·rfl
theorem zgk (l:List Ac)(f:Fl):(f.run l).nd.length=f.nd.length:=by
 induction l generalizing f with
 | nil=>rfl
 | cons a l ih=>rw[Fl.run_cons,ih,zfs]
theorem zhS {f:Fl}{j:Int}(c:f.nd.length=4)(b:0≤i∧i<4)(d:0≤j∧j<4):(f.sync i).node j=if j=i then { f.node i with wai:=[],syn:=(zae (f.node i).recs).length } else f.node j:=by
 rw[Fl.sync,zev (zdO _ _)]
 split
 ·rename_i e;subst e;exact set_here _ c b
 ·rename_i e;exact set_there _ b.1 d.1 e
theorem zlm (f:Fl)(i:Int):(f.sync i).no.bad=f.no.bad:=by rw[Fl.sync,zha];rfl
theorem zln (f:Fl)(i:Int):(f.sync i).nd.length=f.nd.length:=by rw[Fl.sync,zdO];exact zau _ _ _
theorem zsO {f:Fl}(d:f.nd.length=4)(b:0≤i∧i<4):(f.sync i).sync i=f.sync i:=by
 have c:=zhS d b b;rw[if_pos rfl] at c;have j:(f.sync i).nd.length=4:=(zln f i).trans d;have e:({ (f.sync i).node i with wai:=[],syn:=(zae ((f.sync i).node i).recs).length }:Nd)=(f.sync i).node i:=by rw[c]
 have g:((f.sync i).node i).wai=[]:=by rw[c]
 show (((f.sync i).node i).wai.foldl Fl.out ((f.sync i).set i { (f.sync i).node i with wai:=[],syn:=(zae ((f.sync i).node i).recs).length }))=_;rw[e,g,zwz j b]
 rfl
theorem zgl (f:Fl)(i:Int):(f.start i).no=f.no:=by unfold Fl.start;split<;>rfl
theorem zje (f:Fl)(i:Int):(f.start i).away=f.away:=by unfold Fl.start;split<;>rfl
theorem zqF {f:Fl}{j:Int}(b:0≤i)(c:0≤j)(h:j≠i):(f.start i).node j=f.node j:=by
 unfold Fl.start
 split
 ·rfl
 ·exact set_there _ b c h
theorem ziw {o:Om}{f:Fl}(h:o.v=f.told):o.gs.length=f.no.sg.length:=by
 have e:(zA o.gs).length=f.no.sg.length:=congrArg (fun x:Ou=>x.sg.length) h;rw[zgj] at e;exact e
theorem zcA {o:Om}{f:Fl}(h:o.v=f.told):o.aw=f.away.length:=congrArg (fun x:Ou=>x.aw) h
theorem zkb {f:Fl}(b:g.no.bad=f.no.bad)(h:(g.node i).k=(f.node i).k):zcx (f.view i) (g.view i):=by
 unfold Fl.view;rw[b]
 split
 ·exact ⟨rfl,rfl,rfl,rfl⟩
 ·exact ⟨by simp only[h],by simp only[h],by simp only[h],by simp only[h]⟩
theorem zjf (r:Int)(l:List Ac):((Fl.z r).run l).nd.length=4:=(zgk l _).trans rfl
theorem zsP {f:Fl}(d:f.nd.length=4)(c:0≤i∧i<4)(t:ByteArray):(f.does ⟨3,i,0,t⟩).does ⟨3,i,0,t⟩=f.does ⟨3,i,0,t⟩:=by
 cases hr:f.runs i with
 | true=>
  have b:f.does ⟨3,i,0,t⟩=f.sync i:=by rw[zgB rfl];exact if_pos hr
  rw[b];have g:=zhS d c c;rw[if_pos rfl] at g;have j:(f.sync i).runs i=true:=by
   unfold Fl.runs at hr ⊢;rw[zlm,g];exact hr
  rw[zgB rfl];exact (if_pos j).trans (zsO d c)
 | false=>
  have b:f.does ⟨3,i,0,t⟩=f:=by rw[zgB rfl];exact if_neg (by rw[hr];decide)
  rw[b,b]
theorem zwA {f:Fl}{j:Int}(c:f.nd.length=4)(b:0≤i∧i<4)(d:0≤j∧j<4)(l:i≠j)(t:ByteArray) :
  (((f.does ⟨3,i,0,t⟩).does ⟨3,i,0,t⟩).does ⟨8,j,0,t⟩).away=(f.does ⟨3,i,0,t⟩).away∧(((f.does ⟨3,i,0,t⟩).does ⟨3,i,0,t⟩).does ⟨8,j,0,t⟩).no=(f.does ⟨3,i,0,t⟩).no∧zcx ((f.does ⟨3,i,0,t⟩).view i) ((((f.does ⟨3,i,0,t⟩).does ⟨3,i,0,t⟩).does ⟨8,j,0,t⟩).view i):=by
 rw[zsP c b];generalize f.does ⟨3,i,0,t⟩=g;rw[zfZ rfl];refine ⟨zje _ _,zgl _ _,zkb (by rw[zgl]) ?_⟩;rw[zqF d.1 b.1 l]
theorem topQuiet_walk (sa:Option Addr)(av:Nat)(rs:List Ft)(n:Int)(D:Int)(w:World)(bM:zfn w sa rs)(_hc_rs:rs.length≤av)(n1:-9223372036854775808≤n)(n2:n≤9223372036854775807)(bt:-9223372036854775808≤D)(bu:D≤9223372036854775807)(hT:zcw w∧za2 w) :
  Calls prog 6 #[.slice sa rs.length av,I_ n,I_ D] w fun e w'=>e=.returned (.bool true)∧B_ w w':=by
 have U:Hid (∀ W:World,B_ w W→zcw W∧za2 W):=fun W hW=>⟨hT.1.below hW hT.1.lt,hT.2.below hW⟩;clear hT;obtain ⟨bS,bT⟩:=zW n 5 (by decide);have aq:=zg9 n w n1 n2;obtain ⟨b,bc⟩:∃ b,b=pk n 5-1:=⟨_,rfl⟩;have bd:-1≤b∧b≤3:=by omega
 rw[←bc] at aq;clear bc bS bT n1 n2;obtain ⟨bC,bD⟩:=zW D 4 (by decide);obtain ⟨I,hI⟩:∃ k:Nat,pk D 4=k:=⟨(pk D 4).toNat,by omega⟩;have HI:Hid (∀ W:World,Calls prog 10 #[I_ D,I_ 4] W fun e w'=>e=.returned (I_ (I:Int))∧W=w'):=fun W=>by rw[←hI];exact zbI D 4 W bt bu (by decide) (by decide)
 have E:I<4:=by omega
 clear hI bC bD bt bu;go_in;go_wp2_with fail
 refine aq.mono ?_;rintro _ w0 ⟨rfl,rfl⟩;dsimp only;clear aq;go_wp2_with fail
 refine (HI.out _).mono ?_;rintro _ w0 ⟨rfl,rfl⟩;dsimp only;go_wp2_with fail
 refine (zeu rs sa _ av 50 w rfl bM (by decide)).mono ?_;rintro e an ⟨v,l,o,r,hl,b1,g⟩;subst o;dsimp only;obtain ⟨aa,ac,O,be,bf⟩:=zbd r hl;subst O;have bw:Hid _:=hl;have bx:Hid _:=bf;clear r hl bf;have aQ:=g;clear g;refine kO_ ?D0 ?_;exact Obj.cells #[I_ 3,I_ I,I_ 0,.string ⟨#[]⟩] 29;have ah:=zC an ?D0;have am:=hN_ an ?D0;go_wp2_with fail
 generalize an.alloc ?D0=aM at ah am ⊢;generalize an.heap.size=aJ at am ⊢;have aB:∀ a∈[(⟨3,I,0,⟨#[]⟩⟩:AV)],a.e=0∧a.t.size≤4000:=by
  intro a z;simp only[List.mem_cons,List.not_mem_nil,or_false] at z;subst z;exact ⟨zaL _ _ _ _ (by decide) (by omega) (by decide) (by decide) (fun h=>by cases h) (fun _=>rfl) (fun _=>rfl),(by show ByteArray.size ⟨#[]⟩≤4000;decide)⟩
 have aU:=zm aQ ah;have ax:=be.below ah;clear aQ be;have bg:zbq aM (some ⟨aJ,0,none⟩) [(⟨3,I,0,⟨#[]⟩⟩:AV)]:=zdw am aB;have N:=zcZ l [(⟨3,I,0,⟨#[]⟩⟩:AV)] aa _ ac (some ⟨aJ,0,none⟩) 1 1 aM rfl rfl ax bg bx.out (fun e=>by cases e) (by simp;omega);refine N.mono ?_;rintro e aG ⟨v,o,r,g⟩;subst o;dsimp only;clear N bg am ah;have X:Hid _:=zc9 bw.out aB;clear aB;obtain ⟨m,B⟩:∃ z9,z9=l++[(⟨3,I,0,⟨#[]⟩⟩:AV)]:=⟨_,rfl⟩;rw[←B] at r X;have ar:Hid (m.length=l.length+1∧m=l++[(⟨3,I,0,⟨#[]⟩⟩:AV)]):=⟨by rw[B];simp,B⟩;clear B;obtain ⟨ma,mc,O,az,bi⟩:=zbd r X.out;subst O;have bz:Hid _:=bi;have b2:m.length≤51:=by have:=ar.out.1;omega
 clear r bi;have ai:=zm aU g;have aV:=ax.below g;clear aU ax;clear g;have M:=zc4 b bd m ma _ mc aG rfl (by omega) az (fun a z=>(X.out a z).1) (U.out aG ai).1 (U.out aG ai).2;go_wp2_with fail
 refine M.mono ?_;rintro e ao ⟨x,o,bm,bn,b4,g⟩;subst o;dsimp only;clear M;have bA:Hid _:=bn;clear bn;have aP:=zm ai g;have aW:=aV.below g;have aX:=az.below g;clear ai aV az;clear g;refine kO_ ?A0 ?_;exact Obj.cells #[.slice x.na 4 x.nc,.slice x.ga x.gs.length x.gc,I_ x.aw,.slice x.ca x.cs.length x.cc] 34;have L:=zC ao ?A0;have ak:=hN_ ao ?A0;go_upto_region 5 with fail
 generalize ao.alloc ?A0=Y at L ak ⊢;generalize ao.heap.size=s at ak ⊢;have aR:=zm aP L;have a6:=bm.below L;have aY:=aW.below L;have aZ:=aX.below L;clear aP bm aW aX;clear L;have bQ:IntKind.i64.wrap ((I:Int)+1)=(I:Int)+1:=by rw[IntKind.wrap_i64];omega
 obtain ⟨J,hJ⟩:∃ J:Nat,Int.tmod ((I:Int)+1) 4=J:=⟨(Int.tmod ((I:Int)+1) 4).toNat,by rw[Int.tmod_eq_emod_of_nonneg (by omega)];omega⟩;have HJ:Hid (J<4∧I≠J):=by show _∧_;rw[Int.tmod_eq_emod_of_nonneg (by omega)] at hJ;omega
 refine kO_ ?C0 ?_;exact Obj.cells #[I_ 3,I_ I,I_ 0,.string ⟨#[]⟩,I_ 8,I_ J,I_ 0,.string ⟨#[]⟩] 29;have H:=zC Y ?C0;have al:=hN_ Y ?C0;go_wp2_with fail
 generalize Y.alloc ?C0=aL at H al ⊢;generalize Y.heap.size=aI at al ⊢;have aA:∀ a∈[(⟨3,I,0,⟨#[]⟩⟩:AV),(⟨8,J,0,⟨#[]⟩⟩:AV)],a.e=0∧a.t.size≤4000:=by
  intro a z;simp only[List.mem_cons,List.not_mem_nil,or_false] at z;rcases z with e|e
  ·subst e;exact ⟨zaL _ _ _ _ (by decide) (by omega) (by decide) (by decide) (fun h=>by cases h) (fun _=>rfl) (fun _=>rfl),(by show ByteArray.size ⟨#[]⟩≤4000;decide)⟩
  ·subst e;exact ⟨zaL _ _ _ _ (by decide) (by have:=HJ.out.1;omega) (by decide) (by decide) (fun h=>by cases h) (fun _=>rfl) (fun _=>rfl),(by show ByteArray.size ⟨#[]⟩≤4000;decide)⟩
 have aS:=zm aR H;have a7:=a6.below H;have a0:=aY.below H;have aw:=aZ.below H;have bq:=zk H ak;clear aR a6 aY aZ ak;have bh:zbq aL (some ⟨aI,0,none⟩) [(⟨3,I,0,⟨#[]⟩⟩:AV),(⟨8,J,0,⟨#[]⟩⟩:AV)]:=zdw al aA;have N:=zcZ m [(⟨3,I,0,⟨#[]⟩⟩:AV),(⟨8,J,0,⟨#[]⟩⟩:AV)] ma _ mc (some ⟨aI,0,none⟩) 2 2 aL rfl rfl aw bh bz.out (fun e=>by cases e) (by simp;omega);refine N.mono ?_;rintro e aH ⟨v,o,r,g⟩;subst o;dsimp only;clear N bh al H;have au:Hid _:=zc9 X.out aA;clear aA;obtain ⟨q,B⟩:∃ z9,z9=m++[(⟨3,I,0,⟨#[]⟩⟩:AV),(⟨8,J,0,⟨#[]⟩⟩:AV)]:=⟨_,rfl⟩;rw[←B] at r au;have aK:Hid (q.length=m.length+2∧q=m++[(⟨3,I,0,⟨#[]⟩⟩:AV),(⟨8,J,0,⟨#[]⟩⟩:AV)]):=⟨by rw[B];simp,B⟩;clear B;obtain ⟨qa,qc,O,aC,bj⟩:=zbd r au.out;subst O;have bW:Hid _:=bj;have b3:q.length≤53:=by have:=aK.out.1;omega
 clear r bj;have aj:=zm aS g;have a8:=a7.below g;have a1:=a0.below g;have a2:=aw.below g;have br:=zk g bq;clear aS a7 a0 aw bq;clear g;clear hJ bQ;have M:=zc4 b bd q qa _ qc aH rfl (by omega) aC (fun a z=>(au.out a z).1) (U.out aH aj).1 (U.out aH aj).2;go_wp2_with fail
 refine M.mono ?_;rintro e ap ⟨y,o,bo,bp,bR,g⟩;subst o;dsimp only;clear M;have bB:Hid _:=bp;clear bp;have aT:=zm aj g;have a9:=a8.below g;have a3:=a1.below g;have a4:=a2.below g;have a5:=aC.below g;have bs:=zk g br;clear aj a8 a1 a2 aC br;clear g;refine kO_ ?B0 ?_;exact Obj.cells #[.slice y.na 4 y.nc,.slice y.ga y.gs.length y.gc,I_ y.aw,.slice y.ca y.cs.length y.cc] 34;have u:=zC ap ?B0;have R:=hN_ ap ?B0;go_upto_region 6 with fail
 generalize ap.alloc ?B0=p at u R ⊢;generalize ap.heap.size=t at R ⊢;have bL:=zm aT u;have ba:=a9.below u;have bb:=bo.below u;have bX:=a3.below u;have bY:=a4.below u;have bZ:=a5.below u;have aD:=zk u bs;clear aT a9 bo a3 a4 a5 bs;clear u;have T:=zwA (f:=(Fl.z b).run (l.map AV.ac)) (i:=I) (j:=J) (zjf _ _) (by omega) (by have:=HJ.out.1;omega) (by have:=HJ.out.2;omega) ⟨#[]⟩;have ex:x.v=(((Fl.z b).run (l.map AV.ac)).does ⟨3,I,0,⟨#[]⟩⟩).told:=by rw[bA.out,ar.out.2,zcP];rfl
 have ey:y.v=(((((Fl.z b).run (l.map AV.ac)).does ⟨3,I,0,⟨#[]⟩⟩).does ⟨3,I,0,⟨#[]⟩⟩).does ⟨8,J,0,⟨#[]⟩⟩).told:=by rw[bB.out,aK.out.2,zcP,ar.out.2,zcP];rfl
 have aN:y.aw=x.aw:=by rw[zcA ey,zcA ex,T.1]
 have aO:y.gs.length=x.gs.length:=by rw[ziw ey,ziw ex,T.2.1]
 have bv:Hid (zcx (x.y I).v (y.y I).v):=by show zcx _ _;rw[zb0 ex I E,zb0 ey I E];exact T.2.2
 clear T ex ey;have HR:Hid (∀ V:World,B_ p V→Calls prog 14 #[.agg (vrow_ (x.y I)),.agg (vrow_ (y.y I))] V fun e w'=>e=.returned (.bool true)∧B_ V w'):=fun V hV=>zdC (x.y I) (y.y I) V ((ba.vm I E).below hV) ((bb.vm I E).below hV) (bR.vw I E) bv.out;obtain ⟨F,bO,bk⟩:=ba.row E;obtain ⟨G,bP,bl⟩:=bb.row E;generalize x.y I=c at HR bk;generalize y.y I=d at HR bl;have b0:(I:Int)<4:=by omega
 have ay:=dB_ p;have ad:p.drew.cell? ⟨s,2,none⟩=some (I_ x.aw):=zb aD 2 _ rfl;have ag:p.drew.cell? ⟨t,2,none⟩=some (I_ x.aw):=by rw[←aN];exact zb R 2 _ rfl
 have ab:p.drew.cell? ⟨s,1,none⟩=some (.slice x.ga x.gs.length x.gc):=zb aD 1 _ rfl;have af:p.drew.cell? ⟨t,1,none⟩=some (.slice y.ga x.gs.length y.gc):=by rw[←aO];exact zb R 1 _ rfl
 have Z:p.drew.cell? ⟨s,0,none⟩=some (.slice (some ⟨F,0,none⟩) 4 x.nc):=by rw[←bO];exact zb aD 0 _ rfl
 have ae:p.drew.cell? ⟨t,0,none⟩=some (.slice (some ⟨G,0,none⟩) 4 y.nc):=by rw[←bP];exact zb R 0 _ rfl
 have aE:p.drew.rangeAt F (I*6) c.cs:=zde bk;have aF:p.drew.rangeAt G (I*6) d.cs:=zde bl;refine wR_ (S:=fun w'=>w'.cell? ⟨s,2,none⟩=some (I_ x.aw)∧w'.cell? ⟨t,2,none⟩=some (I_ x.aw)∧w'.cell? ⟨s,1,none⟩=some (.slice x.ga x.gs.length x.gc)∧w'.cell? ⟨t,1,none⟩=some (.slice y.ga x.gs.length y.gc)∧w'.cell? ⟨s,0,none⟩=some (.slice (some ⟨F,0,none⟩) 4 x.nc)∧w'.cell? ⟨t,0,none⟩=some (.slice (some ⟨G,0,none⟩) 4 y.nc)∧w'.rangeAt F (I*6) c.cs∧w'.rangeAt G (I*6) d.cs) (by kernel_rfl) ⟨ad,ag,ab,af,Z,ae,aE,aF⟩ (fun C=>?_);generalize p.drew=V0 at ay ad ag ab af Z ae aE aF C ⊢;refine tks_ 24 [(0,44,.bool true),(1,45,.bool true),(2,46,.bool true),(3,47,.bool true),(4,48,.bool true),(5,49,(P_ s 2)),(6,50,I_ x.aw),(7,51,(P_ t 2)),(8,52,I_ x.aw),(9,53,.bool true),(10,54,.bool true),(11,55,.bool true),(12,56,(P_ s 1)),(13,57,.slice x.ga x.gs.length x.gc),(14,58,I_ (x.gs.length:Int)),(15,59,(P_ t 1)),(16,60,.slice y.ga x.gs.length y.gc),(17,61,I_ (x.gs.length:Int)),(18,62,.bool true),(19,63,.bool true),(20,64,.bool true),(21,65,(P_ s 0)),(22,66,.slice (some ⟨F,0,none⟩) 4 x.nc),(23,67,I_ (I:Int))] C ?_;simp only[tkf_,zf];refine zU 24 68 (P_ F (I*6)) rfl rfl C ?_;simp only[zf];refine tQ_ 25 69 (.agg (vrow_ c)) rfl rfl (yieldsIf_load_mid (by rfl) 42 _ rfl F (I*6) rfl c.cs _ (fun w0 h=>h.2.2.2.2.2.2.1) underlying42 rfl zck) C ?_;simp only[zf];refine tks_ 4 [(26,70,(P_ t 0)),(27,71,.slice (some ⟨G,0,none⟩) 4 y.nc),(28,72,I_ (I:Int)),(29,73,(P_ G (I*6)))] C ?_;simp only[tkf_,zf];refine tQ_ 30 74 (.agg (vrow_ d)) rfl rfl (yieldsIf_load_mid (by rfl) 42 _ rfl G (I*6) rfl d.cs _ (fun w0 h=>h.2.2.2.2.2.2.2) underlying42 rfl zck) C ?_;simp only[zf];refine zE 31 rfl (fun KK hK=>?_);refine zaJ (by rfl) 75 rfl 14 [.tmp 69,.tmp 74] #[42,42] rfl [.agg (vrow_ c),.agg (vrow_ d)] rfl (eO_ func14) (fun v w'=>v=.bool true∧B_ V0 w') ((HR.out V0 ay).mono (fun e w2 h=>⟨_,h.1,rfl,h.2⟩)) ?_;rintro v V1 ⟨rfl,A⟩;have bN:=zm ay A;have bG:=(A.cell (bL_ ad)).trans ad;have bJ:=(A.cell (bL_ ag)).trans ag;have bF:=(A.cell (bL_ ab)).trans ab;have bI:=(A.cell (bL_ af)).trans af;have bE:=(A.cell (bL_ Z)).trans Z;have bH:=(A.cell (bL_ ae)).trans ae;have bU:=zdd aE A;have bV:=zdd aF A;refine hK.out _ _ ⟨bG,bJ,bF,bI,bE,bH,bU,bV⟩ (fun C=>?_);simp only[zf];refine tks_ 2 [(32,76,.bool true),(33,6,.bool true)] C ?_;simp only[tkf_,zf];refine wD_ (by kernel_rfl) ?_ _;have bK:=zm bL bN;clear aN aO;go_wp2_with fail
 go_ret;exact ⟨rfl,bK⟩
end Go.Proofs.YtdepbohhmfkjgaaGreatDoor
