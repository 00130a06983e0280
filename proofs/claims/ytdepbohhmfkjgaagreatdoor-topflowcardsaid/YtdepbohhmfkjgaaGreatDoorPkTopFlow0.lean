import Derived.Test.YtdepbohhmfkjgaaGreatDoorPk37
set_option maxRecDepth 100000
set_option maxHeartbeats 4000000
namespace Go.Proofs.YtdepbohhmfkjgaaGreatDoor
open Go.RowKit _root_.Go.Proofs.Tryz
theorem zuX {f:Fl}{a:Ac}(h:a.k=4∨a.k=5∨a.k=6):f.does a=f.pick a.k a.p:=if_pos h
theorem zuY {f:Fl}{a:Ac}(h:a.k=10):f.does a=f.flow:=by
 rw[Fl.does,Fl.act,if_neg (by omega),if_pos h]
theorem zcj (f:Fl)(i:Int)(m:MC):(f.come i m).away=f.away:=by unfold Fl.come;split<;>rfl
theorem zfD (f:Fl)(l:List MC)(i:Int)(m:MC):({ f with away:=l }:Fl).come i m={ f.come i m with away:=l }:=by
 unfold Fl.come;show (if f.runs i then _ else _)=_
 split<;>rfl
theorem zej (l:List MC)(f:Fl):(comes f l).away=f.away:=by
 induction l generalizing f with
 | nil=>rfl
 | cons m l ih=>exact (ih _).trans (zcj _ _ _)
theorem zsS (l:List MC)(f:Fl)(k:List MC):comes { f with away:=k } l={ comes f l with away:=k }:=by
 induction l generalizing f with
 | nil=>rfl
 | cons m l ih=>
  show comes (({ f with away:=k }:Fl).come m.tt m) l={ comes (f.come m.tt m) l with away:=k };rw[zfD,ih]
def zkv:Nat→List Ac
 | 0=>[]
 | n+1=>⟨4,0,0,ByteArray.empty⟩::zkv n
theorem zsT (f:Fl)(m:MC)(l:List MC):({ f with away:=m::l }:Fl).pick 4 0={ f.come m.tt m with away:=l }:=by
 unfold Fl.pick;rw[if_neg (by simp),if_neg (by decide),if_pos rfl];have e:(0:Int).toNat % (m::l).length=0:=by simp
 show (({ f with away:=(m::l).eraseIdx ((0:Int).toNat % (m::l).length) }:Fl).come ((m::l).getD ((0:Int).toNat % (m::l).length) MC.z).tt ((m::l).getD ((0:Int).toNat % (m::l).length) MC.z))=_;rw[e];exact zfD f l m.tt m
theorem zuZ (l:List MC)(f:Fl):({ f with away:=l }:Fl).run (zkv l.length)={ comes f l with away:=[] }:=by
 induction l generalizing f with
 | nil=>rfl
 | cons m l ih=>
  show (({ f with away:=m::l }:Fl).does ⟨4,0,0,ByteArray.empty⟩).run (zkv l.length)=_;rw[zuX (.inl rfl)];show (({ f with away:=m::l }:Fl).pick 4 0).run (zkv l.length)=_;rw[zsT,ih]
  rfl
theorem zsU (f:Fl):f.run (zkv f.away.length)=f.flow:=by
 have h:=zuZ f.away f;rw[zfw,zsS];exact h
theorem zcA {o:Om}{f:Fl}(h:o.v=f.told):o.aw=f.away.length:=congrArg (fun x:Ou=>x.aw) h
theorem zcx.of {p q:Vw}(h:p=q):zcx p q:=by subst h;exact ⟨rfl,rfl,rfl,rfl⟩
variable {t:ByteArray}
def tkA (k:Nat):List AV:=List.replicate k (⟨4,0,0,⟨#[]⟩⟩:AV)
theorem zyW (k:Nat):(tkA k).map AV.ac=zkv k:=by
 induction k with
 | zero=>rfl
 | succ k ih=>rw[tkA,List.replicate_succ,List.map_cons];exact congrArg _ ih
theorem zwD (k:Nat):tkA k++[(⟨4,0,0,⟨#[]⟩⟩:AV)]=tkA (k+1):=by rw[tkA,tkA,List.replicate_succ']
theorem zrh (k:Nat):(tkA k).length=k:=List.length_replicate
theorem zpJ (k:Nat):∀ a∈tkA k,a.e=0∧a.t.size≤4000:=fun a b=>by
 obtain rfl:=List.eq_of_mem_replicate b
 exact ⟨zaL _ _ _ _ (by decide) (by decide) (by decide) (by decide) (fun _=>rfl) (fun h=>by cases h) (fun _=>rfl),(by show ByteArray.size ⟨#[]⟩≤4000;decide)⟩
theorem zny (f:Fl):f.flow.away=[]:=by rw[zfw,zej]
theorem zu0 {f:Fl}:f.does ⟨10,0,0,t⟩=f.flow:=zuY rfl
theorem topFlow_walk (sa:Option Addr)(aw:Nat)(rs:List Ft)(n:Int)(w:World)(bW:zfn w sa rs)(_hc_rs:rs.length≤aw)(n1:-9223372036854775808≤n)(n2:n≤9223372036854775807)(hT:zcw w∧za2 w) :
  Calls prog 7 #[.slice sa rs.length aw,I_ n] w fun e w'=>e=.returned (.bool true)∧B_ w w':=by
 have G:Hid (∀ W:World,B_ w W→zcw W∧za2 W):=fun W hW=>⟨hT.1.below hW hT.1.lt,hT.2.below hW⟩;clear hT;obtain ⟨b3,b4⟩:=zW n 5 (by decide);have aq:=zg9 n w n1 n2;obtain ⟨b,bo⟩:∃ b,b=pk n 5-1:=⟨_,rfl⟩;have aA:-1≤b∧b≤3:=by omega
 rw[←bo] at aq;clear bo b3 b4 n1 n2;go_in;go_wp2_with fail
 refine aq.mono ?_;rintro _ w0 ⟨rfl,rfl⟩;dsimp only;clear aq;go_wp2_with fail
 refine (zeu rs sa _ aw 60 w rfl bW (by decide)).mono ?_;rintro e aM ⟨v,l,o,r,hl,cc,f⟩;subst o;dsimp only;obtain ⟨aa,ac,R,aB,bs⟩:=zbd r hl;subst R;have Z:Hid _:=hl;have aP:Hid _:=bs;clear r hl bs;have ab:=f;clear f;have u:=zc4 b aA l aa _ ac aM rfl (by omega) aB (fun a B=>(Z.out a B).1) (G.out aM ab).1 (G.out aM ab).2;go_wp2_with fail
 refine u.mono ?_;rintro e an ⟨x,o,bx,bz,b1,f⟩;subst o;dsimp only;clear u;have bO:Hid _:=bz;clear bz;have aX:=zm ab f;have a9:=aB.below f;clear ab aB;clear f;refine kO_ ?A0 ?_;exact Obj.cells #[.slice x.na 4 x.nc,.slice x.ga x.gs.length x.gc,I_ x.aw,.slice x.ca x.cs.length x.cc] 34;have N:=zC an ?A0;have U:=hN_ an ?A0;go_wp2_with fail
 generalize an.alloc ?A0=bR at N U ⊢;generalize an.heap.size=Bx at U ⊢;have aZ:=zm aX N;have bd:=bx.below N;have ax:=a9.below N;clear aX bx a9;clear N;have cg:=b1.aw;have f2:=zb U 2 (I_ x.aw) rfl;go_loopw [10,9] (fun j v wr=>∃ (k:Nat) (L:Option Addr) (T:Nat),k≤x.aw∧j=I_ k∧v=.slice L (l++tkA k).length T∧zbq wr L (l++tkA k)∧Hid (L=none→(l++tkA k).length=0∧T=0)∧B_ bR wr) (fun j _ _=>x.aw-(intOf j).toNat)
 case atStart=>exact ⟨0,aa,ac,nZ_ _,rfl,by simp[tkA],by simpa[tkA] using ax,by show _→_;simpa[tkA] using aP.out,bR_ _ _⟩
 refine kO_ ?B0 ?_;exact Obj.cells #[I_ 10,I_ 0,I_ 0,.string ⟨#[]⟩] 29;refine kO_ ?C0 ?_;exact Obj.cells #[I_ 4,I_ 0,I_ 0,.string ⟨#[]⟩] 29
 case round=>
  obtain ⟨k,L,T,hk,rfl,rfl,F,aE,g⟩:=hrel;have aT:=(g.cell (bL_ f2)).trans f2;by_cases hlt:k<x.aw
  ·have aC:(k:Int)<x.aw:=by omega
   have cd:(k:Int)<400:=by omega
   have C:Hid ((l++tkA k).length=l.length+k∧(l++tkA (k+1))=(l++tkA k)++[(⟨4,0,0,⟨#[]⟩⟩:AV)]):=⟨by rw[lP_,zrh],by rw[List.append_assoc,zwD]⟩;have M:=zC wr ?C0;have q4:=hN_ wr ?C0;generalize l++tkA k=m at F aE C ⊢;go_wp2_with fail
   generalize wr.alloc ?C0=W4 at M q4 ⊢;generalize wr.heap.size=B4 at q4 ⊢;have bt:zbq W4 (some ⟨B4,0,none⟩) [(⟨4,0,0,⟨#[]⟩⟩:AV)]:=zdw q4 (by rw[show [(⟨4,0,0,⟨#[]⟩⟩:AV)]=tkA 1 from rfl];exact zpJ 1);have O:=zcZ m [(⟨4,0,0,⟨#[]⟩⟩:AV)] L _ T (some ⟨B4,0,none⟩) 1 1 W4 rfl rfl (F.below M) bt aE.out (fun e=>by cases e) (by have:=C.out.1;simp;omega);refine O.mono ?_;rintro e w5 ⟨v,o,r,bn⟩;subst o;dsimp only;clear O bt q4;rw[←C.out.2] at r;obtain ⟨pa,pc,R,b0,bv⟩:=zbd r (zc9 Z.out (zpJ (k+1)));subst R;have bN:Hid _:=bv;have bT:=g.trans ((M.trans (bn.mono M.size)).mono g.size);clear r bv bn M F aT;go_wp2_with fail
   go_roundw
   case rel=>exact ⟨k+1,pa,pc,by omega,by go_num,rfl,b0,bN,bT⟩
   case measure=>simp[intOf];omega
  ·have br:k=x.aw:=by omega
   have aC:¬((k:Int)<x.aw):=by omega
   have C:Hid ((l++tkA k).length=l.length+k∧(Fl.z b).run ((l++tkA k).map AV.ac)=((Fl.z b).run (l.map AV.ac)).flow):=⟨by rw[lP_,zrh],by rw[List.map_append,Fl.run_append,zyW,br,zcA bO.out,zsU]⟩;have ca:k≤400:=by omega
   have aQ:Hid (∀ a∈l++tkA k,a.e=0∧a.t.size≤4000):=zc9 Z.out (zpJ k);obtain ⟨m,E⟩:∃ z9,z9=l++tkA k:=⟨_,rfl⟩;rw[←E] at F aE C aQ ⊢;clear E hlt br hk;obtain ⟨WL,bm⟩:∃ W,W=wr:=⟨_,rfl⟩;rw[←bm] at g F aT ⊢;clear bm f2;have aU:=zm aZ g;have be:=bd.below g;have a0:=ax.below g;have bE:=zk g U;clear aZ bd ax U;clear g;have D:=zC WL ?B0;have ah:=hN_ WL ?B0;go_wp2_with fail
   generalize WL.alloc ?B0=aS at D ah ⊢;generalize WL.heap.size=aO at ah ⊢;have aD:∀ a∈[(⟨10,0,0,⟨#[]⟩⟩:AV)],a.e=0∧a.t.size≤4000:=by
    intro a B;simp only[List.mem_cons,List.not_mem_nil,or_false] at B;subst B;exact ⟨zaL _ _ _ _ (by decide) (by decide) (by decide) (by decide) (fun _=>rfl) (fun _=>rfl) (fun _=>rfl),(by show ByteArray.size ⟨#[]⟩≤4000;decide)⟩
   have aV:=zm aU D;have bf:=be.below D;have ay:=a0.below D;have a1:=F.below D;have bF:=zk D bE;clear aU be a0 F bE;have bu:zbq aS (some ⟨aO,0,none⟩) [(⟨10,0,0,⟨#[]⟩⟩:AV)]:=zdw ah aD;have O:=zcZ l [(⟨10,0,0,⟨#[]⟩⟩:AV)] aa _ ac (some ⟨aO,0,none⟩) 1 1 aS rfl rfl ay bu aP.out (fun e=>by cases e) (by simp;omega);refine O.mono ?_;rintro e aN ⟨v,o,r,f⟩;subst o;dsimp only;clear O bu ah D;have ar:Hid _:=zc9 Z.out aD;clear aD;obtain ⟨q,E⟩:∃ z9,z9=l++[(⟨10,0,0,⟨#[]⟩⟩:AV)]:=⟨_,rfl⟩;rw[←E] at r ar;have aR:Hid (q.length=l.length+1∧q=l++[(⟨10,0,0,⟨#[]⟩⟩:AV)]):=⟨by rw[E];simp,E⟩;clear E;obtain ⟨qa,qc,R,aF,bw⟩:=zbd r ar.out;subst R;have b5:Hid _:=bw;have cf:q.length≤61:=by have:=aR.out.1;omega
   clear r bw;have ad:=zm aV f;have bg:=bf.below f;have a2:=ay.below f;have a3:=a1.below f;have bG:=zk f bF;clear aV bf ay a1 bF;clear f
   skip
   have u:=zc4 b aA q qa _ qc aN rfl (by omega) aF (fun a B=>(ar.out a B).1) (G.out aN ad).1 (G.out aN ad).2;go_wp2_with fail
   refine u.mono ?_;rintro e ao ⟨y,o,bA,bB,ch,f⟩;subst o;dsimp only;clear u;have bP:Hid _:=bB;clear bB;have aW:=zm ad f;have bh:=bg.below f;have a4:=a2.below f;have a5:=a3.below f;have a6:=aF.below f;have bH:=zk f bG;clear ad bg a2 a3 aF bG;clear f;refine kO_ ?D0 ?_;exact Obj.cells #[.slice y.na 4 y.nc,.slice y.ga y.gs.length y.gc,I_ y.aw,.slice y.ca y.cs.length y.cc] 34;have s:=zC ao ?D0;have ai:=hN_ ao ?D0;go_upto_region 10 with fail
   generalize ao.alloc ?D0=au at s ai ⊢;generalize ao.heap.size=X at ai ⊢;have ae:=zm aW s;have bi:=bh.below s;have bj:=bA.below s;have a7:=a4.below s;have az:=a5.below s;have a8:=a6.below s;have bI:=zk s bH;clear aW bh bA a4 a5 a6 bH;clear s;have ce:m.length≤3000:=by have:=C.out.1;omega
   have u:=zc4 b aA m L _ T au rfl (by omega) az (fun a B=>(aQ.out a B).1) (G.out au ae).1 (G.out au ae).2;go_wp2_with fail
   refine u.mono ?_;rintro e ap ⟨z,o,bC,bD,b2,f⟩;subst o;dsimp only;clear u;have bQ:Hid _:=bD;clear bD;have aY:=zm ae f;have bk:=bi.below f;have bl:=bj.below f;have ba:=a7.below f;have bb:=az.below f;have bc:=a8.below f;have bJ:=zk f bI;have bK:=zk f ai;clear ae bi bj a7 az a8 bI ai;clear f;refine kO_ ?E0 ?_;exact Obj.cells #[.slice z.na 4 z.nc,.slice z.ga z.gs.length z.gc,I_ z.aw,.slice z.ca z.cs.length z.cc] 34;have p:=zC ap ?E0;have aj:=hN_ ap ?E0;go_upto_region 11 with fail
   generalize ap.alloc ?E0=av at p aj ⊢;generalize ap.heap.size=Y at aj ⊢;have bV:=zm aY p;have b9:=bk.below p;have bX:=bl.below p;have bY:=bC.below p;have b6:=ba.below p;have b7:=bb.below p;have b8:=bc.below p;have ci:=zk p bJ;have bL:=zk p bK;clear aY bk bl bC ba bb bc bJ bK;clear p;have ey:y.v=((Fl.z b).run (l.map AV.ac)).flow.told:=by rw[bP.out,aR.out.2,zcP,←zu0 (t:=⟨#[]⟩)];rfl
   have ez:z.v=((Fl.z b).run (l.map AV.ac)).flow.told:=by rw[bQ.out,C.out.2]
   have ya:y.aw=0:=by rw[zcA ey,zny];rfl
   have za:z.aw=0:=by rw[zcA ez,zny];rfl
   have bM:Hid (∀ i,i<4→zcx (y.y i).v (z.y i).v):=fun i hi=>zcx.of (by rw[zb0 ey i hi,zb0 ez i hi]);clear ey ez;have d2:av.cell? ⟨X,2,none⟩=some (I_ 0):=by have:=zb bL 2 _ rfl;rw[ya] at this;exact this
   have e2:av.cell? ⟨Y,2,none⟩=some (I_ 0):=by have:=zb aj 2 _ rfl;rw[za] at this;exact this
   clear ya za;go_wp2_with fail
   clear d2 e2;go_loopw [15] (fun j wr=>∃ k:Nat,k≤4∧j=I_ k∧B_ av wr) (fun j _=>4-(intOf j).toNat)
   case atStart=>exact ⟨0,nZ_ _,rfl,bR_ _ _⟩
   case round=>
    obtain ⟨k,hk,rfl,g⟩:=hrel;have aK:=zk g bL;have aL:=zk g aj;by_cases hlt:k<4
    ·have aC:(k:Int)<4:=by omega
     have aI:=bX.below g;have aJ:=bY.below g;have HR:Hid (∀ V:World,B_ wr V→Calls prog 14 #[.agg (vrow_ (y.y k)),.agg (vrow_ (z.y k))] V fun e w'=>e=.returned (.bool true)∧B_ V w'):=fun V hV=>zdC (y.y k) (z.y k) V ((aI.vm k hlt).below hV) ((aJ.vm k hlt).below hV) (b2.vw k hlt) (bM.out k hlt);obtain ⟨H,bp,aG⟩:=aI.row hlt;obtain ⟨I,bq,aH⟩:=aJ.row hlt;generalize y.y k=c at HR aG;generalize z.y k=d at HR aH;have af:=dB_ wr;have ag:wr.drew.cell? ⟨X,0,none⟩=some (.slice (some ⟨H,0,none⟩) 4 y.nc):=by rw[←bp];exact zb aK 0 _ rfl
     have al:wr.drew.cell? ⟨Y,0,none⟩=some (.slice (some ⟨I,0,none⟩) 4 z.nc):=by rw[←bq];exact zb aL 0 _ rfl
     have ak:=zde aG;have am:=zde aH;clear aI aJ aG aH bp bq aK aL;go_upto_region 16 with fail
     refine wR_ (S:=fun w'=>w'.cell? ⟨X,0,none⟩=some (.slice (some ⟨H,0,none⟩) 4 y.nc)∧w'.cell? ⟨Y,0,none⟩=some (.slice (some ⟨I,0,none⟩) 4 z.nc)∧w'.rangeAt H (k*6) c.cs∧w'.rangeAt I (k*6) d.cs) (by kernel_rfl) ⟨ag,al,ak,am⟩ (fun A=>?_);generalize wr.drew=V0 at af ag al ak am A ⊢;refine tks_ 4 [(0,80,(P_ X 0)),(1,81,.slice (some ⟨H,0,none⟩) 4 y.nc),(2,82,I_ (k:Int)),(3,83,(P_ H (k*6)))] A ?_;simp only[tkf_,zf];refine tQ_ 4 84 (.agg (vrow_ c)) rfl rfl (yieldsIf_load_mid (by rfl) 42 _ rfl H (k*6) rfl c.cs _ (fun w0 h=>h.2.2.1) underlying42 rfl zck) A ?_;simp only[zf];refine tks_ 4 [(5,85,(P_ Y 0)),(6,86,.slice (some ⟨I,0,none⟩) 4 z.nc),(7,87,I_ (k:Int)),(8,88,(P_ I (k*6)))] A ?_;simp only[tkf_,zf];refine tQ_ 9 89 (.agg (vrow_ d)) rfl rfl (yieldsIf_load_mid (by rfl) 42 _ rfl I (k*6) rfl d.cs _ (fun w0 h=>h.2.2.2) underlying42 rfl zck) A ?_;simp only[zf];refine zE 10 rfl (fun K9 hK=>?_);refine zj rfl 90 rfl 14 [.tmp 84,.tmp 89] #[42,42] rfl [.agg (vrow_ c),.agg (vrow_ d)] rfl (eO_ func14) (fun v w'=>v=.bool true∧B_ V0 w') ((HR.out V0 af).mono (fun e w2 h=>⟨_,h.1,rfl,h.2⟩)) ?_;rintro v V1 ⟨rfl,J⟩;have bZ:=zm af J;refine hK.out _ _ ⟨zr J ag,zr J al,zdd ak J,zdd am J⟩ (fun A=>?_);simp only[zf];refine zU 11 91 (.bool false) rfl rfl A ?_;simp only[zf];refine wD_ (by kernel_rfl) ?_ _;have bS:=zm g bZ;clear ag al ak am A af J;go_wp2_with fail
     go_roundw
     case rel=>exact ⟨k+1,by omega,by go_num,bS⟩
     case measure=>simp[intOf];omega
    ·obtain rfl:k=4:=by omega
     have aC:¬((4:Nat):Int)<4:=by omega
     have bU:=zm bV g;clear aK aL hlt hk;go_wp2_with fail
     go_ret;exact ⟨rfl,bU⟩
end Go.Proofs.YtdepbohhmfkjgaaGreatDoor
