import Derived.Test.YtdepbohhmfkjgaaGreatDoorPk27
set_option maxRecDepth 100000
set_option maxHeartbeats 4000000
namespace Go.Proofs.YtdepbohhmfkjgaaGreatDoor
open Go.RowKit Tryz
theorem zor (c:List Ct)(s:Nat)(ca:Option Addr)(cc:Nat)(da:Option Addr)(dc:Nat)(ds:List zi)(rd:Int)(w:World)(y:zdC w s c ca cc da dc ds)(ad:∀ p∈ds,p.bs.length≤140737488355328) :
  Calls prog 161 #[P_ s 0,I_ rd] w fun e w'=>∃ E mc ms,e=.returned (.slice E (List.length ms) mc)∧zQ ms=dgF (zD c) rd∧zy w' E mc ms∧zaS w.heap.size E ms∧B_ w w'∧(∀ F H,E=some ⟨F,H,none⟩→F<w'.heap.size):=by
 obtain ⟨i,hi,an,ao,ap⟩:=info_parts zga;have aw:=y.at'.small;have HL:Hid (ds.length=c.length):=y.at'.len;have ae:Hid (zQ ds=(zD c).map CV.d):=y.at'.same;go_in;go_wp2_with fail
 go_loopw [8,5] (fun j v wr=>∃ (m:Nat) (ms:List zi),m≤4∧j=I_ m∧zQ ms=zcH (zD c) rd m∧zX wr w.heap.size v ms∧wr.ownsRow w.heap.size 64 1 v ms.length (pv ms)∧B_ w wr) (fun j _ _=>4-(intOf j).toNat)
 case atStart=>exact ⟨0,[],nZ_ _,rfl,rfl,(fun p Y=>by cases Y),oN_ _ _ _ _,bR_ _ _⟩
 case round=>
  obtain ⟨m,ms,hm,rfl,g,O,V,T⟩:=hrel;have Z:=y.below T;have av:ms.length≤m:=by
   have:=congrArg List.length g;rw[zcr] at this;rw[this];exact znW _ _ _
  by_cases hlt:m<4
  ·have au:(m:Int)<4:=by omega
   have M:Hid (0≤cOf (zD c) m rd→zcH (zD c) rd (m+1)=zQ ms++[(zaD (zD c) (cOf (zD c) m rd).toNat).d]):=by
    show _→_;intro h;rw[zcH,if_pos h,g]
   have L:Hid (¬0≤cOf (zD c) m rd→zQ ms=zcH (zD c) rd (m+1)):=by
    show _→_;intro h;rw[zcH,if_neg h,g]
   have hB:=zj5 (zD c) m rd;rw[zbh] at hB;clear g;go_wp2_with fail
   refine (zrm c s ca cc da dc ds m rd wr Z).mono ?_;rintro _ A ⟨rfl,t⟩;dsimp only;have N:=zq T t;have X:=zv V t;have D:=Z.below t;have t1:=zb D.box 1 _ rfl;have aa:zX A w.heap.size _ ms:=O.same t.size (fun p Y b H e=>t.block b ((O p Y).2 b H e).2.1);generalize cOf (zD c) m rd=r at *;by_cases hr:0≤r
   ·obtain ⟨k,rfl⟩:∃ k:Nat,r=k:=⟨r.toNat,by omega⟩;have l:k<ds.length:=by rw[HL.out];omega
    have ar:(k:Int)<c.length:=by omega
    have I:=M.out hr;rw[Int.toNat_natCast,zmG ae.out k l] at I;have J:Hid (zcH (zD c) rd (m+1)=zQ ms++[(ds[k]).bs]):=I;clear M L I;rcases D.at'.digs.parts.cells with C|⟨db,aq,rfl,C⟩
    ·rw[C] at l;simp at l
    have ck:=C k l;have hx:=D.at'.digs.parts.each (ds[k]) (gM_ l);have am:=ad (ds[k]) (gM_ l);clear C D Z y ad;generalize ds[k]=p at *;go_wp2_with fail
    refine (zd4 p.bs p.sa _ p.cap A rfl hx am).mono ?_;rintro e w2 ⟨z,rc,U,al,ak,R⟩;subst U;dsimp only;have B:=zq N R;have ac:=zv X R;go_wp2_with (at_builtin;refine wpList_append_own_at _ rfl _ _ 54 rfl w.heap.size 64 i (O_) 1 24 underlying54 hi an ao ap rfl (by decide) _ ms.length _ rfl (oA_ ac _) ⟨w2.heap.size,0,none⟩ 1 1 [.slice z p.bs.length rc] rfl rfl (z8 _ _ _) (by intro u hu;simp at hu;subst hu;rfl) (by unfold maxLen;omega) (by omega) (zz B.size _) ?_;intro v1 w3 aj ab _ ah)
    have G:=zR.of ab ah;have ag:=aa.more_at (q:=⟨z,rc,p.bs⟩) N.size X R ak al G;have af:=Below.grown (B.alloc B.size _) ab (zz B.size _) (fun q e=>(ac.lt q e).1);go_roundw
    case rel=>
     have o:∃ (f:Nat) (d:List zi),f≤4∧(Value.int .i64 ((m:Int)+1))=I_ f∧zQ d=zcH (zD c) rd f∧zX w3 w.heap.size v1 d∧w3.ownsRow w.heap.size 64 1 v1 d.length (pv d)∧B_ w w3:=
      ⟨m+1,ms++[⟨z,rc,p.bs⟩],by omega,by go_num,by rw[J.out];simp[zQ],ag,by simpa[pv,zi.val] using aj,af⟩
     first|exact o|((repeat apply Exists.intro);exact ⟨o,rfl⟩)
    case measure=>simp[intOf];omega
   ·have J:Hid (zQ ms=zcH (zD c) rd (m+1)):=L.out (by omega);obtain rfl:r=-1:=by omega
    clear M L;go_wp2_with fail
    go_roundw
    case rel=>
     have o:∃ (f:Nat) (d:List zi),f≤4∧(Value.int .i64 ((m:Int)+1))=I_ f∧zQ d=zcH (zD c) rd f∧zX A w.heap.size u5 d∧A.ownsRow w.heap.size 64 1 u5 d.length (pv d)∧B_ w A:=
      ⟨m+1,ms,by omega,by go_num,J.out,aa,X,N⟩
     first|exact o|((repeat apply Exists.intro);exact ⟨o,rfl⟩)
    case measure=>simp[intOf];omega
  ·obtain rfl:m=4:=by omega
   have HM:Hid (zQ ms=dgF (zD c) rd):=g;clear g;obtain ⟨z,rc,hv,hl,hL,ai⟩:=zcl V O;subst hv;go_wp2_with fail
   go_ret;exact ⟨z,rc,ms,rfl,HM.out,hL (by omega),ai,T,fun F H e=>(V.lt F (by rw[e];rfl)).2⟩
theorem zos (k:Kn)(b:Int)(a:List (List Int))(l:List BW)(i:Nat)(c:i<l.length):zbP k b a (l.take (i+1))=zfW k b (zbP k b a (l.take i)) l[i]:=by
 rw[tS_ c,zbP,List.foldl_append]
 rfl
theorem zot (k:Kn)(c:Int)(l:List BW):∀ a:List (List Int),a.length=3→zbP k c a l=a:=by
 induction l with
 | nil=>intro a _;rfl
 | cons b l ih=>
  intro a h;show zbP k c (zfW k c a b) l=a;have e:zfW k c a b=a:=by rw[zfW,if_pos h]
  rw[e];exact ih a h
theorem zou (k:Kn)(b:Int)(a:List (List Int))(l:List BW)(i:Nat)(h:(zbP k b a (l.take i)).length=3):zbP k b a l=zbP k b a (l.take i):=by
 have e:zbP k b a (l.take i++l.drop i)=zbP k b (zbP k b a (l.take i)) (l.drop i):=List.foldl_append;rw[List.take_append_drop] at e;rw[e];exact zot _ _ _ _ h
structure zv7 (w w':World)(e:Ending)(x:NM):Prop where
 out:∃ ma mc ms,e=.returned (.slice ma (List.length ms) mc)∧zQ ms=zbP x.v.k x.nu [] x.v.k.sh∧ms.length≤3∧w'.ownsRow w.heap.size 64 1 (.slice ma ms.length mc) ms.length (pv ms)∧(∀ p∈ms,∃ s∈x.sh,p=s.d)∧B_ w w'
theorem zsd (x:NM)(w:World)(U:Nat→Bool)(F o:Nat)(T:TypeId)(fc:Array Value)(h:zae w U F o T fc x) :
  Calls prog 160 #[P_ F o] w fun e w'=>zv7 w w' e x:=by
 obtain ⟨ti,aw,ax,ay,az⟩:=info_parts zga;have c4:=h.cell 4 _ rfl;have aA:x.sh.length≤800:=by have:=h.inv.sh;simpa[NM.v,shw] using this
 have ae:Hid (x.v.k.sh.length=x.sh.length):=zbS _;go_in;go_wp2_with fail
 go_loopw [11,3] (fun j v wr=>∃ (k:Nat) (ms:List zi),k≤x.sh.length∧j=I_ k∧Hid (zQ ms=zbP x.v.k x.nu [] (x.v.k.sh.take k))∧ms.length≤3∧wr.ownsRow w.heap.size 64 1 v ms.length (pv ms)∧Hid (∀ p∈ms,∃ s∈x.sh,p=s.d)∧B_ w wr) (fun j _ _=>x.sh.length-(intOf j).toNat)
 case atStart=>exact ⟨0,[],nZ_ _,rfl,rfl,nZ_ _,oN_ _ _ _ _,(fun p hp=>by cases hp),bR_ _ _⟩
 case round=>
  obtain ⟨k,ms,hk,rfl,Z,X,ho,I,hb⟩:=hrel;obtain ⟨va,vc,hv⟩:=zC ho;subst hv;clear c4;by_cases hlt:k<x.sh.length
  ·have aC:(k:Int)<x.sh.length:=by omega
   have hr:=h.below hb;obtain ⟨sb,so,au,c0,c1,c2,c3⟩:=hr.shs.at k hlt;have ad:zdt (zo U w) (x.sh[k]):=h.esh _ (gM_ hlt);have av:x.sh[k]∈x.sh:=gM_ hlt;have ag:k<x.v.k.sh.length:=by rw[ae.out];exact hlt
   have ah:x.v.k.sh[k]=(x.sh[k]).b.v:=by show (shw x.sh)[k]'_=_;simp[shw]
   have O:Hid _:=zos x.v.k x.nu [] x.v.k.sh k ag;rw[ah,←Z.out] at O;rw[au];clear ag ah;generalize x.sh[k]=s at *;refine kV_ ?A0 ?_;exact Value.slice s.d.sa s.d.bs.length s.d.cap;refine kO_ ?B0 ?_;exact Obj.cells #[I_ s.b.v.au,I_ s.b.v.nu,.slice s.b.ta s.b.v.ss.length s.b.tc,?A0] 137;have Y:=zO wr ?B0;have N:=hN_ wr ?B0;go_upto_region 5 with fail
   generalize wr.alloc ?B0=t at Y N ⊢;generalize wr.heap.size=B at N ⊢;have D:=zq hb Y;have h0:=h.below D;have aa:=zv ho Y;have a0:=zb N 0 _ rfl;have a3:=zb N 3 _ rfl;have k0:C_ t F o (I_ x.nu):=h0.cell 0 _ rfl;clear ho c0 c1 c2 c3 hr N Y;by_cases he3:ms.length=3
   ·have HM:Hid (zQ ms=zbP x.v.k x.nu [] x.v.k.sh):=by
     show _=_;rw[zou x.v.k x.nu [] x.v.k.sh k (by rw[←Z.out,zcr];exact he3),Z.out]
    have an:(ms.length:Int)=3:=by omega
    have ab:Hid _:=he3;clear he3 X;go_wp2_with fail
    go_ret;exact ⟨va,vc,ms,rfl,HM.out,by have:=ab.out;omega,aa,I.out,D⟩
   ·have an:¬(ms.length:Int)=3:=by omega
    have ac:Hid (∀ V:World,B_ t V→Calls prog 199 #[P_ F o,?A0] V fun e w'=>e=.returned (.bool (zhe x.v.k x.nu s.b.v.d))∧B_ V w'):=by
     show ∀ V,_;intro V hV;rw[←ad.e];have af:=zq D hV;exact zqf x s.d.bs s.d.sa _ s.d.cap V U F o T fc (h.below af) rfl ((ad.d.sub (zH _ _)).below af)
    have z:Hid (zfW x.v.k x.nu (zQ ms) s.b.v=if s.b.v.au=x.nu∧zhe x.v.k x.nu s.b.v.d=false then zQ ms++[s.b.v.d] else zQ ms):=by
     show _=_;rw[zfW,if_neg (by rw[zcr];exact he3)]
    have ab:Hid (¬ms.length=3):=he3;clear he3;generalize ar:zhe x.v.k x.nu s.b.v.d=r at ac z;clear ar;by_cases e:s.b.v.au=x.nu
    ·have R:(s.b.v.au == x.nu)=true:=by simpa using e
     cases r with
     | true=>
      rw[if_neg (fun g=>by cases g.2)] at z;clear e;go_upto_region 6 with fail
      have c:=dB_ t;have d:=dC_ a0;have f:=dC_ a3;have l:=dC_ k0;refine wR_ (S:=fun w'=>C_ w' B 0 (I_ s.b.v.au)∧C_ w' B 3 ?A0∧C_ w' F o (I_ x.nu)) (by kernel_rfl) ⟨d,f,l⟩ (fun b=>?_);generalize t.drew=A at c d f l b ⊢;refine tks_ 8 [(0,18,(P_ B 0)),(1,19,(P_ B 0)),(2,20,I_ s.b.v.au),(3,21,(P_ F o)),(4,22,(P_ F o)),(5,23,(P_ F o)),(6,24,I_ x.nu),(7,25,.bool (s.b.v.au == x.nu))] b ?_;simp only[tkf_,zg];rw[R];refine tks_ 4 [(8,26,.bool true),(9,27,(P_ F o)),(10,28,(P_ B 3)),(11,29,.slice s.d.sa s.d.bs.length s.d.cap)] b ?_;simp only[tkf_,zg];refine zE 12 rfl (fun K9 hK=>?_);refine zaR (by rfl) 30 rfl 199 [.tmp 27,.tmp 29] #[112,64] rfl [P_ F o,?A0] rfl (eO_ func199) (fun v w'=>v=.bool true∧B_ A w') ((ac.out A c).mono (fun e w' k=>⟨_,k.1,rfl,k.2⟩)) ?_;rintro v V1 ⟨rfl,m⟩;have J:=zq c m;have C:=zr m d;have H:=zr m f;have G:=zr m l;refine hK.out _ _ ⟨C,H,G⟩ (fun b=>?_);simp only[zg];refine tks_ 2 [(13,31,.bool false),(14,32,.bool false)] b ?_;simp only[tkf_,zg];clear b;refine wD_ (by kernel_rfl) ?_ _;have y:=zq D J;have E:=zv aa J;obtain ⟨W2,L⟩:∃ W,W=V1:=⟨_,rfl⟩;rw[←L] at y E C H G ⊢;clear L;go_wp2_with fail
      go_roundw
      case rel=>exact ⟨k+1,ms,by omega,by go_num,by show _=_;rw[O.out,z.out],X,E,I,y⟩
      case measure=>simp[intOf];omega
     | false=>
      rw[if_pos ⟨e,rfl⟩] at z;clear e;go_upto_region 6 with fail
      have c:=dB_ t;have d:=dC_ a0;have f:=dC_ a3;have l:=dC_ k0;refine wR_ (S:=fun w'=>C_ w' B 0 (I_ s.b.v.au)∧C_ w' B 3 ?A0∧C_ w' F o (I_ x.nu)) (by kernel_rfl) ⟨d,f,l⟩ (fun b=>?_);generalize t.drew=A at c d f l b ⊢;refine tks_ 8 [(0,18,(P_ B 0)),(1,19,(P_ B 0)),(2,20,I_ s.b.v.au),(3,21,(P_ F o)),(4,22,(P_ F o)),(5,23,(P_ F o)),(6,24,I_ x.nu),(7,25,.bool (s.b.v.au == x.nu))] b ?_;simp only[tkf_,zg];rw[R];refine tks_ 4 [(8,26,.bool true),(9,27,(P_ F o)),(10,28,(P_ B 3)),(11,29,.slice s.d.sa s.d.bs.length s.d.cap)] b ?_;simp only[tkf_,zg];refine zE 12 rfl (fun K9 hK=>?_);refine zaR (by rfl) 30 rfl 199 [.tmp 27,.tmp 29] #[112,64] rfl [P_ F o,?A0] rfl (eO_ func199) (fun v w'=>v=.bool false∧B_ A w') ((ac.out A c).mono (fun e w' k=>⟨_,k.1,rfl,k.2⟩)) ?_;rintro v V1 ⟨rfl,m⟩;have J:=zq c m;have C:=zr m d;have H:=zr m f;have G:=zr m l;refine hK.out _ _ ⟨C,H,G⟩ (fun b=>?_);simp only[zg];refine tks_ 2 [(13,31,.bool true),(14,32,.bool true)] b ?_;simp only[tkf_,zg];clear b;refine wD_ (by kernel_rfl) ?_ _;have y:=zq D J;have E:=zv aa J;obtain ⟨W2,L⟩:∃ W,W=V1:=⟨_,rfl⟩;rw[←L] at y E C H G ⊢;clear L;clear C G;go_wp2_with (at_builtin;refine wpList_append_own_at _ rfl _ _ 54 rfl w.heap.size 64 ti (O_) 1 24 underlying54 aw ax ay az rfl (by decide) _ ms.length _ rfl (oA_ E _) ⟨W2.heap.size,0,none⟩ 1 1 [?A0] rfl rfl (z8 _ _ _) (by intro u hu;simp at hu;subst hu;rfl) (by unfold maxLen;omega) (by omega) (zz y.size _) ?_;intro v1 w3 ap ao _ aB)
      have ai:=Below.grown (y.alloc y.size _) ao (zz y.size _) (fun q e=>(E.lt q e).1);have ak:Hid (∀ p∈ms++[s.d],∃ s∈x.sh,p=s.d):=by
       show ∀ p,_;intro p hp;rcases List.mem_append.1 hp with g|g
       ·exact I.out p g
       ·exact ⟨s,av,List.mem_singleton.1 g⟩
      have al:(ms++[s.d]).length≤3:=by have:=ab.out;rw[lP_];simp;omega
      have am:Hid (zQ (ms++[s.d])=zbP x.v.k x.nu [] (x.v.k.sh.take (k+1))):=by
       show _=_;rw[O.out,z.out,←ad.e];simp[zQ]
      go_roundw
      case rel=>
       have hR:∃ (k':Nat) (M:List zi),k'≤x.sh.length∧(Value.int .i64 ((k:Int)+1))=I_ k'∧Hid (zQ M=zbP x.v.k x.nu [] (x.v.k.sh.take k'))∧M.length≤3∧w3.ownsRow w.heap.size 64 1 v1 M.length (pv M)∧Hid (∀ p∈M,∃ s∈x.sh,p=s.d)∧B_ w w3:=
        ⟨k+1,ms++[s.d],by omega,by go_num,am,al,by simpa[pv,zi.val] using ap,ak,ai⟩
       first|exact hR|((repeat apply Exists.intro);exact ⟨hR,rfl⟩)
      case measure=>simp[intOf];omega
    ·have R:(s.b.v.au == x.nu)=false:=by simpa using e
     rw[if_neg (fun g=>e g.1)] at z;clear e;go_upto_region 6 with fail
     have c:=dB_ t;have d:=dC_ a0;have f:=dC_ a3;have l:=dC_ k0;refine wR_ (S:=fun w'=>C_ w' B 0 (I_ s.b.v.au)∧C_ w' B 3 ?A0∧C_ w' F o (I_ x.nu)) (by kernel_rfl) ⟨d,f,l⟩ (fun b=>?_);generalize t.drew=A at c d f l b ⊢;refine tks_ 8 [(0,18,(P_ B 0)),(1,19,(P_ B 0)),(2,20,I_ s.b.v.au),(3,21,(P_ F o)),(4,22,(P_ F o)),(5,23,(P_ F o)),(6,24,I_ x.nu),(7,25,.bool (s.b.v.au == x.nu))] b ?_;simp only[tkf_,zg];rw[R];refine tks_ 7 [(8,26,.bool false),(9,27,undef),(10,28,undef),(11,29,undef),(12,30,undef),(13,31,undef),(14,32,.bool false)] b ?_;simp only[tkf_,zg];clear b;refine wD_ (by kernel_rfl) ?_ _;have aj:=zq D c;have aq:=zv aa c;go_wp2_with fail
     go_roundw
     case rel=>exact ⟨k+1,ms,by omega,by go_num,by show _=_;rw[O.out,z.out],X,aq,I,aj⟩
     case measure=>simp[intOf];omega
  ·obtain rfl:k=x.sh.length:=by omega
   have HM:Hid (zQ ms=zbP x.v.k x.nu [] x.v.k.sh):=by
    show _=_;rw[Z.out,tL_ (by rw[ae.out];exact nR_ _)]
   go_wp2_with fail
   go_ret;exact ⟨va,vc,ms,rfl,HM.out,X,ho,I.out,hb⟩
theorem zo6 (s:List Int)(k:Nat):∀ x∈zcM s k,0≤x∧x≤255:=by
 induction k with
 | zero=>intro x b;cases b
 | succ k ih=>
  intro x b;rw[zcM] at b;rcases List.mem_append.1 b with h|h
  ·exact ih x h
  ·simp at h
   omega
theorem zwA (au rd:Int)(bl pl:List zi):∀ x∈zay au rd bl pl,0≤x∧x≤255:=zo6 _ _
variable {w:World}{U:Nat→Bool}{F o base:Nat}{fc:Array Value}{T:TypeId}{x:NM}{rd:Int}{l:List CV}
theorem ztP (k:Kn)(f:Int)(l:List BW):∀ (a:List (List Int)) (d:List Int),d∈zbP k f a l→d∈a∨∃ b∈l,d=b.d:=by
 induction l with
 | nil=>intro a d h;exact .inl h
 | cons b l ih=>
  intro a d h;rcases ih (zfW k f a b) d h with g|⟨c,j,g⟩
  ·rw[zfW] at g
   split at g
   ·exact .inl g
   ·split at g
    ·rcases List.mem_append.1 g with q|q
     ·exact .inl q
     ·exact .inr ⟨b,List.mem_cons_self ..,List.mem_singleton.1 q⟩
    ·exact .inl g
  ·exact .inr ⟨c,List.mem_cons_of_mem _ j,g⟩
theorem zu9 {k:Kn}{d:Int}{l:List BW}{ms:List zi}(h:zQ ms=zbP k d [] l):U8L ms:=by
 intro p f;have c:p.bs∈zQ ms:=List.mem_map.2 ⟨p,f,rfl⟩;rw[h] at c;rcases ztP k d l [] p.bs c with g|⟨b,_,g⟩
 ·cases g
 ·rw[g];exact zo6 _ _
theorem zva (l:List CV)(rd:Int)(n:Nat):∀ d∈zcH l rd n,∀ x∈d,0≤x∧x≤255:=by
 induction n with
 | zero=>intro d b;cases b
 | succ n ih=>
  intro d b;rw[zcH] at b
  split at b
  ·rcases List.mem_append.1 b with g|g
   ·exact ih d g
   ·rw[List.mem_singleton.1 g];exact zwA _ _ _ _
  ·exact ih d b
theorem zwB {ms:List zi}(h:zQ ms=dgF l rd):U8L ms:=by
 intro p c;have b:p.bs∈zQ ms:=List.mem_map.2 ⟨p,c,rfl⟩;rw[h] at b;exact zva l rd 4 p.bs b
theorem zse {o:Nat}{d:Option Addr}{ms:List zi}(m:w.ownsRow base 64 1 (.slice d ms.length o) ms.length (pv ms))(B:∀ b,base≤b→U b=false)(l:∀ p∈ms,zf (zo U w) p.sa p.cap p.bs)(E:ms.length≤3):zy (zo U w) d o ms∧∀ c f,d=some ⟨c,f,none⟩→c<w.heap.size:=by
 rcases m.2 with ⟨e,z⟩|⟨g,C,D,e,r⟩
 ·simp only[Value.slice.injEq] at e;obtain ⟨s,_,t⟩:=e;subst s t;refine ⟨⟨by omega,by decide,by omega,.inl rfl,⟨.inl (eN_ z),l⟩⟩,(fun c f q=>by cases q)⟩
 ·have A:=m;cases e;refine ⟨⟨r.2.2.1,nT_ r.2.2.2.1 (by decide),by omega,.inr ⟨g,0,rfl⟩,⟨.inr ⟨g,0,rfl,fun j y=>?_⟩,l⟩⟩,?_⟩
  ·have u:C_ w g (0+j) (.slice (ms[j]).sa (ms[j]).bs.length (ms[j]).cap):=by
    rw[Nat.zero_add,World.ownsRow.cellAt A j (by omega)];simp[pv,y,zi.val]
   rw[←u];exact cB_ (zcT (B g r.1))
  ·intro c f q;cases q;exact ze r.2.1
structure zwC (w w':World)(e:Ending)(U:Nat→Bool)(x:NM)(rd:Int):Prop where
 out:∃ hd:Ct,e=.returned (.agg (hrow_ hd))∧hd.v=x.v.header rd∧hd.vl=[]∧HAt (zo U w') hd.ba hd.bc hd.bl hd.pa hd.pc hd.pl∧U8L hd.bl∧U8L hd.pl∧B_ w w'
theorem zae.ds32 (h:zae w U F o T fc x):∀ p∈x.ds,p.bs.length≤140737488355328:=by
 intro p d;have b:p.bs∈zQ x.ds:=List.mem_map.2 ⟨p,d,rfl⟩;rw[h.stk.same] at b;obtain ⟨c,_,e⟩:=List.mem_map.1 b;rw[←e,CV.d,zbs];decide
theorem zov (x:NM)(rd:Int)(w:World)(U:Nat→Bool)(F o:Nat)(T:TypeId)(fc:Array Value)(h:zae w U F o T fc x)(hr:1≤rd∧rd≤1048577) :
  Calls prog 115 #[P_ F o,I_ rd] w fun e w'=>zwC w w' e U x rd:=by
 have aq:IntKind.i64.wrap (rd-1)=rd-1:=by rw[IntKind.wrap_i64];omega
 refine kO_ ?C0 ?_;exact Obj.cells #[I_ 0,I_ 0,O_,O_] 56;have y:=zO w ?C0;have q0:=hN_ w ?C0;go_in;go_upto_region 1 with fail
 generalize w.alloc ?C0=O at y q0 ⊢;have H:=h.below y;obtain ⟨c,R⟩:∃ c,c=w.heap.size:=⟨_,rfl⟩;rw[←R] at q0 ⊢;have an:Hid _:=R;clear R;have k0:C_ O F o (I_ x.nu):=H.cell 0 _ rfl;have k6:=H.cell 6 _ rfl;have C:=dB_ O;have Y:=dC_ k0;have aa:=dC_ k6;refine wR_ (S:=fun w'=>C_ w' F o (I_ x.nu)∧C_ w' F (o+6) (P_ x.s 0)) (by kernel_rfl) ⟨Y,aa⟩ (fun u=>?_);generalize O.drew=E at C Y aa u ⊢;have al:=zn C q0;refine tks_ 12 [(0,5,(P_ F o)),(1,6,(P_ F o)),(2,7,(P_ F o)),(3,8,I_ x.nu),(4,9,I_ rd),(5,10,(P_ F o)),(7,12,(P_ F o)),(8,13,(P_ F o)),(9,14,(P_ F (o+6))),(10,15,(P_ x.s 0)),(11,16,I_ rd),(12,17,I_ (rd-1))] u ?_;simp only[tkf_,zg];refine zE 6 rfl (fun K9 B=>?_);refine zj rfl 11 rfl 160 [.tmp 10] #[112] rfl [P_ F o] rfl (eO_ func160) (fun v w'=>∃ j l ms,v=.slice j (List.length ms) l∧zQ ms=zbP x.v.k x.nu [] x.v.k.sh∧ms.length≤3∧w'.ownsRow E.heap.size 64 1 (.slice j ms.length l) ms.length (pv ms)∧(∀ p∈ms,∃ s∈x.sh,p=s.d)∧B_ E w') ((zsd x E U F o T fc (H.below C)).mono (fun e w' k=>by obtain ⟨j,l,ms,V,Z,k2,k3,k4,k5⟩:=k.out;exact ⟨_,V,j,l,ms,rfl,Z,k2,k3,k4,k5⟩)) ?_;rintro v G ⟨j,l,ms,rfl,m1,m2,m3,m4,N⟩;have M:=zq C N;have ae:=zr N Y;have ah:=zr N aa;refine B.out _ _ ⟨ae,ah⟩ (fun u=>?_);simp only[zg];have ab:Hid _:=m1;clear m1;have am:=zn N al;obtain ⟨ca,cc,da,dc,ap⟩:=(H.below M).stkAt;refine zE 13 rfl (fun K9 B=>?_);refine zj rfl 18 rfl 161 [.tmp 15,.tmp 17] #[96,3] rfl [P_ x.s 0,I_ (rd-1)] rfl (eO_ func161) (fun v w'=>∃ f g d,v=.slice f (List.length d) g∧zQ d=dgF (zD x.ls) (rd-1)∧zy w' f g d∧zaS G.heap.size f d∧(∀ m r,f=some ⟨m,r,none⟩→m<w'.heap.size)∧B_ G w') ((zor x.ls x.s ca cc da dc x.ds (rd-1) G ap h.ds32).mono (fun e w' k=>by obtain ⟨f,g,d,V,Z,k2,k3,k4,k5⟩:=k;exact ⟨_,V,f,g,d,rfl,Z,k2,k3,k5,k4⟩)) ?_;rintro v A ⟨f,g,d,rfl,n1,n2,z,n4,D⟩;have ao:=zq M D;have af:=zr D ae;have ai:=zr D ah;refine B.out _ _ ⟨af,ai⟩ (fun u=>?_);simp only[zg];have ac:Hid _:=n1;clear n1;have q:=zn D am;refine kA_ ?B0 ?_;exact #[I_ x.nu,I_ rd,.slice j ms.length l,.slice f d.length g];refine tK_ 14 19 (.agg ?B0) rfl rfl u ?_;simp only[zg];have ax:=zb q 0 _ rfl;have ar:=zd q 0;have ay:=zb q 1 _ rfl;have au:=zd q 1;have az:=zb q 2 _ rfl;have av:=zd q 2;have aA:=zb q 3 _ rfl;have aw:=zd q 3;have I:c<E.heap.size:=ze al;have J:c<G.heap.size:=ze am;have L:w.heap.size≤c:=by rw[an.out];exact nR_ _
 refine zE 15 rfl (fun K9 B=>?_);refine kW_ ?A0 ?_;exact (((A.setCell ⟨c,0,none⟩ (I_ x.nu)).setCell ⟨c,1,none⟩ (I_ rd)).setCell ⟨c,2,none⟩ (.slice j ms.length l)).setCell ⟨c,3,none⟩ (.slice f d.length g);refine zT rfl rfl ?A0 (by go_simp) ?_;have ak:(?A0).heap[c]? = some (.cells ?B0 56 (0,0)):=by simpa using (hS_ _ _ 3 _ _ (.slice f d.length g) (hS_ _ _ 2 _ _ (.slice j ms.length l) (hS_ _ _ 1 _ _ (I_ rd) (hS_ _ _ 0 _ _ (I_ x.nu) q))))
 have nB:=(((((y.trans (ao.mono y.size)).setCell (p:=⟨c,0,none⟩) L (I_ x.nu)).setCell (p:=⟨c,1,none⟩) L (I_ rd)).setCell (p:=⟨c,2,none⟩) L (.slice j ms.length l)).setCell (p:=⟨c,3,none⟩) L (.slice f d.length g));have nL:=(zy.setCell (zy.setCell (zy.setCell (zy.setCell n2 z c 0 (I_ x.nu) J) z c 1 (I_ rd) J) z c 2 (.slice j ms.length l) J) z c 3 (.slice f d.length g) J);have nO:=(zN (zN (zN (zN (zv m3 D) c 0 (I_ x.nu) I) c 1 (I_ rd) I) c 2 (.slice j ms.length l) I) c 3 (.slice f d.length g) I);have t:F≠c:=fun e=>by have:=h.bnd F h.fu;omega
 have ag:=(zal (k:=3) (v:=.slice f d.length g) (zal (k:=2) (v:=.slice j ms.length l) (zal (k:=1) (v:=I_ rd) (zal (k:=0) (v:=I_ x.nu) af t) t) t) t);have aj:=(zal (k:=3) (v:=.slice f d.length g) (zal (k:=2) (v:=.slice j ms.length l) (zal (k:=1) (v:=I_ rd) (zal (k:=0) (v:=I_ x.nu) ai t) t) t) t);refine B.out _ _ ⟨ag,aj⟩ (fun u=>?_);have ad:A.heap.size≤(?A0).heap.size:=by simp
 generalize ?A0=W5 at ak nB nL nO ag aj ad u ⊢;clear u;refine wD_ (by kernel_rfl) ?_ _;go_wp2_with fail
 obtain ⟨l1,l2⟩:=zse (U:=U) nO (fun b hb=>h.bnd.new (nT_ (nT_ y.size C.size) hb)) (fun p X=>by
   obtain ⟨s,hs,e⟩:=m4 p X;rw[e];exact (h.esh s hs).d.sub (zah.below U nB).sub) m2
 have l3:zy (zo U W5) f g d:=zs1 nL ⟨fun m r e _=>h.bnd.new (nT_ (nT_ y.size M.size) (z.row m r e)),fun p X m r e _=>h.bnd.new (nT_ (nT_ y.size M.size) (z.each p X m r e))⟩;exact bP_ (v:=.agg ?B0) (results_cell_row (fn:=Tryz.f115) (p:=4) (ty:=56) rfl _ _ c 56 _ (0,0) _ rfl ak underlying56 rfl sHd) rfl ⟨⟨x.nu,rd,j,l,ms,f,g,d,none,0,[]⟩,rfl,by show (⟨x.nu,rd,zQ ms,zQ d,[]⟩:CV)=_;rw[ab.out,ac.out];rfl,rfl,⟨l1,l3,fun m r e=>by rw[zb2];exact l2 m r e,fun m r e=>by rw[zb2];exact nL_ (n4 m r e) ad⟩,zu9 ab.out,zwB ac.out,nB⟩
theorem zqg (x:NM)(rd:Int)(w:World)(U:Nat→Bool)(F o:Nat)(T:TypeId)(fc:Array Value)(h:zae w U F o T fc x)(hr:1≤rd∧rd≤1048577) :
  Calls prog 89 #[P_ F o,I_ rd] w fun e w'=>(∃ v,e=.returned v)∧zac w U F o T fc x w' (x.v.offerNew rd):=by
 have a4:=zov x rd w U F o T fc h hr;go_in;go_wp2_with fail
 refine a4.mono ?_;rintro e w0 ⟨c,he,bg,bF,hH,a0,a1,aJ⟩;subst he;dsimp only;clear a4;have HM:Hid (x.v.offerNew rd=if (zak x.v.k.tab c.v).2.2=0∧x.v.room (zer c.v)=true then ({ x.v.log (zer c.v) { x.v.k with tab:=(zak x.v.k.tab c.v).1,own:=c.v,slot:=c.v.slot } with vot:=[x.v.nu] }:Nd).sendAll (zer c.v) else x.v):=by show _=_;rw[bg];rfl
 clear bg;have hA:=zO w0 (.cells (hrow_ c) 56);have aB:=hN_ w0 (.cells (hrow_ c) 56);have bd:Hid (U w0.heap.size=false):=h.bnd.new aJ.size;go_upto_region 1 with fail
 generalize w0.alloc (.cells (hrow_ c) 56)=I at hA aB ⊢;generalize w0.heap.size=B0 at aB bd ⊢;have aW:=zq aJ hA;have N:=h.below aW;have n1:=NTo.below (F:=F) (o:=o) U fc x aW;have aR:HAt (zo U I) c.ba c.bc c.bl c.pa c.pc c.pl:=hH.sub ((h.below aJ).later hA);have c5:=N.cell 5 _ rfl;clear hA aJ aW hH;go_cut [5,6,7] (fun u6 u7 u8 wx=>∃ (r:Option Addr) (rc:Nat) (f:List Sl) (d:Nat) (m:Option Addr) (u:Nat) (y z:Int) (ds:List Int) (A:Int),u6=.slice r f.length rc∧u7=(P_ d 0)∧u8=I_ A∧B_ I wx∧I.heap.size≤d∧R_ wx d #[I_ y,I_ z,.slice m ds.length u] 66∧Hid ((vs f,(y,z,ds),A)=zak x.v.k.tab c.v∧zf wx m u ds∧(∀ l t,m=some ⟨l,t,none⟩→I.heap.size≤l∧(Value.slice r f.length rc).ownBlock≠some l)∧wx.ownsRow I.heap.size 66 3 (.slice r f.length rc) f.length (slv f)∧zX wx I.heap.size (.slice r f.length rc) (ps f)∧(Value.slice r f.length rc).ownBlock≠some d))
 refine kO_ ?A0 ?_;exact Obj.cells #[I_ 0,I_ 0,O_] 66;refine kV_ ?B0 ?_;exact Value.slice x.ta x.tab.length x.tc
 case first=>
  have R:=dB_ I;have ar:=dC_ c5;have aC:=dQ_ aB;refine wR_ (S:=fun w'=>C_ w' F (o+5) ?B0∧R_ w' B0 (hrow_ c) 56) (by kernel_rfl) ⟨ar,aC⟩ (fun D=>?_);generalize I.drew=J at R ar aC D ⊢;refine tks_ 4 [(0,12,(P_ F o)),(1,13,(P_ F o)),(2,14,(P_ F (o+5))),(3,15,.slice x.ta x.tab.length x.tc)] D ?_;simp only[tkf_,zg];refine tQ_ 4 16 (.agg (hrow_ c)) rfl rfl (Or.inl ⟨by rfl,fun w0 bC=>zJ 56 _ rfl B0 rfl 56 (hrow_ c) (0,0) _ bC.2 underlying56 rfl sHd⟩) D ?_;simp only[zg];refine wpAnyH_ready (rs:=[5,10]) (by kernel_rfl) (by simp) (AllReadyH.cons rfl (fun K9 Z=>?_) (AllReadyH.cons rfl (fun K9 Z=>?_) AllReadyH.nil));refine zj rfl 17 rfl 116 [.tmp 15,.tmp 16] #[39,56] rfl [?B0,.agg (hrow_ c)] rfl (eO_ func116) (fun v w'=>(∃ (r:Option Addr) (rc:Nat) (f:List Sl) (m:Option Addr) (u:Nat) (y z:Int) (ds:List Int) (A:Int),v=.tuple #[.slice r (List.length f) rc,.agg #[I_ y,I_ z,.slice m (List.length ds) u],I_ A]∧(vs f,(y,z,ds),A)=zak x.v.k.tab c.v∧zf w' m u ds∧(∀ l t,m=some ⟨l,t,none⟩→J.heap.size≤l∧(Value.slice r (List.length f) rc).ownBlock≠some l)∧w'.ownsRow J.heap.size 66 3 (.slice r (List.length f) rc) (List.length f) (slv f)∧zX w' J.heap.size (.slice r (List.length f) rc) (ps f))∧B_ J w') ((zfl x.tab x.ta x.tc c.au c.rd c.ba c.bc c.bl c.pa c.pc c.pl J ((N.below R).tabAt) ((aR.sub (zH U I)).below R) ((N.below R).tabs.sub (zH _ _))).mono (fun e w' k=>by
    obtain ⟨r,rc,f,m,u,y,z,ds,A,k1,k2,_,k4,_,k6,k7,k8,k9,a2⟩:=k;exact ⟨_,k1,⟨r,rc,f,m,u,y,z,ds,A,rfl,by rw[k2,zfm];rfl,k4,fun l t e=>⟨k6 l t e,a2 l t e⟩,k8,k9⟩,k7⟩)) ?_
  rintro v E ⟨⟨r,rc,f,m,u,y,z,ds,A,rfl,hR,ag,an,hO,M⟩,hbc⟩;have O:=zq R hbc;have ae:=zr hbc ar;have ah:=zn hbc aC;refine Z.out _ _ ⟨ae,ah⟩ (fun D=>?_)
  rotate_left
  refine zw rfl 6 rfl (P_ J.heap.size 0) (J.alloc ?A0) (by go_simp) ?_;have L:=zO J ?A0;have C:=hN_ J ?A0;have O:=zq R L;have V:I.heap.size≤J.heap.size:=R.size;have ae:=zr L ar;have ab:F≠J.heap.size:=Nat.ne_of_lt (bL_ ar);have ah:=zn L aC;have ad:B0≠J.heap.size:=Nat.ne_of_lt (ze aC);refine Z.out _ _ ⟨ae,ah⟩ (fun D=>?_);simp only[zg];have al:J.heap.size<(J.alloc ?A0).heap.size:=by simp
  generalize J.alloc ?A0=E at L C O al ae ah D ⊢;clear L;generalize J.heap.size=d at C V al ab ad ⊢;refine zE 5 rfl (fun K9 Z=>?_);have bN:=al;refine zj rfl 17 rfl 116 [.tmp 15,.tmp 16] #[39,56] rfl [?B0,.agg (hrow_ c)] rfl (eO_ func116) (fun v w'=>(∃ (r:Option Addr) (rc:Nat) (f:List Sl) (m:Option Addr) (u:Nat) (y z:Int) (ds:List Int) (A:Int),v=.tuple #[.slice r (List.length f) rc,.agg #[I_ y,I_ z,.slice m (List.length ds) u],I_ A]∧(vs f,(y,z,ds),A)=zak x.v.k.tab c.v∧zf w' m u ds∧(∀ l t,m=some ⟨l,t,none⟩→E.heap.size≤l∧(Value.slice r (List.length f) rc).ownBlock≠some l)∧w'.ownsRow E.heap.size 66 3 (.slice r (List.length f) rc) (List.length f) (slv f)∧zX w' E.heap.size (.slice r (List.length f) rc) (ps f))∧B_ E w') ((zfl x.tab x.ta x.tc c.au c.rd c.ba c.bc c.bl c.pa c.pc c.pl E ((N.below O).tabAt) ((aR.sub (zH U I)).below O) ((N.below O).tabs.sub (zH _ _))).mono (fun e w' k=>by
    obtain ⟨r,rc,f,m,u,y,z,ds,A,k1,k2,_,k4,_,k6,k7,k8,k9,a2⟩:=k;exact ⟨_,k1,⟨r,rc,f,m,u,y,z,ds,A,rfl,by rw[k2,zfm];rfl,k4,fun l t e=>⟨k6 l t e,a2 l t e⟩,k8,k9⟩,k7⟩)) ?_
  rintro v H ⟨⟨r,rc,f,m,u,y,z,ds,A,rfl,hR,ag,an,hO,M⟩,hbc⟩;have aI:=zq O hbc;have ak:=zr hbc ae;have ap:=zn hbc ah;have C:=zn hbc C;refine Z.out _ _ ⟨ak,ap⟩ (fun D=>?_)
  rotate_left
  refine kV_ ?D0 ?_;exact Value.slice m ds.length u;refine kV_ ?E0 ?_;exact Value.slice r f.length rc
  all_goals
   simp only[zg];refine tks_ 4 [(6,11,.tuple #[?E0,.agg #[I_ y,I_ z,?D0],I_ A]),(7,18,.slice r f.length rc),(8,19,.agg #[I_ y,I_ z,?D0]),(9,20,I_ A)] D ?_;simp only[tkf_,zg]
  refine zE 10 rfl (fun K9 Z=>?_);refine zw rfl 6 rfl (P_ E.heap.size 0) (E.alloc ?A0) (by go_simp) ?_;have L:=zO E ?A0;have C:=hN_ E ?A0;have aI:=zq O L;have V:I.heap.size≤E.heap.size:=O.size;have ak:=zr L ae;have ab:F≠E.heap.size:=Nat.ne_of_lt (bL_ ae);have ap:=zn L ah;have ad:B0≠E.heap.size:=Nat.ne_of_lt (ze ah);have ao:∀ q,(Value.slice r f.length rc).ownBlock=some q→q≠E.heap.size:=fun q e=>Nat.ne_of_lt (hO.lt q e).2;have aM:∀ l t,m=some ⟨l,t,none⟩→ds≠[]→l≠E.heap.size:=fun l t e hn=>Nat.ne_of_lt (zgb ag hn e);have aL:∀ p∈ps f,∀ l t,p.sa=some ⟨l,t,none⟩→l≠E.heap.size:=fun p B l t e=>Nat.ne_of_lt ((M p B).2 l t e).2.1;have ag:=ag.below L;have hO:=zv hO L;have M:=M.same L.size (fun p B b t e=>L.block b ((M p B).2 b t e).2.1);refine Z.out _ _ ⟨ak,ap⟩ (fun D=>?_);simp only[zg];have al:E.heap.size<(E.alloc ?A0).heap.size:=by simp
  generalize E.alloc ?A0=H at L C aI al ak ap ag hO M D ⊢;clear L;generalize E.heap.size=d at C V al ab ad ao aM aL ⊢
  rotate_left
  have ao:∀ q,(Value.slice r f.length rc).ownBlock=some q→q≠d:=fun q e=>by have:=(hO.lt q e).1;omega
  have aM:∀ l t,m=some ⟨l,t,none⟩→ds≠[]→l≠d:=fun l t e hn=>by have:=(an l t e).1;omega
  have aL:∀ p∈ps f,∀ l t,p.sa=some ⟨l,t,none⟩→l≠d:=fun p B l t e=>by have:=((M p B).2 l t e).1;omega
  rotate_left
  refine kW_ ?C0 ?_;exact ((H.setCell ⟨d,0,none⟩ (I_ y)).setCell ⟨d,1,none⟩ (I_ z)).setCell ⟨d,2,none⟩ (.slice m ds.length u)
  all_goals
   have bJ:=zb C 0 _ rfl;have bG:=zd C 0;have bK:=zb C 1 _ rfl;have bH:=zd C 1;have bL:=zb C 2 _ rfl;have bI:=zd C 2;refine tK_ 11 5 ?E0 rfl rfl D ?_;simp only[zg];refine zE 12 rfl (fun K9 Z=>?_);refine zT rfl rfl ?C0 (by go_simp) ?_;have aA:(?C0).heap[d]? = some (.cells #[I_ y,I_ z,?D0] 66 (0,0)):=by simpa using (hS_ _ _ 2 _ _ ?D0 (hS_ _ _ 1 _ _ (I_ z) (hS_ _ _ 0 _ _ (I_ y) C)))
   have ay:=(((aI.setCell (p:=⟨d,0,none⟩) V (I_ y)).setCell (p:=⟨d,1,none⟩) V (I_ z)).setCell (p:=⟨d,2,none⟩) V ?D0);have au:=(zal (k:=2) (v:=.slice m ds.length u) (zal (k:=1) (v:=I_ z) (zal (k:=0) (v:=I_ y) ak ab) ab) ab);have aD:=(zh (j:=2) (v:=.slice m ds.length u) (zh (j:=1) (v:=I_ z) (zh (j:=0) (v:=I_ y) ap ad) ad) ad);have XF:∀ k,k≠d→(?C0).heap[k]? = H.heap[k]?:=fun k hk=>by rw[hO_ _ ⟨d,2,none⟩ k _ hk,hO_ _ ⟨d,1,none⟩ k _ hk,hO_ _ ⟨d,0,none⟩ k _ hk]
   have ax:zf ?C0 m u ds:=zb9 (G:=fun k=>k≠d) XF ag aM;have av:(?C0).ownsRow I.heap.size 66 3 ?E0 f.length (slv f):=zb5 (zt hO (fun q e=>XF q (ao q e))) (by have:=R.size;have:=O.size;omega);have aw:zX ?C0 I.heap.size ?E0 (ps f):=fun p B=>⟨(M.same (w':=?C0) (by simp) (fun p B b t e=>XF b (aL p B b t e)) p B).1,fun l t e=>⟨by have:=((M p B).2 l t e).1;have:=R.size;have:=O.size;omega,by have:=((M p B).2 l t e).2.1;simpa using this,((M p B).2 l t e).2.2⟩⟩;have aZ:∀ l t,m=some ⟨l,t,none⟩→I.heap.size≤l∧(Value.slice r f.length rc).ownBlock≠some l:=fun l t e=>⟨by have:=(an l t e).1;have:=R.size;have:=O.size;omega,(an l t e).2⟩;clear XF;refine Z.out _ _ ⟨au,aD⟩ (fun D=>?_);generalize ?C0=VE at aA ay au aD ax av aw D ⊢;refine tK_ 13 7 (I_ A) rfl rfl D ?_;simp only[zg];clear D;refine wD_ (by kernel_rfl) ?_ _;go_wp2_with fail
   go_meet
   case rel=>exact ⟨r,rc,f,d,m,u,y,z,ds,A,rfl,rfl,rfl,ay,V,aA,⟨hR,ax,aZ,av,aw,fun e=>ao d e rfl⟩⟩
 case rest=>
  obtain ⟨r,rc,f,d,m,u,y,z,ds,A,rfl,rfl,rfl,az,V,qn,hX⟩:=hcut;apply_assumption;clear c5;obtain ⟨W2,be⟩:∃ W,W=wc:=⟨_,rfl⟩;rw[←be] at az qn hX ⊢;clear be;obtain ⟨x1,x2,x3,X,x5,x6⟩:=hX.out;by_cases e0:A=0;refine kV_ ?F0 ?_;exact Value.slice r f.length rc
  ·subst e0;have c0:(zak x.v.k.tab c.v).2.2=0:=by rw[←x1]
   obtain ⟨-,hf,t3,t4⟩:=zjQ c0;have aY:Hid ((zak x.v.k.tab c.v).1=vs f):=by show _=_;rw[←x1]
   have aN:c.v.slot=(y,z,ds):=by rw[←t3,←x1]
   have e1:y=c.au:=(congrArg (fun v=>v.1) aN).symm;have e2:z=c.rd:=(congrArg (fun v=>v.2.1) aN).symm;have e3:ds=c.v.d:=(congrArg (fun v=>v.2.2) aN).symm;subst e1 e2 e3;obtain ⟨am,aG⟩:=N.hideRow az X (fun q e=>(X.lt q (zaC _ _ e)).1);have aS:Hid (HAt (zo (zaz U (ob r)) W2) c.ba c.bc c.bl c.pa c.pc c.pl):=aR.sub (aG.sub N);have aH:Hid (zaz U (ob r) d=false):=zbj (N.bnd.new V) (fun e=>x6 (zaC _ _ e));have aV:Hid (zf (zo (zaz U (ob r)) W2) m u c.v.d):=zb3 x2 (fun l t e _=>zbj (N.bnd.new (x3 l t e).1) (fun e2=>(x3 l t e).2 (zaC _ _ e2)));have ac:Hid (∀ q,ob r=some q→I.heap.size≤q∧zaz U (ob r) q=true∧q≠F∧q<W2.heap.size):=fun q e=>⟨(X.lt q (zaC _ _ e)).1,zd3 e,fun ef=>by have:=(X.lt q (zaC _ _ e)).1;have:=ze N.blk;omega,(X.lt q (zaC _ _ e)).2⟩;have bB:Hid (∀ q,ob r=some q→¬x.S q):=fun q e hs=>by have:=N.bnd q (N.su q hs).1;have:=(X.lt q (zaC _ _ e)).1;omega
   have aU:Hid (∀ s∈f,zf (zo (zaz U (ob r)) W2) s.p.sa s.p.cap s.p.bs):=fun s hs=>by
    have B:=x5 s.p (List.mem_map.2 ⟨s,hs,rfl⟩);exact zb3 B.1 (fun l t e _=>zbj (N.bnd.new (B.2 l t e).1) (fun e2=>(B.2 l t e).2.2 (zaC _ _ e2)))
   have bc:Hid (W2.ownsRow 0 66 3 ?F0 f.length (slv f)):=zb5 X (nZ_ _);have bD:Hid (∀ s∈vs f,zaF s.2.2):=by
    show ∀ s,_;intro s hs;rw[←aY.out] at hs;rcases t4 with g|⟨g,_⟩
    ·rw[g] at hs;exact h.inv.u8t s hs
    ·rw[g] at hs;rcases List.mem_append.1 hs with g2|g2
     ·exact h.inv.u8t s g2
     ·obtain rfl:s=c.v.slot:=by simpa using g2
      exact zeM _
   have bE:Hid (f.length≤400000):=by
    show _≤_;have e8:(vs f).length=f.length:=zap f;have e7:=h.inv.tab;rw[←e8,←aY.out];rcases t4 with g|⟨g,g2⟩
    ·rw[g];exact e7
    ·rw[g,lP_];simp;omega
   have HN:=n1.trans aG;have ai:=zn az aB;have aF:Hid (zaz U (ob r) B0=false):=zbj bd.out (fun e=>by have:=(ac.out B0 e).1;have:=ze aB;omega);have bf:Hid (c.v.d.length=32):=c.v.d_length;rw[bf.out] at qn;rw[aY.out] at HM;have bm:Hid _:=c0;have bb:zK c.au c.rd c.bl c.pl=0:=by rw[Ct.hf_v];exact hf
   generalize hU':zaz U (ob r)=U2 at am aG aH aV ac aU HN aF aS;clear hX x1 x2 x3 X x5 x6 c0 t3 t4 aN hU';have s0:=zb ai 0 _ rfl;have s1:=zb ai 1 _ rfl;have s2:=zb ai 2 _ rfl;have s3:=zb ai 3 _ rfl;have aq:=zk5 c W2;go_wp2_with fail
   refine aq.mono ?_;rintro _ w3 ⟨rfl,aa⟩;clear aq s0 s1 s2 s3;dsimp only;have af:=am.below aa;have aT:=aS.out.sub (am.later aa);have a7:=aV.out.sub (am.later aa);have HW:=zf0 x (zd7 c) w3 U2 F o T fc af (zrt aT) (zoU bb) (zrx a0 a1);have bj:(zd7 c).c=zer c.v:=rfl;rw[bj] at HW;generalize bi:x.v.room (zer c.v)=rm at HW HM;have a5:Hid _:=bi;clear bi bj;go_wp2_with fail
   refine HW.mono ?_;rintro _ w4 ⟨rfl,Y,bA,X,h4,n4,v4⟩;dsimp only;clear HW;have a9:Hid _:=v4;clear v4;cases rm with
   | false=>
    go_wp2_with fail
    refine bP_ (results_none rfl _ _ _) rfl ?_;refine ⟨⟨_,rfl⟩,?_⟩;rw[HM.out,if_neg (fun g=>by cases g.2)];exact ⟨Y,bA,X,h4,(HN.trans (NTo.below (F:=F) (o:=o) U2 fc x aa)).trans n4,by rw[a9.out,Nd.wrt,a5.out];rfl⟩
   | true=>
    rw[if_pos ⟨bm.out,rfl⟩] at HM;have n3:=NTo.below (F:=F) (o:=o) U2 fc x aa;have bk:=n4.box af (zn aa ai) aF.out;have bl:=n4.box af (zn aa qn) aH.out;have aK:W2.heap.size≤w3.heap.size:=aa.size;have aQ:Hid (Y d=false∧Y B0=false):=⟨n4.hides (nL_ (ze qn) aK) aH.out,n4.hides (nL_ (ze ai) aK) aF.out⟩;have bu:Hid (zf (zo Y w4) m u c.v.d):=a7.sub (n4.sub af);have bn:Hid (HAt (zo Y w4) c.ba c.bc c.bl c.pa c.pc c.pl):=aT.sub (n4.sub af);have bs:Hid (∀ s∈f,zf (zo Y w4) s.p.sa s.p.cap s.p.bs):=fun s hs=>((aU.out s hs).sub (am.later aa)).sub (n4.sub af);have br:Hid (w4.ownsRow 0 66 3 ?F0 f.length (slv f)):=zt (zv bc.out aa) (fun q e=>n4.block q (nL_ (ac.out q (zm e)).2.2.2 aK) (bB.out q (zm e)) (ac.out q (zm e)).2.2.1);have bt:Hid (∀ q,ob r=some q→w.heap.size≤q∧Y q=true∧q≠F):=fun q e=>⟨nT_ n1.size (ac.out q e).1,by rw[n4.us q (nL_ (ac.out q e).2.2.2 aK)];exact (ac.out q e).2.1,(ac.out q e).2.2.1⟩;have bq:=(HN.trans n3).trans n4;have bv:Hid (({ X with ta:=r,tc:=rc,tab:=f }:NM).v=x.v.log (zer c.v) { x.v.k with tab:=vs f }):=by
     show _=_;rw[NM.v_tab,a9.out,Nd.wrt,a5.out];rfl
    clear ai qn aH aF aV aU bc ac HN am aG a7 aT aS af n3;have f5:=h4.free (o+5);have bz:=h4.cell 5 _ rfl;obtain ⟨ba,x5,h5,n5,v5⟩:=zae.late_tab (a':=r) (c':=rc) (l':=f) bq h4 bt.out br.out bs.out (by rw[NM.v_tab];exact h4.inv.tab_ (by rw[zap];exact bE.out) bD.out);rw[bv.out] at v5;have aE:=zh (b:=F) (j:=o+5) (v:=.slice r f.length rc) bl (fun e=>by have:=aQ.out.1;rw[e,h4.fu] at this;cases this);have aj:=zh (b:=F) (j:=o+5) (v:=.slice r f.length rc) bk (fun e=>by have:=aQ.out.2;rw[e,h4.fu] at this;cases this);have a8:Hid (zf (zo Y (w4.setCell ⟨F,o+5,none⟩ ?F0)) m u c.v.d):=by show zf _ _ _ _;rw[zbO h4.fu];exact bu.out
    have aP:Hid (HAt (zo Y (w4.setCell ⟨F,o+5,none⟩ ?F0)) c.ba c.bc c.bl c.pa c.pc c.pl):=by show HAt _ _ _ _ _ _ _;rw[zbO h4.fu];exact bn.out
    go_upto_region 4 with fail
    generalize w4.setCell ⟨F,o+5,none⟩ ?F0=W5 at h5 n5 aE aj a8 aP ⊢;have bw:Hid _:=v5;clear v5 f5 bz bk bl;have a3:Calls prog 119 #[P_ F o,.agg (hrow_ c),.agg #[I_ c.au,I_ c.rd,.slice m 32 u]] W5 fun e w'=>(∃ v,e=.returned v)∧zac W5 Y F o T ba x5 w' { x5.v with k:={ x5.v.k with own:=c.v,slot:=c.v.slot },vot:=[x5.v.nu] }:=by
     have k:=zkv x5 c ⟨c.au,c.rd,⟨m,u,c.v.d⟩⟩ W5 Y F o T ba h5 aP.out a8.out hf bF (zeM c.v) a0 a1;dsimp only at k;rw[bf.out] at k;exact k
    have s0:=zb aj 0 _ rfl;have s1:=zb aj 1 _ rfl;have s2:=zb aj 2 _ rfl;have s3:=zb aj 3 _ rfl;have r0:=zb aE 0 _ rfl;have r1:=zb aE 1 _ rfl;have r2:=zb aE 2 _ rfl;go_wp2_with fail
    refine a3.mono ?_;rintro e w6 ⟨⟨v,he⟩,U6,fc6,x6,h6,n6,v6⟩;subst he;dsimp only;clear a3 s0 s1 s2 s3 r0 r1 r2;have aO:=n6.box h5 aj aQ.out.2;have bo:Hid (HAt (zo U6 w6) c.ba c.bc c.bl c.pa c.pc c.pl):=aP.out.sub (n6.sub h5);have bx:Hid _:=v6;clear v6 aj aE;have s0:=zb aO 0 _ rfl;have s1:=zb aO 1 _ rfl;have s2:=zb aO 2 _ rfl;have s3:=zb aO 3 _ rfl;have aq:=zk5 c w6;go_wp2_with fail
    refine aq.mono ?_;rintro _ w7 ⟨rfl,aX⟩;dsimp only;clear aq s0 s1 s2 s3;have a6:=zgX x6 (zd7 c) w7 U6 F o T fc6 (h6.below aX) (zrB (bo.out.sub (h6.later aX)) bb a0 a1);go_wp2_with fail
    refine a6.mono ?_;rintro e w8 ⟨⟨v,he⟩,U8_,fc8,x8,h8,n8,v8⟩;subst he;dsimp only;clear a6;go_wp2_with fail
    go_end0;refine ⟨⟨_,rfl⟩,U8_,fc8,x8,h8,(n5.trans n6).trans ((NTo.below (F:=F) (o:=o) U6 fc6 x6 aX).trans n8),?_⟩;rw[v8,bx.out,bw.out,HM.out]
    rfl
  ·have bh:¬(zak x.v.k.tab c.v).2.2=0:=by rw[←x1];exact e0
   have bp:Hid (x.v.offerNew rd=x.v):=by show _=_;rw[HM.out,if_neg (fun g=>bh g.1)]
   have bM:(A != 0)=true:=by simpa using e0
   clear hX x1 x2 x3 X x5 x6 e0 bh HM;go_wp2_with fail
   refine bP_ (results_none rfl _ _ _) rfl ?_;exact ⟨⟨_,rfl⟩,by rw[bp.out];exact ⟨U,fc,x,N.below az,n1.trans (NTo.below (F:=F) (o:=o) U fc x az),rfl⟩⟩
theorem znq (k:Kn)(l:List CV):∀ (e:Int),1≤e→(∀ c∈l,1≤c.rd)→1≤zk k e l∧zk k e l≤e:=by
 induction l with
 | nil=>intro e j _;exact ⟨j,Int.le_refl _⟩
 | cons c l ih=>
  intro e j m;have p:=m c (List.mem_cons_self ..);have b:1≤zhN k e c∧zhN k e c≤e:=by
   rw[zhN];by_cases g:c.rd<e∧c.bl.any (fun d=>!zbX k.sh d)=true
   ·rw[if_pos g];omega
   ·rw[if_neg g];omega
  have f:=ih (zhN k e c) b.1 (fun d o=>m d (List.mem_cons_of_mem _ o));exact ⟨f.1,Int.le_trans f.2 b.2⟩
theorem zqh (h:zbI l=0):∀ c∈l,1≤c.rd:=by
 intro c f;obtain ⟨i,d,rfl⟩:=List.getElem_of_mem f;have b:=zmF h i d;rw[show zaD l i=l[i] by simp[zaD,List.getD,d]] at b;exact (zkO b).1
theorem znr (n:Nd)(t:Int)(m:MC):(n.send t m).trn=n.trn:=by rw[Nd.send];split<;>rfl
theorem zae.want_gm (h:zae w U F o T fc x){rd:Int}(c:1≤rd∧rd≤1048577)(W:World):GM W (zx (zk x.v.k (max (rd-1) 1) x.v.k.dag)):=by
 have b:=znq x.v.k x.v.k.dag (max (rd-1) 1) (by omega) (zqh h.inv.dag);exact zvF W ⟨b.1,by omega⟩
theorem ziM {n:Int}(_:0≤n∧n<4):0≤zcc n∧zcc n<4:=by rw[zcc];omega
theorem zjV (x:NM)(rd:Int)(w:World)(U:Nat→Bool)(F o:Nat)(T:TypeId)(fc:Array Value)(h:zae w U F o T fc x)(hr:1≤rd∧rd≤1048577) :
  Calls prog 92 #[P_ F o,I_ rd] w fun e w'=>(∃ v,e=.returned v)∧zac w U F o T fc x w' (x.v.ask rd):=by
 have u:=zkB x.trn w h.inv.trn;have aj:=ziM h.inv.trn;have l:=h.cell 18 _ rfl;have aa:=h.free (o+18);obtain ⟨y,z,b,f,r,A⟩:=h.put_turn (t':=zcc x.trn) (bR_ _ w) (h.inv.trn_ aj);have O:b.trn=zcc x.trn:=congrArg Nd.trn A;have ac:b.nu=x.nu:=congrArg Nd.nu A;go_in;go_wp2_with fail
 refine u.mono ?_;rintro _ w1 ⟨rfl,rfl⟩;dsimp only;clear u;go_upto_region 1 with fail
 generalize w.setCell ⟨F,o+18,none⟩ (I_ (zcc x.trn))=E at f r ⊢;clear l aa;have l:=f.cell 18 _ rfl;have Z:C_ E F o (I_ b.nu):=f.cell 0 _ rfl;by_cases e:b.trn=b.nu;have hT:Hid (x.v.turn=zcc b.trn):=by
  show _=_;rw[Nd.turn,if_pos (by show zcc x.trn=x.nu;rw[←O,←ac];exact e),O];rfl
 have ad:Hid (({ b.v with trn:=zcc b.trn }:Nd)={ x.v with trn:=x.v.turn }):=by show _=_;rw[hT.out,A];rfl
 clear O ac hT A;have HE:Hid (b.trn=b.nu):=e;have eb:(b.trn == b.nu)=true:=by simpa using e
 clear e
 rotate_left
 have ad:Hid (b.v={ x.v with trn:=x.v.turn }):=by
  show _=_;rw[A,Nd.turn,if_neg (fun g=>e (by rw[O,ac];exact g))];rfl
 have eb:(b.trn == b.nu)=false:=by simpa using e
 clear O ac A e
 rotate_left
 all_goals
  have j:=dB_ E;have m:=dC_ l;have G:=dC_ Z;refine wR_ (S:=fun w'=>C_ w' F (o+18) (I_ b.trn)∧C_ w' F o (I_ b.nu)) (by kernel_rfl) ⟨m,G⟩ (fun d=>?_);generalize E.drew=p at j m G d ⊢;refine tks_ 9 [(0,12,(P_ F o)),(1,13,(P_ F o)),(2,14,(P_ F (o+18))),(3,15,I_ b.trn),(4,16,(P_ F o)),(5,17,(P_ F o)),(6,18,(P_ F o)),(7,19,I_ b.nu),(8,20,.bool (b.trn == b.nu))] d ?_;simp only[tkf_,zg];rw[eb];clear d;refine wD_ (by kernel_rfl) ?_ _
 clear l Z
 rotate_left
 clear Z l
 rotate_left
 all_goals
  have f:=f.below j;have r:=r.trans (NTo.below (F:=F) (o:=o) y z b j)
 have l:=f.cell 18 _ rfl;have aa:=f.free (o+18);have u:=zkB b.trn p f.inv.trn;have ak:=ziM f.inv.trn;obtain ⟨X,ab,c,s,n2,v2⟩:=f.put_turn (t':=zcc b.trn) (bR_ _ p) (f.inv.trn_ ak);have al:Hid (c.v={ x.v with trn:=x.v.turn }):=by show _=_;rw[←ad.out,v2];rfl
 have ai:=r.trans n2;clear v2 ad;obtain ⟨Y,L⟩:∃ W,W=p:=⟨_,rfl⟩;rw[←L] at u l aa s ai ⊢;clear L r n2;go_wp2_with fail
 refine u.mono ?_;rintro e w1 ⟨he,am⟩;subst he am;dsimp only;clear u;go_upto_region 3 with fail
 generalize Y.setCell ⟨F,o+18,none⟩ (I_ (zcc b.trn))=W2 at s ai ⊢;clear l aa;have l:=s.cell 18 _ rfl;have j:=dB_ W2;have m:=dC_ l;refine wR_ (S:=fun w'=>C_ w' F (o+18) (I_ c.trn)) (by kernel_rfl) m (fun d=>?_);generalize W2.drew=p at j m d ⊢;refine tks_ 7 [(0,29,(P_ F o)),(1,30,(P_ F o)),(2,31,(P_ F o)),(3,32,(P_ F (o+18))),(4,33,I_ c.trn),(5,34,(P_ F o)),(6,35,I_ rd)] d ?_;simp only[tkf_,zg];refine zE 7 rfl (fun B q=>?_);refine zj rfl 36 rfl 126 [.tmp 34,.tmp 35] #[112,3] rfl [P_ F o,I_ rd] rfl (eO_ func126) (fun v w'=>v=I_ (zk c.v.k (max (rd-1) 1) c.v.k.dag)∧B_ p w') ((zjv c rd p X F o T ab (s.below j) hr).mono (fun e w' k=>⟨_,k.1,rfl,k.2⟩)) ?_
 rotate_left
 obtain ⟨Y,L⟩:∃ W,W=p:=⟨_,rfl⟩;rw[←L] at f r j ⊢;clear L j;go_upto_region 3 with fail
 have l:=f.cell 18 _ rfl;have j:=dB_ Y;have m:=dC_ l;refine wR_ (S:=fun w'=>C_ w' F (o+18) (I_ b.trn)) (by kernel_rfl) m (fun d=>?_);generalize Y.drew=p at j m d ⊢;refine tks_ 7 [(0,29,(P_ F o)),(1,30,(P_ F o)),(2,31,(P_ F o)),(3,32,(P_ F (o+18))),(4,33,I_ b.trn),(5,34,(P_ F o)),(6,35,I_ rd)] d ?_;simp only[tkf_,zg];refine zE 7 rfl (fun B q=>?_);refine zj rfl 36 rfl 126 [.tmp 34,.tmp 35] #[112,3] rfl [P_ F o,I_ rd] rfl (eO_ func126) (fun v w'=>v=I_ (zk b.v.k (max (rd-1) 1) b.v.k.dag)∧B_ p w') ((zjv b rd p y F o T z (f.below j) hr).mono (fun e w' k=>⟨_,k.1,rfl,k.2⟩)) ?_
 rotate_left
 all_goals
  rintro v C ⟨rfl,M⟩;have ah:=zq j M;have H:=zr M m;refine q.out _ _ H (fun d=>?_);simp only[zg];refine zE 8 rfl (fun B q=>?_)
 refine kA_ ?A0 ?_;exact #[I_ (zx (zk c.v.k (max (rd-1) 1) c.v.k.dag)).m.fr,I_ (zx (zk c.v.k (max (rd-1) 1) c.v.k.dag)).m.tt,I_ (zx (zk c.v.k (max (rd-1) 1) c.v.k.dag)).m.ki,I_ (zx (zk c.v.k (max (rd-1) 1) c.v.k.dag)).m.bau,I_ (zx (zk c.v.k (max (rd-1) 1) c.v.k.dag)).m.bnu,.slice (zx (zk c.v.k (max (rd-1) 1) c.v.k.dag)).m.bta (zx (zk c.v.k (max (rd-1) 1) c.v.k.dag)).m.btn (zx (zk c.v.k (max (rd-1) 1) c.v.k.dag)).m.btc,I_ (zx (zk c.v.k (max (rd-1) 1) c.v.k.dag)).m.hau,I_ (zx (zk c.v.k (max (rd-1) 1) c.v.k.dag)).m.hrd,.slice (zx (zk c.v.k (max (rd-1) 1) c.v.k.dag)).m.hba (zx (zk c.v.k (max (rd-1) 1) c.v.k.dag)).m.hbn (zx (zk c.v.k (max (rd-1) 1) c.v.k.dag)).m.hbc,.slice (zx (zk c.v.k (max (rd-1) 1) c.v.k.dag)).m.hpa (zx (zk c.v.k (max (rd-1) 1) c.v.k.dag)).m.hpn (zx (zk c.v.k (max (rd-1) 1) c.v.k.dag)).m.hpc,I_ (zx (zk c.v.k (max (rd-1) 1) c.v.k.dag)).m.sau,I_ (zx (zk c.v.k (max (rd-1) 1) c.v.k.dag)).m.srd,.slice (zx (zk c.v.k (max (rd-1) 1) c.v.k.dag)).m.sda (zx (zk c.v.k (max (rd-1) 1) c.v.k.dag)).m.sdn (zx (zk c.v.k (max (rd-1) 1) c.v.k.dag)).m.sdc,I_ (zx (zk c.v.k (max (rd-1) 1) c.v.k.dag)).m.cau,I_ (zx (zk c.v.k (max (rd-1) 1) c.v.k.dag)).m.crd,.slice (zx (zk c.v.k (max (rd-1) 1) c.v.k.dag)).m.cba (zx (zk c.v.k (max (rd-1) 1) c.v.k.dag)).m.cbn (zx (zk c.v.k (max (rd-1) 1) c.v.k.dag)).m.cbc,.slice (zx (zk c.v.k (max (rd-1) 1) c.v.k.dag)).m.cpa (zx (zk c.v.k (max (rd-1) 1) c.v.k.dag)).m.cpn (zx (zk c.v.k (max (rd-1) 1) c.v.k.dag)).m.cpc,.slice (zx (zk c.v.k (max (rd-1) 1) c.v.k.dag)).m.cva (zx (zk c.v.k (max (rd-1) 1) c.v.k.dag)).m.cvn (zx (zk c.v.k (max (rd-1) 1) c.v.k.dag)).m.cvc,I_ (zx (zk c.v.k (max (rd-1) 1) c.v.k.dag)).m.ro];refine zj rfl 37 rfl 125 [.tmp 36] #[3] rfl [I_ (zk c.v.k (max (rd-1) 1) c.v.k.dag)] rfl (eO_ func125) (fun v w'=>v=.agg ?A0∧B_ C w') ((zoS (zk c.v.k (max (rd-1) 1) c.v.k.dag) C).mono (fun e w' k=>⟨_,k.1,rfl,k.2⟩)) ?_
 rotate_left
 refine kA_ ?B0 ?_;exact #[I_ (zx (zk b.v.k (max (rd-1) 1) b.v.k.dag)).m.fr,I_ (zx (zk b.v.k (max (rd-1) 1) b.v.k.dag)).m.tt,I_ (zx (zk b.v.k (max (rd-1) 1) b.v.k.dag)).m.ki,I_ (zx (zk b.v.k (max (rd-1) 1) b.v.k.dag)).m.bau,I_ (zx (zk b.v.k (max (rd-1) 1) b.v.k.dag)).m.bnu,.slice (zx (zk b.v.k (max (rd-1) 1) b.v.k.dag)).m.bta (zx (zk b.v.k (max (rd-1) 1) b.v.k.dag)).m.btn (zx (zk b.v.k (max (rd-1) 1) b.v.k.dag)).m.btc,I_ (zx (zk b.v.k (max (rd-1) 1) b.v.k.dag)).m.hau,I_ (zx (zk b.v.k (max (rd-1) 1) b.v.k.dag)).m.hrd,.slice (zx (zk b.v.k (max (rd-1) 1) b.v.k.dag)).m.hba (zx (zk b.v.k (max (rd-1) 1) b.v.k.dag)).m.hbn (zx (zk b.v.k (max (rd-1) 1) b.v.k.dag)).m.hbc,.slice (zx (zk b.v.k (max (rd-1) 1) b.v.k.dag)).m.hpa (zx (zk b.v.k (max (rd-1) 1) b.v.k.dag)).m.hpn (zx (zk b.v.k (max (rd-1) 1) b.v.k.dag)).m.hpc,I_ (zx (zk b.v.k (max (rd-1) 1) b.v.k.dag)).m.sau,I_ (zx (zk b.v.k (max (rd-1) 1) b.v.k.dag)).m.srd,.slice (zx (zk b.v.k (max (rd-1) 1) b.v.k.dag)).m.sda (zx (zk b.v.k (max (rd-1) 1) b.v.k.dag)).m.sdn (zx (zk b.v.k (max (rd-1) 1) b.v.k.dag)).m.sdc,I_ (zx (zk b.v.k (max (rd-1) 1) b.v.k.dag)).m.cau,I_ (zx (zk b.v.k (max (rd-1) 1) b.v.k.dag)).m.crd,.slice (zx (zk b.v.k (max (rd-1) 1) b.v.k.dag)).m.cba (zx (zk b.v.k (max (rd-1) 1) b.v.k.dag)).m.cbn (zx (zk b.v.k (max (rd-1) 1) b.v.k.dag)).m.cbc,.slice (zx (zk b.v.k (max (rd-1) 1) b.v.k.dag)).m.cpa (zx (zk b.v.k (max (rd-1) 1) b.v.k.dag)).m.cpn (zx (zk b.v.k (max (rd-1) 1) b.v.k.dag)).m.cpc,.slice (zx (zk b.v.k (max (rd-1) 1) b.v.k.dag)).m.cva (zx (zk b.v.k (max (rd-1) 1) b.v.k.dag)).m.cvn (zx (zk b.v.k (max (rd-1) 1) b.v.k.dag)).m.cvc,I_ (zx (zk b.v.k (max (rd-1) 1) b.v.k.dag)).m.ro];refine zj rfl 37 rfl 125 [.tmp 36] #[3] rfl [I_ (zk b.v.k (max (rd-1) 1) b.v.k.dag)] rfl (eO_ func125) (fun v w'=>v=.agg ?B0∧B_ C w') ((zoS (zk b.v.k (max (rd-1) 1) b.v.k.dag) C).mono (fun e w' k=>⟨_,k.1,rfl,k.2⟩)) ?_
 rotate_left
 all_goals
  rintro v D ⟨rfl,N⟩;have J:=zq ah N;have ae:=zr N H;refine q.out _ _ ae (fun d=>?_);simp only[zg];refine zE 9 rfl (fun B q=>?_)
 refine zj rfl 38 rfl 123 [.tmp 29,.tmp 33,.tmp 37] #[112,3,71] rfl [P_ F o,I_ c.trn,.agg ?A0] rfl (eO_ func123) (fun v w'=>zac D X F o T ab c w' (c.v.send c.trn (zx (zk c.v.k (max (rd-1) 1) c.v.k.dag)).c)) ((zd6 c (zx (zk c.v.k (max (rd-1) 1) c.v.k.dag)) c.trn D X F o T ab (s.below J) (s.want_gm hr _) s.inv.trn).mono (fun e w' k=>by obtain ⟨⟨v,hv⟩,k2⟩:=k;exact ⟨v,hv,k2⟩)) ?_;rintro v V3 ⟨U9,ag,t,I,n9,V⟩;have R:t.trn=c.trn:=by show t.v.trn=_;rw[V];exact znr _ _ _
 have af:C_ V3 F (o+18) (I_ c.trn):=by rw[←R];exact I.cell 18 _ rfl
 rotate_left
 refine zj rfl 38 rfl 123 [.tmp 29,.tmp 33,.tmp 37] #[112,3,71] rfl [P_ F o,I_ b.trn,.agg ?B0] rfl (eO_ func123) (fun v w'=>zac D y F o T z b w' (b.v.send b.trn (zx (zk b.v.k (max (rd-1) 1) b.v.k.dag)).c)) ((zd6 b (zx (zk b.v.k (max (rd-1) 1) b.v.k.dag)) b.trn D y F o T z (f.below J) (f.want_gm hr _) f.inv.trn).mono (fun e w' k=>by obtain ⟨⟨v,hv⟩,k2⟩:=k;exact ⟨v,hv,k2⟩)) ?_;rintro v V3 ⟨U9,ag,t,I,n9,V⟩;have R:t.trn=b.trn:=by show t.v.trn=_;rw[V];exact znr _ _ _
 have af:C_ V3 F (o+18) (I_ b.trn):=by rw[←R];exact I.cell 18 _ rfl
 rotate_left
 all_goals
  clear R;refine q.out _ _ af (fun d=>?_);simp only[zg];clear d;refine wD_ (by kernel_rfl) ?_ _;go_wp2_with fail
  go_end0
 ·refine ⟨⟨_,rfl⟩,U9,ag,t,I,ai.trans ((NTo.below (F:=F) (o:=o) X ab c J).trans n9),?_⟩;rw[V];show c.v.send c.v.trn (zpG (zk c.v.k (max (rd-1) 1) c.v.k.dag))=_;rw[al.out]
  rfl
 ·refine ⟨⟨_,rfl⟩,U9,ag,t,I,r.trans ((NTo.below (F:=F) (o:=o) y z b J).trans n9),?_⟩;rw[V];show b.v.send b.v.trn (zpG (zk b.v.k (max (rd-1) 1) b.v.k.dag))=_;rw[ad.out]
  rfl
theorem zsf (x:NM)(w:World)(U:Nat→Bool)(F o:Nat)(T:TypeId)(fc:Array Value)(h:zae w U F o T fc x) :
  Calls prog 68 #[P_ F o] w fun e w'=>(∃ v,e=.returned v)∧zac w U F o T fc x w' x.v.work:=by
 have HG:=zoo x w U F o T fc h;go_in;go_wp2_with fail
 refine HG.mono ?_;rintro e w1 ⟨⟨v,b⟩,U1,fc1,x1,h1,n1,v1⟩;subst b;dsimp only;clear HG;have ac:Hid _:=v1;clear v1;obtain ⟨R,X,Y,Z,H⟩:=h1.stkAt;have y:=h1.cell 6 _ rfl;have HR:=ziL x1.ls x1.s R X Y Z x1.ds w1 H h1.inv.dag;clear H;go_wp2_with fail
 refine HR.mono ?_;rintro e w2 ⟨r,b,hN,aa⟩;subst b;dsimp only;clear HR y;have ad:Hid (r=zcX x1.v.k.dag):=hN.one (zgp h1.inv.dag);have G:1≤r∧r≤1048577:=by rw[ad.out];exact zoq h1.inv.dag
 have I:Hid (x.v.work=(x1.v.due r).ask r):=by show _=_;rw[Nd.work,←ac.out,←ad.out]
 have j:=h1.below aa;have n2:=n1.trans (NTo.below (F:=F) (o:=o) U1 fc1 x1 aa);have A:=j.cell 8 _ rfl;clear hN aa ac h1 n1;by_cases e1:x1.own.rd<r
 ·have u:Hid (x1.v.due r=x1.v.offerNew r):=if_pos e1;have HO:=zqg x1 r w2 U1 F o T fc1 j G;go_wp2_with fail
  refine HO.mono ?_;rintro e w3 ⟨⟨v,b⟩,U3,fc3,x3,q,t,v3⟩;subst b;dsimp only;clear HO A;have ab:Hid (x3.v=x1.v.due r):=by show _=_;rw[u.out];exact v3
  clear v3;have f:=zjV x3 r w3 U3 F o T fc3 q G;go_wp2_with fail
  refine f.mono ?_;rintro e w9 ⟨⟨v,b⟩,U9,fc9,x9,h9,n9,v9⟩;subst b;dsimp only;clear f;go_wp2_with fail
  go_end0;refine ⟨⟨_,rfl⟩,U9,fc9,x9,h9,(n2.trans t).trans n9,?_⟩;rw[v9,ab.out,I.out]
 ·have u:Hid (x1.v.due r=if 0≤cOf x1.v.k.dag x1.own.au x1.own.rd then x1.v else x1.v.againTo 4):=if_neg e1;have hf:x1.v.k.own.hf=0:=by
   rcases j.inv.own with g|g
   ·exfalso;have g2:x1.own.rd=0:=g;omega
   ·exact g
  have D:Hid (∀ V:World,B_ w2 V→Calls prog 90 #[P_ x1.s 0,I_ x1.own.au,I_ x1.own.rd] V fun e w'=>e=.returned (.bool (decide (0≤cOf x1.v.k.dag x1.own.au x1.own.rd)))∧B_ V w'):=by
   show ∀ V,_;intro V hV;obtain ⟨R,X,Y,Z,H⟩:=(j.below hV).stkAt;exact zk3 x1.ls x1.s R X Y Z x1.ds x1.own.au x1.own.rd V H
  have y:=j.cell 6 _ rfl;have E:=j.cell 7 _ rfl;go_upto_region 4 with fail
  by_cases e2:0≤cOf x1.v.k.dag x1.own.au x1.own.rd;rw[dT_ e2] at D;rw[if_pos e2] at u
  rotate_left
  rw[dF_ e2] at D;rw[if_neg e2] at u
  rotate_left
  all_goals
   have s:=dB_ w2;have l:=dC_ y;have m:=dC_ E;have p:=dC_ A;refine wR_ (S:=fun w'=>C_ w' F (o+6) (P_ x1.s 0)∧C_ w' F (o+7) (I_ x1.own.au)∧C_ w' F (o+8) (I_ x1.own.rd)) (by kernel_rfl) ⟨l,m,p⟩ (fun c=>?_);generalize w2.drew=z at s l m p c ⊢;refine tks_ 14 [(0,20,(P_ F o)),(1,21,(P_ F o)),(2,22,(P_ F (o+6))),(3,23,(P_ x1.s 0)),(4,24,(P_ F o)),(5,25,(P_ F o)),(6,26,(P_ F (o+7))),(7,27,(P_ F (o+7))),(8,28,I_ x1.own.au),(9,29,(P_ F o)),(10,30,(P_ F o)),(11,31,(P_ F (o+7))),(12,32,(P_ F (o+8))),(13,33,I_ x1.own.rd)] c ?_;simp only[tkf_,zg];refine zE 14 rfl (fun K9 hK=>?_)
  refine zj rfl 34 rfl 90 [.tmp 23,.tmp 28,.tmp 33] #[96,3,3] rfl [P_ x1.s 0,I_ x1.own.au,I_ x1.own.rd] rfl (eO_ func90) (fun v w'=>v=.bool true∧B_ z w') ((D.out z s).mono (fun e w' k=>⟨_,k.1,rfl,k.2⟩)) ?_
  rotate_left
  refine zj rfl 34 rfl 90 [.tmp 23,.tmp 28,.tmp 33] #[96,3,3] rfl [P_ x1.s 0,I_ x1.own.au,I_ x1.own.rd] rfl (eO_ func90) (fun v w'=>v=.bool false∧B_ z w') ((D.out z s).mono (fun e w' k=>⟨_,k.1,rfl,k.2⟩)) ?_
  rotate_left
  all_goals
   rintro v J ⟨rfl,d⟩;have B:=zq s d;have M:=zr d l;have N:=zr d m;have O:=zr d p;refine hK.out _ _ ⟨M,N,O⟩ (fun c=>?_);simp only[zg]
  refine tK_ 15 35 (.bool false) rfl rfl c ?_
  rotate_left
  refine tK_ 15 35 (.bool true) rfl rfl c ?_
  rotate_left
  all_goals
   simp only[zg];clear c;refine wD_ (by kernel_rfl) ?_ _;have q:=j.below B;have t:=n2.trans (NTo.below (F:=F) (o:=o) U1 fc1 x1 B)
  have ab:Hid (x1.v=x1.v.due r):=u.out.symm
  all_goals
   obtain ⟨L,C⟩:∃ W,W=J:=⟨_,rfl⟩;rw[←C] at q t ⊢;clear C y E A
  have f:=zjV x1 r L U1 F o T fc1 q G
  rotate_left
  have HA:=zpS x1 L U1 F o T fc1 q hf;go_wp2_with fail
  refine HA.mono ?_;rintro e w4 ⟨⟨v,b⟩,U4,fc4,x4,h4,n4,v4⟩;subst b;dsimp only;clear HA;have ae:Hid (x4.v=x1.v.due r):=by show _=_;rw[u.out];exact v4
  clear v4;have f:=zjV x4 r w4 U4 F o T fc4 h4 G
  rotate_left
  all_goals
   go_wp2_with fail
   refine f.mono ?_;rintro e w9 ⟨⟨v,b⟩,U9,fc9,x9,h9,n9,v9⟩;subst b;dsimp only;clear f;go_wp2_with fail
   go_end0
  ·refine ⟨⟨_,rfl⟩,U9,fc9,x9,h9,t.trans n9,?_⟩;rw[v9,I.out,←ab.out]
  ·refine ⟨⟨_,rfl⟩,U9,fc9,x9,h9,(t.trans n4).trans n9,?_⟩;rw[v9,ae.out,I.out]
variable {n:Nat}
theorem ztQ:(prog.info? 227).map (fun i=>(i.zero,i.size,i.bytes))=some (some (.agg #[I_ 0,I_ 0,I_ 0,O_]),4,48):=by kernel_rfl
def Sg.cs (s:Sg):List Value:=[I_ s.nd,I_ s.au,I_ s.rd,.slice s.p.sa s.p.bs.length s.p.cap]
def gv:List Sg→List Value
 | []=>[]
 | s::r=>s.cs++gv r
theorem zo7 (b:List Sg)(s:Sg):gv (b++[s])=gv b++s.cs:=by
 induction b with
 | nil=>simp[gv]
 | cons x r ih=>simp[gv,ih]
theorem zsg (b:List Sg):(gv b).length=b.length*4:=by
 induction b with
 | nil=>rfl
 | cons x r ih=>simp[gv,ih,Sg.cs];omega
theorem zv8 (b:List Sg)(j i:Nat)(h:j<b.length)(c:i<4):(gv b)[j*4+i]? = (b[j]).cs[i]?:=by
 induction b generalizing j with
 | nil=>cases h
 | cons x r ih=>
  cases j with
  | zero=>simp only[gv,Nat.zero_mul,Nat.zero_add,List.getElem_cons_zero];rw[List.getElem?_append_left (by simp[Sg.cs];exact c)]
  | succ j=>
   have h':j<r.length:=by simpa using h
   simp only[gv,List.getElem_cons_succ];rw[List.getElem?_append_right (by simp[Sg.cs];omega),←ih j h']
   congr 1
   simp[Sg.cs];omega
def gps (ls:List Sg):List zi:=ls.map Sg.p
theorem zv9 {c b:List Sg}(h:zA c=zA b)(l:∀ s∈b,zaF s.p.bs):∀ s∈c,zaF s.p.bs:=by
 intro s f;have:s.v∈zA b:=by rw[←h];exact List.mem_map.2 ⟨s,f,rfl⟩
 obtain ⟨t,j,e⟩:=List.mem_map.1 this;have d:t.p.bs=s.p.bs:=congrArg (fun g:GV=>g.2.2.2) e;rw[←d];exact l t j
theorem ziO {v:Value}{b:List Sg}(h:w.ownsRow base 227 4 v n (gv b))(f:zX w base v (gps b))(G:∀ s∈b,zaF s.p.bs):∃ d rc,v=.slice d n rc∧n=b.length∧(n≤2932031007400→zeo w d rc b)∧zaS base d (gps b):=by
 have E:n=b.length:=by have:=h.1;rw[zsg] at this;omega
 rcases h.2 with ⟨rfl,F⟩|⟨g,r,H,rfl,l⟩
 ·have B:b=[]:=eN_ (by omega);subst F B;exact ⟨none,0,rfl,rfl,fun _=>⟨nR_ _,by decide,by decide,.inl rfl,⟨.inl rfl,fun p c=>by cases c⟩⟩,⟨(fun _ _ e=>by cases e),(fun p c=>by cases c)⟩⟩
 ·refine ⟨some ⟨g,0,none⟩,r,rfl,E,fun J=>⟨?_,?_,by omega,.inr ⟨g,0,rfl⟩,⟨.inr ⟨g,0,rfl,fun j D=>?_⟩,fun s m=>⟨(f s.p (List.mem_map.2 ⟨s,m,rfl⟩)).1,G s m⟩⟩⟩,⟨(fun o q e=>by cases e;exact (h.lt _ rfl).1),(fun p c o q e=>((f p c).2 o q e).1)⟩⟩
  ·obtain ⟨_,_,I,_⟩:=l;omega
  ·obtain ⟨_,_,_,A,_⟩:=l;exact A
  ·have e:∀ i,i<4→w.cell? ⟨g,j*4+i,none⟩=(b[j]).cs[i]?:=fun i C=>by rw[World.ownsRow.cellAt h (j*4+i) (by omega),zv8 b j i D C]
   have t:=e 0 (by omega);have u:=e 1 (by omega);have y:=e 2 (by omega);have z:=e 3 (by omega);exact ⟨by simpa[Sg.cs] using t,by simpa[Sg.cs] using u,by simpa[Sg.cs] using y,by simpa[Sg.cs] using z⟩
end Go.Proofs.YtdepbohhmfkjgaaGreatDoor
