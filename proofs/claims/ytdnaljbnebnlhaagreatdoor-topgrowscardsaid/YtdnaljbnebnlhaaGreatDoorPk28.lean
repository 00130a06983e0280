import Derived.Test.YtdnaljbnebnlhaaGreatDoorPk27
set_option maxRecDepth 100000
set_option maxHeartbeats 4000000
namespace Go.Proofs.YtdnaljbnebnlhaaGreatDoor
open Go.RowKit Tryz
theorem zqn (c:List Ct)(s:Nat)(ca:Option Addr)(cc:Nat)(da:Option Addr)(dc:Nat)(ds:List zi)(rd:Int)(w:World)(y:zee w s c ca cc da dc ds)(ad:∀p∈ds,p.bs.length<=140737488355328) :
  Calls prog 178 #[P_ s 0,I_ rd] w λe w'=>∃E mc ms,e=.returned (.slice E (List.length ms) mc)/\bss ms=dgF (zI c) rd/\zx w' E mc ms/\za1 w.heap.size E ms/\B_ w w'/\(∀F H,E=some ⟨F,H,none⟩->F<w'.heap.size):=by
 obtain⟨i,hi,an,ao,ap⟩:=info_parts zhc;have aw:=y.at'.small;have HL:Hid (ds.length=c.length):=y.at'.len;have ae:Hid (bss ds=(zI c).map CV.d):=y.at'.same;go_in;go_wp2_with fail
 go_loopw [8,5] (λj v wr=>∃(m:Nat) (ms:List zi),m<=4/\j=I_ m/\bss ms=zc6 (zI c) rd m/\z8 wr w.heap.size v ms/\wr.ownsRow w.heap.size 51 1 v ms.length (pv ms)/\B_ w wr) (λj _ _=>4-(intOf j).toNat)
 case atStart=>exact⟨0,[],nZ_ _,rfl,rfl,(λp Y=>by cases Y),oN_ _ _ _ _,bR_ _ _⟩
 case round=>
  obtain⟨m,ms,hm,rfl,g,O,V,T⟩:=hrel;have Z:=y.below T;have av:ms.length<=m:=by
   have:=congrArg List.length g;rw[zcQ]at this;rw[this];exact zpX _ _ _
  by_cases hlt:m<4
  .have au:(m:Int)<4:=by omega
   have M:Hid (0<=cOf (zI c) m rd->zc6 (zI c) rd (m+1)=bss ms++[(zaM (zI c) (cOf (zI c) m rd).toNat).d]):=by
    show _->_;intro h;rw[zc6,if_pos h,g]
   have L:Hid (¬0<=cOf (zI c) m rd->bss ms=zc6 (zI c) rd (m+1)):=by
    show _->_;intro h;rw[zc6,if_neg h,g]
   have hB:=zlB (zI c) m rd;rw[zbv]at hB;clear g;go_wp2_with fail
   refine(ztI c s ca cc da dc ds m rd wr Z).mono ?_;rintro _ A⟨rfl,t⟩;dsimp only;have N:=zm T t;have X:=zw V t;have D:=Z.below t;have t1:=zb D.box 1 _ rfl;have aa:z8 A w.heap.size _ ms:=O.same t.size (λp Y b H e=>t.block b ((O p Y).2 b H e).2.1);generalize cOf (zI c) m rd=r at*;by_cases hr:0<=r
   .obtain⟨k,rfl⟩:∃k:Nat,r=k:=⟨r.toNat,by omega⟩;have l:k<ds.length:=by rw[HL.out];omega
    have ar:(k:Int)<c.length:=by omega
    have I:=M.out hr;rw[Int.toNat_natCast,zov ae.out k l]at I;have J:Hid (zc6 (zI c) rd (m+1)=bss ms++[(ds[k]).bs]):=I;clear M L I;rcases D.at'.digs.parts.cells with C|⟨db,aq,rfl,C⟩
    .rw[C]at l;simp at l
    have ck:=C k l;have hx:=D.at'.digs.parts.each (ds[k]) (gM_ l);have am:=ad (ds[k]) (gM_ l);clear C D Z y ad;generalize ds[k]=p at*;go_wp2_with fail
    refine(zeH p.bs p.sa _ p.cap A rfl hx am).mono ?_;rintro e w2⟨z,rc,U,al,ak,R⟩;subst U;dsimp only;have B:=zm N R;have ac:=zw X R;go_wp2_with (at_builtin;refine wpList_append_own_at _ rfl _ _ 59 rfl w.heap.size 51 i (O_) 1 24 underlying59 hi an ao ap rfl (by decide) _ ms.length _ rfl (oA_ ac _) ⟨w2.heap.size,0,none⟩ 1 1 [.slice z p.bs.length rc] rfl rfl (zag _ _ _) (by intro u hu;simp at hu;subst hu;rfl) (by unfold maxLen;omega) (by omega) (zB B.size _) ?_;intro v1 w3 aj ab _ ah)
    have G:=zV.of ab ah;have ag:=aa.more_at (q:=⟨z,rc,p.bs⟩) N.size X R ak al G;have af:=Below.grown (B.alloc B.size _) ab (zB B.size _) (λq e=>(ac.lt q e).1);go_roundw
    case rel=>
     have o:∃(f:Nat) (d:List zi),f<=4/\(Value.int .i64 ((m:Int)+1))=I_ f/\bss d=zc6 (zI c) rd f/\z8 w3 w.heap.size v1 d/\w3.ownsRow w.heap.size 51 1 v1 d.length (pv d)/\B_ w w3:=
      ⟨m+1,ms++[⟨z,rc,p.bs⟩],by omega,by go_num,by rw[J.out];simp[bss],ag,by simpa[pv,zi.val]using aj,af⟩
     first|exact o|((repeat apply Exists.intro);exact⟨o,rfl⟩)
    case measure=>simp[intOf];omega
   .have J:Hid (bss ms=zc6 (zI c) rd (m+1)):=L.out (by omega);obtain rfl:r=-1:=by omega
    clear M L;go_wp2_with fail
    go_roundw
    case rel=>
     have o:∃(f:Nat) (d:List zi),f<=4/\(Value.int .i64 ((m:Int)+1))=I_ f/\bss d=zc6 (zI c) rd f/\z8 A w.heap.size u5 d/\A.ownsRow w.heap.size 51 1 u5 d.length (pv d)/\B_ w A:=
      ⟨m+1,ms,by omega,by go_num,J.out,aa,X,N⟩
     first|exact o|((repeat apply Exists.intro);exact⟨o,rfl⟩)
    case measure=>simp[intOf];omega
  .obtain rfl:m=4:=by omega
   have HM:Hid (bss ms=dgF (zI c) rd):=g;clear g;obtain⟨z,rc,hv,hl,hL,ai⟩:=zcI V O;subst hv;go_wp2_with fail
   go_ret;exact⟨z,rc,ms,rfl,HM.out,hL (by omega),ai,T,λF H e=>(V.lt F (by rw[e];rfl)).2⟩
theorem zqo (k:Kn)(b:Int)(a:List (List Int))(l:List BW)(i:Nat)(c:i<l.length):zb2 k b a (l.take (i+1))=zgT k b (zb2 k b a (l.take i)) l[i]:=by
 rw[tS_ c,zb2,List.foldl_append]
 rfl
theorem zqp (k:Kn)(c:Int)(l:List BW):∀a:List (List Int),a.length=3->zb2 k c a l=a:=by
 induction l with
 | nil=>intro a _;rfl
 | cons b l ih=>
  intro a h;show zb2 k c (zgT k c a b) l=a;have e:zgT k c a b=a:=by rw[zgT,if_pos h]
  rw[e];exact ih a h
theorem zqq (k:Kn)(b:Int)(a:List (List Int))(l:List BW)(i:Nat)(h:(zb2 k b a (l.take i)).length=3):zb2 k b a l=zb2 k b a (l.take i):=by
 have e:zb2 k b a (l.take i++l.drop i)=zb2 k b (zb2 k b a (l.take i)) (l.drop i):=List.foldl_append;rw[List.take_append_drop]at e;rw[e];exact zqp _ _ _ _ h
structure zyD (w w':World)(e:Ending)(x:NM):Prop where
 out:∃ma mc ms,e=.returned (.slice ma (List.length ms) mc)/\bss ms=zb2 x.v.k x.nu [] x.v.k.sh/\ms.length<=3/\w'.ownsRow w.heap.size 51 1 (.slice ma ms.length mc) ms.length (pv ms)/\(∀p∈ms,∃s∈x.sh,p=s.d)/\B_ w w'
theorem zup (x:NM)(w:World)(U:Nat->Bool)(F o:Nat)(T:TypeId)(fc:Array Value)(h:zo w U F o T fc x) :
  Calls prog 177 #[P_ F o] w λe w'=>zyD w w' e x:=by
 obtain⟨ti,aw,ax,ay,az⟩:=info_parts zhc;have c4:=h.cell 4 _ rfl;have aA:x.sh.length<=800:=by have:=h.inv.sh;simpa[NM.v,shw]using this
 have ae:Hid (x.v.k.sh.length=x.sh.length):=zb6 _;go_in;go_wp2_with fail
 go_loopw [11,3] (λj v wr=>∃(k:Nat) (ms:List zi),k<=x.sh.length/\j=I_ k/\Hid (bss ms=zb2 x.v.k x.nu [] (x.v.k.sh.take k))/\ms.length<=3/\wr.ownsRow w.heap.size 51 1 v ms.length (pv ms)/\Hid (∀p∈ms,∃s∈x.sh,p=s.d)/\B_ w wr) (λj _ _=>x.sh.length-(intOf j).toNat)
 case atStart=>exact⟨0,[],nZ_ _,rfl,rfl,nZ_ _,oN_ _ _ _ _,(λp hp=>by cases hp),bR_ _ _⟩
 case round=>
  obtain⟨k,ms,hk,rfl,Z,X,ho,I,hb⟩:=hrel;obtain⟨va,vc,hv⟩:=zH ho;subst hv;clear c4;by_cases hlt:k<x.sh.length
  .have aC:(k:Int)<x.sh.length:=by omega
   have hr:=h.below hb;obtain⟨sb,so,au,c0,c1,c2,c3⟩:=hr.shs.at k hlt;have ad:zd3 (zq U w) (x.sh[k]):=h.esh _ (gM_ hlt);have av:x.sh[k]∈x.sh:=gM_ hlt;have ag:k<x.v.k.sh.length:=by rw[ae.out];exact hlt
   have ah:x.v.k.sh[k]=(x.sh[k]).b.v:=by show(shw x.sh)[k]'_=_;simp[shw]
   have O:Hid _:=zqo x.v.k x.nu [] x.v.k.sh k ag;rw[ah,<-Z.out]at O;rw[au];clear ag ah;generalize x.sh[k]=s at*;refine kV_ ?A0 ?_;exact Value.slice s.d.sa s.d.bs.length s.d.cap;refine kO_ ?B0 ?_;exact Obj.cells #[I_ s.b.v.au,I_ s.b.v.nu,.slice s.b.ta s.b.v.ss.length s.b.tc,?A0] 161;have Y:=zC wr ?B0;have N:=hN_ wr ?B0;go_upto_region 5 with fail
   generalize wr.alloc ?B0=t at Y N|-;generalize wr.heap.size=B at N|-;have D:=zm hb Y;have h0:=h.below D;have aa:=zw ho Y;have a0:=zb N 0 _ rfl;have a3:=zb N 3 _ rfl;have k0:t.cell? ⟨F,o,none⟩=some (I_ x.nu):=h0.cell 0 _ rfl;clear ho c0 c1 c2 c3 hr N Y;by_cases he3:ms.length=3
   .have HM:Hid (bss ms=zb2 x.v.k x.nu [] x.v.k.sh):=by
     show _=_;rw[zqq x.v.k x.nu [] x.v.k.sh k (by rw[<-Z.out,zcQ];exact he3),Z.out]
    have an:(ms.length:Int)=3:=by omega
    have ab:Hid _:=he3;clear he3 X;go_wp2_with fail
    go_ret;exact⟨va,vc,ms,rfl,HM.out,by have:=ab.out;omega,aa,I.out,D⟩
   .have an:¬(ms.length:Int)=3:=by omega
    have ac:Hid (∀V:World,B_ t V->Calls prog 209 #[P_ F o,?A0] V λe w'=>e=.returned (.bool (zin x.v.k x.nu s.b.v.d))/\B_ V w'):=by
     show ∀V,_;intro V hV;rw[<-ad.e];have af:=zm D hV;exact zsh x s.d.bs s.d.sa _ s.d.cap V U F o T fc (h.below af) rfl ((ad.d.sub (zK _ _)).below af)
    have z:Hid (zgT x.v.k x.nu (bss ms) s.b.v=if s.b.v.au=x.nu/\zin x.v.k x.nu s.b.v.d=false then bss ms++[s.b.v.d]else bss ms):=by
     show _=_;rw[zgT,if_neg (by rw[zcQ];exact he3)]
    have ab:Hid (¬ms.length=3):=he3;clear he3;generalize ar:zin x.v.k x.nu s.b.v.d=r at ac z;clear ar;by_cases e:s.b.v.au=x.nu
    .have R:(s.b.v.au == x.nu)=true:=by simpa using e
     cases r with
     | true=>
      rw[if_neg (λg=>by cases g.2)]at z;clear e;go_upto_region 6 with fail
      have c:=dB_ t;have d:=dC_ a0;have f:=dC_ a3;have l:=dC_ k0;refine wR_ (S:=λw'=>w'.cell? ⟨B,0,none⟩=some (I_ s.b.v.au)/\w'.cell? ⟨B,3,none⟩=some ?A0/\w'.cell? ⟨F,o,none⟩=some (I_ x.nu)) (by kernel_rfl) ⟨d,f,l⟩ (λb=>?_);generalize t.drew=A at c d f l b|-;refine tks_ 8 [(0,18,(P_ B 0)),(1,19,(P_ B 0)),(2,20,I_ s.b.v.au),(3,21,(P_ F o)),(4,22,(P_ F o)),(5,23,(P_ F o)),(6,24,I_ x.nu),(7,25,.bool (s.b.v.au == x.nu))] b ?_;simp only[tkf_,zf];rw[R];refine tks_ 4 [(8,26,.bool true),(9,27,(P_ F o)),(10,28,(P_ B 3)),(11,29,.slice s.d.sa s.d.bs.length s.d.cap)] b ?_;simp only[tkf_,zf];refine zE 12 rfl (λK9 hK=>?_);refine zaJ (by rfl) 30 rfl 209 [.tmp 27,.tmp 29] #[127,51] rfl [P_ F o,?A0] rfl (eO_ func209) (λv w'=>v=.bool true/\B_ A w') ((ac.out A c).mono (λe w' k=>⟨_,k.1,rfl,k.2⟩)) ?_;rintro v V1⟨rfl,m⟩;have J:=zm c m;have C:=zr m d;have H:=zr m f;have G:=zr m l;refine hK.out _ _ ⟨C,H,G⟩ (λb=>?_);simp only[zf];refine tks_ 2 [(13,31,.bool false),(14,32,.bool false)] b ?_;simp only[tkf_,zf];clear b;refine wD_ (by kernel_rfl) ?_ _;have y:=zm D J;have E:=zw aa J;obtain⟨W2,L⟩:∃W,W=V1:=⟨_,rfl⟩;rw[<-L]at y E C H G|-;clear L;go_wp2_with fail
      go_roundw
      case rel=>exact⟨k+1,ms,by omega,by go_num,by show _=_;rw[O.out,z.out],X,E,I,y⟩
      case measure=>simp[intOf];omega
     | false=>
      rw[if_pos ⟨e,rfl⟩]at z;clear e;go_upto_region 6 with fail
      have c:=dB_ t;have d:=dC_ a0;have f:=dC_ a3;have l:=dC_ k0;refine wR_ (S:=λw'=>w'.cell? ⟨B,0,none⟩=some (I_ s.b.v.au)/\w'.cell? ⟨B,3,none⟩=some ?A0/\w'.cell? ⟨F,o,none⟩=some (I_ x.nu)) (by kernel_rfl) ⟨d,f,l⟩ (λb=>?_);generalize t.drew=A at c d f l b|-;refine tks_ 8 [(0,18,(P_ B 0)),(1,19,(P_ B 0)),(2,20,I_ s.b.v.au),(3,21,(P_ F o)),(4,22,(P_ F o)),(5,23,(P_ F o)),(6,24,I_ x.nu),(7,25,.bool (s.b.v.au == x.nu))] b ?_;simp only[tkf_,zf];rw[R];refine tks_ 4 [(8,26,.bool true),(9,27,(P_ F o)),(10,28,(P_ B 3)),(11,29,.slice s.d.sa s.d.bs.length s.d.cap)] b ?_;simp only[tkf_,zf];refine zE 12 rfl (λK9 hK=>?_);refine zaJ (by rfl) 30 rfl 209 [.tmp 27,.tmp 29] #[127,51] rfl [P_ F o,?A0] rfl (eO_ func209) (λv w'=>v=.bool false/\B_ A w') ((ac.out A c).mono (λe w' k=>⟨_,k.1,rfl,k.2⟩)) ?_;rintro v V1⟨rfl,m⟩;have J:=zm c m;have C:=zr m d;have H:=zr m f;have G:=zr m l;refine hK.out _ _ ⟨C,H,G⟩ (λb=>?_);simp only[zf];refine tks_ 2 [(13,31,.bool true),(14,32,.bool true)] b ?_;simp only[tkf_,zf];clear b;refine wD_ (by kernel_rfl) ?_ _;have y:=zm D J;have E:=zw aa J;obtain⟨W2,L⟩:∃W,W=V1:=⟨_,rfl⟩;rw[<-L]at y E C H G|-;clear L;clear C G;go_wp2_with (at_builtin;refine wpList_append_own_at _ rfl _ _ 59 rfl w.heap.size 51 ti (O_) 1 24 underlying59 aw ax ay az rfl (by decide) _ ms.length _ rfl (oA_ E _) ⟨W2.heap.size,0,none⟩ 1 1 [?A0] rfl rfl (zag _ _ _) (by intro u hu;simp at hu;subst hu;rfl) (by unfold maxLen;omega) (by omega) (zB y.size _) ?_;intro v1 w3 ap ao _ aB)
      have ai:=Below.grown (y.alloc y.size _) ao (zB y.size _) (λq e=>(E.lt q e).1);have ak:Hid (∀p∈ms++[s.d],∃s∈x.sh,p=s.d):=by
       show ∀p,_;intro p hp;rcases List.mem_append.1 hp with g|g
       .exact I.out p g
       .exact⟨s,av,List.mem_singleton.1 g⟩
      have al:(ms++[s.d]).length<=3:=by have:=ab.out;rw[lP_];simp;omega
      have am:Hid (bss (ms++[s.d])=zb2 x.v.k x.nu [] (x.v.k.sh.take (k+1))):=by
       show _=_;rw[O.out,z.out,<-ad.e];simp[bss]
      go_roundw
      case rel=>
       have hR:∃(k':Nat) (M:List zi),k'<=x.sh.length/\(Value.int .i64 ((k:Int)+1))=I_ k'/\Hid (bss M=zb2 x.v.k x.nu [] (x.v.k.sh.take k'))/\M.length<=3/\w3.ownsRow w.heap.size 51 1 v1 M.length (pv M)/\Hid (∀p∈M,∃s∈x.sh,p=s.d)/\B_ w w3:=
        ⟨k+1,ms++[s.d],by omega,by go_num,am,al,by simpa[pv,zi.val]using ap,ak,ai⟩
       first|exact hR|((repeat apply Exists.intro);exact⟨hR,rfl⟩)
      case measure=>simp[intOf];omega
    .have R:(s.b.v.au == x.nu)=false:=by simpa using e
     rw[if_neg (λg=>e g.1)]at z;clear e;go_upto_region 6 with fail
     have c:=dB_ t;have d:=dC_ a0;have f:=dC_ a3;have l:=dC_ k0;refine wR_ (S:=λw'=>w'.cell? ⟨B,0,none⟩=some (I_ s.b.v.au)/\w'.cell? ⟨B,3,none⟩=some ?A0/\w'.cell? ⟨F,o,none⟩=some (I_ x.nu)) (by kernel_rfl) ⟨d,f,l⟩ (λb=>?_);generalize t.drew=A at c d f l b|-;refine tks_ 8 [(0,18,(P_ B 0)),(1,19,(P_ B 0)),(2,20,I_ s.b.v.au),(3,21,(P_ F o)),(4,22,(P_ F o)),(5,23,(P_ F o)),(6,24,I_ x.nu),(7,25,.bool (s.b.v.au == x.nu))] b ?_;simp only[tkf_,zf];rw[R];refine tks_ 7 [(8,26,.bool false),(9,27,undef),(10,28,undef),(11,29,undef),(12,30,undef),(13,31,undef),(14,32,.bool false)] b ?_;simp only[tkf_,zf];clear b;refine wD_ (by kernel_rfl) ?_ _;have aj:=zm D c;have aq:=zw aa c;go_wp2_with fail
     go_roundw
     case rel=>exact⟨k+1,ms,by omega,by go_num,by show _=_;rw[O.out,z.out],X,aq,I,aj⟩
     case measure=>simp[intOf];omega
  .obtain rfl:k=x.sh.length:=by omega
   have HM:Hid (bss ms=zb2 x.v.k x.nu [] x.v.k.sh):=by
    show _=_;rw[Z.out,tL_ (by rw[ae.out];exact nR_ _)]
   go_wp2_with fail
   go_ret;exact⟨va,vc,ms,rfl,HM.out,X,ho,I.out,hb⟩
theorem zq8 (s:List Int)(k:Nat):∀x∈zdg s k,0<=x/\x<=255:=by
 induction k with
 | zero=>intro x b;cases b
 | succ k ih=>
  intro x b;rw[zdg]at b;rcases List.mem_append.1 b with h|h
  .exact ih x h
  .simp at h
   omega
theorem zzg (au rd:Int)(bl pl:List zi):∀x∈zaE au rd bl pl,0<=x/\x<=255:=zq8 _ _
variable {w:World}{U:Nat->Bool}{F o base:Nat}{fc:Array Value}{T:TypeId}{x:NM}{rd:Int}
theorem zv7 (k:Kn)(f:Int)(l:List BW):∀(a:List (List Int)) (d:List Int),d∈zb2 k f a l->d∈a\/∃b∈l,d=b.d:=by
 induction l with
 | nil=>intro a d h;exact .inl h
 | cons b l ih=>
  intro a d h;rcases ih (zgT k f a b) d h with g|⟨c,j,g⟩
  .rw[zgT]at g
   split at g
   .exact .inl g
   .split at g
    .rcases List.mem_append.1 g with q|q
     .exact .inl q
     .exact .inr ⟨b,List.mem_cons_self ..,List.mem_singleton.1 q⟩
    .exact .inl g
  .exact .inr ⟨c,List.mem_cons_of_mem _ j,g⟩
theorem zxx {k:Kn}{d:Int}{l:List BW}{ms:List zi}(h:bss ms=zb2 k d [] l):U8L ms:=by
 intro p f;have c:p.bs∈bss ms:=List.mem_map.2 ⟨p,f,rfl⟩;rw[h]at c;rcases zv7 k d l [] p.bs c with g|⟨b,_,g⟩
 .cases g
 .rw[g];exact zq8 _ _
theorem zxy (l:List CV)(rd:Int)(n:Nat):∀d∈zc6 l rd n,∀x∈d,0<=x/\x<=255:=by
 induction n with
 | zero=>intro d b;cases b
 | succ n ih=>
  intro d b;rw[zc6]at b
  split at b
  .rcases List.mem_append.1 b with g|g
   .exact ih d g
   .rw[List.mem_singleton.1 g];exact zzg _ _ _ _
  .exact ih d b
theorem zzh {l:List CV}{ms:List zi}(h:bss ms=dgF l rd):U8L ms:=by
 intro p c;have b:p.bs∈bss ms:=List.mem_map.2 ⟨p,c,rfl⟩;rw[h]at b;exact zxy l rd 4 p.bs b
theorem zuq {o:Nat}{d:Option Addr}{ms:List zi}(m:w.ownsRow base 51 1 (.slice d ms.length o) ms.length (pv ms))(B:∀b,base<=b->U b=false)(l:∀p∈ms,zg (zq U w) p.sa p.cap p.bs)(E:ms.length<=3):zx (zq U w) d o ms/\∀c f,d=some ⟨c,f,none⟩->c<w.heap.size:=by
 rcases m.2 with⟨e,z⟩|⟨g,C,D,e,r⟩
 .simp only[Value.slice.injEq]at e;obtain⟨s,_,t⟩:=e;subst s t;refine⟨⟨by omega,by decide,by omega,.inl rfl,⟨.inl (eN_ z),l⟩⟩,(λc f q=>by cases q)⟩
 .have A:=m;cases e;refine⟨⟨r.2.2.1,nT_ r.2.2.2.1 (by decide),by omega,.inr ⟨g,0,rfl⟩,⟨.inr ⟨g,0,rfl,λj y=>?_⟩,l⟩⟩,?_⟩
  .have u:w.cell? ⟨g,0+j,none⟩=some (.slice (ms[j]).sa (ms[j]).bs.length (ms[j]).cap):=by
    rw[Nat.zero_add,World.ownsRow.cellAt A j (by omega)];simp[pv,y,zi.val]
   rw[<-u];exact cB_ (zdr (B g r.1))
  .intro c f q;cases q;exact ze r.2.1
structure zzi (w w':World)(e:Ending)(U:Nat->Bool)(x:NM)(rd:Int):Prop where
 out:∃hd:Ct,e=.returned (.agg (hrow_ hd))/\hd.v=x.v.header rd/\hd.vl=[]/\HAt (zq U w') hd.ba hd.bc hd.bl hd.pa hd.pc hd.pl/\U8L hd.bl/\U8L hd.pl/\B_ w w'
theorem zo.ds32 (h:zo w U F o T fc x):∀p∈x.ds,p.bs.length<=140737488355328:=by
 intro p d;have b:p.bs∈bss x.ds:=List.mem_map.2 ⟨p,d,rfl⟩;rw[h.stk.same]at b;obtain⟨c,_,e⟩:=List.mem_map.1 b;rw[<-e,CV.d,zbD];decide
theorem zqr (x:NM)(rd:Int)(w:World)(U:Nat->Bool)(F o:Nat)(T:TypeId)(fc:Array Value)(h:zo w U F o T fc x)(hr:1<=rd/\rd<=1048577) :
  Calls prog 138 #[P_ F o,I_ rd] w λe w'=>zzi w w' e U x rd:=by
 have aq:IntKind.i64.wrap (rd-1)=rd-1:=by rw[IntKind.wrap_i64];omega
 refine kO_ ?C0 ?_;exact Obj.cells #[I_ 0,I_ 0,O_,O_] 61;have y:=zC w ?C0;have q0:=hN_ w ?C0;go_in;go_upto_region 1 with fail
 generalize w.alloc ?C0=O at y q0|-;have H:=h.below y;obtain⟨c,R⟩:∃c,c=w.heap.size:=⟨_,rfl⟩;rw[<-R]at q0|-;have an:Hid _:=R;clear R;have k0:O.cell? ⟨F,o,none⟩=some (I_ x.nu):=H.cell 0 _ rfl;have k6:=H.cell 6 _ rfl;have C:=dB_ O;have Y:=dC_ k0;have aa:=dC_ k6;refine wR_ (S:=λw'=>w'.cell? ⟨F,o,none⟩=some (I_ x.nu)/\w'.cell? ⟨F,o+6,none⟩=some (P_ x.s 0)) (by kernel_rfl) ⟨Y,aa⟩ (λu=>?_);generalize O.drew=E at C Y aa u|-;have al:=zk C q0;refine tks_ 12 [(0,5,(P_ F o)),(1,6,(P_ F o)),(2,7,(P_ F o)),(3,8,I_ x.nu),(4,9,I_ rd),(5,10,(P_ F o)),(7,12,(P_ F o)),(8,13,(P_ F o)),(9,14,(P_ F (o+6))),(10,15,(P_ x.s 0)),(11,16,I_ rd),(12,17,I_ (rd-1))] u ?_;simp only[tkf_,zf];refine zE 6 rfl (λK9 B=>?_);refine zj rfl 11 rfl 177 [.tmp 10] #[127] rfl [P_ F o] rfl (eO_ func177) (λv w'=>∃j l ms,v=.slice j (List.length ms) l/\bss ms=zb2 x.v.k x.nu [] x.v.k.sh/\ms.length<=3/\w'.ownsRow E.heap.size 51 1 (.slice j ms.length l) ms.length (pv ms)/\(∀p∈ms,∃s∈x.sh,p=s.d)/\B_ E w') ((zup x E U F o T fc (H.below C)).mono (λe w' k=>by obtain⟨j,l,ms,V,Z,k2,k3,k4,k5⟩:=k.out;exact⟨_,V,j,l,ms,rfl,Z,k2,k3,k4,k5⟩)) ?_;rintro v G⟨j,l,ms,rfl,m1,m2,m3,m4,N⟩;have M:=zm C N;have ae:=zr N Y;have ah:=zr N aa;refine B.out _ _ ⟨ae,ah⟩ (λu=>?_);simp only[zf];have ab:Hid _:=m1;clear m1;have am:=zk N al;obtain⟨ca,cc,da,dc,ap⟩:=(H.below M).stkAt;refine zE 13 rfl (λK9 B=>?_);refine zj rfl 18 rfl 178 [.tmp 15,.tmp 17] #[112,3] rfl [P_ x.s 0,I_ (rd-1)] rfl (eO_ func178) (λv w'=>∃f g d,v=.slice f (List.length d) g/\bss d=dgF (zI x.ls) (rd-1)/\zx w' f g d/\za1 G.heap.size f d/\(∀m r,f=some ⟨m,r,none⟩->m<w'.heap.size)/\B_ G w') ((zqn x.ls x.s ca cc da dc x.ds (rd-1) G ap h.ds32).mono (λe w' k=>by obtain⟨f,g,d,V,Z,k2,k3,k4,k5⟩:=k;exact⟨_,V,f,g,d,rfl,Z,k2,k3,k5,k4⟩)) ?_;rintro v A⟨f,g,d,rfl,n1,n2,z,n4,D⟩;have ao:=zm M D;have af:=zr D ae;have ai:=zr D ah;refine B.out _ _ ⟨af,ai⟩ (λu=>?_);simp only[zf];have ac:Hid _:=n1;clear n1;have q:=zk D am;refine kA_ ?B0 ?_;exact #[I_ x.nu,I_ rd,.slice j ms.length l,.slice f d.length g];refine zU 14 19 (.agg ?B0) rfl rfl u ?_;simp only[zf];have ax:=zb q 0 _ rfl;have ar:=zd q 0;have ay:=zb q 1 _ rfl;have au:=zd q 1;have az:=zb q 2 _ rfl;have av:=zd q 2;have aA:=zb q 3 _ rfl;have aw:=zd q 3;have I:c<E.heap.size:=ze al;have J:c<G.heap.size:=ze am;have L:w.heap.size<=c:=by rw[an.out];exact nR_ _
 refine zE 15 rfl (λK9 B=>?_);refine kW_ ?A0 ?_;exact(((A.setCell ⟨c,0,none⟩ (I_ x.nu)).setCell ⟨c,1,none⟩ (I_ rd)).setCell ⟨c,2,none⟩ (.slice j ms.length l)).setCell ⟨c,3,none⟩ (.slice f d.length g);refine zX rfl rfl ?A0 (by go_simp) ?_;have ak:(?A0).heap[c]? = some (.cells ?B0 61 (0,0)):=by simpa using(hS_ _ _ 3 _ _ (.slice f d.length g) (hS_ _ _ 2 _ _ (.slice j ms.length l) (hS_ _ _ 1 _ _ (I_ rd) (hS_ _ _ 0 _ _ (I_ x.nu) q))))
 have nB:=(((((y.trans (ao.mono y.size)).setCell (p:=⟨c,0,none⟩) L (I_ x.nu)).setCell (p:=⟨c,1,none⟩) L (I_ rd)).setCell (p:=⟨c,2,none⟩) L (.slice j ms.length l)).setCell (p:=⟨c,3,none⟩) L (.slice f d.length g));have nL:=(zx.setCell (zx.setCell (zx.setCell (zx.setCell n2 z c 0 (I_ x.nu) J) z c 1 (I_ rd) J) z c 2 (.slice j ms.length l) J) z c 3 (.slice f d.length g) J);have nO:=(zQ (zQ (zQ (zQ (zw m3 D) c 0 (I_ x.nu) I) c 1 (I_ rd) I) c 2 (.slice j ms.length l) I) c 3 (.slice f d.length g) I);have t:F≠c:=λe=>by have:=h.bnd F h.fu;omega
 have ag:=(zar (k:=3) (v:=.slice f d.length g) (zar (k:=2) (v:=.slice j ms.length l) (zar (k:=1) (v:=I_ rd) (zar (k:=0) (v:=I_ x.nu) af t) t) t) t);have aj:=(zar (k:=3) (v:=.slice f d.length g) (zar (k:=2) (v:=.slice j ms.length l) (zar (k:=1) (v:=I_ rd) (zar (k:=0) (v:=I_ x.nu) ai t) t) t) t);refine B.out _ _ ⟨ag,aj⟩ (λu=>?_);have ad:A.heap.size<=(?A0).heap.size:=by simp
 generalize ?A0=W5 at ak nB nL nO ag aj ad u|-;clear u;refine wD_ (by kernel_rfl) ?_ _;go_wp2_with fail
 obtain⟨l1,l2⟩:=zuq (U:=U) nO (λb hb=>h.bnd.new (nT_ (nT_ y.size C.size) hb)) (λp X=>by
   obtain⟨s,hs,e⟩:=m4 p X;rw[e];exact(h.esh s hs).d.sub (zao.below U nB).sub) m2
 have l3:zx (zq U W5) f g d:=zvH nL ⟨λm r e _=>h.bnd.new (nT_ (nT_ y.size M.size) (z.row m r e)),λp X m r e _=>h.bnd.new (nT_ (nT_ y.size M.size) (z.each p X m r e))⟩;exact bP_ (v:=.agg ?B0) (results_cell_row (fn:=Tryz.f138) (p:=4) (ty:=61) rfl _ _ c 61 _ (0,0) _ rfl ak underlying61 rfl sHd) rfl ⟨⟨x.nu,rd,j,l,ms,f,g,d,none,0,[]⟩,rfl,by show(⟨x.nu,rd,bss ms,bss d,[]⟩:CV)=_;rw[ab.out,ac.out];rfl,rfl,⟨l1,l3,λm r e=>by rw[zch];exact l2 m r e,λm r e=>by rw[zch];exact nL_ (n4 m r e) ad⟩,zxx ab.out,zzh ac.out,nB⟩
theorem zsi (x:NM)(rd:Int)(w:World)(U:Nat->Bool)(F o:Nat)(T:TypeId)(fc:Array Value)(h:zo w U F o T fc x)(hr:1<=rd/\rd<=1048577) :
  Calls prog 109 #[P_ F o,I_ rd] w λe w'=>(∃v,e=.returned v)/\zal w U F o T fc x w' (x.v.offerNew rd):=by
 have a4:=zqr x rd w U F o T fc h hr;go_in;go_wp2_with fail
 refine a4.mono ?_;rintro e w0⟨c,he,bg,bF,hH,a0,a1,aJ⟩;subst he;dsimp only;clear a4;have HM:Hid (x.v.offerNew rd=if(zaf x.v.k.tab c.v).2.2=0/\x.v.room (zcl c.v)=true then({ x.v.log (zcl c.v) { x.v.k with tab:=(zaf x.v.k.tab c.v).1,own:=c.v,slot:=c.v.slot } with vot:=[x.v.nu] }:Nd).sendAll (zcl c.v)else x.v):=by show _=_;rw[bg];rfl
 clear bg;have hA:=zC w0 (.cells (hrow_ c) 61);have aB:=hN_ w0 (.cells (hrow_ c) 61);have bd:Hid (U w0.heap.size=false):=h.bnd.new aJ.size;go_upto_region 1 with fail
 generalize w0.alloc (.cells (hrow_ c) 61)=I at hA aB|-;generalize w0.heap.size=B0 at aB bd|-;have aW:=zm aJ hA;have N:=h.below aW;have n1:=NTo.below (F:=F) (o:=o) U fc x aW;have aR:HAt (zq U I) c.ba c.bc c.bl c.pa c.pc c.pl:=hH.sub ((h.below aJ).later hA);have c5:=N.cell 5 _ rfl;clear hA aJ aW hH;go_cut [5,6,7] (λu6 u7 u8 wx=>∃(r:Option Addr) (rc:Nat) (f:List Sl) (d:Nat) (m:Option Addr) (u:Nat) (y z:Int) (ds:List Int) (A:Int),u6=.slice r f.length rc/\u7=(P_ d 0)/\u8=I_ A/\B_ I wx/\I.heap.size<=d/\R_ wx d #[I_ y,I_ z,.slice m ds.length u] 53/\Hid ((vs f,(y,z,ds),A)=zaf x.v.k.tab c.v/\zg wx m u ds/\(∀l t,m=some ⟨l,t,none⟩->I.heap.size<=l/\(Value.slice r f.length rc).ownBlock≠some l)/\wx.ownsRow I.heap.size 53 3 (.slice r f.length rc) f.length (slv f)/\z8 wx I.heap.size (.slice r f.length rc) (ps f)/\(Value.slice r f.length rc).ownBlock≠some d))
 case first=>
  have R:=dB_ I;have ar:=dC_ c5;have aC:=dQ_ aB;refine wR_ (S:=λw'=>w'.cell? ⟨F,o+5,none⟩=some (.slice x.ta x.tab.length x.tc)/\R_ w' B0 (hrow_ c) 61) (by kernel_rfl) ⟨ar,aC⟩ (λD=>?_);generalize I.drew=J at R ar aC D|-;refine tks_ 4 [(0,12,(P_ F o)),(1,13,(P_ F o)),(2,14,(P_ F (o+5))),(3,15,.slice x.ta x.tab.length x.tc)] D ?_;simp only[tkf_,zf];refine tQ_ 4 16 (.agg (hrow_ c)) rfl rfl (Or.inl ⟨by rfl,λw0 bC=>zL 61 _ rfl B0 rfl 61 (hrow_ c) (0,0) _ bC.2 underlying61 rfl sHd⟩) D ?_;simp only[zf];refine wpAnyH_ready (rs:=[5,10]) (by kernel_rfl) (by simp) (AllReadyH.cons rfl (λK9 Z=>?_) (AllReadyH.cons rfl (λK9 Z=>?_) AllReadyH.nil));refine zj rfl 17 rfl 139 [.tmp 15,.tmp 16] #[44,61] rfl [.slice x.ta x.tab.length x.tc,.agg (hrow_ c)] rfl (eO_ func139) (λv w'=>(∃(r:Option Addr) (rc:Nat) (f:List Sl) (m:Option Addr) (u:Nat) (y z:Int) (ds:List Int) (A:Int),v=.tuple #[.slice r (List.length f) rc,.agg #[I_ y,I_ z,.slice m (List.length ds) u],I_ A]/\(vs f,(y,z,ds),A)=zaf x.v.k.tab c.v/\zg w' m u ds/\(∀l t,m=some ⟨l,t,none⟩->J.heap.size<=l/\(Value.slice r (List.length f) rc).ownBlock≠some l)/\w'.ownsRow J.heap.size 53 3 (.slice r (List.length f) rc) (List.length f) (slv f)/\z8 w' J.heap.size (.slice r (List.length f) rc) (ps f))/\B_ J w') ((zgh x.tab x.ta x.tc c.au c.rd c.ba c.bc c.bl c.pa c.pc c.pl J ((N.below R).tabAt) ((aR.sub (zK U I)).below R) ((N.below R).tabs.sub (zK _ _))).mono (λe w' k=>by
    obtain⟨r,rc,f,m,u,y,z,ds,A,k1,k2,_,k4,_,k6,k7,k8,k9,a2⟩:=k;exact⟨_,k1,⟨r,rc,f,m,u,y,z,ds,A,rfl,by rw[k2,zgi];rfl,k4,λl t e=>⟨k6 l t e,a2 l t e⟩,k8,k9⟩,k7⟩)) ?_
  rintro v E⟨⟨r,rc,f,m,u,y,z,ds,A,rfl,hR,ag,an,hO,M⟩,hbc⟩;have O:=zm R hbc;have ae:=zr hbc ar;have ah:=zk hbc aC;refine Z.out _ _ ⟨ae,ah⟩ (λD=>?_)
  rotate_left
  refine zy rfl 6 rfl (P_ J.heap.size 0) (J.alloc (.cells #[I_ 0,I_ 0,O_] 53)) (by go_simp) ?_;have L:=zC J (.cells #[I_ 0,I_ 0,O_] 53);have C:=hN_ J (.cells #[I_ 0,I_ 0,O_] 53);have O:=zm R L;have V:I.heap.size<=J.heap.size:=R.size;have ae:=zr L ar;have ab:F≠J.heap.size:=Nat.ne_of_lt (bL_ ar);have ah:=zk L aC;have ad:B0≠J.heap.size:=Nat.ne_of_lt (ze aC);refine Z.out _ _ ⟨ae,ah⟩ (λD=>?_);simp only[zf];have al:J.heap.size<(J.alloc (.cells #[I_ 0,I_ 0,O_] 53)).heap.size:=by simp
  generalize J.alloc (.cells #[I_ 0,I_ 0,O_] 53)=E at L C O al ae ah D|-;clear L;generalize J.heap.size=d at C V al ab ad|-;refine zE 5 rfl (λK9 Z=>?_);have bN:=al;refine zj rfl 17 rfl 139 [.tmp 15,.tmp 16] #[44,61] rfl [.slice x.ta x.tab.length x.tc,.agg (hrow_ c)] rfl (eO_ func139) (λv w'=>(∃(r:Option Addr) (rc:Nat) (f:List Sl) (m:Option Addr) (u:Nat) (y z:Int) (ds:List Int) (A:Int),v=.tuple #[.slice r (List.length f) rc,.agg #[I_ y,I_ z,.slice m (List.length ds) u],I_ A]/\(vs f,(y,z,ds),A)=zaf x.v.k.tab c.v/\zg w' m u ds/\(∀l t,m=some ⟨l,t,none⟩->E.heap.size<=l/\(Value.slice r (List.length f) rc).ownBlock≠some l)/\w'.ownsRow E.heap.size 53 3 (.slice r (List.length f) rc) (List.length f) (slv f)/\z8 w' E.heap.size (.slice r (List.length f) rc) (ps f))/\B_ E w') ((zgh x.tab x.ta x.tc c.au c.rd c.ba c.bc c.bl c.pa c.pc c.pl E ((N.below O).tabAt) ((aR.sub (zK U I)).below O) ((N.below O).tabs.sub (zK _ _))).mono (λe w' k=>by
    obtain⟨r,rc,f,m,u,y,z,ds,A,k1,k2,_,k4,_,k6,k7,k8,k9,a2⟩:=k;exact⟨_,k1,⟨r,rc,f,m,u,y,z,ds,A,rfl,by rw[k2,zgi];rfl,k4,λl t e=>⟨k6 l t e,a2 l t e⟩,k8,k9⟩,k7⟩)) ?_
  rintro v H⟨⟨r,rc,f,m,u,y,z,ds,A,rfl,hR,ag,an,hO,M⟩,hbc⟩;have aI:=zm O hbc;have ak:=zr hbc ae;have ap:=zk hbc ah;have C:=zk hbc C;refine Z.out _ _ ⟨ak,ap⟩ (λD=>?_)
  rotate_left
  all_goals
   simp only[zf];refine tks_ 4 [(6,11,.tuple #[.slice r f.length rc,.agg #[I_ y,I_ z,.slice m ds.length u],I_ A]),(7,18,.slice r f.length rc),(8,19,.agg #[I_ y,I_ z,.slice m ds.length u]),(9,20,I_ A)] D ?_;simp only[tkf_,zf]
  refine zE 10 rfl (λK9 Z=>?_);refine zy rfl 6 rfl (P_ E.heap.size 0) (E.alloc (.cells #[I_ 0,I_ 0,O_] 53)) (by go_simp) ?_;have L:=zC E (.cells #[I_ 0,I_ 0,O_] 53);have C:=hN_ E (.cells #[I_ 0,I_ 0,O_] 53);have aI:=zm O L;have V:I.heap.size<=E.heap.size:=O.size;have ak:=zr L ae;have ab:F≠E.heap.size:=Nat.ne_of_lt (bL_ ae);have ap:=zk L ah;have ad:B0≠E.heap.size:=Nat.ne_of_lt (ze ah);have ao:∀q,(Value.slice r f.length rc).ownBlock=some q->q≠E.heap.size:=λq e=>Nat.ne_of_lt (hO.lt q e).2;have aM:∀l t,m=some ⟨l,t,none⟩->ds≠[]->l≠E.heap.size:=λl t e hn=>Nat.ne_of_lt (zhh ag hn e);have aL:∀p∈ps f,∀l t,p.sa=some ⟨l,t,none⟩->l≠E.heap.size:=λp B l t e=>Nat.ne_of_lt ((M p B).2 l t e).2.1;have ag:=ag.below L;have hO:=zw hO L;have M:=M.same L.size (λp B b t e=>L.block b ((M p B).2 b t e).2.1);refine Z.out _ _ ⟨ak,ap⟩ (λD=>?_);simp only[zf];have al:E.heap.size<(E.alloc (.cells #[I_ 0,I_ 0,O_] 53)).heap.size:=by simp
  generalize E.alloc (.cells #[I_ 0,I_ 0,O_] 53)=H at L C aI al ak ap ag hO M D|-;clear L;generalize E.heap.size=d at C V al ab ad ao aM aL|-
  rotate_left
  have ao:∀q,(Value.slice r f.length rc).ownBlock=some q->q≠d:=λq e=>by have:=(hO.lt q e).1;omega
  have aM:∀l t,m=some ⟨l,t,none⟩->ds≠[]->l≠d:=λl t e hn=>by have:=(an l t e).1;omega
  have aL:∀p∈ps f,∀l t,p.sa=some ⟨l,t,none⟩->l≠d:=λp B l t e=>by have:=((M p B).2 l t e).1;omega
  rotate_left
  all_goals
   have bJ:=zb C 0 _ rfl;have bG:=zd C 0;have bK:=zb C 1 _ rfl;have bH:=zd C 1;have bL:=zb C 2 _ rfl;have bI:=zd C 2;refine zU 11 5 (.slice r f.length rc) rfl rfl D ?_;simp only[zf];refine zE 12 rfl (λK9 Z=>?_);refine zX rfl rfl (((H.setCell ⟨d,0,none⟩ (I_ y)).setCell ⟨d,1,none⟩ (I_ z)).setCell ⟨d,2,none⟩ (.slice m ds.length u)) (by go_simp) ?_;have aA:(((H.setCell ⟨d,0,none⟩ (I_ y)).setCell ⟨d,1,none⟩ (I_ z)).setCell ⟨d,2,none⟩ (.slice m ds.length u)).heap[d]? = some (.cells #[I_ y,I_ z,.slice m ds.length u] 53 (0,0)):=by simpa using(hS_ _ _ 2 _ _ (.slice m ds.length u) (hS_ _ _ 1 _ _ (I_ z) (hS_ _ _ 0 _ _ (I_ y) C)))
   have ay:=(((aI.setCell (p:=⟨d,0,none⟩) V (I_ y)).setCell (p:=⟨d,1,none⟩) V (I_ z)).setCell (p:=⟨d,2,none⟩) V (.slice m ds.length u));have au:=(zar (k:=2) (v:=.slice m ds.length u) (zar (k:=1) (v:=I_ z) (zar (k:=0) (v:=I_ y) ak ab) ab) ab);have aD:=(zh (j:=2) (v:=.slice m ds.length u) (zh (j:=1) (v:=I_ z) (zh (j:=0) (v:=I_ y) ap ad) ad) ad);have XF:∀k,k≠d->(((H.setCell ⟨d,0,none⟩ (I_ y)).setCell ⟨d,1,none⟩ (I_ z)).setCell ⟨d,2,none⟩ (.slice m ds.length u)).heap[k]? = H.heap[k]?:=λk hk=>by rw[hO_ _ ⟨d,2,none⟩ k _ hk,hO_ _ ⟨d,1,none⟩ k _ hk,hO_ _ ⟨d,0,none⟩ k _ hk]
   have ax:zg (((H.setCell ⟨d,0,none⟩ (I_ y)).setCell ⟨d,1,none⟩ (I_ z)).setCell ⟨d,2,none⟩ (.slice m ds.length u)) m u ds:=zcp (G:=λk=>k≠d) XF ag aM;have av:(((H.setCell ⟨d,0,none⟩ (I_ y)).setCell ⟨d,1,none⟩ (I_ z)).setCell ⟨d,2,none⟩ (.slice m ds.length u)).ownsRow I.heap.size 53 3 (.slice r f.length rc) f.length (slv f):=zcf (zu hO (λq e=>XF q (ao q e))) (by have:=R.size;have:=O.size;omega);have aw:z8 (((H.setCell ⟨d,0,none⟩ (I_ y)).setCell ⟨d,1,none⟩ (I_ z)).setCell ⟨d,2,none⟩ (.slice m ds.length u)) I.heap.size (.slice r f.length rc) (ps f):=λp B=>⟨(M.same (w':=(((H.setCell ⟨d,0,none⟩ (I_ y)).setCell ⟨d,1,none⟩ (I_ z)).setCell ⟨d,2,none⟩ (.slice m ds.length u))) (by simp) (λp B b t e=>XF b (aL p B b t e)) p B).1,λl t e=>⟨by have:=((M p B).2 l t e).1;have:=R.size;have:=O.size;omega,by have:=((M p B).2 l t e).2.1;simpa using this,((M p B).2 l t e).2.2⟩⟩;have aZ:∀l t,m=some ⟨l,t,none⟩->I.heap.size<=l/\(Value.slice r f.length rc).ownBlock≠some l:=λl t e=>⟨by have:=(an l t e).1;have:=R.size;have:=O.size;omega,(an l t e).2⟩;clear XF;refine Z.out _ _ ⟨au,aD⟩ (λD=>?_);generalize (((H.setCell ⟨d,0,none⟩ (I_ y)).setCell ⟨d,1,none⟩ (I_ z)).setCell ⟨d,2,none⟩ (.slice m ds.length u))=VE at aA ay au aD ax av aw D|-;refine zU 13 7 (I_ A) rfl rfl D ?_;simp only[zf];clear D;refine wD_ (by kernel_rfl) ?_ _;go_wp2_with fail
   go_meet
   case rel=>exact⟨r,rc,f,d,m,u,y,z,ds,A,rfl,rfl,rfl,ay,V,aA,⟨hR,ax,aZ,av,aw,λe=>ao d e rfl⟩⟩
 case rest=>
  obtain⟨r,rc,f,d,m,u,y,z,ds,A,rfl,rfl,rfl,az,V,qn,hX⟩:=hcut;apply_assumption;clear c5;obtain⟨W2,be⟩:∃W,W=wc:=⟨_,rfl⟩;rw[<-be]at az qn hX|-;clear be;obtain⟨x1,x2,x3,X,x5,x6⟩:=hX.out;by_cases e0:A=0
  .subst e0;have c0:(zaf x.v.k.tab c.v).2.2=0:=by rw[<-x1]
   obtain⟨-,hf,t3,t4⟩:=zlb c0;have aY:Hid ((zaf x.v.k.tab c.v).1=vs f):=by show _=_;rw[<-x1]
   have aN:c.v.slot=(y,z,ds):=by rw[<-t3,<-x1]
   have e1:y=c.au:=(congrArg (λv=>v.1) aN).symm;have e2:z=c.rd:=(congrArg (λv=>v.2.1) aN).symm;have e3:ds=c.v.d:=(congrArg (λv=>v.2.2) aN).symm;subst e1 e2 e3;obtain⟨am,aG⟩:=N.hideRow az X (λq e=>(X.lt q (zaK _ _ e)).1);have aS:Hid (HAt (zq (zaF U (ob r)) W2) c.ba c.bc c.bl c.pa c.pc c.pl):=aR.sub (aG.sub N);have aH:Hid (zaF U (ob r) d=false):=zbw (N.bnd.new V) (λe=>x6 (zaK _ _ e));have aV:Hid (zg (zq (zaF U (ob r)) W2) m u c.v.d):=zci x2 (λl t e _=>zbw (N.bnd.new (x3 l t e).1) (λe2=>(x3 l t e).2 (zaK _ _ e2)));have ac:Hid (∀q,ob r=some q->I.heap.size<=q/\zaF U (ob r) q=true/\q≠F/\q<W2.heap.size):=λq e=>⟨(X.lt q (zaK _ _ e)).1,zeM e,λef=>by have:=(X.lt q (zaK _ _ e)).1;have:=ze N.blk;omega,(X.lt q (zaK _ _ e)).2⟩;have bB:Hid (∀q,ob r=some q->¬x.S q):=λq e hs=>by have:=N.bnd q (N.su q hs).1;have:=(X.lt q (zaK _ _ e)).1;omega
   have aU:Hid (∀s∈f,zg (zq (zaF U (ob r)) W2) s.p.sa s.p.cap s.p.bs):=λs hs=>by
    have B:=x5 s.p (List.mem_map.2 ⟨s,hs,rfl⟩);exact zci B.1 (λl t e _=>zbw (N.bnd.new (B.2 l t e).1) (λe2=>(B.2 l t e).2.2 (zaK _ _ e2)))
   have bc:Hid (W2.ownsRow 0 53 3 (.slice r f.length rc) f.length (slv f)):=zcf X (nZ_ _);have bD:Hid (∀s∈vs f,zaN s.2.2):=by
    show ∀s,_;intro s hs;rw[<-aY.out]at hs;rcases t4 with g|⟨g,_⟩
    .rw[g]at hs;exact h.inv.u8t s hs
    .rw[g]at hs;rcases List.mem_append.1 hs with g2|g2
     .exact h.inv.u8t s g2
     .obtain rfl:s=c.v.slot:=by simpa using g2
      exact zfy _
   have bE:Hid (f.length<=400000):=by
    show _<=_;have e8:(vs f).length=f.length:=zay f;have e7:=h.inv.tab;rw[<-e8,<-aY.out];rcases t4 with g|⟨g,g2⟩
    .rw[g];exact e7
    .rw[g,lP_];simp;omega
   have HN:=n1.trans aG;have ai:=zk az aB;have aF:Hid (zaF U (ob r) B0=false):=zbw bd.out (λe=>by have:=(ac.out B0 e).1;have:=ze aB;omega);have bf:Hid (c.v.d.length=32):=c.v.d_length;rw[bf.out]at qn;rw[aY.out]at HM;have bm:Hid _:=c0;have bb:zO c.au c.rd c.bl c.pl=0:=by rw[Ct.hf_v];exact hf
   generalize hU':zaF U (ob r)=U2 at am aG aH aV ac aU HN aF aS;clear hX x1 x2 x3 X x5 x6 c0 t3 t4 aN hU';have s0:=zb ai 0 _ rfl;have s1:=zb ai 1 _ rfl;have s2:=zb ai 2 _ rfl;have s3:=zb ai 3 _ rfl;have aq:=zmz c W2;go_wp2_with fail
   refine aq.mono ?_;rintro _ w3⟨rfl,aa⟩;clear aq s0 s1 s2 s3;dsimp only;have af:=am.below aa;have aT:=aS.out.sub (am.later aa);have a7:=aV.out.sub (am.later aa);have HW:=zgZ x (zeO c) w3 U2 F o T fc af (ztN aT) (zqW bb) (ztR a0 a1);have bj:(zeO c).c=zcl c.v:=rfl;rw[bj]at HW;generalize bi:x.v.room (zcl c.v)=rm at HW HM;have a5:Hid _:=bi;clear bi bj;go_wp2_with fail
   refine HW.mono ?_;rintro _ w4⟨rfl,Y,bA,X,h4,n4,v4⟩;dsimp only;clear HW;have a9:Hid _:=v4;clear v4;cases rm with
   | false=>
    go_wp2_with fail
    refine bP_ (results_none rfl _ _ _) rfl ?_;refine⟨⟨_,rfl⟩,?_⟩;rw[HM.out,if_neg (λg=>by cases g.2)];exact⟨Y,bA,X,h4,(HN.trans (NTo.below (F:=F) (o:=o) U2 fc x aa)).trans n4,by rw[a9.out,Nd.wrt,a5.out];rfl⟩
   | true=>
    rw[if_pos ⟨bm.out,rfl⟩]at HM;have n3:=NTo.below (F:=F) (o:=o) U2 fc x aa;have bk:=n4.box af (zk aa ai) aF.out;have bl:=n4.box af (zk aa qn) aH.out;have aK:W2.heap.size<=w3.heap.size:=aa.size;have aQ:Hid (Y d=false/\Y B0=false):=⟨n4.hides (nL_ (ze qn) aK) aH.out,n4.hides (nL_ (ze ai) aK) aF.out⟩;have bu:Hid (zg (zq Y w4) m u c.v.d):=a7.sub (n4.sub af);have bn:Hid (HAt (zq Y w4) c.ba c.bc c.bl c.pa c.pc c.pl):=aT.sub (n4.sub af);have bs:Hid (∀s∈f,zg (zq Y w4) s.p.sa s.p.cap s.p.bs):=λs hs=>((aU.out s hs).sub (am.later aa)).sub (n4.sub af);have br:Hid (w4.ownsRow 0 53 3 (.slice r f.length rc) f.length (slv f)):=zu (zw bc.out aa) (λq e=>n4.block q (nL_ (ac.out q (zp e)).2.2.2 aK) (bB.out q (zp e)) (ac.out q (zp e)).2.2.1);have bt:Hid (∀q,ob r=some q->w.heap.size<=q/\Y q=true/\q≠F):=λq e=>⟨nT_ n1.size (ac.out q e).1,by rw[n4.us q (nL_ (ac.out q e).2.2.2 aK)];exact(ac.out q e).2.1,(ac.out q e).2.2.1⟩;have bq:=(HN.trans n3).trans n4;have bv:Hid (({ X with ta:=r,tc:=rc,tab:=f }:NM).v=x.v.log (zcl c.v) { x.v.k with tab:=vs f }):=by
     show _=_;rw[NM.v_tab,a9.out,Nd.wrt,a5.out];rfl
    clear ai qn aH aF aV aU bc ac HN am aG a7 aT aS af n3;have f5:=h4.free (o+5);have bz:=h4.cell 5 _ rfl;obtain⟨ba,x5,h5,n5,v5⟩:=zo.late_tab (a':=r) (c':=rc) (l':=f) bq h4 bt.out br.out bs.out (by rw[NM.v_tab];exact h4.inv.tab_ (by rw[zay];exact bE.out) bD.out);rw[bv.out]at v5;have aE:=zh (b:=F) (j:=o+5) (v:=.slice r f.length rc) bl (λe=>by have:=aQ.out.1;rw[e,h4.fu]at this;cases this);have aj:=zh (b:=F) (j:=o+5) (v:=.slice r f.length rc) bk (λe=>by have:=aQ.out.2;rw[e,h4.fu]at this;cases this);have a8:Hid (zg (zq Y (w4.setCell ⟨F,o+5,none⟩ (.slice r f.length rc))) m u c.v.d):=by show zg _ _ _ _;rw[zb3 h4.fu];exact bu.out
    have aP:Hid (HAt (zq Y (w4.setCell ⟨F,o+5,none⟩ (.slice r f.length rc))) c.ba c.bc c.bl c.pa c.pc c.pl):=by show HAt _ _ _ _ _ _ _;rw[zb3 h4.fu];exact bn.out
    go_upto_region 4 with fail
    generalize w4.setCell ⟨F,o+5,none⟩ (.slice r f.length rc)=W5 at h5 n5 aE aj a8 aP|-;have bw:Hid _:=v5;clear v5 f5 bz bk bl;have a3:Calls prog 142 #[P_ F o,.agg (hrow_ c),.agg #[I_ c.au,I_ c.rd,.slice m 32 u]] W5 λe w'=>(∃v,e=.returned v)/\zal W5 Y F o T ba x5 w' { x5.v with k:={ x5.v.k with own:=c.v,slot:=c.v.slot },vot:=[x5.v.nu] }:=by
     have k:=zlV x5 c ⟨c.au,c.rd,⟨m,u,c.v.d⟩⟩ W5 Y F o T ba h5 aP.out a8.out hf bF (zfy c.v) a0 a1;dsimp only [srow_]at k;rw[bf.out]at k;exact k
    have s0:=zb aj 0 _ rfl;have s1:=zb aj 1 _ rfl;have s2:=zb aj 2 _ rfl;have s3:=zb aj 3 _ rfl;have r0:=zb aE 0 _ rfl;have r1:=zb aE 1 _ rfl;have r2:=zb aE 2 _ rfl;go_wp2_with fail
    refine a3.mono ?_;rintro e w6⟨⟨v,he⟩,U6,fc6,x6,h6,n6,v6⟩;subst he;dsimp only;clear a3 s0 s1 s2 s3 r0 r1 r2;have aO:=n6.box h5 aj aQ.out.2;have bo:Hid (HAt (zq U6 w6) c.ba c.bc c.bl c.pa c.pc c.pl):=aP.out.sub (n6.sub h5);have bx:Hid _:=v6;clear v6 aj aE;have s0:=zb aO 0 _ rfl;have s1:=zb aO 1 _ rfl;have s2:=zb aO 2 _ rfl;have s3:=zb aO 3 _ rfl;have aq:=zmz c w6;go_wp2_with fail
    refine aq.mono ?_;rintro _ w7⟨rfl,aX⟩;dsimp only;clear aq s0 s1 s2 s3;have a6:=zh7 x6 (zeO c) w7 U6 F o T fc6 (h6.below aX) (ztV (bo.out.sub (h6.later aX)) bb a0 a1);go_wp2_with fail
    refine a6.mono ?_;rintro e w8⟨⟨v,he⟩,U8_,fc8,x8,h8,n8,v8⟩;subst he;dsimp only;clear a6;go_wp2_with fail
    go_end0;refine⟨⟨_,rfl⟩,U8_,fc8,x8,h8,(n5.trans n6).trans ((NTo.below (F:=F) (o:=o) U6 fc6 x6 aX).trans n8),?_⟩;rw[v8,bx.out,bw.out,HM.out]
    rfl
  .have bh:¬(zaf x.v.k.tab c.v).2.2=0:=by rw[<-x1];exact e0
   have bp:Hid (x.v.offerNew rd=x.v):=by show _=_;rw[HM.out,if_neg (λg=>bh g.1)]
   have bM:(A != 0)=true:=by simpa using e0
   clear hX x1 x2 x3 X x5 x6 e0 bh HM;go_wp2_with fail
   refine bP_ (results_none rfl _ _ _) rfl ?_;exact⟨⟨_,rfl⟩,by rw[bp.out];exact⟨U,fc,x,N.below az,n1.trans (NTo.below (F:=F) (o:=o) U fc x az),rfl⟩⟩
theorem zo9 (k:Kn)(l:List CV):∀(e:Int),1<=e->(∀c∈l,1<=c.rd)->1<=zn k e l/\zn k e l<=e:=by
 induction l with
 | nil=>intro e j _;exact⟨j,Int.le_refl _⟩
 | cons c l ih=>
  intro e j m;have p:=m c (List.mem_cons_self ..);have b:1<=ziY k e c/\ziY k e c<=e:=by
   rw[ziY];by_cases g:c.rd<e/\c.bl.any (λd=>!zb1 k.sh d)=true
   .rw[if_pos g];omega
   .rw[if_neg g];omega
  have f:=ih (ziY k e c) b.1 (λd o=>m d (List.mem_cons_of_mem _ o));exact⟨f.1,Int.le_trans f.2 b.2⟩
theorem zsj {l:List CV}(h:zbV l=0):∀c∈l,1<=c.rd:=by
 intro c f;obtain⟨i,d,rfl⟩:=List.getElem_of_mem f;have b:=zou h i d;rw[show zaM l i=l[i] by simp[zaM,List.getD,d]]at b;exact(zmk b).1
theorem zpa (n:Nd)(t:Int)(m:MC):(n.send t m).trn=n.trn:=by rw[Nd.send];split<;>rfl
theorem zo.want_gm (h:zo w U F o T fc x){rd:Int}(c:1<=rd/\rd<=1048577)(W:World):GM W (zz (zn x.v.k (max (rd-1) 1) x.v.k.dag)):=by
 have b:=zo9 x.v.k x.v.k.dag (max (rd-1) 1) (by omega) (zsj h.inv.dag);exact zyc W ⟨b.1,by omega⟩
theorem zj4 {n:Int}(_:0<=n/\n<4):0<=zcs n/\zcs n<4:=by rw[zcs];omega
theorem zlg (x:NM)(rd:Int)(w:World)(U:Nat->Bool)(F o:Nat)(T:TypeId)(fc:Array Value)(h:zo w U F o T fc x)(hr:1<=rd/\rd<=1048577) :
  Calls prog 112 #[P_ F o,I_ rd] w λe w'=>(∃v,e=.returned v)/\zal w U F o T fc x w' (x.v.ask rd):=by
 have u:=zl1 x.trn w h.inv.trn;have aj:=zj4 h.inv.trn;have l:=h.cell 18 _ rfl;have aa:=h.free (o+18);obtain⟨y,z,b,f,r,A⟩:=h.put_turn (t':=zcs x.trn) (bR_ _ w) (h.inv.trn_ aj);have O:b.trn=zcs x.trn:=congrArg Nd.trn A;have ac:b.nu=x.nu:=congrArg Nd.nu A;go_in;go_wp2_with fail
 refine u.mono ?_;rintro _ w1⟨rfl,rfl⟩;dsimp only;clear u;go_upto_region 1 with fail
 generalize w.setCell ⟨F,o+18,none⟩ (I_ (zcs x.trn))=E at f r|-;clear l aa;have l:=f.cell 18 _ rfl;have Z:E.cell? ⟨F,o,none⟩=some (I_ b.nu):=f.cell 0 _ rfl;by_cases e:b.trn=b.nu;have hT:Hid (x.v.turn=zcs b.trn):=by
  show _=_;rw[Nd.turn,if_pos (by show zcs x.trn=x.nu;rw[<-O,<-ac];exact e),O];rfl
 have ad:Hid (({ b.v with trn:=zcs b.trn }:Nd)={ x.v with trn:=x.v.turn }):=by show _=_;rw[hT.out,A];rfl
 clear O ac hT A;have HE:Hid (b.trn=b.nu):=e;have eb:(b.trn == b.nu)=true:=by simpa using e
 clear e
 rotate_left
 have ad:Hid (b.v={ x.v with trn:=x.v.turn }):=by
  show _=_;rw[A,Nd.turn,if_neg (λg=>e (by rw[O,ac];exact g))];rfl
 have eb:(b.trn == b.nu)=false:=by simpa using e
 clear O ac A e
 rotate_left
 all_goals
  have j:=dB_ E;have m:=dC_ l;have G:=dC_ Z;refine wR_ (S:=λw'=>w'.cell? ⟨F,o+18,none⟩=some (I_ b.trn)/\w'.cell? ⟨F,o,none⟩=some (I_ b.nu)) (by kernel_rfl) ⟨m,G⟩ (λd=>?_);generalize E.drew=p at j m G d|-;refine tks_ 9 [(0,12,(P_ F o)),(1,13,(P_ F o)),(2,14,(P_ F (o+18))),(3,15,I_ b.trn),(4,16,(P_ F o)),(5,17,(P_ F o)),(6,18,(P_ F o)),(7,19,I_ b.nu),(8,20,.bool (b.trn == b.nu))] d ?_;simp only[tkf_,zf];rw[eb];clear d;refine wD_ (by kernel_rfl) ?_ _
 clear l Z
 rotate_left
 clear Z l
 rotate_left
 all_goals
  have f:=f.below j;have r:=r.trans (NTo.below (F:=F) (o:=o) y z b j)
 have l:=f.cell 18 _ rfl;have aa:=f.free (o+18);have u:=zl1 b.trn p f.inv.trn;have ak:=zj4 f.inv.trn;obtain⟨X,ab,c,s,n2,v2⟩:=f.put_turn (t':=zcs b.trn) (bR_ _ p) (f.inv.trn_ ak);have al:Hid (c.v={ x.v with trn:=x.v.turn }):=by show _=_;rw[<-ad.out,v2];rfl
 have ai:=r.trans n2;clear v2 ad;obtain⟨Y,L⟩:∃W,W=p:=⟨_,rfl⟩;rw[<-L]at u l aa s ai|-;clear L r n2;go_wp2_with fail
 refine u.mono ?_;rintro e w1⟨he,am⟩;subst he am;dsimp only;clear u;go_upto_region 3 with fail
 generalize Y.setCell ⟨F,o+18,none⟩ (I_ (zcs b.trn))=W2 at s ai|-;clear l aa;have l:=s.cell 18 _ rfl;have j:=dB_ W2;have m:=dC_ l;refine wR_ (S:=λw'=>w'.cell? ⟨F,o+18,none⟩=some (I_ c.trn)) (by kernel_rfl) m (λd=>?_);generalize W2.drew=p at j m d|-;refine tks_ 7 [(0,29,(P_ F o)),(1,30,(P_ F o)),(2,31,(P_ F o)),(3,32,(P_ F (o+18))),(4,33,I_ c.trn),(5,34,(P_ F o)),(6,35,I_ rd)] d ?_;simp only[tkf_,zf];refine zE 7 rfl (λB q=>?_);refine zj rfl 36 rfl 149 [.tmp 34,.tmp 35] #[127,3] rfl [P_ F o,I_ rd] rfl (eO_ func149) (λv w'=>v=I_ (zn c.v.k (max (rd-1) 1) c.v.k.dag)/\B_ p w') ((zkR c rd p X F o T ab (s.below j) hr).mono (λe w' k=>⟨_,k.1,rfl,k.2⟩)) ?_
 rotate_left
 obtain⟨Y,L⟩:∃W,W=p:=⟨_,rfl⟩;rw[<-L]at f r j|-;clear L j;go_upto_region 3 with fail
 have l:=f.cell 18 _ rfl;have j:=dB_ Y;have m:=dC_ l;refine wR_ (S:=λw'=>w'.cell? ⟨F,o+18,none⟩=some (I_ b.trn)) (by kernel_rfl) m (λd=>?_);generalize Y.drew=p at j m d|-;refine tks_ 7 [(0,29,(P_ F o)),(1,30,(P_ F o)),(2,31,(P_ F o)),(3,32,(P_ F (o+18))),(4,33,I_ b.trn),(5,34,(P_ F o)),(6,35,I_ rd)] d ?_;simp only[tkf_,zf];refine zE 7 rfl (λB q=>?_);refine zj rfl 36 rfl 149 [.tmp 34,.tmp 35] #[127,3] rfl [P_ F o,I_ rd] rfl (eO_ func149) (λv w'=>v=I_ (zn b.v.k (max (rd-1) 1) b.v.k.dag)/\B_ p w') ((zkR b rd p y F o T z (f.below j) hr).mono (λe w' k=>⟨_,k.1,rfl,k.2⟩)) ?_
 rotate_left
 all_goals
  rintro v C⟨rfl,M⟩;have ah:=zm j M;have H:=zr M m;refine q.out _ _ H (λd=>?_);simp only[zf];refine zE 8 rfl (λB q=>?_)
 refine kA_ ?A0 ?_;exact #[I_ (zz (zn c.v.k (max (rd-1) 1) c.v.k.dag)).m.fr,I_ (zz (zn c.v.k (max (rd-1) 1) c.v.k.dag)).m.tt,I_ (zz (zn c.v.k (max (rd-1) 1) c.v.k.dag)).m.ki,I_ (zz (zn c.v.k (max (rd-1) 1) c.v.k.dag)).m.bau,I_ (zz (zn c.v.k (max (rd-1) 1) c.v.k.dag)).m.bnu,.slice (zz (zn c.v.k (max (rd-1) 1) c.v.k.dag)).m.bta (zz (zn c.v.k (max (rd-1) 1) c.v.k.dag)).m.btn (zz (zn c.v.k (max (rd-1) 1) c.v.k.dag)).m.btc,I_ (zz (zn c.v.k (max (rd-1) 1) c.v.k.dag)).m.hau,I_ (zz (zn c.v.k (max (rd-1) 1) c.v.k.dag)).m.hrd,.slice (zz (zn c.v.k (max (rd-1) 1) c.v.k.dag)).m.hba (zz (zn c.v.k (max (rd-1) 1) c.v.k.dag)).m.hbn (zz (zn c.v.k (max (rd-1) 1) c.v.k.dag)).m.hbc,.slice (zz (zn c.v.k (max (rd-1) 1) c.v.k.dag)).m.hpa (zz (zn c.v.k (max (rd-1) 1) c.v.k.dag)).m.hpn (zz (zn c.v.k (max (rd-1) 1) c.v.k.dag)).m.hpc,I_ (zz (zn c.v.k (max (rd-1) 1) c.v.k.dag)).m.sau,I_ (zz (zn c.v.k (max (rd-1) 1) c.v.k.dag)).m.srd,.slice (zz (zn c.v.k (max (rd-1) 1) c.v.k.dag)).m.sda (zz (zn c.v.k (max (rd-1) 1) c.v.k.dag)).m.sdn (zz (zn c.v.k (max (rd-1) 1) c.v.k.dag)).m.sdc,I_ (zz (zn c.v.k (max (rd-1) 1) c.v.k.dag)).m.cau,I_ (zz (zn c.v.k (max (rd-1) 1) c.v.k.dag)).m.crd,.slice (zz (zn c.v.k (max (rd-1) 1) c.v.k.dag)).m.cba (zz (zn c.v.k (max (rd-1) 1) c.v.k.dag)).m.cbn (zz (zn c.v.k (max (rd-1) 1) c.v.k.dag)).m.cbc,.slice (zz (zn c.v.k (max (rd-1) 1) c.v.k.dag)).m.cpa (zz (zn c.v.k (max (rd-1) 1) c.v.k.dag)).m.cpn (zz (zn c.v.k (max (rd-1) 1) c.v.k.dag)).m.cpc,.slice (zz (zn c.v.k (max (rd-1) 1) c.v.k.dag)).m.cva (zz (zn c.v.k (max (rd-1) 1) c.v.k.dag)).m.cvn (zz (zn c.v.k (max (rd-1) 1) c.v.k.dag)).m.cvc,I_ (zz (zn c.v.k (max (rd-1) 1) c.v.k.dag)).m.ro];refine zj rfl 37 rfl 148 [.tmp 36] #[3] rfl [I_ (zn c.v.k (max (rd-1) 1) c.v.k.dag)] rfl (eO_ func148) (λv w'=>v=.agg ?A0/\B_ C w') ((zqU (zn c.v.k (max (rd-1) 1) c.v.k.dag) C).mono (λe w' k=>⟨_,k.1,rfl,k.2⟩)) ?_
 rotate_left
 refine kA_ ?B0 ?_;exact #[I_ (zz (zn b.v.k (max (rd-1) 1) b.v.k.dag)).m.fr,I_ (zz (zn b.v.k (max (rd-1) 1) b.v.k.dag)).m.tt,I_ (zz (zn b.v.k (max (rd-1) 1) b.v.k.dag)).m.ki,I_ (zz (zn b.v.k (max (rd-1) 1) b.v.k.dag)).m.bau,I_ (zz (zn b.v.k (max (rd-1) 1) b.v.k.dag)).m.bnu,.slice (zz (zn b.v.k (max (rd-1) 1) b.v.k.dag)).m.bta (zz (zn b.v.k (max (rd-1) 1) b.v.k.dag)).m.btn (zz (zn b.v.k (max (rd-1) 1) b.v.k.dag)).m.btc,I_ (zz (zn b.v.k (max (rd-1) 1) b.v.k.dag)).m.hau,I_ (zz (zn b.v.k (max (rd-1) 1) b.v.k.dag)).m.hrd,.slice (zz (zn b.v.k (max (rd-1) 1) b.v.k.dag)).m.hba (zz (zn b.v.k (max (rd-1) 1) b.v.k.dag)).m.hbn (zz (zn b.v.k (max (rd-1) 1) b.v.k.dag)).m.hbc,.slice (zz (zn b.v.k (max (rd-1) 1) b.v.k.dag)).m.hpa (zz (zn b.v.k (max (rd-1) 1) b.v.k.dag)).m.hpn (zz (zn b.v.k (max (rd-1) 1) b.v.k.dag)).m.hpc,I_ (zz (zn b.v.k (max (rd-1) 1) b.v.k.dag)).m.sau,I_ (zz (zn b.v.k (max (rd-1) 1) b.v.k.dag)).m.srd,.slice (zz (zn b.v.k (max (rd-1) 1) b.v.k.dag)).m.sda (zz (zn b.v.k (max (rd-1) 1) b.v.k.dag)).m.sdn (zz (zn b.v.k (max (rd-1) 1) b.v.k.dag)).m.sdc,I_ (zz (zn b.v.k (max (rd-1) 1) b.v.k.dag)).m.cau,I_ (zz (zn b.v.k (max (rd-1) 1) b.v.k.dag)).m.crd,.slice (zz (zn b.v.k (max (rd-1) 1) b.v.k.dag)).m.cba (zz (zn b.v.k (max (rd-1) 1) b.v.k.dag)).m.cbn (zz (zn b.v.k (max (rd-1) 1) b.v.k.dag)).m.cbc,.slice (zz (zn b.v.k (max (rd-1) 1) b.v.k.dag)).m.cpa (zz (zn b.v.k (max (rd-1) 1) b.v.k.dag)).m.cpn (zz (zn b.v.k (max (rd-1) 1) b.v.k.dag)).m.cpc,.slice (zz (zn b.v.k (max (rd-1) 1) b.v.k.dag)).m.cva (zz (zn b.v.k (max (rd-1) 1) b.v.k.dag)).m.cvn (zz (zn b.v.k (max (rd-1) 1) b.v.k.dag)).m.cvc,I_ (zz (zn b.v.k (max (rd-1) 1) b.v.k.dag)).m.ro];refine zj rfl 37 rfl 148 [.tmp 36] #[3] rfl [I_ (zn b.v.k (max (rd-1) 1) b.v.k.dag)] rfl (eO_ func148) (λv w'=>v=.agg ?B0/\B_ C w') ((zqU (zn b.v.k (max (rd-1) 1) b.v.k.dag) C).mono (λe w' k=>⟨_,k.1,rfl,k.2⟩)) ?_
 rotate_left
 all_goals
  rintro v D⟨rfl,N⟩;have J:=zm ah N;have ae:=zr N H;refine q.out _ _ ae (λd=>?_);simp only[zf];refine zE 9 rfl (λB q=>?_)
 refine zj rfl 38 rfl 146 [.tmp 29,.tmp 33,.tmp 37] #[127,3,66] rfl [P_ F o,I_ c.trn,.agg ?A0] rfl (eO_ func146) (λv w'=>zal D X F o T ab c w' (c.v.send c.trn (zz (zn c.v.k (max (rd-1) 1) c.v.k.dag)).c)) ((zeN c (zz (zn c.v.k (max (rd-1) 1) c.v.k.dag)) c.trn D X F o T ab (s.below J) (s.want_gm hr _) s.inv.trn).mono (λe w' k=>by obtain⟨⟨v,hv⟩,k2⟩:=k;exact⟨v,hv,k2⟩)) ?_;rintro v V3⟨U9,ag,t,I,n9,V⟩;have R:t.trn=c.trn:=by show t.v.trn=_;rw[V];exact zpa _ _ _
 have af:V3.cell? ⟨F,o+18,none⟩=some (I_ c.trn):=by rw[<-R];exact I.cell 18 _ rfl
 rotate_left
 refine zj rfl 38 rfl 146 [.tmp 29,.tmp 33,.tmp 37] #[127,3,66] rfl [P_ F o,I_ b.trn,.agg ?B0] rfl (eO_ func146) (λv w'=>zal D y F o T z b w' (b.v.send b.trn (zz (zn b.v.k (max (rd-1) 1) b.v.k.dag)).c)) ((zeN b (zz (zn b.v.k (max (rd-1) 1) b.v.k.dag)) b.trn D y F o T z (f.below J) (f.want_gm hr _) f.inv.trn).mono (λe w' k=>by obtain⟨⟨v,hv⟩,k2⟩:=k;exact⟨v,hv,k2⟩)) ?_;rintro v V3⟨U9,ag,t,I,n9,V⟩;have R:t.trn=b.trn:=by show t.v.trn=_;rw[V];exact zpa _ _ _
 have af:V3.cell? ⟨F,o+18,none⟩=some (I_ b.trn):=by rw[<-R];exact I.cell 18 _ rfl
 rotate_left
 all_goals
  clear R;refine q.out _ _ af (λd=>?_);simp only[zf];clear d;refine wD_ (by kernel_rfl) ?_ _;go_wp2_with fail
  go_end0
 .refine⟨⟨_,rfl⟩,U9,ag,t,I,ai.trans ((NTo.below (F:=F) (o:=o) X ab c J).trans n9),?_⟩;rw[V];show c.v.send c.v.trn (zrL (zn c.v.k (max (rd-1) 1) c.v.k.dag))=_;rw[al.out]
  rfl
 .refine⟨⟨_,rfl⟩,U9,ag,t,I,r.trans ((NTo.below (F:=F) (o:=o) y z b J).trans n9),?_⟩;rw[V];show b.v.send b.v.trn (zrL (zn b.v.k (max (rd-1) 1) b.v.k.dag))=_;rw[ad.out]
  rfl
theorem zur (x:NM)(w:World)(U:Nat->Bool)(F o:Nat)(T:TypeId)(fc:Array Value)(h:zo w U F o T fc x) :
  Calls prog 90 #[P_ F o] w λe w'=>(∃v,e=.returned v)/\zal w U F o T fc x w' x.v.work:=by
 have HG:=zqk x w U F o T fc h;go_in;go_wp2_with fail
 refine HG.mono ?_;rintro e w1⟨⟨v,b⟩,U1,fc1,x1,h1,n1,v1⟩;subst b;dsimp only;clear HG;have ac:Hid _:=v1;clear v1;obtain⟨R,X,Y,Z,H⟩:=h1.stkAt;have y:=h1.cell 6 _ rfl;have HR:=zj3 x1.ls x1.s R X Y Z x1.ds w1 H h1.inv.dag;clear H;go_wp2_with fail
 refine HR.mono ?_;rintro e w2⟨r,b,hN,aa⟩;subst b;dsimp only;clear HR y;have ad:Hid (r=zdi x1.v.k.dag):=hN.one (zhs h1.inv.dag);have G:1<=r/\r<=1048577:=by rw[ad.out];exact zqm h1.inv.dag
 have I:Hid (x.v.work=(x1.v.due r).ask r):=by show _=_;rw[Nd.work,<-ac.out,<-ad.out]
 have j:=h1.below aa;have n2:=n1.trans (NTo.below (F:=F) (o:=o) U1 fc1 x1 aa);have A:=j.cell 8 _ rfl;clear hN aa ac h1 n1;by_cases e1:x1.own.rd<r
 .have u:Hid (x1.v.due r=x1.v.offerNew r):=if_pos e1;have HO:=zsi x1 r w2 U1 F o T fc1 j G;go_wp2_with fail
  refine HO.mono ?_;rintro e w3⟨⟨v,b⟩,U3,fc3,x3,q,t,v3⟩;subst b;dsimp only;clear HO A;have ab:Hid (x3.v=x1.v.due r):=by show _=_;rw[u.out];exact v3
  clear v3;have f:=zlg x3 r w3 U3 F o T fc3 q G;go_wp2_with fail
  refine f.mono ?_;rintro e w9⟨⟨v,b⟩,U9,fc9,x9,h9,n9,v9⟩;subst b;dsimp only;clear f;go_wp2_with fail
  go_end0;refine⟨⟨_,rfl⟩,U9,fc9,x9,h9,(n2.trans t).trans n9,?_⟩;rw[v9,ab.out,I.out]
 .have u:Hid (x1.v.due r=if 0<=cOf x1.v.k.dag x1.own.au x1.own.rd then x1.v else x1.v.againTo 4):=if_neg e1;have hf:x1.v.k.own.hf=0:=by
   rcases j.inv.own with g|g
   .exfalso;have g2:x1.own.rd=0:=g;omega
   .exact g
  have D:Hid (∀V:World,B_ w2 V->Calls prog 110 #[P_ x1.s 0,I_ x1.own.au,I_ x1.own.rd] V λe w'=>e=.returned (.bool (decide (0<=cOf x1.v.k.dag x1.own.au x1.own.rd)))/\B_ V w'):=by
   show ∀V,_;intro V hV;obtain⟨R,X,Y,Z,H⟩:=(j.below hV).stkAt;exact zmx x1.ls x1.s R X Y Z x1.ds x1.own.au x1.own.rd V H
  have y:=j.cell 6 _ rfl;have E:=j.cell 7 _ rfl;go_upto_region 4 with fail
  by_cases e2:0<=cOf x1.v.k.dag x1.own.au x1.own.rd;rw[dT_ e2]at D;rw[if_pos e2]at u
  rotate_left
  rw[dF_ e2]at D;rw[if_neg e2]at u
  rotate_left
  all_goals
   have s:=dB_ w2;have l:=dC_ y;have m:=dC_ E;have p:=dC_ A;refine wR_ (S:=λw'=>w'.cell? ⟨F,o+6,none⟩=some (P_ x1.s 0)/\w'.cell? ⟨F,o+7,none⟩=some (I_ x1.own.au)/\w'.cell? ⟨F,o+8,none⟩=some (I_ x1.own.rd)) (by kernel_rfl) ⟨l,m,p⟩ (λc=>?_);generalize w2.drew=z at s l m p c|-;refine tks_ 14 [(0,20,(P_ F o)),(1,21,(P_ F o)),(2,22,(P_ F (o+6))),(3,23,(P_ x1.s 0)),(4,24,(P_ F o)),(5,25,(P_ F o)),(6,26,(P_ F (o+7))),(7,27,(P_ F (o+7))),(8,28,I_ x1.own.au),(9,29,(P_ F o)),(10,30,(P_ F o)),(11,31,(P_ F (o+7))),(12,32,(P_ F (o+8))),(13,33,I_ x1.own.rd)] c ?_;simp only[tkf_,zf];refine zE 14 rfl (λK9 hK=>?_)
  refine zj rfl 34 rfl 110 [.tmp 23,.tmp 28,.tmp 33] #[112,3,3] rfl [P_ x1.s 0,I_ x1.own.au,I_ x1.own.rd] rfl (eO_ func110) (λv w'=>v=.bool true/\B_ z w') ((D.out z s).mono (λe w' k=>⟨_,k.1,rfl,k.2⟩)) ?_
  rotate_left
  refine zj rfl 34 rfl 110 [.tmp 23,.tmp 28,.tmp 33] #[112,3,3] rfl [P_ x1.s 0,I_ x1.own.au,I_ x1.own.rd] rfl (eO_ func110) (λv w'=>v=.bool false/\B_ z w') ((D.out z s).mono (λe w' k=>⟨_,k.1,rfl,k.2⟩)) ?_
  rotate_left
  all_goals
   rintro v J⟨rfl,d⟩;have B:=zm s d;have M:=zr d l;have N:=zr d m;have O:=zr d p;refine hK.out _ _ ⟨M,N,O⟩ (λc=>?_);simp only[zf]
  refine zU 15 35 (.bool false) rfl rfl c ?_
  rotate_left
  refine zU 15 35 (.bool true) rfl rfl c ?_
  rotate_left
  all_goals
   simp only[zf];clear c;refine wD_ (by kernel_rfl) ?_ _;have q:=j.below B;have t:=n2.trans (NTo.below (F:=F) (o:=o) U1 fc1 x1 B)
  have ab:Hid (x1.v=x1.v.due r):=u.out.symm
  all_goals
   obtain⟨L,C⟩:∃W,W=J:=⟨_,rfl⟩;rw[<-C]at q t|-;clear C y E A
  have f:=zlg x1 r L U1 F o T fc1 q G
  rotate_left
  have HA:=zrY x1 L U1 F o T fc1 q hf;go_wp2_with fail
  refine HA.mono ?_;rintro e w4⟨⟨v,b⟩,U4,fc4,x4,h4,n4,v4⟩;subst b;dsimp only;clear HA;have ae:Hid (x4.v=x1.v.due r):=by show _=_;rw[u.out];exact v4
  clear v4;have f:=zlg x4 r w4 U4 F o T fc4 h4 G
  rotate_left
  all_goals
   go_wp2_with fail
   refine f.mono ?_;rintro e w9⟨⟨v,b⟩,U9,fc9,x9,h9,n9,v9⟩;subst b;dsimp only;clear f;go_wp2_with fail
   go_end0
  .refine⟨⟨_,rfl⟩,U9,fc9,x9,h9,t.trans n9,?_⟩;rw[v9,I.out,<-ab.out]
  .refine⟨⟨_,rfl⟩,U9,fc9,x9,h9,(t.trans n4).trans n9,?_⟩;rw[v9,ae.out,I.out]
variable {n:Nat}
theorem zv8:(prog.info? 55).map (λi=>(i.zero,i.size,i.bytes))=some (some (.agg #[I_ 0,I_ 0,I_ 0,O_]),4,48):=by kernel_rfl
def Sg.cs (s:Sg):List Value:=[I_ s.nd,I_ s.au,I_ s.rd,.slice s.p.sa s.p.bs.length s.p.cap]
def gv:List Sg->List Value
 | []=>[]
 | s::r=>s.cs++gv r
theorem zq9 (b:List Sg)(s:Sg):gv (b++[s])=gv b++s.cs:=by
 induction b with
 | nil=>simp[gv]
 | cons x r ih=>simp[gv,ih]
theorem zus (b:List Sg):(gv b).length=b.length*4:=by
 induction b with
 | nil=>rfl
 | cons x r ih=>simp[gv,ih,Sg.cs];omega
theorem zyE (b:List Sg)(j i:Nat)(h:j<b.length)(c:i<4):(gv b)[j*4+i]? = (b[j]).cs[i]?:=by
 induction b generalizing j with
 | nil=>cases h
 | cons x r ih=>
  cases j with
  | zero=>simp only[gv,Nat.zero_mul,Nat.zero_add,List.getElem_cons_zero];rw[List.getElem?_append_left (by simp[Sg.cs];exact c)]
  | succ j=>
   have h':j<r.length:=by simpa using h
   simp only[gv,List.getElem_cons_succ];rw[List.getElem?_append_right (by simp[Sg.cs];omega),<-ih j h']
   congr 1
   simp[Sg.cs];omega
def gps (ls:List Sg):List zi:=ls.map Sg.p
theorem zyF {c b:List Sg}(h:gvs c=gvs b)(l:∀s∈b,zaN s.p.bs):∀s∈c,zaN s.p.bs:=by
 intro s f;have:s.v∈gvs b:=by rw[<-h];exact List.mem_map.2 ⟨s,f,rfl⟩
 obtain⟨t,j,e⟩:=List.mem_map.1 this;have d:t.p.bs=s.p.bs:=congrArg (λg:GV=>g.2.2.2) e;rw[<-d];exact l t j
theorem zj6 {v:Value}{b:List Sg}(h:w.ownsRow base 55 4 v n (gv b))(q:z8 w base v (gps b))(G:∀s∈b,zaN s.p.bs):∃d rc,v=.slice d n rc/\n=b.length/\(n<=2932031007400->ze9 w d rc b)/\za1 base d (gps b):=by
 have E:n=b.length:=by have:=h.1;rw[zus]at this;omega
 rcases h.2 with⟨rfl,F⟩|⟨g,z,H,rfl,r⟩
 .have B:b=[]:=eN_ (by omega);subst F B;exact⟨none,0,rfl,rfl,λ_=>⟨nR_ _,by decide,by decide,.inl rfl,⟨.inl rfl,λp c=>by cases c⟩⟩,⟨(λ_ _ e=>by cases e),(λp c=>by cases c)⟩⟩
 .refine⟨some ⟨g,0,none⟩,z,rfl,E,λJ=>⟨?_,?_,by omega,.inr ⟨g,0,rfl⟩,⟨.inr ⟨g,0,rfl,λj D=>?_⟩,λs t=>⟨(q s.p (List.mem_map.2 ⟨s,t,rfl⟩)).1,G s t⟩⟩⟩,⟨(λu y e=>by cases e;exact(h.lt _ rfl).1),(λp c u y e=>((q p c).2 u y e).1)⟩⟩
  .obtain⟨_,_,I,_⟩:=r;omega
  .obtain⟨_,_,_,A,_⟩:=r;exact A
  .have e:∀i,i<4->w.cell? ⟨g,j*4+i,none⟩=(b[j]).cs[i]?:=λi C=>by rw[World.ownsRow.cellAt h (j*4+i) (by omega),zyE b j i D C]
   have f:=e 0 (by omega);have l:=e 1 (by omega);have m:=e 2 (by omega);have o:=e 3 (by omega);exact⟨by first|(simp[Sg.cs]at f|-;exact f)|simp[Sg.cs],by first|(simp[Sg.cs]at l|-;exact l)|simp[Sg.cs],by first|(simp[Sg.cs]at m|-;exact m)|simp[Sg.cs],by first|(simp[Sg.cs]at o|-;exact o)|simp[Sg.cs]⟩
end Go.Proofs.YtdnaljbnebnlhaaGreatDoor
