import Derived.Test.YtffaeaonobmmjaaGreatDoorPk16
import Derived.Shelf.SlSortCmp.WholeK
set_option maxRecDepth 100000
set_option maxHeartbeats 4000000
namespace Go.Proofs.YtffaeaonobmmjaaGreatDoor
open Go.RowKit Tryz
variable {w:World}{n base:Nat}{rd au:Int}{vl:L_}{pl bl:List zi}{va:Q_}
theorem zrc {rc:Int}(h:bl.map (·.bs)=zhR rc):∀p∈bl,∀x∈p.bs,0<=x/\x<=255:=by
 intro p f x c;have b:p.bs∈bl.map (·.bs):=List.mem_map_of_mem f;rw[h,zhR]at b;obtain⟨i,_,d⟩:=mM_.1 b;rw[<-d]at c;exact zhu _ _ x c
theorem zrd {g j rc:Int}(h:pl.map (·.bs)=zfY g j rc):∀p∈pl,∀x∈p.bs,0<=x/\x<=255:=by
 intro p f x c;have b:p.bs∈pl.map (·.bs):=List.mem_map_of_mem f;rw[h,zfY]at b
 split at b
 cases b;obtain⟨i,_,d⟩:=mM_.1 b;rw[<-d]at c;exact zhu _ _ x c
structure zzl (w w':World)(e:Ending)(ki rb rc:Int):Prop where
 out:∃(m:Msg) (ss:Z_) (bl pl cbl cpl:List zi) (vl:L_),e=.returned (.agg (mrow_ m))/\zeX w' m ss bl pl cbl cpl vl/\m.fr=pk rc 4/\m.tt=pk rb 4/\zD m ss bl pl cbl cpl vl=0/\zaq (zab m)=true/\B_ w w'/\m.ki=1+pk ki 5/\(m.ki=1->m.bnu≠0/\m.bnu<=9)/\(m.ki=2->m.hrd≠0)/\(m.ki=3->m.srd≠0)/\(m.ki=4->m.crd≠0)/\(m.ki=5->m.ro≠0)/\∃ds:L_,zg w' m.sda m.sdc ds/\m.sdn=ds.length/\ziF w.heap.size m bl pl cbl cpl/\U8M bl pl cbl cpl ds
theorem zpj (h:zax w va vl)(b:Nat)(cs:X_)(j:∀c d,va=some (p_ c d)->c≠b):zax (w.setRow b cs) va vl:=by
 refine⟨?_⟩;rcases h.cells with h|⟨c,d,rfl,f⟩;exact .inl h;exact .inr ⟨c,d,rfl,λk g=>(ziE (j c d rfl)).trans (f k g)⟩
theorem zsy {m:Nat}(h:w.ownsRow base 3 1 (.slice va n m) n (iv vl)):zax w va vl/\∀c d,va=some (p_ c d)->base<=c:=by
 have q:n=vl.length:=by have:=h.1;simp[iv]at this;omega
 have f:=λ(g:Nat) (e:va=some (p_ g 0)) j b=>World.ownsRow.cellAt (g:=g) (by rw[<-e];exact h) j b;rcases h.2 with⟨e,r⟩|⟨g,o,p,e,l,_⟩;simp only[Value.slice.injEq]at e;obtain⟨rfl,_,_⟩:=e;exact⟨⟨.inl (eN_ (by omega))⟩,λ_ _ e=>by cases e⟩;simp only[Value.slice.injEq,true_and]at e;obtain⟨rfl,_⟩:=e;refine⟨⟨.inr ⟨g,0,rfl,λj b=>?_⟩⟩,λc d e=>by cases e;exact l⟩;rw[zA_,f g rfl j (by omega)];simp[iv,b]
theorem zuH (b:zO au rd bl pl=0)(c:zep vl=0)(d:vl.length<=4):zap au rd bl pl vl=0:=by
 rw[zap,iN_ (by simp[b]),iN_ (by omega),c]
theorem zpk (f d c rc:Int)(U:Q_)(O:Nat)(ss:Z_)(w:World)(h1:I64 f)(h2:I64 d)(h3:I64 c)(h4:I64 rc)(h5:zf7 w U O ss) :
  Calls prog 18 #[.agg #[I_ f,I_ d,I_ c,I_ rc,.slice U ss.length O]] w λe w'=>zzl w w' e f c rc:=by
 obtain⟨aT,aU⟩:=zW f 5 (by decide);have hw:IntKind.i64.wrap (1+pk f 5)=1+pk f 5:=by rw[IntKind.wrap_i64];omega
 refine kA_ ?F0 ?_;exact #[I_ f,I_ d,I_ c,I_ rc,.slice U ss.length O];refine kO_ ?G0 ?_;exact Obj.cells mz_ 68;have aB:B_ w ((w.alloc (.cells ?F0 71)).alloc ?G0):=((bR_ _ _).alloc (nR_ _) _).alloc (by simp) _;have q0:=hX_ w (.cells ?F0 71) ?G0;have q1:=hY_ w (.cells ?F0 71) ?G0;go_in;go_upto_region 1 with(fail)
 generalize (w.alloc (.cells ?F0 71)).alloc ?G0=W0 at aB q0 q1|-;refine kA_ ?A0 ?_;exact #[I_ (pk rc 4),I_ (pk c 4),I_ (1+pk f 5),I_ 0,I_ 0,O_,I_ 0,I_ 0,O_,O_,I_ 0,I_ 0,O_,I_ 0,I_ 0,O_,O_,O_,I_ 0];go_cut [3] (λv wx=>∃b,v=(P_ b 0)/\w.heap.size+1<b/\B_ w wx/\R_ wx w.heap.size ?F0 71/\R_ wx (w.heap.size+1) mz_ 68/\R_ wx b ?A0 68)
 case first=>
   have hV:=aB.drew;have aa:R_ W0.drew w.heap.size ?F0 71:=q0;have aM:R_ W0.drew (w.heap.size+1) mz_ 68:=q1;have hA:=hV.alloc hV.size ?G0;have r:=zR (o:=.cells mz_ 68) aa;have ad:=zR (o:=.cells mz_ 68) aM;have R:=hN_ W0.drew ?G0;have a5:=ze aM;have av:w.heap.size≠W0.drew.heap.size:=by omega
   have aw:w.heap.size+1≠W0.drew.heap.size:=by omega
   have au:w.heap.size<=W0.drew.heap.size:=by omega
   refine wR_ (S:=(λw'=>w'.cell? (p_ w.heap.size 0)=some (I_ f)/\w'.cell? (p_ w.heap.size 2)=some (I_ c)/\w'.cell? (p_ w.heap.size 3)=some (I_ rc))) (by kernel_rfl) ⟨zb q0 0 _ rfl,zb q0 2 _ rfl,zb q0 3 _ rfl⟩ (λD=>?_);generalize W0.drew=m at*;refine tks_ 6 [(0,4,(P_ w.heap.size 3)),(1,5,I_ rc),(3,7,(P_ w.heap.size 2)),(4,8,I_ c),(6,10,(P_ w.heap.size 0)),(7,11,I_ f)] D ?_;simp only[tkf_,zf];refine rY_ (rs:=[2,11]) (by kernel_rfl) (by simp) (rA_ rfl (λK u=>?_) (rA_ rfl (λK u=>?_) rN_));refine zj rfl 6 rfl 11 [.tmp 5,.const (I_ 4)] #[3,3] rfl [I_ rc,I_ 4] rfl (eO_ func11) (λv w'=>v=I_ (pk rc 4)/\m=w') ((zaV rc 4 m h4.1 h4.2 (by omega) (by omega)).mono (λe w2 h=>⟨_,h.1,rfl,h.2⟩)) ?_;rintro v w'⟨rfl,rfl⟩;refine u.out _ _ ⟨zb aa 0 _ rfl,zb aa 2 _ rfl,zb aa 3 _ rfl⟩ (λD=>?_);simp only[zf];refine rY_ (rs:=[5,11]) (by kernel_rfl) (by simp) (rA_ rfl (λK u=>?_) (rA_ rfl (λK u=>?_) rN_));refine zj rfl 9 rfl 11 [.tmp 8,.const (I_ 4)] #[3,3] rfl [I_ c,I_ 4] rfl (eO_ func11) (λv w'=>v=I_ (pk c 4)/\m=w') ((zaV c 4 m h3.1 h3.2 (by omega) (by omega)).mono (λe w2 h=>⟨_,h.1,rfl,h.2⟩)) ?_;rintro v w'⟨rfl,rfl⟩;refine u.out _ _ ⟨zb aa 0 _ rfl,zb aa 2 _ rfl,zb aa 3 _ rfl⟩ (λD=>?_);simp only[zf];refine rY_ (rs:=[8,11]) (by kernel_rfl) (by simp) (rA_ rfl (λK u=>?_) (rA_ rfl (λK u=>?_) rN_));refine zj rfl 12 rfl 11 [.tmp 11,.const (I_ 5)] #[3,3] rfl [I_ f,I_ 5] rfl (eO_ func11) (λv w'=>v=I_ (pk f 5)/\m=w') ((zaV f 5 m h1.1 h1.2 (by omega) (by omega)).mono (λe w2 h=>⟨_,h.1,rfl,h.2⟩)) ?_;rintro v w'⟨rfl,rfl⟩;refine u.out _ _ ⟨zb aa 0 _ rfl,zb aa 2 _ rfl,zb aa 3 _ rfl⟩ (λD=>?_);simp only[zf];refine tks_ 2 [(9,13,I_ (1+pk f 5)),(10,14,.agg ?A0)] D ?_;simp only[tkf_,zf];refine zE 11 rfl (λK u=>?_);refine zy rfl 3 rfl (P_ m.heap.size 0) (m.alloc ?G0) (by go_simp) ?_;refine u.out _ _ ⟨zb r 0 _ rfl,zb r 2 _ rfl,zb r 3 _ rfl⟩ (λD=>?_);simp only[zf];generalize m.alloc ?G0=A at hA r ad R D|-
   rotate_left
   refine zy rfl 3 rfl (P_ m.heap.size 0) (m.alloc ?G0) (by go_simp) ?_;refine u.out _ _ ⟨zb r 0 _ rfl,zb r 2 _ rfl,zb r 3 _ rfl⟩ (λD=>?_);simp only[zf];generalize m.alloc ?G0=A at hA r ad R D|-;refine zE 8 rfl (λK u=>?_);refine zj rfl 12 rfl 11 [.tmp 11,.const (I_ 5)] #[3,3] rfl [I_ f,I_ 5] rfl (eO_ func11) (λv w'=>v=I_ (pk f 5)/\A=w') ((zaV f 5 A h1.1 h1.2 (by omega) (by omega)).mono (λe w2 h=>⟨_,h.1,rfl,h.2⟩)) ?_;rintro v w'⟨rfl,rfl⟩;refine u.out _ _ ⟨zb r 0 _ rfl,zb r 2 _ rfl,zb r 3 _ rfl⟩ (λD=>?_);simp only[zf];refine tks_ 2 [(9,13,I_ (1+pk f 5)),(10,14,.agg ?A0)] D ?_;simp only[tkf_,zf]
   rotate_left
   refine zy rfl 3 rfl (P_ m.heap.size 0) (m.alloc ?G0) (by go_simp) ?_;refine u.out _ _ ⟨zb r 0 _ rfl,zb r 2 _ rfl,zb r 3 _ rfl⟩ (λD=>?_);simp only[zf];generalize m.alloc ?G0=A at hA r ad R D|-;refine zE 5 rfl (λK u=>?_);refine zj rfl 9 rfl 11 [.tmp 8,.const (I_ 4)] #[3,3] rfl [I_ c,I_ 4] rfl (eO_ func11) (λv w'=>v=I_ (pk c 4)/\A=w') ((zaV c 4 A h3.1 h3.2 (by omega) (by omega)).mono (λe w2 h=>⟨_,h.1,rfl,h.2⟩)) ?_;rintro v w'⟨rfl,rfl⟩;refine u.out _ _ ⟨zb r 0 _ rfl,zb r 2 _ rfl,zb r 3 _ rfl⟩ (λD=>?_);simp only[zf];refine zE 8 rfl (λK u=>?_);refine zj rfl 12 rfl 11 [.tmp 11,.const (I_ 5)] #[3,3] rfl [I_ f,I_ 5] rfl (eO_ func11) (λv w'=>v=I_ (pk f 5)/\A=w') ((zaV f 5 A h1.1 h1.2 (by omega) (by omega)).mono (λe w2 h=>⟨_,h.1,rfl,h.2⟩)) ?_;rintro v w'⟨rfl,rfl⟩;refine u.out _ _ ⟨zb r 0 _ rfl,zb r 2 _ rfl,zb r 3 _ rfl⟩ (λD=>?_);simp only[zf];refine tks_ 2 [(9,13,I_ (1+pk f 5)),(10,14,.agg ?A0)] D ?_;simp only[tkf_,zf]
   rotate_left
   refine zy rfl 3 rfl (P_ m.heap.size 0) (m.alloc ?G0) (by go_simp) ?_;refine u.out _ _ ⟨zb r 0 _ rfl,zb r 2 _ rfl,zb r 3 _ rfl⟩ (λD=>?_);simp only[zf];generalize m.alloc ?G0=A at hA r ad R D|-;refine zE 2 rfl (λK u=>?_);refine zj rfl 6 rfl 11 [.tmp 5,.const (I_ 4)] #[3,3] rfl [I_ rc,I_ 4] rfl (eO_ func11) (λv w'=>v=I_ (pk rc 4)/\A=w') ((zaV rc 4 A h4.1 h4.2 (by omega) (by omega)).mono (λe w2 h=>⟨_,h.1,rfl,h.2⟩)) ?_;rintro v w'⟨rfl,rfl⟩;refine u.out _ _ ⟨zb r 0 _ rfl,zb r 2 _ rfl,zb r 3 _ rfl⟩ (λD=>?_);simp only[zf];refine zE 5 rfl (λK u=>?_);refine zj rfl 9 rfl 11 [.tmp 8,.const (I_ 4)] #[3,3] rfl [I_ c,I_ 4] rfl (eO_ func11) (λv w'=>v=I_ (pk c 4)/\A=w') ((zaV c 4 A h3.1 h3.2 (by omega) (by omega)).mono (λe w2 h=>⟨_,h.1,rfl,h.2⟩)) ?_;rintro v w'⟨rfl,rfl⟩;refine u.out _ _ ⟨zb r 0 _ rfl,zb r 2 _ rfl,zb r 3 _ rfl⟩ (λD=>?_);simp only[zf];refine zE 8 rfl (λK u=>?_);refine zj rfl 12 rfl 11 [.tmp 11,.const (I_ 5)] #[3,3] rfl [I_ f,I_ 5] rfl (eO_ func11) (λv w'=>v=I_ (pk f 5)/\A=w') ((zaV f 5 A h1.1 h1.2 (by omega) (by omega)).mono (λe w2 h=>⟨_,h.1,rfl,h.2⟩)) ?_;rintro v w'⟨rfl,rfl⟩;refine u.out _ _ ⟨zb r 0 _ rfl,zb r 2 _ rfl,zb r 3 _ rfl⟩ (λD=>?_);simp only[zf];refine tks_ 2 [(9,13,I_ (1+pk f 5)),(10,14,.agg ?A0)] D ?_;simp only[tkf_,zf]
   rotate_left
   all_goals
    refine zE 12 rfl (λK u=>?_);refine zdW rfl rfl 68 (.tmp 3) (.tmp 14) rfl m.heap.size ?A0 rfl rfl 68 _ R sMsg' rfl (by simp[Value.oneCell']) ?_;have L:=(sO_ A m.heap.size w.heap.size ?A0 av).trans r;have af:=(sO_ A m.heap.size (w.heap.size+1) ?A0 aw).trans ad;have ag:=sH_ A m.heap.size _ ?A0 _ _ R;have hF:=(Upd.setRow (cs:=?A0) R).below hA hA.size au;refine u.out _ _ ⟨zb L 0 _ rfl,zb L 2 _ rfl,zb L 3 _ rfl⟩ (λD=>?_);generalize A.setRow m.heap.size ?A0=VF at*;refine wD_ (by kernel_rfl) ?_ _;go_wp2_with fail
    go_meet
    case rel=>exact⟨m.heap.size,rfl,by omega,hF,L,af,ag⟩
 refine kA_ ?B0 ?_;exact #[I_ (pk rc 4),I_ (pk c 4),I_ 3,I_ 0,I_ 0,O_,I_ 0,I_ 0,O_,O_,I_ (pk d 4),I_ (1+pk c 9),.slice (some (p_ wc.heap.size 0)) 32 32,I_ 0,I_ 0,O_,O_,O_,I_ 0];refine kV_ ?C0 ?_;exact I_ (1+pk c 9);refine kV_ ?D0 ?_;exact Value.slice (some (p_ wc.heap.size 0)) 32 32;refine kA_ ?E0 ?_;exact #[I_ (pk rc 4),I_ (pk c 4),I_ 5,I_ 0,I_ 0,O_,I_ 0,I_ 0,O_,O_,I_ 0,I_ 0,O_,I_ 0,I_ 0,O_,O_,O_,?C0];refine kV_ ?H0 ?_;exact Value.slice U ss.length O
 case rest=>
   obtain⟨b,rfl,a4,hB,r0,r1,V⟩:=hcut;clear aB q0 q1;have d0:=zb r0 0 (I_ f) rfl;have d1:=zb r0 1 (I_ d) rfl;have d2:=zb r0 2 (I_ c) rfl;have d3:=zb r0 3 (I_ rc) rfl;have d4:=zb r0 4 ?H0 rfl;obtain⟨bd,be⟩:=zW c 9 (by decide);obtain⟨a9,bb⟩:=zW d 4 (by decide);have a8:IntKind.i64.wrap (1+pk c 9)=1+pk c 9:=by rw[IntKind.wrap_i64];omega
   have u:1+pk f 5=1\/1+pk f 5=2\/1+pk f 5=3\/1+pk f 5=4\/1+pk f 5=5:=by omega
   clear hw;generalize aK:1+pk f 5=kk at*;have ak:Hid (1+pk f 5=kk):=aK;clear aK;clear aT aU;have b2:=zb V 2 (I_ kk) rfl;rcases u with rfl|rfl|rfl|rfl|rfl
   .go_wp2_with fail
    refine(zuF f d c rc U O ss wc h2 h3 (h5.below hB)).mono ?_;rintro e C⟨g,l,he,ho,E⟩;subst he;dsimp only;have s1:=zk E r1;have t:=zk E V;have ae:=zm hB E;have N:w.heap.size<=b:=by omega
    have a6:∀q,(Value.slice g (zdl ss).length l).ownBlock=some q->q≠b/\q≠w.heap.size+1:=λq e=>by have:=(ho.lt q e).1;have:=ze V;omega
    have x3:=zb t 3 (I_ 0) rfl;have f3:=zd t 3;have x4:=zb t 4 (I_ 0) rfl;have f4:=zd t 4;have x5:=zb t 5 (O_) rfl;have f5:=zd t 5;refine kW_ ?J0 ?_;exact((C.setCell (p_ b 3) (I_ (pk d 4))).setCell (p_ b 4) ?C0).setCell (p_ b 5) (.slice g (zdl ss).length l);refine kV_ ?K0 ?_;exact Value.slice g (zdl ss).length l;have rF:(?J0).heap[b]? = some (.cells #[I_ (pk rc 4),I_ (pk c 4),I_ 1,I_ (pk d 4),?C0,?K0,I_ 0,I_ 0,O_,O_,I_ 0,I_ 0,O_,I_ 0,I_ 0,O_,O_,O_,I_ 0] 68 (0,0)):=by simpa using(hS_ _ _ 5 _ _ ?K0 (hS_ _ _ 4 _ _ ?C0 (hS_ _ _ 3 _ _ (I_ (pk d 4)) t)))
    have M:=(zh (j:=5) (v:=.slice g (zdl ss).length l) (zh (j:=4) (v:=I_ (1+pk c 9)) (zh (j:=3) (v:=I_ (pk d 4)) s1 (show w.heap.size+1≠b by omega)) (show w.heap.size+1≠b by omega)) (show w.heap.size+1≠b by omega));have Z:=(((ae.setCell (p:=p_ b 3) N (I_ (pk d 4))).setCell (p:=p_ b 4) N ?C0).setCell (p:=p_ b 5) N ?K0);have F:=ze V;have aj:(?J0).ownsRow wc.heap.size 9 1 ?K0 (zdl ss).length (sv (zdl ss)):=zQ (zQ (zQ ho _ _ _ F) _ _ _ F) _ _ _ F;have a7:=ze r1;obtain⟨_,_,aJ,-,aO,aL⟩:=zf6 aj (λs hs=>nT_ ((zmH ss).2 s hs).2 (by decide));simp only[Value.slice.injEq,true_and]at aJ;obtain⟨rfl,rfl⟩:=aJ;have hl:=(zmH ss).1;have aq:=zsv d c ss;generalize zdl ss=T at*;refine kA_ ?I0 ?_;exact #[I_ (pk rc 4),I_ (pk c 4),I_ 1,I_ (pk d 4),?C0,.slice g T.length l,I_ 0,I_ 0,O_,O_,I_ 0,I_ 0,O_,I_ 0,I_ 0,O_,O_,O_,I_ 0];go_wp2_with (first|refine wL_ rfl 68 _ rfl b rfl 68 ?I0 (0,0) _ rF underlying68 rfl sMsg' ?_|refine wS_ rfl 68 _ _ rfl (w.heap.size+1) ?I0 rfl rfl 68 _ M sMsg' rfl (by simp[Value.oneCell']) ?_)
    exact bP_ (v:=.agg ?I0) (rC_ (fn:=Tryz.f18) (p:=2) (ty:=68) rfl _ _ (w.heap.size+1) 68 _ (0,0) _ rfl (sH_ _ _ _ _ _ _ M) underlying68 rfl sMsg') rfl ⟨⟨pk rc 4,pk c 4,1,pk d 4,1+pk c 9,0,0,0,0,0,0,0,g,none,none,none,none,none,none,T.length,l,0,0,0,0,0,0,0,0,0,0,0,0⟩,T,[],[],[],[],[],rfl,⟨rfl,rfl,rfl,rfl,rfl,rfl,by omega,by simp,by simp,(aO.setRow _ _ (λsb so e=>by have:=aL sb so e;omega)),(zaj _),(zaj _),(zaj _),(zaj _),⟨.inl rfl⟩⟩,rfl,rfl,(by rw[zD,iP_ rfl];exact aq),rfl,(Upd.setRow M).below Z Z.size (by omega),ak.out.symm,(by intro h;dsimp only at h|-;omega),(by intro h;dsimp only at h|-;omega),(by intro h;dsimp only at h|-;omega),(by intro h;dsimp only at h|-;omega),(by intro h;dsimp only at h|-;omega),[],(zgD _),rfl,⟨(λsb so e=>nT_ hB.size (aL sb so e)),⟨(λ_ _ e=>by cases e),(λp B=>by cases B)⟩,⟨(λ_ _ e=>by cases e),(λp B=>by cases B)⟩,(λ_ _ e=>by cases e),⟨(λ_ _ e=>by cases e),(λp B=>by cases B)⟩,⟨(λ_ _ e=>by cases e),(λp B=>by cases B)⟩,(λ_ _ e=>by cases e)⟩,⟨zbL,zbL,zbL,zbL,zbL⟩⟩
   .go_wp2_with fail
    refine(zkT f d c rc U _ O wc h2 h3 h4).mono ?_;rintro e C⟨g,l,bl,y,z,pl,he,an,ao,-,-,ah,ai,E,al,am⟩;subst he;dsimp only;have s1:=zk E r1;have t:=zk E V;have ae:=zm hB E;have N:w.heap.size<=b:=by omega
    have F:=ze V;have ap:=ze r1;have aq:=zkU d c rc bl pl ah ai;have ax:Hid _:=an;have ay:Hid _:=ao;have X:Hid _:=al;have Y:Hid _:=am;have x6:=zb t 6 (I_ 0) rfl;have f6:=zd t 6;have x7:=zb t 7 (I_ 0) rfl;have f7:=zd t 7;have x8:=zb t 8 (O_) rfl;have f8:=zd t 8;have x9:=zb t 9 (O_) rfl;have f9:=zd t 9;refine kA_ ?L0 ?_;exact #[I_ (pk rc 4),I_ (pk c 4),I_ 2,I_ 0,I_ 0,O_,I_ (pk d 4),?C0,.slice g bl.length l,.slice y pl.length z,I_ 0,I_ 0,O_,I_ 0,I_ 0,O_,O_,O_,I_ 0];refine kW_ ?M0 ?_;exact(((C.setCell (p_ b 6) (I_ (pk d 4))).setCell (p_ b 7) ?C0).setCell (p_ b 8) (.slice g bl.length l)).setCell (p_ b 9) (.slice y pl.length z);have rF:(?M0).heap[b]? = some (.cells ?L0 68 (0,0)):=by simpa using(hS_ _ _ 9 _ _ (.slice y pl.length z) (hS_ _ _ 8 _ _ (.slice g bl.length l) (hS_ _ _ 7 _ _ ?C0 (hS_ _ _ 6 _ _ (I_ (pk d 4)) t))))
    have M:=(zh (j:=9) (v:=.slice y pl.length z) (zh (j:=8) (v:=.slice g bl.length l) (zh (j:=7) (v:=I_ (1+pk c 9)) (zh (j:=6) (v:=I_ (pk d 4)) s1 (show w.heap.size+1≠b by omega)) (show w.heap.size+1≠b by omega)) (show w.heap.size+1≠b by omega)) (show w.heap.size+1≠b by omega));have Z:=((((ae.setCell (p:=p_ b 6) N (I_ (pk d 4))).setCell (p:=p_ b 7) N ?C0).setCell (p:=p_ b 8) N (.slice g bl.length l)).setCell (p:=p_ b 9) N (.slice y pl.length z));have az:Hid (zx ?M0 g l bl):=((((ax.out.setCell X.out b 6 _ F).setCell X.out b 7 _ F).setCell X.out b 8 _ F).setCell X.out b 9 _ F);have aA:Hid (zx ?M0 y z pl):=((((ay.out.setCell Y.out b 6 _ F).setCell Y.out b 7 _ F).setCell Y.out b 8 _ F).setCell Y.out b 9 _ F);have HU:Hid (U8M bl pl [] [] []):=⟨zrc ah,zrd ai,zbL,zbL,zbL⟩;clear an ao ah ai al am;go_wp2_with (first|refine wL_ rfl 68 _ rfl b rfl 68 ?L0 (0,0) _ rF underlying68 rfl sMsg' ?_|refine wS_ rfl 68 _ _ rfl (w.heap.size+1) ?L0 rfl rfl 68 _ M sMsg' rfl (by simp[Value.oneCell']) ?_)
    exact bP_ (v:=.agg ?L0) (rC_ (fn:=Tryz.f18) (p:=2) (ty:=68) rfl _ _ (w.heap.size+1) 68 _ (0,0) _ rfl (sH_ _ _ _ _ _ _ M) underlying68 rfl sMsg') rfl ⟨⟨pk rc 4,pk c 4,2,0,0,pk d 4,1+pk c 9,0,0,0,0,0,none,g,y,none,none,none,none,0,0,bl.length,l,pl.length,z,0,0,0,0,0,0,0,0⟩,[],bl,pl,[],[],[],rfl,⟨rfl,rfl,rfl,rfl,rfl,rfl,by simp,by simp,by simp,⟨.inl rfl,λs h=>by cases h⟩,(zfG az.out X.out _ _ ap),(zfG aA.out Y.out _ _ ap),(zaj _),(zaj _),⟨.inl rfl⟩⟩,rfl,rfl,(by simp only[zD];rw[iN_ (show ¬(2:Int)=1 by decide),iP_ trivial];exact aq),rfl,(Upd.setRow M).below Z Z.size (by omega),ak.out.symm,(by intro h;dsimp only at h|-;omega),(by intro h;dsimp only at h|-;omega),(by intro h;dsimp only at h|-;omega),(by intro h;dsimp only at h|-;omega),(by intro h;dsimp only at h|-;omega),[],(zgD _),rfl,⟨(λ_ _ e=>by cases e),(X.out.monoM hB.size),(Y.out.monoM hB.size),(λ_ _ e=>by cases e),⟨(λ_ _ e=>by cases e),(λp B=>by cases B)⟩,⟨(λ_ _ e=>by cases e),(λp B=>by cases B)⟩,(λ_ _ e=>by cases e)⟩,HU.out⟩
   .have ab:w.heap.size≠b:=by omega
    have N:w.heap.size<=b:=by omega
    go_upto_region 8 with fail
    go_region_held3 (λw'=>w'.cell? (p_ w.heap.size 1)=some (I_ d)/\w'.cell? (p_ w.heap.size 2)=some (I_ c)/\w'.cell? (p_ w.heap.size 3)=some (I_ rc)) (go_keep) (first|(go_at_call 36;refine(zlj rc d wc.drew h4).mono ?_;rintro e C⟨rfl,aN,E⟩;replace E:=zbE E;have s0:=zk E r0;have s1:=zk E r1;have t:=zk E V;have g1:C.cell? (p_ w.heap.size 1)=some (I_ d):=zb s0 1 _ rfl;have g2:C.cell? (p_ w.heap.size 2)=some (I_ c):=zb s0 2 _ rfl;have g3:C.cell? (p_ w.heap.size 3)=some (I_ rc):=zb s0 3 _ rfl;have bf:C.cell? (p_ b 10)=some (I_ 0):=zb t 10 _ rfl;have aV:=zd t 10;have bg:C.cell? (p_ b 11)=some (I_ 0):=zb t 11 _ rfl;have aW:=zd t 11;have bh:C.cell? (p_ b 12)=some (O_):=zb t 12 _ rfl;have aX:=zd t 12;have ac:=(zh (j:=12) (v:=.slice (some (p_ wc.heap.size 0)) 32 32) (zh (j:=11) (v:=I_ (1+pk c 9)) (zh (j:=10) (v:=I_ (pk d 4)) s0 ab) ab) ab);have k1:(((C.setCell (p_ b 10) (I_ (pk d 4))).setCell (p_ b 11) ?C0).setCell (p_ b 12) ?D0).cell? (p_ w.heap.size 1)=some (I_ d):=zb ac 1 _ rfl;have k2:(((C.setCell (p_ b 10) (I_ (pk d 4))).setCell (p_ b 11) ?C0).setCell (p_ b 12) ?D0).cell? (p_ w.heap.size 2)=some (I_ c):=zb ac 2 _ rfl;have k3:(((C.setCell (p_ b 10) (I_ (pk d 4))).setCell (p_ b 11) ?C0).setCell (p_ b 12) ?D0).cell? (p_ w.heap.size 3)=some (I_ rc):=zb ac 3 _ rfl)|(go_at_call 11;refine(zaV _ _ _ (by first|exact h2.1|exact h3.1) (by first|exact h2.2|exact h3.2) (by omega) (by omega)).mono ?_;rintro e w9⟨rfl,rfl⟩))
    all_goals
     have ae:=zm hB E;have rF:(((C.setCell (p_ b 10) (I_ (pk d 4))).setCell (p_ b 11) ?C0).setCell (p_ b 12) ?D0).heap[b]? = some (.cells ?B0 68 (0,0)):=by simpa using(hS_ _ _ 12 _ _ ?D0 (hS_ _ _ 11 _ _ ?C0 (hS_ _ _ 10 _ _ (I_ (pk d 4)) t)))
     have M:=(zh (j:=12) (v:=.slice (some (p_ wc.heap.size 0)) 32 32) (zh (j:=11) (v:=I_ (1+pk c 9)) (zh (j:=10) (v:=I_ (pk d 4)) s1 (show w.heap.size+1≠b by omega)) (show w.heap.size+1≠b by omega)) (show w.heap.size+1≠b by omega));have Z:=(((ae.setCell (p:=p_ b 10) N (I_ (pk d 4))).setCell (p:=p_ b 11) N ?C0).setCell (p:=p_ b 12) N ?D0);have aj:(((C.setCell (p_ b 10) (I_ (pk d 4))).setCell (p_ b 11) ?C0).setCell (p_ b 12) ?D0).ownsRow wc.heap.size 5 1 ?D0 32 (ub (zbx rc d)):=zQ (zQ (zQ aN _ _ _ (ze V)) _ _ _ (ze V)) _ _ _ (ze V);go_wp2_with (first|refine wL_ rfl 68 _ rfl b rfl 68 ?B0 (0,0) _ rF underlying68 rfl sMsg' ?_|refine wS_ rfl 68 _ _ rfl (w.heap.size+1) ?B0 rfl rfl 68 _ M sMsg' rfl (by simp[Value.oneCell']) ?_)
     exact bP_ (v:=.agg ?B0) (rC_ (fn:=Tryz.f18) (p:=2) (ty:=68) rfl _ _ (w.heap.size+1) 68 _ (0,0) _ rfl (sH_ _ _ _ _ _ _ M) underlying68 rfl sMsg') rfl ⟨⟨pk rc 4,pk c 4,3,0,0,0,0,pk d 4,1+pk c 9,0,0,0,none,none,none,some (p_ wc.heap.size 0),none,none,none,0,0,0,0,0,0,32,32,0,0,0,0,0,0⟩,[],[],[],[],[],[],rfl,⟨rfl,rfl,rfl,rfl,rfl,rfl,by simp,by simp,by simp,⟨.inl rfl,λs h=>by cases h⟩,(zaj _),(zaj _),(zaj _),(zaj _),⟨.inl rfl⟩⟩,rfl,rfl,(by simp only[zD];rw[iN_ (show ¬(3:Int)=1 by decide),iN_ (show ¬(3:Int)=2 by decide),iP_ trivial,zbf,iN_ (by omega),iN_ (by decide)]),rfl,(Upd.setRow M).below Z Z.size (by omega),ak.out.symm,(by intro h;dsimp only at h|-;omega),(by intro h;dsimp only at h|-;omega),(by intro h;dsimp only at h|-;omega),(by intro h;dsimp only at h|-;omega),(by intro h;dsimp only at h|-;omega),zbx rc d,(zjF (zc0 aj).2 _ _ (λsb so e=>by cases e;have:=ze r1;omega)),(zc0 aj).1,⟨(λ_ _ e=>by cases e),⟨(λ_ _ e=>by cases e),(λp B=>by cases B)⟩,⟨(λ_ _ e=>by cases e),(λp B=>by cases B)⟩,(λsb so e=>by cases e;exact hB.size),⟨(λ_ _ e=>by cases e),(λp B=>by cases B)⟩,⟨(λ_ _ e=>by cases e),(λp B=>by cases B)⟩,(λ_ _ e=>by cases e)⟩,⟨zbL,zbL,zbL,zbL,zhu _ _⟩⟩
   .have ab:w.heap.size≠b:=by omega
    have N:w.heap.size<=b:=by omega
    have F:=ze V;have ap:=ze r1;obtain⟨G,aI⟩:∃n,(zdB rc).length=n:=⟨_,rfl⟩;have aH:Hid ((zdB rc).length=G):=aI;clear aI;go_upto_region 10 with fail
    go_region_held3 (λw'=>w'.cell? (p_ w.heap.size 0)=some (I_ f)/\w'.cell? (p_ w.heap.size 1)=some (I_ d)/\w'.cell? (p_ w.heap.size 2)=some (I_ c)/\w'.cell? (p_ w.heap.size 3)=some (I_ rc)/\w'.cell? (p_ w.heap.size 4)=some ?H0) (go_keep) (first|(go_at_call 37;refine(zsx rc C h4).mono ?_;rintro e J⟨v4,he,aE,aD⟩;rw[aH.out]at aE;obtain⟨H,I,aQ⟩:=zH aE;subst aQ;subst he;have ar:=E.trans (aD.mono E.size);have s0:=zk ar r0;have s1:=zk ar r1;have t:=zk ar V;have g0:J.cell? (p_ w.heap.size 0)=some (I_ f):=zb s0 0 _ rfl;have g1:J.cell? (p_ w.heap.size 1)=some (I_ d):=zb s0 1 _ rfl;have g2:J.cell? (p_ w.heap.size 2)=some (I_ c):=zb s0 2 _ rfl;have g3:J.cell? (p_ w.heap.size 3)=some (I_ rc):=zb s0 3 _ rfl;have g4:J.cell? (p_ w.heap.size 4)=some ?H0:=zb s0 4 _ rfl;have bi:J.cell? (p_ b 13)=some (I_ 0):=zb t 13 _ rfl;have aY:=zd t 13;have bj:J.cell? (p_ b 14)=some (I_ 0):=zb t 14 _ rfl;have aZ:=zd t 14;have bk:J.cell? (p_ b 15)=some (O_):=zb t 15 _ rfl;have a0:=zd t 15;have bm:J.cell? (p_ b 16)=some (O_):=zb t 16 _ rfl;have a1:=zd t 16;have bn:J.cell? (p_ b 17)=some (O_):=zb t 17 _ rfl;have a2:=zd t 17;have ac:=(zh (j:=17) (v:=.slice H G I) (zh (j:=16) (v:=.slice y pl.length z) (zh (j:=15) (v:=.slice g bl.length l) (zh (j:=14) (v:=I_ (1+pk c 9)) (zh (j:=13) (v:=I_ (pk d 4)) s0 ab) ab) ab) ab) ab);have k0:(((((J.setCell (p_ b 13) (I_ (pk d 4))).setCell (p_ b 14) ?C0).setCell (p_ b 15) (.slice g bl.length l)).setCell (p_ b 16) (.slice y pl.length z)).setCell (p_ b 17) (.slice H G I)).cell? (p_ w.heap.size 0)=some (I_ f):=zb ac 0 _ rfl;have k1:(((((J.setCell (p_ b 13) (I_ (pk d 4))).setCell (p_ b 14) ?C0).setCell (p_ b 15) (.slice g bl.length l)).setCell (p_ b 16) (.slice y pl.length z)).setCell (p_ b 17) (.slice H G I)).cell? (p_ w.heap.size 1)=some (I_ d):=zb ac 1 _ rfl;have k2:(((((J.setCell (p_ b 13) (I_ (pk d 4))).setCell (p_ b 14) ?C0).setCell (p_ b 15) (.slice g bl.length l)).setCell (p_ b 16) (.slice y pl.length z)).setCell (p_ b 17) (.slice H G I)).cell? (p_ w.heap.size 2)=some (I_ c):=zb ac 2 _ rfl;have k3:(((((J.setCell (p_ b 13) (I_ (pk d 4))).setCell (p_ b 14) ?C0).setCell (p_ b 15) (.slice g bl.length l)).setCell (p_ b 16) (.slice y pl.length z)).setCell (p_ b 17) (.slice H G I)).cell? (p_ w.heap.size 3)=some (I_ rc):=zb ac 3 _ rfl;have k4:(((((J.setCell (p_ b 13) (I_ (pk d 4))).setCell (p_ b 14) ?C0).setCell (p_ b 15) (.slice g bl.length l)).setCell (p_ b 16) (.slice y pl.length z)).setCell (p_ b 17) (.slice H G I)).cell? (p_ w.heap.size 4)=some ?H0:=zb ac 4 _ rfl)|(go_at_call 35;refine(zkT f d c rc U _ O wc.drew h2 h3 h4).mono ?_;rintro e C⟨g,l,bl,y,z,pl,rfl,an,ao,-,-,ah,ai,E,al,am⟩;replace E:=zbE E;have t0:=zk E r0;have m0:C.cell? (p_ w.heap.size 0)=some (I_ f):=zb t0 0 _ rfl;have m1:C.cell? (p_ w.heap.size 1)=some (I_ d):=zb t0 1 _ rfl;have m2:C.cell? (p_ w.heap.size 2)=some (I_ c):=zb t0 2 _ rfl;have m3:C.cell? (p_ w.heap.size 3)=some (I_ rc):=zb t0 3 _ rfl;have m4:C.cell? (p_ w.heap.size 4)=some ?H0:=zb t0 4 _ rfl;have ax:Hid _:=an;have ay:Hid _:=ao;have X:Hid _:=al;have Y:Hid _:=am;have aF:Hid _:=ah;have aG:Hid _:=ai;clear an ao al am ah ai))
    refine kA_ ?N0 ?_;exact #[I_ (pk rc 4),I_ (pk c 4),I_ 4,I_ 0,I_ 0,O_,I_ 0,I_ 0,O_,O_,I_ 0,I_ 0,O_,I_ (pk d 4),?C0,.slice g bl.length l,.slice y pl.length z,.slice H G I,I_ 0]
    all_goals
     have ae:=zm hB ar;have aq:=zkU d c rc bl pl aF.out aG.out;obtain⟨_,_,_,_,_,_,_,_,aR,_,aS⟩:=zpi rc;have rF:(((((J.setCell (p_ b 13) (I_ (pk d 4))).setCell (p_ b 14) ?C0).setCell (p_ b 15) (.slice g bl.length l)).setCell (p_ b 16) (.slice y pl.length z)).setCell (p_ b 17) (.slice H G I)).heap[b]? = some (.cells ?N0 68 (0,0)):=by simpa using(hS_ _ _ 17 _ _ (.slice H G I) (hS_ _ _ 16 _ _ (.slice y pl.length z) (hS_ _ _ 15 _ _ (.slice g bl.length l) (hS_ _ _ 14 _ _ ?C0 (hS_ _ _ 13 _ _ (I_ (pk d 4)) t)))))
     have M:=(zh (j:=17) (v:=.slice H G I) (zh (j:=16) (v:=.slice y pl.length z) (zh (j:=15) (v:=.slice g bl.length l) (zh (j:=14) (v:=I_ (1+pk c 9)) (zh (j:=13) (v:=I_ (pk d 4)) s1 (show w.heap.size+1≠b by omega)) (show w.heap.size+1≠b by omega)) (show w.heap.size+1≠b by omega)) (show w.heap.size+1≠b by omega)) (show w.heap.size+1≠b by omega));have Z:=(((((ae.setCell (p:=p_ b 13) N (I_ (pk d 4))).setCell (p:=p_ b 14) N ?C0).setCell (p:=p_ b 15) N (.slice g bl.length l)).setCell (p:=p_ b 16) N (.slice y pl.length z)).setCell (p:=p_ b 17) N (.slice H G I));have az:Hid (zx (((((J.setCell (p_ b 13) (I_ (pk d 4))).setCell (p_ b 14) ?C0).setCell (p_ b 15) (.slice g bl.length l)).setCell (p_ b 16) (.slice y pl.length z)).setCell (p_ b 17) (.slice H G I)) g l bl):=((((((ax.out.below aD).setCell X.out b 13 _ F).setCell X.out b 14 _ F).setCell X.out b 15 _ F).setCell X.out b 16 _ F).setCell X.out b 17 _ F);have aA:Hid (zx (((((J.setCell (p_ b 13) (I_ (pk d 4))).setCell (p_ b 14) ?C0).setCell (p_ b 15) (.slice g bl.length l)).setCell (p_ b 16) (.slice y pl.length z)).setCell (p_ b 17) (.slice H G I)) y z pl):=((((((ay.out.below aD).setCell Y.out b 13 _ F).setCell Y.out b 14 _ F).setCell Y.out b 15 _ F).setCell Y.out b 16 _ F).setCell Y.out b 17 _ F);have aj:(((((J.setCell (p_ b 13) (I_ (pk d 4))).setCell (p_ b 14) ?C0).setCell (p_ b 15) (.slice g bl.length l)).setCell (p_ b 16) (.slice y pl.length z)).setCell (p_ b 17) (.slice H G I)).ownsRow C.heap.size 3 1 (.slice H G I) G (iv (zdB rc)):=(zQ (zQ (zQ (zQ (zQ aE _ _ _ (by have:=E.size;omega)) _ _ _ (by have:=E.size;omega)) _ _ _ (by have:=E.size;omega)) _ _ _ (by have:=E.size;omega)) _ _ _ (by have:=E.size;omega));have aC:Hid (zax (((((J.setCell (p_ b 13) (I_ (pk d 4))).setCell (p_ b 14) ?C0).setCell (p_ b 15) (.slice g bl.length l)).setCell (p_ b 16) (.slice y pl.length z)).setCell (p_ b 17) (.slice H G I)) H (zdB rc)/\∀sb so,H=some (p_ sb so)->C.heap.size<=sb):=zsy aj;have aP:=E.size;go_wp2_with (first|refine wL_ rfl 68 _ rfl b rfl 68 ?N0 (0,0) _ rF underlying68 rfl sMsg' ?_|refine wS_ rfl 68 _ _ rfl (w.heap.size+1) ?N0 rfl rfl 68 _ M sMsg' rfl (by simp[Value.oneCell']) ?_)
     exact bP_ (v:=.agg ?N0) (rC_ (fn:=Tryz.f18) (p:=2) (ty:=68) rfl _ _ (w.heap.size+1) 68 _ (0,0) _ rfl (sH_ _ _ _ _ _ _ M) underlying68 rfl sMsg') rfl ⟨⟨pk rc 4,pk c 4,4,0,0,0,0,0,0,pk d 4,1+pk c 9,0,none,none,none,none,g,y,H,0,0,0,0,0,0,0,0,bl.length,l,pl.length,z,G,I⟩,[],[],[],bl,pl,zdB rc,rfl,⟨rfl,rfl,rfl,rfl,rfl,aH.out.symm,by simp,by omega,by simp,⟨.inl rfl,λs h=>by cases h⟩,(zaj _),(zaj _),(zfG az.out X.out _ _ ap),(zfG aA.out Y.out _ _ ap),(zpj aC.out.1 _ _ (λsb so e=>by have:=aC.out.2 sb so e;omega))⟩,rfl,rfl,(by simp only[zD];rw[iN_ (show ¬(4:Int)=1 by decide),iN_ (show ¬(4:Int)=2 by decide),iN_ (show ¬(4:Int)=3 by decide),iP_ trivial];exact zuH aq aR aS),rfl,(Upd.setRow M).below Z Z.size (by omega),ak.out.symm,(by intro h;dsimp only at h|-;omega),(by intro h;dsimp only at h|-;omega),(by intro h;dsimp only at h|-;omega),(by intro h;dsimp only at h|-;omega),(by intro h;dsimp only at h|-;omega),[],(zgD _),rfl,⟨(λ_ _ e=>by cases e),⟨(λ_ _ e=>by cases e),(λp B=>by cases B)⟩,⟨(λ_ _ e=>by cases e),(λp B=>by cases B)⟩,(λ_ _ e=>by cases e),(X.out.monoM hB.size),(Y.out.monoM hB.size),(λsb so e=>nT_ hB.size (nT_ aP (aC.out.2 sb so e)))⟩,⟨zbL,zbL,zrc aF.out,zrd aG.out,zbL⟩⟩
   have rF:(wc.setCell (p_ b 18) ?C0).heap[b]? = some (.cells ?E0 68 (0,0)):=by simpa using hS_ _ _ 18 _ _ ?C0 V
   have M:=zh (j:=18) (v:=I_ (1+pk c 9)) r1 (show w.heap.size+1≠b by omega);have Z:=hB.setCell (p:=p_ b 18) (by simp;omega) ?C0;have bo:=zb V 18 (I_ 0) rfl;have a3:=zd V 18;go_wp2_with (first|(go_at_call 11;refine(zaV _ _ _ h3.1 h3.2 (by omega) (by omega)).mono ?_;rintro e w9⟨rfl,rfl⟩)|refine wL_ rfl 68 _ rfl b rfl 68 ?E0 (0,0) _ rF underlying68 rfl sMsg' ?_|refine wS_ rfl 68 _ _ rfl (w.heap.size+1) ?E0 rfl rfl 68 _ M sMsg' rfl (by simp[Value.oneCell']) ?_)
   exact bP_ (v:=.agg ?E0) (rC_ (fn:=Tryz.f18) (p:=2) (ty:=68) rfl _ _ (w.heap.size+1) 68 _ (0,0) _ rfl (sH_ _ _ _ _ _ _ M) underlying68 rfl sMsg') rfl ⟨⟨pk rc 4,pk c 4,5,0,0,0,0,0,0,0,0,1+pk c 9,none,none,none,none,none,none,none,0,0,0,0,0,0,0,0,0,0,0,0,0,0⟩,[],[],[],[],[],[],rfl,⟨rfl,rfl,rfl,rfl,rfl,rfl,by simp,by simp,by simp,⟨.inl rfl,λs h=>by cases h⟩,(zaj _),(zaj _),(zaj _),(zaj _),⟨.inl rfl⟩⟩,rfl,rfl,(by rw[zD];simp;omega),rfl,(Upd.setRow M).below Z Z.size (by omega),ak.out.symm,(by intro h;dsimp only at h|-;omega),(by intro h;dsimp only at h|-;omega),(by intro h;dsimp only at h|-;omega),(by intro h;dsimp only at h|-;omega),(by intro h;dsimp only at h|-;omega),[],(zgD _),rfl,⟨(λ_ _ e=>by cases e),⟨(λ_ _ e=>by cases e),(λp B=>by cases B)⟩,⟨(λ_ _ e=>by cases e),(λp B=>by cases B)⟩,(λ_ _ e=>by cases e),⟨(λ_ _ e=>by cases e),(λp B=>by cases B)⟩,⟨(λ_ _ e=>by cases e),(λp B=>by cases B)⟩,(λ_ _ e=>by cases e)⟩,⟨zbL,zbL,zbL,zbL,zbL⟩⟩
variable {ss:Z_}{cbl cpl:List zi}
theorem zbI (n m:Int)(w:World)(b:-9223372036854775808<=n)(c:n<=9223372036854775807)(f:0<m)(g:m<=9223372036854775807) :
  Calls prog 5 #[I_ n,I_ m] w λe w'=>e=.returned (I_ (pk n m))/\w=w':=by
 go_in;go_wp2_with fail
 refine(zaV n m w b c f g).mono ?_;rintro e l⟨d,j⟩;subst d j;dsimp only;go_wp2_with fail
 go_ret;exact⟨rfl,rfl⟩
theorem zuI {b:Nat}{l:L_}(h:R_ w b ((ub l).toArray) 5)(f:n=l.length)(d:n<=maxLen):zg w (some (p_ b 0)) n l:=by
 subst f;refine⟨nR_ _,d,.inr ⟨b,0,rfl⟩,(λe=>by cases e),.inr ⟨b,0,rfl,λj c=>?_⟩⟩;rw[cell_of_row w b _ _ _ _ h,zA_];simp[ub,c]
theorem zjb (bs:L_):(zai bs).size=bs.length:=by
 have h:∀(l:L_) (r:ByteArray),(l.foldl (λr n=>r.push (UInt8.ofNat n.toNat)) r).size=r.size+l.length:=by
  intro l
  induction l with
  | nil=>intro r;simp
  | cons x l ih=>intro r;simp only[List.foldl_cons,List.length_cons];rw[ih,ByteArray.size_push];omega
 rw[zai,h]
 simp
theorem zpl (k a b:Int)(t:ByteArray)(w:World)(C:I64 a)(D:I64 b) :
  Calls prog 16 #[.agg #[I_ k,I_ a,I_ b,.string t]] w λe w'=>(∃s:ByteArray,e=.returned (.string s)/\s.size=3)/\B_ w w':=by
 obtain⟨R,T⟩:=zW a 20 (by decide);obtain⟨U,X⟩:=zW b 20 (by decide);have E:Hid (∀W:World,Calls prog 5 #[I_ a,I_ 20] W λe w'=>∃v,e=.returned v/\(v=I_ (pk a 20)/\W=w')):=by
  show ∀_,_;intro W;exact(zbI a 20 W C.1 C.2 (by decide) (by decide)).mono (λe w' h=>⟨_,h.1,rfl,h.2⟩)
 have F:Hid (∀W:World,Calls prog 5 #[I_ b,I_ 20] W λe w'=>∃v,e=.returned v/\(v=I_ (pk b 20)/\W=w')):=by
  show ∀_,_;intro W;exact(zbI b 20 W D.1 D.2 (by decide) (by decide)).mono (λe w' h=>⟨_,h.1,rfl,h.2⟩)
 generalize pk a 20=A at*;generalize pk b 20=B at*;refine kO_ ?B0 ?_;exact Obj.cells #[I_ k,I_ a,I_ b,.string t] 50;have y:=zC w ?B0;have l:=hN_ w ?B0;have N:IntKind.i64.wrap (97+A)=97+A:=by rw[IntKind.wrap_i64];omega
 have O:IntKind.i64.wrap (97+B)=97+B:=by rw[IntKind.wrap_i64];omega
 have L:IntKind.u8.wrap (97+A)=97+A:=by simp[IntKind.wrap,IntKind.signed,IntKind.bits];omega
 have M:IntKind.u8.wrap (97+B)=97+B:=by simp[IntKind.wrap,IntKind.signed,IntKind.bits];omega
 go_in;go_upto_region 1 with fail
 generalize w.alloc ?B0=f at y l|-;have g:C_ f.drew w.heap.size 1 (I_ a):=zb l 1 _ rfl;have j:C_ f.drew w.heap.size 2 (I_ b):=zb l 2 _ rfl;have z:=y.drew;have o:=ze (w:=f.drew) l;refine wR_ (S:=λw'=>C_ w' w.heap.size 1 (I_ a)/\C_ w' w.heap.size 2 (I_ b)) (by kernel_rfl) ⟨g,j⟩ (λc=>?_);generalize f.drew=V at g j z o c|-;refine tks_ 4 [(0,3,(P_ w.heap.size 1)),(1,4,I_ a),(5,8,(P_ w.heap.size 2)),(6,9,I_ b)] c ?_;simp only[tkf_,zf];refine zE 2 rfl (λK d=>?_);refine zj rfl 5 rfl 5 [.tmp 4,.const (I_ 20)] #[3,3] rfl [I_ a,I_ 20] rfl (eO_ func5) (λv w'=>v=I_ A/\V=w') (E.out V) ?_;rintro v I⟨rfl,q⟩;subst q;refine d.out _ _ ⟨g,j⟩ (λc=>?_);simp only[zf];refine tks_ 2 [(3,6,I_ (97+A)),(4,7,.int .u8 (97+A))] c ?_;simp only[tkf_,zf];refine zE 7 rfl (λK d=>?_);refine zj rfl 10 rfl 5 [.tmp 9,.const (I_ 20)] #[3,3] rfl [I_ b,I_ 20] rfl (eO_ func5) (λv w'=>v=I_ B/\V=w') (F.out V) ?_;rintro v I⟨rfl,q⟩;subst q;refine d.out _ _ ⟨g,j⟩ (λc=>?_);simp only[zf];refine tks_ 2 [(8,11,I_ (97+B)),(9,12,.int .u8 (97+B))] c ?_;simp only[tkf_,zf];refine zE 10 rfl (λK d=>?_);refine kO_ ?A0 ?_;exact Obj.cells (ub [116,97+A,97+B]).toArray 5;refine zy rfl 13 rfl (.slice (some (p_ V.heap.size 0)) 3 3) (V.alloc ?A0) (by go_simp;rfl) ?_;have m:=zC V ?A0;have H:=hN_ V ?A0;have r:=(m.cell (p:=p_ w.heap.size 1) o).trans g;have u:=(m.cell (p:=p_ w.heap.size 2) o).trans j;refine d.out _ _ ⟨r,u⟩ (λc=>?_);simp only[zf];have G:=zm z m;have J:=zd8 (V.alloc ?A0) (some (p_ V.heap.size 0)) 3 3 [116,97+A,97+B] rfl (zuI H rfl (by decide));refine zE 11 rfl (λK d=>?_);refine zy rfl 14 rfl (.string (zai [116,97+A,97+B])) (V.alloc ?A0) (by go_simp) ?_;refine d.out _ _ ⟨r,u⟩ (λc=>?_);simp only[zf];refine zU 12 2 (.string (zai [116,97+A,97+B])) rfl rfl c ?_;simp only[zf];refine wD_ (by kernel_rfl) ?_ _;go_wp2_with fail
 go_ret;exact⟨⟨_,rfl,zjb _⟩,G⟩
theorem zaL (k n p:Int)(t:ByteArray)(f:1<=k/\k<=10)(g:0<=n/\n<4)(j:0<=p/\p<=400000)(l:t.size<=4000)(b:hN k=false->n=0)(c:hP k=false->p=0)(d:hT k=false->t.size=0):(⟨k,n,p,t⟩:AV).e=0:=by
 show zeS k n p t.size=0;rw[zeS,iN_ (by omega),iN_ (by omega),iN_ (by omega),iN_ (by omega),iN_];intro h;simp only[zja,Bool.or_eq_true,Bool.and_eq_true,Bool.not_eq_true',dE_]at h;rcases h with(⟨x,y⟩|⟨x,y⟩)|⟨x,y⟩;exact x (b y);exact x (c y);exact x (d y)
def zz2 (t:ByteArray):Prop:=∃x:MV,t=zai x.bytes/\zZ x.bytes/\pM (x.bytes,false)=x.c/\(x.m.ki=1->x.m.bnu<=9)
theorem n9 {k:Int}{P:Prop}(h:decide (k=9)=false):k=9->P:=λe=>absurd e (of_decide_eq_false h)
theorem zey {k:Int}{P:Prop}(h:decide (k=1)=false):k=1->P:=λe=>absurd e (of_decide_eq_false h)
def zzm (w w':World)(e:Ending):Prop:=(∃a:AV,e=.returned (.agg #[I_ a.k,I_ a.n,I_ a.p,.string a.t])/\a.e=0/\a.t.size<=4000/\(a.k=1->a.t.size=3)/\(a.k=9->zz2 a.t))/\B_ w w'
theorem zsz {m:Msg}{ds:L_}(c:m.sdn=ds.length)(b:zD m ss bl pl cbl cpl vl=0):(zeL m ss bl pl cbl cpl ds vl).length<=4000:=by
 have:=zk7 c b;simp[zeL];omega
theorem zsA (k a b:Int)(t:ByteArray)(w:World)(hk:I64 k)(O:I64 a)(F:I64 b)(ht:t.size<=maxLen) :
  Calls prog 12 #[.agg #[I_ k,I_ a,I_ b,.string t]] w λe w'=>zzm w w' e:=by
 obtain⟨an,ao⟩:=zW a 4 (by decide);obtain⟨av,aw⟩:=zW k 20 (by decide);obtain⟨ap,aq⟩:=zW b 400 (by decide);obtain⟨ar,au⟩:=zW b 700 (by decide);have p:Hid (∀W:World,Calls prog 5 #[I_ a,I_ 4] W λe w'=>e=.returned (I_ (pk a 4))/\W=w'):=by
  show ∀_,_;intro W;exact zbI a 4 W O.1 O.2 (by decide) (by decide)
 have u:Hid (∀W:World,Calls prog 5 #[I_ k,I_ 20] W λe w'=>e=.returned (I_ (pk k 20))/\W=w'):=by
  show ∀_,_;intro W;exact zbI k 20 W hk.1 hk.2 (by decide) (by decide)
 have q:Hid (∀W:World,Calls prog 5 #[I_ b,I_ 400] W λe w'=>e=.returned (I_ (pk b 400))/\W=w'):=by
  show ∀_,_;intro W;exact zbI b 400 W F.1 F.2 (by decide) (by decide)
 have r:Hid (∀W:World,Calls prog 5 #[I_ b,I_ 700] W λe w'=>e=.returned (I_ (pk b 700))/\W=w'):=by
  show ∀_,_;intro W;exact zbI b 700 W F.1 F.2 (by decide) (by decide)
 generalize pk a 4=A at*;generalize pk b 400=B at*;generalize pk b 700=C at*;generalize pk k 20=K at*;refine kV_ ?A0 ?_;exact Value.string ⟨#[]⟩;refine kO_ ?B0 ?_;exact Obj.cells #[I_ k,I_ a,I_ b,.string t] 50;refine kO_ ?C0 ?_;exact Obj.cells #[I_ 0,I_ 0,I_ 0,?A0] 29;have R:B_ w ((w.alloc ?B0).alloc ?C0):=((bR_ _ _).alloc (nR_ _) _).alloc (by simp) _;have V:=hX_ w ?B0 ?C0;have z:=hY_ w ?B0 ?C0;go_in;go_upto_region 1 with fail
 generalize (w.alloc ?B0).alloc ?C0=D at R V z|-;have c0:=zb V 0 (I_ k) rfl;have c1:=zb V 1 (I_ a) rfl;have c2:=zb V 2 (I_ b) rfl;have c3:=zb V 3 (.string t) rfl;have d:=zb z 0 (I_ 0) rfl;have f:=zb z 1 (I_ 0) rfl;have g:=zb z 2 (I_ 0) rfl;have l:=zb z 3 ?A0 rfl;have J:=zd z 0;have L:=zd z 1;have M:=zd z 2;have N:=zd z 3;have y:Hid (∀(x0 x1 x2 x3:Value),B_ w ((((D.setCell (p_ (w.heap.size+1) 0) x0).setCell (p_ (w.heap.size+1) 1) x1).setCell (p_ (w.heap.size+1) 2) x2).setCell (p_ (w.heap.size+1) 3) x3)):=by
  show ∀_,_;intro x0 x1 x2 x3;exact(((R.setCell (by simp) _).setCell (by simp) _).setCell (by simp) _).setCell (by simp) _
 have hK:K=0\/K=1\/K=2\/K=3\/K=4\/K=5\/K=6\/K=7\/K=8\/K=9\/K=10\/K=11\/K=12\/K=13\/K=14\/K=15\/K=16\/K=17\/K=18\/K=19:=by omega
 rcases hK with hi|hi|hi|hi|hi|hi|hi|hi|hi|hi|hi|hi|hi|hi|hi|hi|hi|hi|hi|hi
 all_goals
  subst hi;go_wp2_with (first|(go_at_call 5;refine(u.out _).mono ?_;rintro e c⟨rfl,rfl⟩)|(go_at_call 5;refine(p.out _).mono ?_;rintro e c⟨rfl,rfl⟩)|(go_at_call 5;refine(q.out _).mono ?_;rintro e c⟨rfl,rfl⟩)|(go_at_call 5;refine(r.out _).mono ?_;rintro e c⟨rfl,rfl⟩))
 .refine(zpl k a b t D O F).mono ?_;rintro e w2⟨⟨s,I,U⟩,G⟩;subst I;dsimp only;clear c0 c1 c2 c3 d f g l J L M N;have o:=zk G z;have d:=zb o 0 (I_ 0) rfl;have f:=zb o 1 (I_ 0) rfl;have g:=zb o 2 (I_ 0) rfl;have l:=zb o 3 ?A0 rfl;have J:=zd o 0;have L:=zd o 1;have M:=zd o 2;have N:=zd o 3;have T:=zm R G;go_wp2_with fail
  exact bP_ (v:=.agg #[I_ 1,I_ A,I_ 0,.string s]) (by simp[results,results12,go_sem,d,f,g,l]) rfl ⟨⟨⟨1,A,0,s⟩,rfl,zaL _ _ _ _ (by omega) (by omega) (by omega) (by omega) (λh=>absurd h (by decide)) (λ_=>rfl) (λh=>absurd h (by decide)),(show s.size<=4000 by omega),λ_=>U,n9 rfl⟩,(((T.setCell (by simp) _).setCell (by simp) _).setCell (by simp) _).setCell (by simp) _⟩
 .refine(zpl k a b t D O F).mono ?_;rintro e w2⟨⟨s,I,U⟩,G⟩;subst I;dsimp only;clear c0 c1 c2 c3 d f g l J L M N;have o:=zk G z;have d:=zb o 0 (I_ 0) rfl;have f:=zb o 1 (I_ 0) rfl;have g:=zb o 2 (I_ 0) rfl;have l:=zb o 3 ?A0 rfl;have J:=zd o 0;have L:=zd o 1;have M:=zd o 2;have N:=zd o 3;have T:=zm R G;go_wp2_with fail
  exact bP_ (v:=.agg #[I_ 1,I_ A,I_ 0,.string s]) (by simp[results,results12,go_sem,d,f,g,l]) rfl ⟨⟨⟨1,A,0,s⟩,rfl,zaL _ _ _ _ (by omega) (by omega) (by omega) (by omega) (λh=>absurd h (by decide)) (λ_=>rfl) (λh=>absurd h (by decide)),(show s.size<=4000 by omega),λ_=>U,n9 rfl⟩,(((T.setCell (by simp) _).setCell (by simp) _).setCell (by simp) _).setCell (by simp) _⟩
 refine kA_ ?D0 ?_;exact #[I_ 2,I_ A,I_ 0,?A0]
 .refine bP_ (v:=.agg ?D0) (by simp[results,results12,go_sem,d,f,g,l]) rfl ⟨⟨⟨2,A,0,⟨#[]⟩⟩,rfl,zaL _ _ _ _ (by omega) (by omega) (by omega) (nZ_ _) (by first|(intro _;rfl)|(intro h;exact absurd h (by decide))) (by first|(intro _;rfl)|(intro h;exact absurd h (by decide))) (λ_=>rfl),nZ_ _,zey rfl,n9 rfl⟩,y.out _ _ _ _⟩
 .refine bP_ (v:=.agg ?D0) (by simp[results,results12,go_sem,d,f,g,l]) rfl ⟨⟨⟨2,A,0,⟨#[]⟩⟩,rfl,zaL _ _ _ _ (by omega) (by omega) (by omega) (nZ_ _) (by first|(intro _;rfl)|(intro h;exact absurd h (by decide))) (by first|(intro _;rfl)|(intro h;exact absurd h (by decide))) (λ_=>rfl),nZ_ _,zey rfl,n9 rfl⟩,y.out _ _ _ _⟩
 .refine bP_ (v:=.agg ?D0) (by simp[results,results12,go_sem,d,f,g,l]) rfl ⟨⟨⟨2,A,0,⟨#[]⟩⟩,rfl,zaL _ _ _ _ (by omega) (by omega) (by omega) (nZ_ _) (by first|(intro _;rfl)|(intro h;exact absurd h (by decide))) (by first|(intro _;rfl)|(intro h;exact absurd h (by decide))) (λ_=>rfl),nZ_ _,zey rfl,n9 rfl⟩,y.out _ _ _ _⟩
 .refine bP_ (v:=.agg ?D0) (by simp[results,results12,go_sem,d,f,g,l]) rfl ⟨⟨⟨2,A,0,⟨#[]⟩⟩,rfl,zaL _ _ _ _ (by omega) (by omega) (by omega) (nZ_ _) (by first|(intro _;rfl)|(intro h;exact absurd h (by decide))) (by first|(intro _;rfl)|(intro h;exact absurd h (by decide))) (λ_=>rfl),nZ_ _,zey rfl,n9 rfl⟩,y.out _ _ _ _⟩
 refine kA_ ?E0 ?_;exact #[I_ 3,I_ A,I_ 0,?A0]
 .refine bP_ (v:=.agg ?E0) (by simp[results,results12,go_sem,d,f,g,l]) rfl ⟨⟨⟨3,A,0,⟨#[]⟩⟩,rfl,zaL _ _ _ _ (by omega) (by omega) (by omega) (nZ_ _) (by first|(intro _;rfl)|(intro h;exact absurd h (by decide))) (by first|(intro _;rfl)|(intro h;exact absurd h (by decide))) (λ_=>rfl),nZ_ _,zey rfl,n9 rfl⟩,y.out _ _ _ _⟩
 .refine bP_ (v:=.agg ?E0) (by simp[results,results12,go_sem,d,f,g,l]) rfl ⟨⟨⟨3,A,0,⟨#[]⟩⟩,rfl,zaL _ _ _ _ (by omega) (by omega) (by omega) (nZ_ _) (by first|(intro _;rfl)|(intro h;exact absurd h (by decide))) (by first|(intro _;rfl)|(intro h;exact absurd h (by decide))) (λ_=>rfl),nZ_ _,zey rfl,n9 rfl⟩,y.out _ _ _ _⟩
 .refine bP_ (v:=.agg ?E0) (by simp[results,results12,go_sem,d,f,g,l]) rfl ⟨⟨⟨3,A,0,⟨#[]⟩⟩,rfl,zaL _ _ _ _ (by omega) (by omega) (by omega) (nZ_ _) (by first|(intro _;rfl)|(intro h;exact absurd h (by decide))) (by first|(intro _;rfl)|(intro h;exact absurd h (by decide))) (λ_=>rfl),nZ_ _,zey rfl,n9 rfl⟩,y.out _ _ _ _⟩
 .refine bP_ (v:=.agg ?E0) (by simp[results,results12,go_sem,d,f,g,l]) rfl ⟨⟨⟨3,A,0,⟨#[]⟩⟩,rfl,zaL _ _ _ _ (by omega) (by omega) (by omega) (nZ_ _) (by first|(intro _;rfl)|(intro h;exact absurd h (by decide))) (by first|(intro _;rfl)|(intro h;exact absurd h (by decide))) (λ_=>rfl),nZ_ _,zey rfl,n9 rfl⟩,y.out _ _ _ _⟩
 .refine bP_ (v:=.agg #[I_ 4,I_ 0,I_ B,?A0]) (by simp[results,results12,go_sem,d,f,g,l]) rfl ⟨⟨⟨4,0,B,⟨#[]⟩⟩,rfl,zaL _ _ _ _ (by omega) (by omega) (by omega) (nZ_ _) (by first|(intro _;rfl)|(intro h;exact absurd h (by decide))) (by first|(intro _;rfl)|(intro h;exact absurd h (by decide))) (λ_=>rfl),nZ_ _,zey rfl,n9 rfl⟩,y.out _ _ _ _⟩
 .refine bP_ (v:=.agg #[I_ 4,I_ 0,I_ B,?A0]) (by simp[results,results12,go_sem,d,f,g,l]) rfl ⟨⟨⟨4,0,B,⟨#[]⟩⟩,rfl,zaL _ _ _ _ (by omega) (by omega) (by omega) (nZ_ _) (by first|(intro _;rfl)|(intro h;exact absurd h (by decide))) (by first|(intro _;rfl)|(intro h;exact absurd h (by decide))) (λ_=>rfl),nZ_ _,zey rfl,n9 rfl⟩,y.out _ _ _ _⟩
 .refine bP_ (v:=.agg #[I_ 5,I_ 0,I_ B,?A0]) (by simp[results,results12,go_sem,d,f,g,l]) rfl ⟨⟨⟨5,0,B,⟨#[]⟩⟩,rfl,zaL _ _ _ _ (by omega) (by omega) (by omega) (nZ_ _) (by first|(intro _;rfl)|(intro h;exact absurd h (by decide))) (by first|(intro _;rfl)|(intro h;exact absurd h (by decide))) (λ_=>rfl),nZ_ _,zey rfl,n9 rfl⟩,y.out _ _ _ _⟩
 .refine bP_ (v:=.agg #[I_ 6,I_ 0,I_ B,?A0]) (by simp[results,results12,go_sem,d,f,g,l]) rfl ⟨⟨⟨6,0,B,⟨#[]⟩⟩,rfl,zaL _ _ _ _ (by omega) (by omega) (by omega) (nZ_ _) (by first|(intro _;rfl)|(intro h;exact absurd h (by decide))) (by first|(intro _;rfl)|(intro h;exact absurd h (by decide))) (λ_=>rfl),nZ_ _,zey rfl,n9 rfl⟩,y.out _ _ _ _⟩
 .refine bP_ (v:=.agg #[I_ 7,I_ A,I_ C,?A0]) (by simp[results,results12,go_sem,d,f,g,l]) rfl ⟨⟨⟨7,A,C,⟨#[]⟩⟩,rfl,zaL _ _ _ _ (by omega) (by omega) (by omega) (nZ_ _) (by first|(intro _;rfl)|(intro h;exact absurd h (by decide))) (by first|(intro _;rfl)|(intro h;exact absurd h (by decide))) (λ_=>rfl),nZ_ _,zey rfl,n9 rfl⟩,y.out _ _ _ _⟩
 .refine bP_ (v:=.agg #[I_ 8,I_ A,I_ 0,?A0]) (by simp[results,results12,go_sem,d,f,g,l]) rfl ⟨⟨⟨8,A,0,⟨#[]⟩⟩,rfl,zaL _ _ _ _ (by omega) (by omega) (by omega) (nZ_ _) (by first|(intro _;rfl)|(intro h;exact absurd h (by decide))) (by first|(intro _;rfl)|(intro h;exact absurd h (by decide))) (λ_=>rfl),nZ_ _,zey rfl,n9 rfl⟩,y.out _ _ _ _⟩
 refine kO_ ?F0 ?_;exact Obj.cells #[.string t] 9
 .have aa:=zC D ?F0;have qS:=hN_ D ?F0;have ad:zf7 (D.alloc ?F0) (some (p_ D.heap.size 0)) 1 [t]:=⟨nR_ _,by decide,(λe=>by cases e),⟨.inr ⟨D.heap.size,0,rfl,λj hj=>by obtain rfl:j=0:=(by simpa using hj);exact zb qS 0 _ rfl⟩,λs U=>by obtain rfl:s=t:=(by simpa using U);exact ht⟩⟩;generalize D.alloc ?F0=W1 at aa qS ad|-;obtain⟨m0,m1⟩:=zW a 4 (by decide);obtain⟨m2,m3⟩:=zW b 4 (by decide);refine(zpk b a b a (some (p_ D.heap.size 0)) 1 [t] W1 F O F O ad).mono ?_;rintro e w1⟨m,E,bl,pl,cbl,cpl,vl,I,H,aj,al,Y,ac,af,ak,ag,-,-,-,-,ds,hd,Z,-,hU⟩;subst I;dsimp only;have ab:zP m (zD m E bl pl cbl cpl vl)=0:=by rw[zP,iN_ (by omega),iN_ (by simp[Y]),iP_ ac]
  have ai:Hid (zz2 (zai (zeL m E bl pl cbl cpl ds vl))):=⟨⟨m,E,bl,pl,cbl,cpl,ds,vl⟩,rfl,zyj (x:=⟨m,E,bl,pl,cbl,cpl,ds,vl⟩) ab hU,(by have h9:=(zi5 ⟨m,E,bl,pl,cbl,cpl,ds,vl⟩ [] ⟨H,hd,Z⟩ Y ac).1;rw[List.append_nil]at h9;exact h9),λh=>(ag h).2⟩;clear ag hU;have hE:=zlF m E bl pl cbl cpl ds vl w1 H hd Z;rw[ab]at hE;have h4:=zsz (ss:=E) (bl:=bl) (pl:=pl) (cbl:=cbl) (cpl:=cpl) (vl:=vl) Z Y;clear H hd Z Y ac ab ak aj al c0 c1 c2 c3 d f g l J L M N;go_wp2_with fail
  refine hE.mono ?_;rintro e w2⟨v,I,ho,G⟩;subst I;dsimp only;have ah:w2.ownsRow w1.heap.size 5 1 v (zeL m E bl pl cbl cpl ds vl).length (ub (zeL m E bl pl cbl cpl ds vl)):=ho;obtain⟨xa,xc,hv,-,am⟩:=zeG ah;subst hv;have ae:=aa.trans ((af.trans (G.mono af.size)).mono aa.size);have T:=zm R ae;have o:=zk ae z;have d:=zb o 0 (I_ 0) rfl;have f:=zb o 1 (I_ 0) rfl;have g:=zb o 2 (I_ 0) rfl;have l:=zb o 3 ?A0 rfl;have J:=zd o 0;have L:=zd o 1;have M:=zd o 2;have N:=zd o 3;clear ho ah hE;generalize zeL m E bl pl cbl cpl ds vl=X at*;have cv:=zd8 w2 xa X.length xc X rfl am;go_wp2_with fail
  exact bP_ (v:=.agg #[I_ 9,I_ A,I_ 0,.string (zai X)]) (by simp[results,results12,go_sem,d,f,g,l]) rfl ⟨⟨⟨9,A,0,zai X⟩,rfl,zaL _ _ _ _ (by omega) (by omega) (by omega) (by rw[zjb];omega) (λh=>absurd h (by decide)) (λ_=>rfl) (λh=>absurd h (by decide)),(show(zai X).size<=4000 by rw[zjb];omega),zey rfl,λ_=>ai.out⟩,(((T.setCell (by simp) _).setCell (by simp) _).setCell (by simp) _).setCell (by simp) _⟩
 .refine bP_ (v:=.agg #[I_ 10,I_ 0,I_ 0,?A0]) (by simp[results,results12,go_sem,d,f,g,l]) rfl ⟨⟨⟨10,0,0,⟨#[]⟩⟩,rfl,zaL _ _ _ _ (by omega) (by omega) (by omega) (nZ_ _) (by first|(intro _;rfl)|(intro h;exact absurd h (by decide))) (by first|(intro _;rfl)|(intro h;exact absurd h (by decide))) (λ_=>rfl),nZ_ _,zey rfl,n9 rfl⟩,y.out _ _ _ _⟩
 .refine bP_ (v:=.agg #[I_ 10,I_ 0,I_ 0,?A0]) (by simp[results,results12,go_sem,d,f,g,l]) rfl ⟨⟨⟨10,0,0,⟨#[]⟩⟩,rfl,zaL _ _ _ _ (by omega) (by omega) (by omega) (nZ_ _) (by first|(intro _;rfl)|(intro h;exact absurd h (by decide))) (by first|(intro _;rfl)|(intro h;exact absurd h (by decide))) (λ_=>rfl),nZ_ _,zey rfl,n9 rfl⟩,y.out _ _ _ _⟩
 refine bP_ (v:=.agg #[I_ 10,I_ 0,I_ 0,?A0]) (by simp[results,results12,go_sem,d,f,g,l]) rfl ⟨⟨⟨10,0,0,⟨#[]⟩⟩,rfl,zaL _ _ _ _ (by omega) (by omega) (by omega) (nZ_ _) (by first|(intro _;rfl)|(intro h;exact absurd h (by decide))) (by first|(intro _;rfl)|(intro h;exact absurd h (by decide))) (λ_=>rfl),nZ_ _,zey rfl,n9 rfl⟩,y.out _ _ _ _⟩
open Go.ChangeShapes Go.WideShapes Go.ChangeAt Go.Deep
variable {w' W:World}{sa:Q_}{fuel:Nat}
structure Ft where
 k:Int
 a:Int
 b:Int
 t:ByteArray
structure zfn (w:World)(sa:Q_)(rs:List Ft):Prop where
 cells:rs=[]\/∃sb so,sa=some (p_ sb so)/\∀j (h:j<rs.length),w.cell? (p_ sb (so+j*4))=some (I_ (rs[j]).k)/\w.cell? (p_ sb (so+j*4+1))=some (I_ (rs[j]).a)/\w.cell? (p_ sb (so+j*4+2))=some (I_ (rs[j]).b)/\w.cell? (p_ sb (so+j*4+3))=some (.string (rs[j]).t)
 each:∀r∈rs,I64 r.k/\I64 r.a/\I64 r.b/\r.t.size<=maxLen
 small:rs.length<=3000000000000000000
theorem zfn.below {rs:List Ft}(h:zfn w sa rs)(d:B_ w w'):zfn w' sa rs:=by
 refine⟨?_,h.each,h.small⟩;rcases h.cells with h|⟨b,c,rfl,q⟩;exact .inl h;refine .inr ⟨b,c,rfl,λj r=>?_⟩;obtain⟨g,l,m,o⟩:=q j r;have f:b<w.heap.size:=block_lt_of_cell g;exact⟨(d.cell (p:=p_ b (c+j*4)) f).trans g,(d.cell (p:=p_ b (c+j*4+1)) f).trans l,(d.cell (p:=p_ b (c+j*4+2)) f).trans m,(d.cell (p:=p_ b (c+j*4+3)) f).trans o⟩
theorem cFt:prog.cellsOf 50=4:=by kernel_rfl
theorem zzn:prog.cellsOf 3=1:=by kernel_rfl
theorem zzo:prog.cellsOf 9=1:=by kernel_rfl
theorem zl7 {H:Type}{p:TypeId×Value->H}{cs:List Value}{x:DataW H×List MemPlace}
  (z:DataW.trod p prog W 0 (λ_=>true) true fuel 50 cs=some x) :
  ∃r:Ft,cs=[I_ r.k,I_ r.a,I_ r.b,.string r.t]/\I64 r.k/\I64 r.a/\I64 r.b/\r.t.size<=maxLen:=by
 obtain⟨D,n,_,rfl,j,A,b⟩:=DataW.trod_struct underlying50 z;rw[cFt]at j
 match D,A with
 | [y0,y1,y2,y3],_=>
 have q:=b 0 _ rfl;have t:=b 1 _ rfl;have u:=b 2 _ rfl;have y:=b 3 _ rfl
 match cs,j with
 | [c0,c1,c2,c3],_=>
 obtain⟨l,c,rfl,w0⟩:=DataW.trod_int underlying3 q;obtain⟨m,d,rfl,B⟩:=DataW.trod_int underlying3 t;obtain⟨o,f,rfl,w2⟩:=DataW.trod_int underlying3 u;obtain⟨s,g,rfl,C⟩:=DataW.trod_string underlying9 y;simp[zzn,zzo]at c d f g;subst c d f g;exact⟨⟨l,m,o,s⟩,rfl,bounds_i64 w0,bounds_i64 B,bounds_i64 w2,C⟩
theorem bFt:prog.bytesOf 50=40:=by kernel_rfl
theorem open_gears {H:Type}{N:TypeId×Value->H}{v:Value}{d:DataW H}{p:List MemPlace}
  (Z:Value.okWide prog W .any base 22 v) (h:DataW.Trod N prog W 0 (λ_=>true) true 22 v d p) (V:∀n∈d.weights prog 22,n<=reachBytes) :
  ∃L z rs,v=.slice L (List.length rs) z/\zfn W L rs/\rs.length<=z:=by
 obtain⟨a0,c,aa,rfl⟩:=okWide_slice underlying22 Z;obtain⟨ac,U⟩:=h;rcases open_slice underlying22 U with⟨q,_⟩|⟨a,ad,z,m,n,D,Pl,q,_,Y,hm,G,E,J⟩
 all_goals
  simp[Value.cells]at q;obtain⟨rfl,rfl,rfl⟩:=q
 exact⟨none,0,[],rfl,⟨.inl rfl,(λp y=>by cases y),by decide⟩,nR_ _⟩;simp only[Prod.mk.injEq]at E;obtain⟨rfl,rfl⟩:=E;simp only[if_true]at G;subst G;rw[cFt]at J;have I:=V ((((List.range c).map D).length+((List.range (m-c)).map λj=>D (c+j)).length)*prog.bytesOf 50) (by simp[DataW.weights,underlying22]);rw[bFt]at I;simp[reachBytes]at I;have M:∀i,i<c->∃r:Ft,(W.cell? (a.add (i*4))=some (I_ r.k)/\W.cell? (a.add (i*4+1))=some (I_ r.a)/\W.cell? (a.add (i*4+2))=some (I_ r.b)/\W.cell? (a.add (i*4+3))=some (.string r.t))/\(I64 r.k/\I64 r.a/\I64 r.b/\r.t.size<=maxLen):=λi F=>by
  obtain⟨ab,O,R⟩:=J i (by omega);obtain⟨r,rfl,ii⟩:=zl7 R;obtain⟨_,_,u⟩:=World.cells?_some O;have f:=u 0 (by omega);have g:=u 1 (by omega);have l:=u 2 (by omega);have o:=u 3 (by omega);rw[add_add]at f g l o;exact⟨r,⟨by simpa using f,by simpa using g,by simpa using l,by simpa using o⟩,ii⟩
 obtain⟨P,B⟩:=@choose_lt Ft ⟨⟨0,0,0,ByteArray.empty⟩⟩ c _ M;have T:0<c->∃b t,a=(p_ b t):=λF=>by
  have A:=(B 0 F).1.1;cases a with
  | mk b t spot=>
   cases spot with
   | none=>exact⟨b,t,rfl⟩
   | some s=>simp[World.cell?,Addr.add]at A;split at A<;>cases A
 refine⟨some a,m,(List.range c).map P,by simp,⟨?_,?_,by simp;omega⟩,by simpa using Y⟩;rcases Nat.eq_zero_or_pos c with h0|h0;subst h0;exact .inl rfl
 right
 obtain⟨b,t,rfl⟩:=T h0;refine⟨b,t,rfl,λj C=>?_⟩;have X:j<c:=by simpa using C
 obtain⟨f,g,l,o⟩:=(B j X).1;rw[zaP]at f g l o;simp only[List.getElem_map,List.getElem_range];exact⟨f,by rw[Nat.add_assoc];exact g,by rw[Nat.add_assoc];exact l,by rw[Nat.add_assoc];exact o⟩;intro p y
 simp at y
 obtain⟨j,C,rfl⟩:=y;exact(B j C).2
theorem zA6 (rs:List Ft)(F:Q_)(n N:Nat)(M:Nat)(w:World)(U:n=rs.length)(o:zfn w F rs)(hM:M<=1000) :
  Calls prog 7 #[.slice F n N,I_ (M:Int)] w λe w'=>∃(v:Value) (l:List AV),e=.returned v/\w'.ownsRow w.heap.size 29 4 v l.length (avs l)/\(∀a∈l,(a.e=0/\a.t.size<=4000)/\(a.k=1->a.t.size=3)/\(a.k=9->zz2 a.t))/\l.length<=M/\B_ w w':=by
 subst U;have ae:=o.small;go_in;go_wp2_with fail
 go_loopw [6,5] (λj v wr=>∃(k:Nat) (l:List AV),k<=rs.length/\k<=M/\j=I_ k/\Hid (l.length=k)/\B_ w wr/\wr.ownsRow w.heap.size 29 4 v k (avs l)/\Hid (∀a∈l,(a.e=0/\a.t.size<=4000)/\(a.k=1->a.t.size=3)/\(a.k=9->zz2 a.t))) (λj _ _=>rs.length-(intOf j).toNat)
 case atStart=>exact⟨0,[],nZ_ _,nZ_ _,rfl,rfl,bR_ _ _,oN_ _ _ _ _,by show ∀_,_;simp⟩
 case round=>
  obtain⟨k,l,hk,ab,rfl,f,d,m,r⟩:=hrel;by_cases b:k<rs.length/\k<M
  .obtain⟨b,ac⟩:=b;have z:(k:Int)<rs.length:=by omega
   have ad:(k:Int)<M:=by omega
   rcases(o.below d).cells with p|⟨sb,so,X,p⟩;subst p;simp at b;subst X;obtain⟨H,I,J,L⟩:=p k b;obtain⟨Z,j2,j3,j4⟩:=o.each (rs[k]) (gM_ b);have aa:Hid _:=o;clear p;have u:=zsA (rs[k]).k (rs[k]).a (rs[k]).b (rs[k]).t wr Z j2 j3 j4;generalize (rs[k]).k=fk at*;generalize (rs[k]).a=fa at*;generalize (rs[k]).b=fb' at*;generalize (rs[k]).t=ft at*;go_wp2_with fail
   refine u.mono ?_;rintro e s⟨⟨x,O,D,E,B,C⟩,hb1⟩;subst O;dsimp only;clear u H I J L;have A:=zw m hb1;have c:=zm d hb1;have af:∀q,u5.ownBlock=some q->q<s.heap.size:=λq e=>(A.lt q e).2;have G:Hid ((x.e=0/\x.t.size<=4000)/\(x.k=1->x.t.size=3)/\(x.k=9->zz2 x.t)):=⟨⟨D,E⟩,B,C⟩;clear D E B C;have q1:((s.alloc (.cells #[I_ x.k,I_ x.n,I_ x.p,.string x.t] 29)).alloc (.cells #[I_ x.k,I_ x.n,I_ x.p,.string x.t] 29)).heap[s.heap.size+1]? = some (.cells x.cs.toArray 29 (0,0)):=zco _ _ _ (by simp);go_wp2_with (at_builtin;refine zkz rfl _ _ rfl w.heap.size _ k l rfl ((A.alloc _).alloc _) (s.heap.size+1) x rfl q1 (by omega) (by have:=c.size;simp;omega) ?_)
   intro v' w2 V T;go_wp2_with fail
   go_roundw
   case rel=>
    refine⟨k+1,l++[x],by omega,by omega,by go_num,by show _=_;rw[lP_,f.out];rfl,c.trans ?_,V,?_⟩;exact(((bR_ _ _).alloc c.size _).alloc (by have:=c.size;simp;omega) _).trans (T.below (by have:=c.size;simp;omega) (λq e=>(m.lt q e).1));show ∀_,_;intro y Y;rcases mA_.1 Y with g|g;exact r.out y g
    simp at g;subst g;exact G.out
   case measure=>simp[intOf];omega
  have R:k=rs.length\/k=M:=by omega
  have t:Hid (l.length<=M):=by show _<=_;rw[f.out];omega
  rcases R with h|h
  .have z:¬(k:Int)<rs.length:=by omega
   clear h b;go_wp2_with fail
   go_ret;exact⟨_,rfl,l,by rw[f.out];exact m,r.out,t.out,d⟩
  have z:¬(k:Int)<M:=by omega
  by_cases h2:(k:Int)<rs.length
  all_goals
   clear h b;go_wp2_with fail
   go_ret;exact⟨_,rfl,l,by rw[f.out];exact m,r.out,t.out,d⟩
def zdU:List AV->Int
 | []=>0
 | a::l=>if a.e=0 then zdU l else a.e
variable {U U':Nat->Bool}{F:Nat}{fc:X_}{m:FM}
theorem zqy (r:Int)(Z:-1<=r/\r<=3)(l:List AV)(H:Q_)(n I:Nat)(w:World)(M:n=l.length)(T:l.length<=3000)(y:zbq w H l)(z:zcw w) :
  Calls prog 19 #[I_ r,.slice H n I] w λe w'=>e=.returned (I_ (zdU l))/\B_ w w':=by
 subst M;have U:¬(3000:Int)<l.length:=by omega
 by_cases hn1:r=-1;subst hn1
 rotate_left
 have V:(r != -1)=true:=by simp[hn1]
 have A:¬r<0:=by omega
 have X:¬r>=4:=by omega
 have Y:r<4:=by omega
 rotate_left
 all_goals
  go_in;go_wp2_with fail
  go_loopw [23] (λj wr=>∃k:Nat,k<=l.length/\j=I_ k/\Hid (zdU l=zdU (l.drop k))/\B_ w wr) (λj _=>l.length-(intOf j).toNat)
  case atStart=>exact⟨0,nZ_ _,rfl,rfl,bR_ _ _⟩
  case round=>
   obtain⟨k,L,rfl,g,b⟩:=hrel;by_cases hlt:k<l.length
   .have D:(k:Int)<l.length:=by omega
    rcases(y.below b).cells with c|⟨N,O,E,c⟩
    .subst c;simp at hlt
    subst E;obtain⟨m,o,p,q⟩:=c k hlt;have u:l.getD k .z=l[k]:=by simp[List.getD,hlt]
    have d:Hid (zdU l=if(l[k]).e=0 then zdU (l.drop (k+1))else(l[k]).e):=by
     show _=_;rw[g.out,List.drop_eq_getElem_cons hlt,zdU]
    have F:=y.text (l[k]) (gM_ hlt);rw[u]at m o p q;clear c u g;generalize l[k]=x at*;have f:=zj8 x.k x.n x.p x.t ((wr.alloc (.cells #[I_ x.k,I_ x.n,I_ x.p,.string x.t] 29))) F (z.below (b.alloc b.size _) z.lt);have t:zeS x.k x.n x.p x.t.size=x.e:=rfl;rw[t]at f;have B:B_ w (wr.alloc (.cells #[I_ x.k,I_ x.n,I_ x.p,.string x.t] 29)):=b.alloc b.size _;clear t;go_wp2_with fail
    refine f.mono ?_;rintro _ R⟨rfl,A⟩;dsimp only;clear f m o p q;have s:=zm B A;by_cases h0:x.e=0
    .rw[iP_ h0]at d;rw[h0];clear h0;go_wp2_with fail
     go_roundw
     case rel=>exact⟨k+1,by omega,by go_num,d,s⟩
     case measure=>simp[intOf];omega
    .rw[iN_ h0]at d;have J:(x.e != 0)=true:=by simp[h0]
     clear h0;go_wp2_with fail
     go_ret;exact⟨by rw[d.out];rfl,s⟩
   .obtain rfl:k=l.length:=by omega
    have D:¬(l.length:Int)<l.length:=by omega
    have G:Hid (zdU l=0):=by show _=_;rw[g.out,List.drop_length];rfl
    go_wp2_with fail
    go_ret;exact⟨by rw[G.out];rfl,b⟩
def AV.ac (a:AV):Ac:=⟨a.k,a.n,a.p,a.t⟩
theorem zuJ (l:List AV)(h:∀a∈l,a.e=0):zdU l=0:=by
 induction l with
 | nil=>rfl
 | cons a l ih=>rw[zdU,iP_ (h a (List.mem_cons_self ..))];exact ih λb c=>h b (mC_ _ c)
theorem zn3 {a:AV}(h:a.e=0):(1<=a.k/\a.k<=10)/\(0<=a.n/\a.n<4)/\(0<=a.p/\a.p<=400000)/\a.t.size<=4000:=by
 unfold AV.e zeS at h
 split at h
 omega
 split at h
 omega
 split at h
 omega
 split at h
 omega;omega
theorem zxH (f:Fl)(i:Int):(f.sync i).no.sg.length<=f.no.sg.length+(f.node i).wai.length:=zra _ _
theorem zmI (f:Fl)(i:Int)(m:MC):(f.come i m).no=f.no:=by unfold Fl.come;split<;>rfl
theorem zwn (l:List MC)(f:Fl):(l.foldl (λg m=>g.come m.tt m) f).no=f.no:=by
 induction l generalizing f with
 | nil=>rfl
 | cons m l ih=>exact(ih _).trans (zmI _ _ _)
theorem zyM (f:Fl)(k i p:Int)(t:ByteArray):(f.act k i p t).no.sg.length<=f.no.sg.length+(f.node i).wai.length:=by
 unfold Fl.act
 split
 .unfold Fl.pick
  repeat' split
  all_goals first|(rw[zmI];exact Nat.le_add_right _ _)|exact Nat.le_add_right _ _
 split
 unfold Fl.flow;rw[zwn];exact Nat.le_add_right _ _
 split
 .unfold Fl.submit
  repeat' split
  all_goals exact Nat.le_add_right _ _
 split
 .unfold Fl.forge
  repeat' split
  all_goals first|(rw[zmI];exact Nat.le_add_right _ _)|exact Nat.le_add_right _ _
 split
 unfold Fl.start
 split<;>exact Nat.le_add_right _ _
 split
 split
 split
 exact Nat.le_add_right _ _
 split
 exact zxH f i;exact Nat.le_add_right _ _;exact Nat.le_add_right _ _;exact Nat.le_add_right _ _
theorem zgj (l:List Sg):(zA l).length=l.length:=by simp[zA]
theorem FTo.low (h:FTo U U' w w')(c:∀b,b<n->U b=false)(f:n<=w.heap.size):Below n w w':=
 ⟨h.os,h.tape,h.output,h.size,λb d=>h.block b (by omega) (c b d)⟩
theorem zwo (f:Fl)(l:List AV)(k:Nat)(b:k<l.length):f.run ((l.take (k+1)).map AV.ac)=(f.run ((l.take k).map AV.ac)).act (l[k]).k (l[k]).n (l[k]).p (l[k]).t:=by
 rw[tS_ b,List.map_append,Fl.run_append]
 rfl
theorem zjc (h:zJ w U F fc m)(i:Nat)(b:i<4):zbV (m.v.view i).cs=0:=by
 unfold Fl.view
 split
 rfl
 rw[m.node_v i b];exact(h.nd i b).inv.dag
theorem zzp {o:Om}(b:o.v=m.v.told)(h:zJ w U F fc m):zwk o:=by
 intro v c;simp only[List.mem_cons,List.not_mem_nil,or_false]at c;rcases c with e|e|e|e<;>subst e;have:=cA_ (λx:Ou=>x.v0.cs) b;exact(cA_ zbV this).trans (zjc h 0 (by decide));have:=cA_ (λx:Ou=>x.v1.cs) b;exact(cA_ zbV this).trans (zjc h 1 (by decide));have:=cA_ (λx:Ou=>x.v2.cs) b;exact(cA_ zbV this).trans (zjc h 2 (by decide));have:=cA_ (λx:Ou=>x.v3.cs) b;exact(cA_ zbV this).trans (zjc h 3 (by decide))
structure zlk (v:Vw):Prop where
 dag:zbV v.cs=0
 du8:∀c∈v.cs,∀b∈c.bl++c.pl,∀x∈b,0<=x/\x<=255
 sh:v.bs.length<=800
 shf:∀b∈v.bs,b.f=0
 tab:v.vt.length<=400000
 u8t:∀s∈v.vt,zaN s.2.2
 txs:∃nx,zaO nx v.tx=0
theorem zkt (h:zJ w U F fc m)(i:Nat)(d:i<4):zlk (m.v.view i):=by
 unfold Fl.view
 split
 exact⟨rfl,(λc b=>by cases b),nZ_ _,(λc b=>by cases b),nZ_ _,(λc b=>by cases b),1,rfl⟩;rw[m.node_v i d];have k:=(h.nd i d).inv;exact⟨k.dag,k.du8,k.sh,k.shf,k.tab,k.u8t,_,k.pool⟩
structure zjd (o:Om):Prop where
 v0:zlk o.y0.v
 v1:zlk o.y1.v
 v2:zlk o.y2.v
 v3:zlk o.y3.v
 gs:o.gs.length<=1200000
 aw:o.aw<=400
 cs:o.cs.length<=3000
theorem zxI {o:Om}(b:o.v=m.v.told)(h:zJ w U F fc m)(r:m.gs.length<=1200000)(q:m.cs.length<=3000):zjd o:=by
 have c:=cA_ (λx:Ou=>x.v0) b;have d:=cA_ (λx:Ou=>x.v1) b;have f:=cA_ (λx:Ou=>x.v2) b;have g:=cA_ (λx:Ou=>x.v3) b;have j:=cA_ (λx:Ou=>x.sg.length) b;have l:=cA_ (λx:Ou=>x.aw) b;have p:=cA_ (λx:Ou=>x.cs.length) b;have c:o.y0.v=m.v.view ((0:Nat):Int):=c;have d:o.y1.v=m.v.view ((1:Nat):Int):=d;have f:o.y2.v=m.v.view ((2:Nat):Int):=f;have g:o.y3.v=m.v.view ((3:Nat):Int):=g;have j:(zA o.gs).length=(zA m.gs).length:=j;have l:o.aw=(m.aw.map MV.c).length:=l;have p:o.cs.length=m.cs.length:=p;rw[zgj,zgj]at j;rw[List.length_map]at l;have:=h.law;refine⟨by rw[c];exact zkt h 0 (by decide),by rw[d];exact zkt h 1 (by decide),by rw[f];exact zkt h 2 (by decide),by rw[g];exact zkt h 3 (by decide),by omega,by omega,by omega⟩
theorem zxJ (av:zhO)(r:Int)(hr:-1<=r/\r<=3)(l:List AV)(sa:Q_)(n ae:Nat)(w:World)(hn:n=l.length)(h3:l.length<=3000)(hA:zbq w sa l)(Y:∀a∈l,a.e=0)(Z:zcw w)(hT:za2 w) :
  Calls prog 13 #[I_ r,.slice sa n ae] w λe w'=>∃o:Om,e=.returned (.tuple #[.agg o.cells.toArray,I_ 0])/\zex w' o/\o.v=((Fl.z r).run (l.map AV.ac)).told/\zjd o/\B_ w w':=by
 subst hn;have u:=zC w (.cells #[O_,O_,I_ 0,O_] 34);have q0:=hN_ w (.cells #[O_,O_,I_ 0,O_] 34);have C:=zqy r hr l sa _ ae _ rfl h3 (hA.below u) (Z.below u Z.lt);rw[zuJ l Y]at C;go_in;go_wp2_with fail
 generalize w.alloc (.cells #[O_,O_,I_ 0,O_] 34)=W0 at u q0 C|-;refine C.mono ?_;rintro _ w1⟨rfl,aa⟩;dsimp only;clear C;have X:=zm u aa;have q1:=zk aa q0;have HB:=zst r hr w1 (hT.below X);go_wp2_with fail
 refine HB.mono ?_;rintro e w2⟨F,U,fc,m,d,hF,I,ai,_,ab⟩;subst d;dsimp only;clear HB;have ag:=zm X ab;have q2:=zk ab q1;have ap:Hid (m.v=(Fl.z r).run ((l.take 0).map AV.ac)):=by show _=_;rw[I];rfl
 have am:Hid (m.gs.length<=400*0/\m.cs.length<=0):=by
  show _/\_;have e1:m.gs.length=0:=(zgj m.gs).symm.trans (cA_ (λf=>f.no.sg.length) I);have s:m.cs.length=0:=cA_ (λf=>f.codes.length) I;omega
 have HE:Hid (∀a∈l,a.e=0):=Y;have ad:Hid (∀b,b<w1.heap.size->U b=false):=ai;have aw:=ze q1;clear I ai Y q0 q1 u aa Z hT;go_wp2_with fail
 go_loopw [21] (λj wr=>∃(k:Nat) (q:Nat->Bool) (A:X_) (c:FM),k<=l.length/\j=I_ k/\zJ wr q F A c/\FTo U q w2 wr/\Hid (c.v=(Fl.z r).run ((l.take k).map AV.ac))/\Hid (c.gs.length<=400*k/\c.cs.length<=k)) (λj _=>l.length-(intOf j).toNat)
 case atStart=>exact⟨0,U,fc,m,nZ_ _,rfl,hF,FTo.refl _ _,ap,am⟩
 case round=>
  obtain⟨k,q,A,c,hk,rfl,t,n1,ac,y⟩:=hrel;have E:=ag.trans (n1.low (n:=w.heap.size) (λb hb=>ad.out b (by have:=X.size;omega)) ag.size);by_cases hlt:k<l.length
  .have ax:(k:Int)<l.length:=by omega
   rcases(hA.below E).cells with G|⟨sb,so,az,G⟩;subst G;simp at hlt;subst az;obtain⟨c0,c1,c2,c3⟩:=G k hlt;have ah:l.getD k .z=l[k]:=by simp[List.getD,hlt]
   have M:Hid _:=zwo (Fl.z r) l k hlt;rw[<-ac.out]at M;have ay:=zn3 (HE.out (l[k]) (gM_ hlt));rw[ah]at c0 c1 c2 c3;clear G ah ac;generalize l[k]=x at*;obtain⟨aj,aA,aB,ak⟩:=ay;refine kO_ ?A0 ?_;exact Obj.cells #[I_ x.k,I_ x.n,I_ x.p,.string x.t] 29;have V:=zC wr ?A0;have g:=hN_ wr ?A0;go_upto_region 8 with fail
   generalize wr.alloc ?A0=W3 at V g|-;have af:=t.below V;generalize wr.heap.size=B at g|-;have N:=zb g 0 (I_ x.k) rfl;have O:=zb g 1 (I_ x.n) rfl;have R:=zb g 2 (I_ x.p) rfl;have T:=zb g 3 (.string x.t) rfl;obtain⟨i,hi⟩:∃i:Nat,x.n=i:=⟨x.n.toNat,by omega⟩;obtain⟨p,hp⟩:∃p:Nat,x.p=p:=⟨x.p.toNat,by omega⟩;have L:=zxB av c x.k aj i (by omega) p (by omega) x.t ak W3 q F A af (by have:=y.out.1;omega) (by have:=y.out.2;omega);rw[<-hi,<-hp]at L;have HW:Hid ((c.v.node x.n).wai.length<=400):=by
    show _<=_;rw[hi,c.node_v i (by omega)];exact(t.nd i (by omega)).inv.wai
   clear c0 c1 c2 c3 g aj aA aB ak hi hp af;go_wp2_with fail
   refine L.mono ?_;rintro e w4⟨⟨v,d⟩,U4,fc4,m4,h4,n4,v4⟩;subst d;dsimp only;clear L N O R T;have aC:=(n1.trans (FTo.below q V)).trans n4;have aq:Hid (m4.v=(Fl.z r).run ((l.take (k+1)).map AV.ac)):=by show _=_;rw[M.out];exact v4
   have an:Hid (m4.gs.length<=400*(k+1)/\m4.cs.length<=k+1):=by
    show _/\_;have e1:=zyM c.v x.k x.n x.p x.t;have s:=zrO c.v ⟨x.k,x.n,x.p,x.t⟩;have e3:=HW.out;have e4:=y.out;unfold Fl.does at s;dsimp only at s;rw[<-v4]at e1 s;have e5:m4.v.no.sg.length=m4.gs.length:=zgj _;have e6:c.v.no.sg.length=c.gs.length:=zgj _;have e7:m4.v.codes=m4.cs:=rfl;have e8:c.v.codes=c.cs:=rfl;rw[e7,e8]at s
    split at s<;>omega
   clear v4 M HW;go_wp2_with fail
   go_roundw
   case rel=>exact⟨k+1,U4,fc4,m4,by omega,by go_num,h4,aC,aq,an⟩
   case measure=>simp[intOf];omega
  obtain rfl:k=l.length:=by omega
  have ax:¬(l.length:Int)<l.length:=by omega
  have qr:=((n1.low (n:=w1.heap.size) ad.out ab.size).block _ aw).trans q2;have HO:=zwi c wr q F A t;go_wp2_with fail
  refine HO.mono ?_;rintro e w5⟨o,d,ho,H,D⟩;refine kA_ ?B0 ?_;exact(#[.slice o.na 4 o.nc,.slice o.ga o.gs.length o.gc,I_ o.aw,.slice o.ca o.cs.length o.cc]:X_);have d:e=.returned (.agg ?B0):=d;subst d;dsimp only;clear HO;have J:=zk D qr;have al:Hid (zex (w5.setRow w.heap.size ?B0) o):=zex.put ho (zzp H t) J;have au:=(Upd.setRow (cs:=?B0) J).below (E.trans (D.mono E.size)) (nT_ E.size D.size) (nR_ _);have z:=sH_ w5 w.heap.size _ ?B0 _ _ J;have N:=zb z 0 _ rfl;have O:=zb z 1 _ rfl;have R:=zb z 2 _ rfl;have T:=zb z 3 _ rfl;have ar:Hid (o.v=((Fl.z r).run (l.map AV.ac)).told):=by
   show _=_;rw[H,ac.out,List.take_length]
  have ao:Hid (zjd o):=zxI H t (by have:=y.out.1;omega) (by have:=y.out.2;omega);clear ho H D z;go_wp2_with (refine wS_ rfl 34 _ _ rfl w.heap.size ?B0 rfl rfl 34 _ J zli rfl (by simp[Value.oneCell']) ?_)
  exact bP_ (v:=.tuple #[.agg ?B0,I_ 0]) (by simp[results,results13,go_sem,N,O,R,T]) rfl ⟨o,rfl,al.out,ar.out,ao.out,au⟩
def cI (x y:Int):Int:=if x<y then -1 else if y<x then 1 else 0
structure Lin {α:Type}(c:α->α->Int):Prop where
 refl:∀x,c x x=0
 eq:∀x y,c x y=0->x=y
 neg:∀x y,c x y<0->0<c y x
 pos:∀x y,0<c x y->c y x<0
 trans:∀x y z,c x y<0->c y z<0->c x z<0
theorem zwN {x y:Int}(h:x<y):cI x y=-1:=by simp[cI,h]
theorem zwO {x y:Int}(h:y<x):cI x y=1:=by
 have b:¬x<y:=by omega
 simp[cI,h,b]
theorem zsB (x:Int):cI x x=0:=by simp[cI]
theorem zgn (x y:Int):(x<y/\cI x y=-1)\/(y<x/\cI x y=1)\/(x=y/\cI x y=0):=by
 rcases Int.lt_trichotomy x y with h|h|h;exact .inl ⟨h,zwN h⟩;subst h;exact .inr (.inr ⟨rfl,zsB _⟩);exact .inr (.inl ⟨h,zwO h⟩)
theorem zuK:Lin cI:=by
 refine⟨λx=>zsB x,λx y h=>?_,λx y h=>?_,λx y h=>?_,λx y z b c=>?_⟩;rcases zgn x y with g|g|g<;>omega;rcases zgn x y with g|g|g<;>rcases zgn y x with k|k|k<;>omega;rcases zgn x y with g|g|g<;>rcases zgn y x with k|k|k<;>omega;rcases zgn x y with g|g|g<;>rcases zgn y z with k|k|k<;>rcases zgn x z with l|l|l<;>omega
def zj9 {α β:Type}(c:α->α->Int)(d:β->β->Int)(x y:α×β):Int:=if c x.1 y.1≠0 then c x.1 y.1 else d x.2 y.2
theorem zxK {α β:Type}{c:α->α->Int}{d:β->β->Int}(b:Lin c)(l:Lin d):Lin (zj9 c d):=by
 refine⟨λx=>?_,λx y h=>?_,λx y h=>?_,λx y h=>?_,λx y z j f=>?_⟩;simp[zj9,b.refl,l.refl];unfold zj9 at h
 split at h
 contradiction
 rename_i g
 have g:c x.1 y.1=0:=by simpa using g
 exact Prod.ext (b.eq _ _ g) (l.eq _ _ h);unfold zj9 at h|-
 split at h
 have:=b.neg _ _ h;rw[iP_ (by omega)];exact this
 rename_i g
 have g:c x.1 y.1=0:=by simpa using g
 have e:=b.eq _ _ g;rw[e,iN_ (by simp[b.refl])];exact l.neg _ _ h;unfold zj9 at h|-
 split at h
 have:=b.pos _ _ h;rw[iP_ (by omega)];exact this
 rename_i g
 have g:c x.1 y.1=0:=by simpa using g
 have e:=b.eq _ _ g;rw[e,iN_ (by simp[b.refl])];exact l.pos _ _ h;unfold zj9 at j f|-;by_cases g1:c x.1 y.1=0;have e:=b.eq _ _ g1;rw[iN_ (by simpa using g1)]at j;rw[e];by_cases g2:c y.1 z.1=0;rw[iN_ (by simpa using g2)]at f|-;exact l.trans _ _ _ j f;rw[iP_ g2]at f|-;exact f;rw[iP_ g1]at j;by_cases g2:c y.1 z.1=0;have e:=b.eq _ _ g2;rw[<-e,iP_ g1];exact j;rw[iP_ g2]at f;have:=b.trans _ _ _ j f;rw[iP_ (by omega)];exact this
theorem Lin.swo {α β:Type}{c:α->α->Int}(h:Lin c)(k:β->α):Go.Sort.SWO (Go.Proofs.ltOf λx y:β=>c (k x) (k y)):=by
 refine⟨λx=>?_,λx y z d f=>?_,λx y z d f=>?_⟩;simp[Go.Proofs.ltOf,h.refl];simp only[Go.Proofs.ltOf,dE_]at*;exact h.trans _ _ _ d f;simp only[Go.Proofs.ltOf,decide_eq_false_iff_not]at*;intro j;rcases Int.lt_trichotomy (c (k x) (k y)) 0 with g|g|g;exact d g;rw[h.eq _ _ g]at j;exact f j;rcases Int.lt_trichotomy (c (k y) (k z)) 0 with g2|g2|g2;exact f g2;rw[<-h.eq _ _ g2]at j;exact d j;have a:=h.trans _ _ _ (h.pos _ _ g2) (h.pos _ _ g);have b:=h.neg _ _ a;omega
def orF:L_->Int
 | []=>0
 | x::r=>if x≠0 then x else orF r
def zeh (x y:Int×Int):Int:=zj9 cI cI x y
theorem zuL:Lin zeh:=zxK zuK zuK
theorem zpo (a b c d:Int):zeh (a,b) (c,d)=orF [cI a c,cI b d]:=by
 simp only[zeh,zj9,orF];by_cases h0:cI a c=0;by_cases h1:cI b d=0<;>simp[h0,h1];simp[h0]
theorem zka (x:Int)(w:World):Calls prog 219 #[I_ x] w λe w'=>e=.returned (.bool false)/\w=w':=by
 go_in
 go_wp2
 go_ret;exact⟨by simp,rfl⟩
theorem ziu (x y:Int)(w:World):Calls prog 191 #[I_ x,I_ y] w λe w'=>e=.returned (I_ (cI x y))/\w=w':=by
 rcases Int.lt_trichotomy x y with h|h|h;have b:Hid (cI x y=-1):=zwN h
 rotate_left
 subst h;have b:Hid (cI x x=0):=zsB x
 rotate_left
 have b:Hid (cI x y=1):=zwO h;have c:¬x<y:=by omega
 rotate_left
 all_goals
  go_in;go_wp2_with (go_at_call 219;refine(zka _ _).mono ?_;rintro e w'⟨rfl,rfl⟩)
  go_ret;exact⟨zt b.out.symm,rfl⟩
def Gr (w w':World):Prop:=∃q os,w'=Go.Sort.grow (w.drewN q) os
theorem Gr.refl (w:World):Gr w w:=⟨0,#[],by simp[Go.Sort.grow,World.drewN]⟩
theorem Gr.trans {a b c:World}(h:Gr a b)(k:Gr b c):Gr a c:=by
 obtain⟨q,os,rfl⟩:=h;obtain⟨f,d,rfl⟩:=k;exact⟨q+f,os++d,by simp[Go.Sort.grow,World.drewN,Array.append_assoc,Nat.add_assoc]⟩
theorem Gr.alloc {a b:World}(h:Gr a b)(o:Obj):Gr a (b.alloc o):=h.trans ⟨0,#[o],by rw[Go.Sort.alloc_eq_grow];rfl⟩
theorem Gr.drew {a b:World}(h:Gr a b):Gr a b.drew:=h.trans ⟨1,#[],by unfold Go.Sort.grow;rw[Array.append_empty];rfl⟩
theorem zuM (l:L_)(g o q:Nat)(w:World)(s:l.length<=1000)(h:∀j (h:j<l.length),C_ w g (o+j) (I_ (l[j]))) :
  Calls prog 190 #[.slice (some (p_ g o)) l.length q] w λe w'=>e=.returned (I_ (orF l))/\w=w':=by
 have p:Hid (∀j (h:j<l.length),C_ w g (o+j) (I_ (l[j]))):=h;clear h;go_in;go_wp2_with fail
 go_loop [8] (λi=>∃m:Nat,m<=l.length/\i=I_ m/\orF l=orF (l.drop m)) (λi=>l.length-(intOf i).toNat)
 case atStart=>exact⟨0,nZ_ _,rfl,rfl⟩
 case round=>
  obtain⟨m,u,rfl,f⟩:=hrel;by_cases hlt:m<l.length
  .have r:=p.out m hlt;have d:Hid (l.drop m=l[m]::l.drop (m+1)):=List.drop_eq_getElem_cons hlt;have c:Hid (orF l=orF (l.drop m)):=f;clear f;have t:(m:Int)<l.length:=by omega
   generalize l[m]=x at*;by_cases hx:x=0
   .have b:Hid (orF l=orF (l.drop (m+1))):=by show _=_;rw[c.out,d.out,orF,iN_ (by simp[hx])]
    clear c d;go_wp2_with fail
    go_round
    case rel=>exact⟨m+1,by omega,by go_num,b.out⟩
    case measure=>simp[intOf];omega
   have b:Hid (orF l=x):=by show _=_;rw[c.out,d.out,orF,iP_ hx]
   clear c d;go_wp2_with fail
   go_ret;exact⟨zt b.out.symm,rfl⟩
  obtain rfl:m=l.length:=by omega
  have b:Hid (orF l=0):=by show _=_;rw[f,List.drop_length];rfl
  clear f;go_wp2_with fail
  go_ret;exact⟨zt b.out.symm,rfl⟩
theorem zqz (au rd b c:Int)(B:Q_)(I E:Nat)(C:Q_)(J F:Nat)(D:Q_)(L G:Nat)(p:Q_)(f t:Nat)(q:Q_)(z u:Nat)(s:Q_)(A y:Nat)(w:World) :
  Calls prog 189 #[.agg #[I_ au,I_ rd,.slice B I E,.slice C J F,.slice D L G],.agg #[I_ b,I_ c,.slice p f t,.slice q z u,.slice s A y]] w λe w'=>e=.returned (I_ (zeh (rd,au) (c,b)))/\Gr w w':=by
 refine kA_ ?A0 ?_;exact #[I_ b,I_ c,.slice p f t,.slice q z u,.slice s A y];refine kO_ ?B0 ?_;exact Obj.cells #[I_ au,I_ rd,.slice B I E,.slice C J F,.slice D L G] 66;have hG:Gr w ((w.alloc ?B0).alloc (.cells ?A0 66)):=((Gr.refl w).alloc _).alloc _;have M:=hX_ w ?B0 (.cells ?A0 66);have N:((w.alloc ?B0).alloc (.cells ?A0 66)).heap[w.heap.size+1]? = some (.cells ?A0 66 (0,0)):=by
  have:=hN_ (w.alloc ?B0) (.cells ?A0 66);rw[zG]at this;exact this
 have HC:Hid (zeh (rd,au) (c,b)=orF [cI rd c,cI au b]):=zpo rd au c b;go_in;go_wp2_with fail
 generalize (w.alloc ?B0).alloc (.cells ?A0 66)=d at hG M N|-;have T:=zb M 0 _ rfl;have U:=zb M 1 _ rfl;have V:=zb N 0 _ rfl;have X:=zb N 1 _ rfl;have H0:=ziu rd c d.drew;have H1:=ziu au b d.drew;generalize cI rd c=l at*;generalize cI au b=m at*;refine wR_ (S:=(λw'=>C_ w' w.heap.size 0 (I_ au)/\C_ w' w.heap.size 1 (I_ rd)/\C_ w' (w.heap.size+1) 0 (I_ b)/\C_ w' (w.heap.size+1) 1 (I_ c))) (by kernel_rfl) ⟨T,U,V,X⟩ (λH=>?_);refine tks_ 12 [(0,5,(P_ w.heap.size 0)),(1,6,(P_ w.heap.size 1)),(2,7,I_ rd),(3,8,(P_ (w.heap.size+1) 0)),(4,9,(P_ (w.heap.size+1) 1)),(5,10,I_ c),(7,12,(P_ w.heap.size 0)),(8,13,(P_ w.heap.size 0)),(9,14,I_ au),(10,15,(P_ (w.heap.size+1) 0)),(11,16,(P_ (w.heap.size+1) 0)),(12,17,I_ b)] H ?_;simp only[tkf_,zf];refine zE 6 rfl (λK g=>?_);refine zj rfl 11 rfl 191 [.tmp 7,.tmp 10] #[3,3] rfl [I_ rd,I_ c] rfl (eO_ func191) (λv w'=>v=I_ l/\d.drew=w') (H0.mono (λe w2 h=>⟨_,h.1,rfl,h.2⟩)) ?_;rintro v w2⟨rfl,rfl⟩;refine g.out _ _ ⟨T,U,V,X⟩ (λH=>?_);simp only[zf];refine zE 13 rfl (λK g=>?_);refine zj rfl 18 rfl 191 [.tmp 14,.tmp 17] #[3,3] rfl [I_ au,I_ b] rfl (eO_ func191) (λv w'=>v=I_ m/\d.drew=w') (H1.mono (λe w2 h=>⟨_,h.1,rfl,h.2⟩)) ?_;rintro v w2⟨rfl,rfl⟩;refine g.out _ _ ⟨T,U,V,X⟩ (λH=>?_);simp only[zf];refine zE 14 rfl (λK g=>?_);refine kO_ ?C0 ?_;exact Obj.cells #[I_ l,I_ m] 3;refine zy rfl 19 rfl (.slice (some (p_ d.heap.size 0)) 2 2) (d.drew.alloc ?C0) (by go_simp) ?_;have Y:=zR (o:=.cells #[I_ l,I_ m] 3) (w:=d.drew) M;have Z:=zR (o:=.cells #[I_ l,I_ m] 3) (w:=d.drew) N;have f:=hN_ d.drew ?C0;have aa:=(hG.drew).alloc ?C0;have O:=zuM [l,m] d.heap.size 0 2 (d.drew.alloc ?C0) (by simp) (by
  intro j R;have R:j<2:=R
  match j,R with
  | 0,_=>exact zb f 0 _ rfl
  | 1,_=>exact zb f 1 _ rfl)
 generalize d.drew.alloc ?C0=W1 at Y Z f aa O|-;have n0:=zb Y 0 _ rfl;have n1:=zb Y 1 _ rfl;have o0:=zb Z 0 _ rfl;have o1:=zb Z 1 _ rfl;rw[<-HC.out]at O;refine g.out _ _ ⟨n0,n1,o0,o1⟩ (λH=>?_);simp only[zf];refine zE 15 rfl (λK g=>?_);refine zj rfl 20 rfl 190 [.tmp 19] #[64] rfl [.slice (some (p_ d.heap.size 0)) 2 2] rfl (eO_ func190) (λv w'=>v=I_ (zeh (rd,au) (c,b))/\W1=w') (O.mono (λe w2 h=>⟨_,h.1,rfl,h.2⟩)) ?_;rintro v w2⟨rfl,rfl⟩;refine g.out _ _ ⟨n0,n1,o0,o1⟩ (λH=>?_);simp only[zf];generalize hr:zeh (rd,au) (c,b)=r;have HR:Hid (zeh (rd,au) (c,b)=r):=hr;clear hr;refine zE 16 rfl (λK g=>?_);refine zy rfl 4 rfl (I_ r) W1 (by go_simp) ?_;refine g.out _ _ ⟨n0,n1,o0,o1⟩ (λH=>?_);simp only[zf];refine wD_ (by kernel_rfl) ?_ _;go_wp2_with fail
 go_ret;exact⟨zt HR.out.symm,aa⟩
theorem zkV (c:Ct)(rd:Int)(g:Nat)(w:World)(l:C_ w g 0 (I_ rd)) :
  Calls prog 185 #[.agg (crow_ c),(P_ g 0)] w λe w'=>e=.returned (.bool (decide (c.v.rd<rd)))/\Go.RowKit.Below w.heap.size w w':=by
 have b:Go.RowKit.Below w.heap.size w (w.alloc (.cells (crow_ c) 66)):=(Go.RowKit.Below.refl _ _).alloc (nR_ _) _;have d:=hN_ w (.cells (crow_ c) 66);have f:Hid (decide (c.v.rd<rd)=decide (c.rd<rd)):=rfl;go_in;go_upto_region 1 with fail
 generalize w.alloc (.cells (crow_ c) 66)=o at b d|-;generalize j:w.heap.size=B at d|-;have m:Hid _:=j;have q:=zb d 1 _ rfl;have p:=zr b l;clear j l;by_cases e:c.rd<rd
 .go_wp2_with fail
  go_ret;exact⟨by rw[f.out,dT_ e];rfl,b⟩
 go_wp2_with fail
 go_ret;exact⟨by rw[f.out,dF_ (by omega)];rfl,b⟩
def zdv (l:List Ct)(rd:Int)(m:Nat):Bool:=match l[m]? with
 | some c=>decide (c.v.rd<rd)
 | none=>false
theorem zku (l:List Ct)(rd:Int)(m:Nat)(h:m<l.length):zdv l rd m=decide ((l[m]).v.rd<rd):=by simp[zdv,h]
theorem zjt (b:List Ct)(q:Q_)(n r:Nat)(rd:Int)(g:Nat)(w:World)(c:n=b.length)(G:n<=400)(A:zba w q b)(y:C_ w g 0 (I_ rd)) :
  Calls prog 168 #[.slice q n r,.func (.func 185) #[] #[P_ g 0]] w λe w'=>e=.returned (I_ (zaC (zdv b rd) b.length))/\B_ w w':=by
 subst c;go_in;go_wp2_with fail
 go_loopw [8] (λi wr=>∃m:Nat,m<=b.length/\i=I_ m/\Hid (zaC (zdv b rd) m=-1)/\B_ w wr) (λi _=>b.length-(intOf i).toNat)
 case atStart=>exact⟨0,nZ_ _,rfl,rfl,bR_ _ _⟩
 case round=>
  obtain⟨m,I,rfl,f,d⟩:=hrel;by_cases hlt:m<b.length
  .obtain⟨J,L,rfl,B,C,D,E,F⟩:=(A.below d).at m hlt;have z:=zr d y;have H:(m:Int)<b.length:=by omega
   have o:=zku b rd m hlt;have j:Hid (decide ((b[m]).v.rd<rd)=true->zaC (zdv b rd) b.length=m):=by
    show _->_;intro h;exact zgc _ m _ f.out (by rw[o];exact h) hlt
   have l:Hid (decide ((b[m]).v.rd<rd)=false->zaC (zdv b rd) (m+1)=-1):=by
    show _->_;intro h;exact zgv _ m f.out (by rw[o];exact h)
   clear f o;generalize b[m]=s at*;go_wp2_with fail
   refine(zkV s rd g wr z).mono ?_;rintro _ M⟨rfl,t⟩;dsimp only;have p:=zm d t;generalize decide (s.v.rd<rd)=x at*;cases x
   .have c:Hid _:=l.out rfl;clear j l;go_wp2_with fail
    go_roundw
    case rel=>exact⟨m+1,by omega,by go_num,c,p⟩
    case measure=>simp[intOf];omega
   have c:Hid _:=j.out rfl;clear j l;go_wp2_with fail
   go_ret;exact⟨zt c.out.symm,p⟩
  obtain rfl:m=b.length:=by omega
  go_wp2_with fail
  go_ret;exact⟨zt f.out.symm,d⟩
variable {T:TypeId}{B cap k:Nat}{ls:List Ct}{xs:List Value}{cur:X_}
def kpt (rd:Int)(c:Ct):Bool:=!decide (c.v.rd<rd)
structure zez (cur:X_)(cap:Nat)(ls:List Ct)(rd:Int)(j:Nat):Prop where
 siz:cur.size=cap*5
 le:ls.length<=cap
 low:∀k (h:k<((ls.take j).filter (kpt rd)).length) t,t<5->cur[k*5+t]? = (((ls.take j).filter (kpt rd))[k]).cs[t]?
 high:∀k (h:k<ls.length) t,j<=k->t<5->cur[k*5+t]? = (ls[k]).cs[t]?
 lt:((ls.take j).filter (kpt rd)).length<j
theorem zxL (b:List Ct)(rd:Int)(j:Nat):((b.take j).filter (kpt rd)).length<=b.length:=nT_ (List.length_filter_le _ _) (by rw[lT9_];omega)
theorem zmJ (b:List Ct)(rd:Int)(j:Nat)(c:j<b.length)(h:kpt rd (b[j])=false):(b.take (j+1)).filter (kpt rd)=(b.take j).filter (kpt rd):=by
 rw[tS_ c,List.filter_append];simp[h]
theorem zpp (b:List Ct)(rd:Int)(j:Nat)(c:j<b.length)(h:kpt rd (b[j])=true):(b.take (j+1)).filter (kpt rd)=(b.take j).filter (kpt rd)++[b[j]]:=by
 rw[tS_ c,List.filter_append];simp[h]
theorem zez.no {j:Nat}(h:zez cur cap ls rd j)(d:j<ls.length)(c:kpt rd (ls[j])=false):zez cur cap ls rd (j+1):=by
 have e:=zmJ ls rd j d c;refine⟨h.siz,h.le,?_,λk c t a b=>h.high k c t (by omega) b,by rw[e];have:=h.lt;omega⟩;rw[e];exact h.low
theorem zez.yes {j i:Nat}(h:zez cur cap ls rd j)(g:j<ls.length)(c:kpt rd (ls[j])=true)(m:i=((ls.take j).filter (kpt rd)).length):zez (zd4 cur (i*5) (ls[j]).cs) cap ls rd (j+1):=by
 have e:=zpp ls rd j g c;have d:(ls[j]).cs.length=5:=rfl;have q:=h.lt;have p:=h.le;have l:=h.siz;refine⟨by rw[zcW];exact h.siz,h.le,?_,λk c t a b=>?_,by rw[e];simp;omega⟩;rw[e];intro k c t f;rw[lP_]at c;by_cases ek:k=i;subst ek;rw[zg8 _ _ _ _ (by rw[d];exact f) (by rw[d,l];omega),List.getElem_append_right (by omega)]
 simp
 have o:k<i:=by simp at c;omega
 rw[zdP _ _ _ _ (.inl (by omega)),List.getElem_append_left (by omega)];exact h.low k (by omega) t f;rw[zdP _ _ _ _ (.inr (by rw[d];omega))];exact h.high k c t (by omega) b
theorem zez.end {i:Nat}{g:List Value}(h:zez cur cap ls rd ls.length)(f:i=(ls.filter (kpt rd)).length):(zd4 cur (i*5) g).toList.take (i*5)=ctv (ls.filter (kpt rd)):=by
 have c:=h.low;have l:=h.siz;have j:=h.le;have d:=zxL ls rd ls.length;rw[List.take_length]at c d;subst f;refine List.ext_getElem? (λq=>?_);by_cases hq:q<(ls.filter (kpt rd)).length*5;rw[List.getElem?_take,iP_ hq,Array.getElem?_toList,zdP _ _ _ _ (.inl hq)];have e:q / 5*5+q % 5=q:=by omega
 have a:=c (q / 5) (by omega) (q % 5) (by omega);have b:=zfx (ls.filter (kpt rd)) (q / 5) (q % 5) (by omega) (by omega);rw[e]at a b;rw[a,b];rw[List.getElem?_take,iN_ hq,List.getElem?_eq_none (by rw[ze3];omega)]
theorem znv (b:List Ct)(rd:Int)(k:Nat)(f:k<b.length)(h:zaC (zdv b rd) b.length=k):(b.take (k+1)).filter (kpt rd)=b.take k:=by
 have d:=zoq (zdv b rd) b.length (by omega);rw[h]at d;have d:zdv b rd k=true:=d;rw[zku b rd k f]at d;rw[zmJ b rd k f (by rw[kpt,d];rfl),List.filter_eq_self];intro c j;obtain⟨m,l,rfl⟩:=List.getElem_of_mem j;rw[lT9_]at l;have p:m<k:=by omega
 have g:zdv b rd m=false:=by
  by_cases e:zdv b rd m=true;have o:=zkl (zdv b rd) m;by_cases e2:zaC (zdv b rd) m=-1;have:=zgc _ m b.length e2 e (by omega);omega;have:=zm5 (zdv b rd) m b.length (by omega) (by omega);omega
  simpa using e
 rw[zku b rd m (by omega)]at g;rw[List.getElem_take,kpt,g]
 rfl
theorem zwp (b:List Ct)(rd:Int)(h:zaC (zdv b rd) b.length=-1):b.filter (kpt rd)=b:=by
 rw[List.filter_eq_self];intro c g;obtain⟨m,d,rfl⟩:=List.getElem_of_mem g;have f:=zqP (zdv b rd) b.length (by omega) m d;rw[zku b rd m d]at f;rw[kpt,f]
 rfl
theorem zsC (g:k<ls.length)(h:zaC (zdv ls rd) ls.length=k)(l:cur.size=cap*5)(j:ls.length<=cap)(f:cur.toList.take (ls.length*5)=ctv ls):zez cur cap ls rd (k+1):=by
 have e:=znv ls rd k g h;have d:∀q (b:q<ls.length) t,t<5->cur[q*5+t]? = (ls[q]).cs[t]?:=λq b t c=>by
  rw[<-zfx ls q t b c,<-f,List.getElem?_take,iP_ (by omega),Array.getElem?_toList]
 refine⟨l,j,?_,λq b t _ c=>d q b t c,by rw[e,lT9_];omega⟩;rw[e];intro q b t c;rw[lT9_]at b;rw[List.getElem_take];exact d q (by omega) t c
theorem zl8 {b:Nat}{s:Nat}(h:w.ownsRow B T s (.slice (some (p_ b 0)) n cap) n xs):∃c,B<=b/\R_ w b c T/\n<=cap/\cap<=maxLen/\c.size=cap*s/\c.toList.take (n*s)=xs:=by
 rcases h.2 with⟨e,_⟩|⟨g,p,c,e,d,f,j,l,m,o⟩;cases e;cases e;exact⟨c,d,f,j,l,m,o⟩
theorem zpq (n:Nat):(Builtin.zeroCells (Value.agg #[I_ 0,I_ 0,O_,O_,O_]).cells n).toList.length=n*5:=by
 simp[Builtin.zeroCells,Value.cells]
theorem zpr (n:Nat):∀v∈(Builtin.zeroCells (Value.agg #[I_ 0,I_ 0,O_,O_,O_]).cells n).toList,v.oneCell'=true:=by
 intro v c;simp only[Builtin.zeroCells,Value.cells,Array.toList_map,mM_]at c;obtain⟨i,_,rfl⟩:=c;have b:i % (#[I_ 0,I_ 0,O_,O_,O_]:X_).size<5:=Nat.mod_lt _ (by decide);generalize i % (#[I_ 0,I_ 0,O_,O_,O_]:X_).size=k at b|-
 match k,b with
 | 0,_=>rfl
 | 1,_=>rfl
 | 2,_=>rfl
 | 3,_=>rfl
 | 4,_=>rfl
theorem zl9 (d:n<=B):∀(c:List Value) (V:World) (o:Nat),Below n w V->Below n w (V.setCells B o c):=λc=>by
 induction c with
 | nil=>intro V o b;exact b
 | cons u r ih=>intro V o b;exact ih _ _ (b.setCell d _)
theorem zyN:(prog.info? 66).map (·.size)=some 5:=by kernel_rfl
theorem zez.go {j i:Nat}(h:zez cur cap ls rd j)(c:j<ls.length)(b:i=((ls.take j).filter (kpt rd)).length)(f:decide ((ls[j]).v.rd<rd)=false):zez (zd4 cur (i*5) (ls[j]).cs) cap ls rd (j+1)/\i+1=((ls.take (j+1)).filter (kpt rd)).length:=by
 have d:kpt rd (ls[j])=true:=by rw[kpt,f];rfl
 refine⟨h.yes c d b,?_⟩;rw[zpp ls rd j c d,lP_,<-b]
 rfl
theorem zez.skip {j i:Nat}(h:zez cur cap ls rd j)(b:j<ls.length)(f:i=((ls.take j).filter (kpt rd)).length)(d:decide ((ls[j]).v.rd<rd)=true):zez cur cap ls rd (j+1)/\i=((ls.take (j+1)).filter (kpt rd)).length:=by
 have c:kpt rd (ls[j])=false:=by rw[kpt,d];rfl
 refine⟨h.no b c,?_⟩;rw[zmJ ls rd j b c];exact f
theorem zqA (c:List Ct)(b d B:Nat)(rd:Int)(g:Nat)(w0 w:World)(hl:c.length<=400)(aw:B_ w0 w)(hB:w0.heap.size<=B)(ho:w.ownsRow B 66 5 (.slice (some (p_ b 0)) c.length d) c.length (ctv c))(az:g≠b)(hg:C_ w g 0 (I_ rd))(hp:zba w (some (p_ b 0)) c) :
  Calls prog 186 #[.slice (some (p_ b 0)) c.length d,.func (.func 185) #[] #[P_ g 0]] w λe w'=>e=.returned (.slice (some (p_ b 0)) (c.filter (kpt rd)).length d)/\w'.ownsRow B 66 5 (.slice (some (p_ b 0)) (c.filter (kpt rd)).length d) (c.filter (kpt rd)).length (ctv (c.filter (kpt rd)))/\B_ w0 w':=by
 have HI:=zjt c (some (p_ b 0)) _ d rd g w rfl hl hp hg;have ai:=zkl (zdv c rd) c.length;obtain⟨g1,af,q0,ax,al,aD,aE⟩:=zl8 ho;go_in;go_wp2_with fail
 refine HI.mono ?_;rintro _ w1⟨rfl,F⟩;dsimp only;clear HI;have ad:=zm aw F;by_cases em:zaC (zdv c rd) c.length=-1
 .have HA:Hid _:=zwp c rd em;have aC:=zw ho F;rw[em];clear em ai;go_wp2_with fail
  go_ret;rw[HA.out];exact⟨rfl,aC,ad⟩
 obtain⟨q,H⟩:∃k:Nat,zaC (zdv c rd) c.length=k:=⟨(zaC (zdv c rd) c.length).toNat,by omega⟩;have ak:q<c.length:=by omega
 have aq:Hid _:=zsC ak H aD ax aE;have av:Hid (q=((c.take (q+1)).filter (kpt rd)).length):=by show _=_;rw[znv c rd q ak H,lT9_,Nat.min_eq_left (by omega)]
 rw[H];have aJ:((q:Int) == -1)=false:=by simp
 clear em ai H;have q1:=zk F q0;have ay:=zr F hg;have ag:=nT_ hB af;go_wp2_with fail
 go_loopw [6,5] (λjv iv wr=>∃(j i:Nat) (f:X_),j<=c.length/\jv=I_ j/\iv=I_ i/\Hid (i=((c.take j).filter (kpt rd)).length)/\i<j/\Hid (zez f d c rd j)/\R_ wr b f 66/\C_ wr g 0 (I_ rd)/\B_ w0 wr) (λjv _ _=>c.length-(intOf jv).toNat)
 case atStart=>exact⟨q+1,q,_,by omega,by go_num,rfl,av,by omega,aq,q1,ay,ad⟩
 case round=>
  obtain⟨j,i,f,hj,rfl,rfl,D,aH,m,l,aj,Y⟩:=hrel;by_cases hlt:j<c.length
  .have aB:(j:Int)<c.length:=by omega
   have r:=m.out.high j hlt;have c0:=zb l (j*5) _ (r 0 (nR_ _) (by decide));have c1:=zb l (j*5+1) _ (r 1 (nR_ _) (by decide));have c2:=zb l (j*5+2) _ (r 2 (nR_ _) (by decide));have c3:=zb l (j*5+3) _ (r 3 (nR_ _) (by decide));have c4:=zb l (j*5+4) _ (r 4 (nR_ _) (by decide));have I:Hid (decide ((c[j]).v.rd<rd)=false->zez (zd4 f (i*5) (c[j]).cs) d c rd (j+1)/\i+1=((c.take (j+1)).filter (kpt rd)).length):=m.out.go hlt D.out;have J:Hid (decide ((c[j]).v.rd<rd)=true->zez f d c rd (j+1)/\i=((c.take (j+1)).filter (kpt rd)).length):=m.out.skip hlt D.out;have HS:Hid (f.size=d*5/\c.length<=d):=⟨m.out.siz,m.out.le⟩;clear r m D;generalize c[j]=x at*;have z:=zC wr (.cells (crow_ x) 66);have o:=hN_ wr (.cells (crow_ x) 66);go_upto_region 8 with fail
   generalize wr.alloc (.cells (crow_ x) 66)=W3 at z o|-;have ab:=zr z aj;have ao:=(z.block b (ze l)).trans l;have ar:=zm Y z;generalize wr.heap.size=G at o|-;have M:=zb o 0 (I_ x.au) rfl;have N:=zb o 1 (I_ x.rd) rfl;refine kV_ ?A0 ?_;exact Value.slice x.ba x.bl.length x.bc;have O:=zb o 2 ?A0 rfl;refine kV_ ?B0 ?_;exact Value.slice x.pa x.pl.length x.pc;have R:=zb o 3 ?B0 rfl;refine kV_ ?C0 ?_;exact Value.slice x.va x.vl.length x.vc;have T:=zb o 4 ?C0 rfl;have HC:=zkV x rd g W3 ab;clear c0 c1 c2 c3 c4 l aj Y z;go_wp2_with fail
   refine HC.mono ?_;rintro _ u⟨rfl,C⟩;dsimp only;clear HC M N O R T;have s:=zk C o;have E:=zk C ao;have aa:=zr C ab;have U:=zm ar C;clear o ao ab C;generalize decide (x.v.rd<rd)=y at*;cases y with
   | true=>
    have p:=J.out rfl;have V:Hid _:=p.1;have X:Hid _:=p.2;clear p J I;go_wp2_with fail
    go_roundw
    case rel=>exact⟨j+1,i,f,by omega,by go_num,rfl,X,by omega,V,E,aa,U⟩
    case measure=>simp[intOf];omega
   | false=>
    have p:=I.out rfl;have V:Hid _:=p.1;have X:Hid _:=p.2;clear p J I;have M:=zb s 0 (I_ x.au) rfl;have N:=zb s 1 (I_ x.rd) rfl;have O:=zb s 2 ?A0 rfl;have R:=zb s 3 ?B0 rfl;have T:=zb s 4 ?C0 rfl;have aI:(i:Int)<c.length:=by omega
    have an:Hid (u.there b (i*5) 5):=λt ht=>by
     have hs:=HS.out;have hx:i*5+t<f.size:=by omega
     exact⟨by rw[zb E (i*5+t) (f[i*5+t]) (Array.getElem?_eq_getElem hx)];rfl,zd E _⟩
    have ap:Hid _:=zb7 x.cs u f (i*5) E;have ah:Hid ((u.setCells b (i*5) x.cs).cell? (p_ g 0)=some (I_ rd)):=(cB_ (zbl x.cs u (i*5) az)).trans aa;have ae:Hid _:=zl9 ag x.cs u (i*5) U;clear E aa U HS s;have am:Hid (((crow_ x):X_).all (·.oneCell')=true):=by show _=_;simp[Value.oneCell']
    go_upto_region 10 with(refine wpList_store_mid rfl 66 (.tmp 33) (.tmp 32) rfl b (i*5) (crow_ x) rfl rfl an.out zyN am.out ?_)
    obtain⟨L,A⟩:∃W,u.setCells b (i*5) [I_ x.au,I_ x.rd,?A0,?B0,?C0]=W:=⟨_,rfl⟩;rw[A];have aF:R_ L b (zd4 f (i*5) x.cs) 66:=by rw[<-A];exact ap.out
    have aA:C_ L g 0 (I_ rd):=by rw[<-A];exact ah.out
    have au:B_ w0 L:=by rw[<-A];exact ae.out
    clear A ap ah ae an am M N O R T;go_wp2_with fail
    go_roundw
    case rel=>exact⟨j+1,i+1,_,by omega,by go_num,by go_num,X,by omega,V,aF,aA,au⟩
    case measure=>simp[intOf];omega
  obtain rfl:j=c.length:=by omega
  have aB:¬(c.length:Int)<c.length:=by omega
  have ac:Hid (i=(c.filter (kpt rd)).length):=by show _=_;rw[D.out,List.take_length]
  have hs:=m.out.siz;have aK:=m.out.le;have aG:∀ty,(Builtin.clear_ #[37] ty #[.slice (some (p_ b (i*5))) (c.length-i) (d-i)]).run prog wr=.ok (.tuple #[]) (wr.setCells b (i*5) (Builtin.zeroCells (Value.agg #[I_ 0,I_ 0,O_,O_,O_]).cells (c.length-i)).toList):=λty=>by
   refine zir _ 37 66 ty (.agg #[I_ 0,I_ 0,O_,O_,O_]) underlying37 zeroValue66 b _ _ _ (by omega) _ rfl (λt ht=>?_) (λt ht=>zd l _) (zpr _);rw[zpq]at ht;have hx:i*5+t<f.size:=by omega
   rw[zb l (i*5+t) (f[i*5+t]) (Array.getElem?_eq_getElem hx)];rfl
  have hO:Hid (∀W:World,W=wr.setCells b (i*5) (Builtin.zeroCells (Value.agg #[I_ 0,I_ 0,O_,O_,O_]).cells (c.length-i)).toList->W.ownsRow B 66 5 (.slice (some (p_ b 0)) i d) i (ctv (c.filter (kpt rd)))/\B_ w0 W):=by
   show ∀W,_;rintro W rfl;refine⟨⟨by rw[ze3,<-ac.out],.inr ⟨b,d,_,rfl,af,zb7 _ wr f (i*5) l,by omega,al,by rw[zcW];exact hs,m.out.end ac.out⟩⟩,zl9 ag _ wr (i*5) Y⟩
  have p1:(i:Int)<=c.length:=by omega
  have p2:i<=c.length:=by omega
  have p3:i<=d:=by omega
  have p4:¬d=i:=by omega
  have p5:(i:Int)<=d:=by omega
  have aL:d<=9223372036854775807:=al;clear m hs D l;go_wp2_with fail
  go_ret;rw[<-ac.out];obtain⟨o1,o2⟩:=hO.out _ rfl;exact⟨rfl,o1,o2⟩
theorem zwq (l:List Ct):∀u∈ctv l,u.oneCell'=true:=by
 induction l with
 | nil=>intro u b;cases b
 | cons c l ih=>
  intro u b;rcases mA_.1 b with g|g;simp only[Ct.cs,List.mem_cons,List.not_mem_nil,or_false]at g;rcases g with e|e|e|e|e<;>subst e<;>rfl;exact ih u g
theorem zps {b:Nat}(h:w.ownsRow B 66 5 (.slice (some (p_ b 0)) n cap) n (ctv ls)):∀j u,(ctv ls)[j]? = some u->w.cell? ((p_ b 0:Addr).add j)=some u:=λj u c=>by
 obtain⟨f,_,q,_,_,_,d⟩:=zl8 h
 rw[<-d,List.getElem?_take]at c
 split at c
 .rw[zaP,zA_]
  exact zb q j u (by rw[<-Array.getElem?_toList];exact c)
 .cases c
theorem zqB (c:List Ct)(b d:Nat)(w:World)(B:c.length<=400)(g:w.ownsRow 0 66 5 (.slice (some (p_ b 0)) c.length d) c.length (ctv c)) :
  Calls prog 187 #[.slice (some (p_ b 0)) c.length d] w λe w'=>∃v,e=.returned v/\w'.ownsRow w.heap.size 66 5 v c.length (ctv c)/\B_ w w':=by
 have A:∀w:World,(binOp .eql 37 (.slice (some (p_ b 0)) c.length d) (O_)).run prog w=.ok (.bool false) w:=λ_=>rfl;have f:=zC w (.cells #[] 66);have m:Hid (∀j u,(ctv c)[j]? = some u->(w.alloc (.cells #[] 66)).cell? ((p_ b 0:Addr).add j)=some u):=zps (oA_ g _);obtain⟨y,p,r,s,t⟩:=info_parts zoI;clear g;go_in;go_wp2_with (at_builtin;refine wpList_append_own_at _ rfl _ _ 37 rfl w.heap.size 66 y (.agg #[I_ 0,I_ 0,O_,O_,O_]) 5 88 underlying37 p r s t rfl (by decide) _ 0 [] rfl (World.ownsRow_made _ _ 0 (nR_ _) (by decide) rfl) (p_ b 0) c.length d (ctv c) rfl (ze3 c) m.out (zwq c) (by unfold maxLen;omega) (by omega) f.size ?_;intro z C l o _ _)
 rw[List.nil_append,zA_]at l;go_ret;exact⟨z,rfl,l,Below.grown f o f.size (λq e=>(World.ownsRow.lt (World.ownsRow_made (e:=66) (size:=5) w #[] 0 (nR_ _) (by decide) rfl) q e).1)⟩
open Go.Shelf
def zma:Go.Shelf.Ren:=⟨fun|6=>188|15=>215|14=>218|28=>239|29=>240|20=>241|21=>242|22=>243|23=>244|24=>245|25=>246|26=>247|27=>248|46=>254|47=>250|48=>251|49=>255|50=>256|57=>258|n=>n,fun|22=>37|24=>66|25=>263|3=>3|39=>123|0=>0|53=>167|55=>297|4=>4|46=>289|45=>288|50=>293|5=>5|9=>9|66=>308|70=>312|76=>316|77=>317|n=>n,fun|n=>n⟩
theorem zuN:Go.Proofs.SlLaysF0.n6 prog zma:={
 mixed:=by kernel_rfl
 f6:=⟨Tryz.f188.name,by decide,func188.trans (cA_ some (by kernel_rfl))⟩
 f14:=⟨Tryz.f218.name,by decide,func218.trans (cA_ some (by kernel_rfl))⟩
 f15:=func215.trans (cA_ some (by kernel_rfl))
 f20:=⟨Tryz.f241.name,by decide,func241.trans (cA_ some (by kernel_rfl))⟩
 f21:=⟨Tryz.f242.name,by decide,func242.trans (cA_ some (by kernel_rfl))⟩
 f22:=⟨Tryz.f243.name,by decide,func243.trans (cA_ some (by kernel_rfl))⟩
 f23:=⟨Tryz.f244.name,by decide,func244.trans (cA_ some (by kernel_rfl))⟩
 f24:=⟨Tryz.f245.name,by decide,func245.trans (cA_ some (by kernel_rfl))⟩
 f25:=⟨Tryz.f246.name,by decide,func246.trans (cA_ some (by kernel_rfl))⟩
 f26:=⟨Tryz.f247.name,by decide,func247.trans (cA_ some (by kernel_rfl))⟩
 f27:=⟨Tryz.f248.name,by decide,func248.trans (cA_ some (by kernel_rfl))⟩
 f28:=func239.trans (cA_ some (by kernel_rfl))
 f29:=func240.trans (cA_ some (by kernel_rfl))
 f46:=⟨Tryz.f254.name,by decide,func254.trans (cA_ some (by kernel_rfl))⟩
 f47:=func250.trans (cA_ some (by kernel_rfl))
 f48:=func251.trans (cA_ some (by kernel_rfl))
 f49:=⟨Tryz.f255.name,by decide,func255.trans (cA_ some (by kernel_rfl))⟩
 f50:=⟨Tryz.f256.name,by decide,func256.trans (cA_ some (by kernel_rfl))⟩
 f57:=⟨Tryz.f258.name,by decide,func258.trans (cA_ some (by kernel_rfl))⟩
 t0:=underlying0
 a0:=isAgg0
 z0:=sizeOf0
 v0:=zeroValue0
 t3:=underlying3
 a3:=isAgg3
 z3:=sizeOf3
 v3:=zeroValue3
 t4:=underlying4
 a4:=isAgg4
 z4:=sizeOf4
 v4:=zeroValue4
 t5:=underlying5
 a5:=isAgg5
 z5:=sizeOf5
 v5:=zeroValue5
 t9:=underlying9
 a9:=isAgg9
 z9:=sizeOf9
 v9:=zeroValue9
 t22:=underlying37
 a22:=isAgg37
 z22:=sizeOf37
 v22:=zeroValue37
 t25:=underlying263
 a25:=isAgg263
 z25:=sizeOf263
 v25:=zeroValue263
 t39:=underlying123
 a39:=isAgg123
 z39:=sizeOf123
 v39:=zeroValue123
 t45:=underlying288
 a45:=isAgg288
 z45:=sizeOf288
 v45:=zeroValue288
 t46:=underlying289
 a46:=isAgg289
 z46:=sizeOf289
 v46:=zeroValue289
 t50:=underlying293
 a50:=isAgg293
 z50:=sizeOf293
 v50:=zeroValue293
 t53:=underlying167
 a53:=isAgg167
 z53:=sizeOf167
 v53:=zeroValue167
 t55:=underlying297
 a55:=isAgg297
 z55:=sizeOf297
 v55:=zeroValue297
 t66:=underlying308
 a66:=isAgg308
 z66:=sizeOf308
 v66:=zeroValue308
 t70:=underlying312
 a70:=isAgg312
 z70:=sizeOf312
 v70:=zeroValue312
 t76:=underlying316
 a76:=isAgg316
 z76:=sizeOf316
 v76:=zeroValue316
 t77:=underlying317
 a77:=isAgg317
 z77:=sizeOf317
 v77:=zeroValue317 }
open Go.Sort
theorem znO {α:Type}[Inhabited α](d:α->List Value)(k:Nat){w:World}(b g m:Nat)(c:Array α)(os:Array Obj)(j:Nat)(f:j<w.heap.size)(l:j≠b):(sortWorldK d k w b g m c os).heap[j]? = w.heap[j]?:=by
 unfold sortWorldK;rw[heap_grow_old _ _ (by rw[size_putRowK];exact f)];show((Sort.ahead w m).heap.modify b _)[j]? = _;rw[Array.getElem?_modify,iN_ (by omega)]
 rfl
theorem znP {α:Type}[Inhabited α](d:α->List Value)(k:Nat){w0 w:World}(b f m:Nat)(c:Array α)(os:Array Obj)(g:Go.RowKit.Below w0.heap.size w0 w)(h:w0.heap.size<=b):Go.RowKit.Below w0.heap.size w0 (sortWorldK d k w b f m c os):=by
 have o:=size_sortWorldK_c d k w b f m c os;refine g.trans ⟨rfl,rfl,rfl,o,λj l=>?_⟩;exact znO d k b f m c os j (nL_ l g.size) (by omega)
theorem zsD [Inhabited Ct](ds:List Ct):flatK Ct.cs 5 ds.toArray=(ctv ds).toArray:=by
 refine ext_get! (by simp[ze3]) λt j=>?_;have l:t<ds.length*5:=by simpa using j
 rw[get_flatK _ _ _ _ (by simpa using l)];have c:t / 5<ds.length:=by omega
 have b:=zfx ds (t / 5) (t % 5) c (by omega);have g:t / 5*5+t % 5=t:=by omega
 rw[g]at b;have d:(ctv ds).toArray[t]! = ((ctv ds)[t]?).getD default:=by simp[Array.getElem!_eq_getD,Array.getD_eq_getD_getElem?]
 rw[d,b];have f:ds.toArray[t / 5]! = ds[t / 5]:=by simp[c]
 rw[f];simp[List.getElem!_eq_getElem?_getD]
def kCt (c:Ct):Int×Int:=(c.rd,c.au)
structure zwr (w0 w':World)(e:Ending)(sa:Q_)(ls:List Ct):Prop where
 below:Go.RowKit.Below w0.heap.size w0 w'
 out:e=.returned (.tuple #[])/\∃ks:List Ct,ks.Perm ls/\(∀i j (hi:i<j) (hj:j<ks.length),¬zeh (kCt (ks[j])) (kCt (ks[i]))<0)/\zba w' sa ks
theorem znQ [Inhabited Ct](b:List Ct)(g p B:Nat)(w0 w:World)(R:Go.RowKit.Below w0.heap.size w0 w)(M:w0.heap.size<=B)(hl:b.length<=1000)(s:w.ownsRow B 66 5 (.slice (some (p_ g 0)) b.length p) b.length (ctv b)) :
  Calls prog 188 #[.slice (some (p_ g 0)) b.length p,.func (.func 189) #[] #[]] w λe w'=>zwr w0 w' e (some (p_ g 0)) b:=by
 have r:=s.lt g rfl;have U:∀j,w.frozen? (p_ g j)=false:=by
  intro j;rcases s.2 with⟨h,_⟩|⟨g',aa,ab,h,_,V,_⟩;cases h;cases h;exact zd V j
 have E:HoldsK Ct.cs 5 w g 0 b.toArray:=by
  intro j f;rw[zsD]at f|-;have q:j<(ctv b).length:=by simpa using f
  rw[zA_];refine⟨?_,U j⟩;rw[World.ownsRow.cellAt s j (by rw[ze3]at q;exact q)];simp[q]
 have N:CmpLays prog 189 #[] Ct.cs 5 (λx y=>zeh (kCt x) (kCt y)) g 0 b.toArray.size w:=by
  intro m os dk ac x y;exact zqz x.au x.rd y.au y.rd _ _ _ _ _ _ _ _ _ _ _ _ _ _ _ _ _ _ _
 have H:=AnyQ.slices_SortFunc zuN 5 isAgg66 sizeOf66 Ct.cs (λ_=>rfl) (λx v I=>by simp[Ct.cs]at I;rcases I with rfl|rfl|rfl|rfl|rfl<;>rfl) (λx y=>zeh (kCt x) (kCt y)) (zuL.swo kCt) 189 #[] g 0 p b.toArray w (eO_ func189) N E r.2 (by simp;omega);have o:b.toArray.size=b.length:=by simp
 rw[o]at H;refine H.mono ?_;rintro e w'⟨rfl,d,n,os,G,Z,rfl⟩;have F:d.size=b.length:=by rw[G.1];exact o
 have Y:d.toList.Perm b:=by
  have D:=G.2.2;have J:d.extract 0 b.length=d:=by rw[<-F];simp
  have L:b.toArray.extract 0 b.length=b.toArray:=by rw[<-o];simp
  rw[J,L]at D
  simpa using D
 refine⟨znP _ _ _ _ _ _ _ R (nT_ M r.1),rfl,d.toList,Y,?_,?_⟩;intro i j X f;have l:j<d.size:=by simpa using f
 have h:=Z i j (nZ_ _) X (by omega);rw[getElem!_pos d j l,getElem!_pos d i (by omega)]at h;simp only[ltOf,decide_eq_false_iff_not]at h
 simpa using h
 have O:=holdsK_sortWorldK_c Ct.cs 5 w g 0 b.toArray d n os E r.2 (by rw[F,o]);refine⟨.inr ⟨g,0,rfl,λj f=>?_⟩⟩;have l:j<d.size:=by simpa using f
 have c:=λc (T:c<5)=>(O.cell (i:=j) (c:=c) l T).1;have t:=c 0 (by omega);have u:=c 1 (by omega);have z:=c 2 (by omega);have A:=c 3 (by omega);have C:=c 4 (by omega);rw[getElem!_pos d j l]at t u z A C;simp only[Array.getElem_toList];exact⟨t,u,z,A,C⟩
theorem znR (b:List Ct)(g c B:Nat)(w0 w:World)(f:Go.RowKit.Below w0.heap.size w0 w)(d:w0.heap.size<=B)(j:b.length<=1000)(l:b≠[])(m:w.ownsRow B 66 5 (.slice (some (p_ g 0)) b.length c) b.length (ctv b)) :
  Calls prog 188 #[.slice (some (p_ g 0)) b.length c,.func (.func 189) #[] #[]] w λe w'=>zwr w0 w' e (some (p_ g 0)) b:=by
 obtain⟨o,p⟩:=List.exists_mem_of_ne_nil b l;exact @znQ ⟨o⟩ b g c B w0 w f d j m
variable {ra:Q_}{rc:Nat}
theorem zpt (x:Nat)(w:World)(h:x<4611686018427387904):Calls prog 215 #[.int .u64 (x:Int)] w λe w'=>(∃l:Int,e=.returned (I_ l))/\w=w':=by
 have b:=Any.bits_Len (SlLaysF0.n15.bits (P:=prog) (ρ:=zma) { zuN with }) (x:Int) w (by omega) (by omega);exact b.mono λe w' h=>⟨⟨_,h.1⟩,h.2.symm⟩
theorem zpu (c:Q_)(b g:Nat)(w:World):Calls prog 241 #[.slice c 0 b,I_ 0,I_ 0,.func (.func g) #[] #[]] w λe w'=>e=.returned (.tuple #[])/\w=w':=by
 go_in;go_wp2_with fail
 go_loop [8] (λi=>i=I_ 1) (λ_=>0)
 case atStart=>rfl
 case round=>
  subst hrel;go_wp2_with fail
  go_end0;exact⟨rfl,rfl⟩
theorem zuO (c:Q_)(b g:Nat)(l:Int)(w:World):Calls prog 218 #[.slice c 0 b,I_ 0,I_ 0,I_ l,.func (.func g) #[] #[]] w λe w'=>e=.returned (.tuple #[])/\w=w':=by
 go_in;go_wp2_with fail
 go_loop [1,2] (λi j=>i=I_ 0/\j=I_ 0) (λ_ _=>0)
 case atStart=>exact⟨rfl,rfl⟩
 case round=>
  obtain⟨rfl,rfl⟩:=hrel;go_wp2_with (go_at_call 241;refine(zpu _ _ _ _).mono ?_;rintro e w'⟨rfl,rfl⟩)
  (try simp only[Exit.inBlock,Exit.then]);refine bP_ (results_none rfl _ _ _) rfl ?_
  exact⟨rfl,rfl⟩
theorem zsE (c:Q_)(b g:Nat)(w:World):Calls prog 188 #[.slice c 0 b,.func (.func g) #[] #[]] w λe w'=>e=.returned (.tuple #[])/\w=w':=by
 go_in;go_wp2_with (first|(go_at_call 215;refine(zpt 0 _ (by decide)).mono ?_;rintro e w'⟨⟨l,rfl⟩,rfl⟩)|(go_at_call 218;refine(zuO _ _ _ _ _).mono ?_;rintro e w'⟨rfl,rfl⟩))
 go_end0;exact⟨rfl,rfl⟩
theorem zqC {b:Nat}(h:w.ownsRow B 66 5 (.slice (some (p_ b 0)) n cap) n (ctv ls)):zba w (some (p_ b 0)) ls:=by
 refine⟨.inr ⟨b,0,rfl,λj d=>?_⟩⟩;have c:∀t u,t<5->(ls[j]).cs[t]? = some u->C_ w b (0+j*5+t) u:=λt u f g=>by
  have:=zps h (j*5+t) u (by rw[zfx ls j t d f];exact g);rw[zaP]at this;rw[Nat.add_assoc];exact this
 exact⟨c 0 _ (by decide) rfl,c 1 _ (by decide) rfl,c 2 _ (by decide) rfl,c 3 _ (by decide) rfl,c 4 _ (by decide) rfl⟩
theorem zll {s:Nat}(h:w.ownsRow B T s (.slice ra n rc) n xs):(ra=none/\n=0/\rc=0)\/∃b,ra=some (p_ b 0):=by
 rcases h.2 with⟨e,_⟩|⟨g,c,d,e,_⟩;cases e;exact .inl ⟨rfl,rfl,rfl⟩;cases e;exact .inr ⟨g,rfl⟩
theorem zqD (b:List Ct)(c:Q_)(rc B:Nat)(w0 w:World)(d:B_ w0 w)(m:w0.heap.size<=B)(p:b.length<=1000)(f:w.ownsRow B 66 5 (.slice c b.length rc) b.length (ctv b)) :
  Calls prog 188 #[.slice c b.length rc,.func (.func 189) #[] #[]] w λe w'=>zwr w0 w' e c b:=by
 by_cases hn:b=[];subst hn;refine(zsE c rc _ w).mono ?_;rintro e w'⟨rfl,rfl⟩;exact⟨d,rfl,[],List.Perm.refl _,λi j _ o=>absurd o (Nat.not_lt_zero _),⟨.inl rfl⟩⟩;rcases zll f with⟨_,l,_⟩|⟨g,rfl⟩;exact absurd (List.length_eq_zero_iff.1 l) hn;exact znR b g rc B w0 w d m p hn f
theorem zsF (b:Nat)(rd:Int)(g:Nat)(w:World)(j:C_ w g 0 (I_ rd)) :
  Calls prog 186 #[.slice none 0 b,.func (.func 185) #[] #[P_ g 0]] w λe w'=>e=.returned (.slice none 0 b)/\B_ w w':=by
 have c:=zjt [] none 0 b rd g w rfl (by decide) ⟨.inl rfl⟩ j;have l:zaC (zdv [] rd) 0=-1:=rfl;go_in;go_wp2_with fail
 refine c.mono ?_;rintro _ m⟨rfl,d⟩;dsimp only;rw[show zaC (zdv [] rd) (List.length ([]:List Ct))=-1 from rfl];clear c l;go_wp2_with fail
 go_ret;exact⟨rfl,d⟩
structure zzH (w0 w':World)(e:Ending)(ra:Q_)(rc B:Nat)(kl:List Ct):Prop where
 out:e=.returned (.slice ra kl.length rc)
 own:w'.ownsRow B 66 5 (.slice ra kl.length rc) kl.length (ctv kl)
 below:B_ w0 w'
theorem zsG (c:List Ct)(j:Q_)(rc B:Nat)(rd:Int)(g:Nat)(w0 w:World)(s:c.length<=400)(f:B_ w0 w)(q:w0.heap.size<=B)(d:w.ownsRow B 66 5 (.slice j c.length rc) c.length (ctv c))(t:g<B)(l:C_ w g 0 (I_ rd)) :
  Calls prog 186 #[.slice j c.length rc,.func (.func 185) #[] #[P_ g 0]] w λe w'=>zzH w0 w' e j rc B (c.filter (kpt rd)):=by
 rcases zll d with⟨rfl,m,rfl⟩|⟨b,rfl⟩;obtain rfl:c=[]:=List.length_eq_zero_iff.1 m;refine(zsF 0 rd g w l).mono ?_;rintro e w'⟨rfl,r⟩;exact⟨rfl,oN_ _ _ _ _,f.trans (r.mono f.size)⟩;refine(zqA c b rc B rd g w0 w s f q d (λe=>?_) l (zqC d)).mono ?_;have:=(d.lt b rfl).1;omega;rintro e w'⟨rfl,o,p⟩;exact⟨rfl,o,p⟩
theorem zpv (c:List Ct)(q:Q_)(rc:Nat)(w:World)(o:c.length<=400)(l:w.ownsRow 0 66 5 (.slice q c.length rc) c.length (ctv c)) :
  Calls prog 187 #[.slice q c.length rc] w λe w'=>∃d f,e=.returned (.slice d c.length f)/\w'.ownsRow w.heap.size 66 5 (.slice d c.length f) c.length (ctv c)/\B_ w w':=by
 rcases zll l with⟨rfl,j,rfl⟩|⟨b,rfl⟩
 .obtain rfl:c=[]:=List.length_eq_zero_iff.1 j;have u:∀w:World,(binOp .eql 37 (O_) (O_)).run prog w=.ok (.bool true) w:=λ_=>rfl;clear l j o;go_in;go_wp2_with fail
  go_ret;exact⟨none,0,rfl,oN_ _ _ _ _,bR_ _ _⟩
 refine(zqB c b rc w o l).mono ?_;rintro e w'⟨v,rfl,m,r⟩;obtain⟨d,f,rfl⟩:∃d f,v=.slice d c.length f:=by
  rcases m.2 with⟨e,p⟩|⟨g,s,t,e,_⟩;have j:c.length=0:=by first|exact p|exact p.1|omega
  exact⟨none,0,by rw[e,j]⟩;exact⟨_,_,e⟩
 exact⟨d,f,rfl,m,r⟩
theorem zuP (a b:CV):leC a b=true\/leC b a=true:=by
 unfold leC;simp only[dE_];omega
theorem zuQ {a b c:CV}(d:leC a b=true)(f:leC b c=true):leC a c=true:=by
 unfold leC at*;simp only[dE_]at*;omega
theorem zxM {a b:CV}(c:leC a b=true)(d:leC b a=true):a.rd=b.rd/\a.au=b.au:=by
 unfold leC at*;simp only[dE_]at*;omega
theorem znw (x:CV)(l:List CV):(ziX x l).Perm (x::l):=by
 induction l with
 | nil=>exact List.Perm.refl _
 | cons y l ih=>
  unfold ziX
  split
  exact List.Perm.refl _;exact(ih.cons y).trans (List.Perm.swap x y l)
theorem zsH (l:List CV):(zko l).Perm l:=by
 induction l with
 | nil=>exact List.Perm.refl _
 | cons x l ih=>exact(znw x _).trans (ih.cons x)
theorem zxN (x:CV)(l:List CV)(h:l.Pairwise (λa b=>leC a b=true)):(ziX x l).Pairwise (λa b=>leC a b=true):=by
 induction l with
 | nil=>exact List.pairwise_singleton _ _
 | cons y l ih=>
  obtain⟨d,f⟩:=List.pairwise_cons.1 h;unfold ziX
  split
  rename_i g
  refine List.pairwise_cons.2 ⟨λz c=>?_,h⟩;rcases List.mem_cons.1 c with e|e;rw[e];exact g;exact zuQ g (d z e)
  rename_i g
  refine List.pairwise_cons.2 ⟨λz c=>?_,ih f⟩;rcases List.mem_cons.1 ((znw x l).mem_iff.1 c)with e|e;rw[e];rcases zuP x y with q|q;exact absurd q g;exact q;exact d z e
theorem zws (l:List CV):(zko l).Pairwise (λa b=>leC a b=true):=by
 induction l with
 | nil=>exact List.Pairwise.nil
 | cons x l ih=>exact zxN x _ ih
theorem zsI:∀(a b:List CV),a.Perm b->a.Pairwise (λx y=>leC x y=true)->b.Pairwise (λx y=>leC x y=true)->(∀x∈a,∀y∈a,x.rd=y.rd->x.au=y.au->x=y)->a=b:=by
 intro a
 induction a with
 | nil=>intro b c _ _ _;exact(List.nil_perm.1 c).symm
 | cons x a ih=>
  intro b c r s d;cases b with
  | nil=>exact absurd c.length_eq (by simp)
  | cons y b=>
   obtain⟨m,o⟩:=List.pairwise_cons.1 r;obtain⟨g,j⟩:=List.pairwise_cons.1 s;have e:x=y:=by
    have C:=c.mem_iff.1 (List.mem_cons_self (a:=x) (l:=a));have f:=c.mem_iff.2 (List.mem_cons_self (a:=y) (l:=b));rcases List.mem_cons.1 C with q|q;exact q;rcases List.mem_cons.1 f with p|p;exact p.symm;obtain⟨A,B⟩:=zxM (m y p) (g x q);exact d x (List.mem_cons_self ..) y f A B
   subst e;rw[ih b (List.Perm.cons_inv c) o j (λu t v z=>d u (mC_ _ t) v (mC_ _ z))]
theorem zwt {l m:List CV}(b:m.Perm l)(d:m.Pairwise (λx y=>leC x y=true))(c:∀x∈l,∀y∈l,x.rd=y.rd->x.au=y.au->x=y):m=zko l:=
 zsI m _ (b.trans (zsH l).symm) d (zws l) (λx f y g=>c x (b.mem_iff.1 f) y (b.mem_iff.1 g))
theorem zpw {l:List CV}(h:zbV l=0){i j:Nat}(o:i<j)(p:j<l.length):¬((zaM l i).rd=(zaM l j).rd/\(zaM l i).au=(zaM l j).au):=λe=>by
 have c:=(zgw h).2 j p
 simp only[zgH,Bool.or_eq_false_iff,decide_eq_false_iff_not,Decidable.not_not]at c
 have b:=c.2
 unfold zfc at b
 have m:i<(l.take j).length:=by rw[lT9_];omega
 have q:¬0<=cOf (l.take j) (zaM l j).au (zaM l j).rd:=λg=>by
  rw[iP_ g]at b
  cases b
 have f:=zqP (zfp (l.take j) (zaM l j).au (zaM l j).rd) (l.take j).length (by unfold cOf at q;omega) i m
 have d:zaM (l.take j) i=zaM l i:=by simp[zaM,List.getD,o]
 simp[zfp,d,e.1,e.2]at f
theorem zqE {l:List CV}(h:zbV l=0):∀x∈l,∀y∈l,x.rd=y.rd->x.au=y.au->x=y:=by
 intro x o y p d f;obtain⟨i,g,rfl⟩:=List.getElem_of_mem o;obtain⟨j,m,rfl⟩:=List.getElem_of_mem p;have b:zaM l i=l[i]:=by simp[zaM,List.getD,g]
 have c:zaM l j=l[j]:=by simp[zaM,List.getD,m]
 rcases Nat.lt_trichotomy i j with q|q|q;exact absurd ⟨by rw[b,c];exact d,by rw[b,c];exact f⟩ (zpw h q m);subst q;rfl;exact absurd ⟨by rw[b,c];exact d.symm,by rw[b,c];exact f.symm⟩ (zpw h q g)
variable {o:Nat}{x:NM}
theorem zre (b:List Ct)(rd:Int):zI (b.filter (kpt rd))=(zI b).filter (λc=>decide (rd<=c.rd)):=by
 unfold zI;rw[List.filter_map]
 congr 1
 refine List.filter_congr (λc _=>?_);simp only[kpt,Function.comp];by_cases h:c.v.rd<rd;rw[dT_ h,dF_ (by omega)];rfl;rw[dF_ h,dT_ (by omega)];rfl
theorem zwu {a b c d:Int}(g:¬zeh (a,b) (c,d)<0):c<a\/(c=a/\d<=b):=by
 have f:=zgn a c;have j:=zgn b d;rw[zpo,orF]at g;unfold orF at g;unfold orF at g
 split at g<;>(try split at g)<;>omega
theorem zzq {c:List Ct}(h:∀i j (f:i<j) (d:j<c.length),¬zeh (kCt (c[j])) (kCt (c[i]))<0):(zI c).Pairwise (λa b=>leC a b=true):=by
 unfold zI;rw[List.pairwise_map,List.pairwise_iff_getElem];intro i j f d l;have g:=h i j l d;generalize c[i]=a at*;generalize c[j]=b at*;unfold leC;refine dT_ ?_;show a.rd<b.rd\/(a.rd=b.rd/\a.au<=b.au);exact zwu g
theorem zuR {b:List Ct}(f:zbV (zI ls)=0)(g:b.Perm (ls.filter (kpt rd)))(l:∀i j (m:i<j) (o:j<b.length),¬zeh (kCt (b[j])) (kCt (b[i]))<0):zI (b.take 8)=zjU (zI ls) rd:=by
 rw[zvw,zjU,<-zre]
 congr 1
 refine zwt (g.map Ct.v) (zzq l) (λx c y d=>?_);rw[zre]at c d;exact zqE f x (List.mem_filter.1 c).1 y (List.mem_filter.1 d).1
theorem zba.hid {o:List Ct}(h:zba w ra o)(r:∀l m,ra=some (p_ l m)->U l=false):zba (zq U w) ra o:=by
 refine⟨?_⟩;rcases h.cells with h|⟨l,m,e,h⟩;exact .inl h;refine .inr ⟨l,m,e,λj p=>?_⟩;have k:∀q v,w.cell? (p_ l q)=some v->(zq U w).cell? (p_ l q)=some v:=λq v g=>(cB_ (zdr (r l m e))).trans g;obtain⟨a,b,c,d,f⟩:=h j p;exact⟨k _ _ a,k _ _ b,k _ _ c,k _ _ d,k _ _ f⟩
theorem zsJ (h:zo w U F o T fc x){f:Q_}{B rc:Nat}{d:List Ct}(m:Below w.heap.size w w')(r:w.heap.size<=B)(y:∀b,ob f=some b->B<=b)(p:d.Perm (x.ls.filter (kpt rd)))(z:∀i j (C:i<j) (D:j<d.length),¬zeh (kCt (d[j])) (kCt (d[i]))<0)(s:zba w' f d){e:Ending}(t:e=.returned (.slice f (d.take 8).length rc)):zv2 w w' e U x rd:=by
 refine⟨f,rc,d.take 8,t,zuR h.inv.dag p z,(s.take 8).hid (λA E e=>h.bnd.new (nT_ r (y A (by rw[e];rfl)))),λc u=>?_,by rw[lT9_];omega,m⟩;have l:=(List.mem_filter.1 (p.mem_iff.1 (List.mem_of_mem_take u))).1;have q:c.v∈x.v.k.dag:=mM_.2 ⟨c,l,rfl⟩;refine⟨(h.stk.ec c l).sub (zao.below U m).sub,znZ h.inv.dag c l,U8L.of (λb g=>h.inv.du8 c.v q b (mA_.2 (.inl g))),U8L.of (λb g=>h.inv.du8 c.v q b (mA_.2 (.inr g)))⟩
theorem znS:zhO:=by
 intro x rd w U F o T fc h;have al:∀(fn:Fn) (first ab:X_) (w:World),(Instr.makeFunc fn first ab).run prog w=.ok (.func fn first ab) w:=λ_ _ _ _=>rfl;obtain⟨z,A,da,dc,B⟩:=h.stkAt;have ae:w.ownsRow 0 66 5 (.slice z x.ls.length A) x.ls.length (ctv x.ls):=by
  have e:=h.stk.box;unfold R_ at e;rw[B.box]at e;simp only[Option.some.injEq,Obj.cells.injEq,and_true]at e;have e2:Value.slice z x.ls.length A=x.vc:=by
   have:=cA_ (λa:X_=>a[0]?) e
   simpa using this
  rw[e2];exact h.stk.rc
 have H:=B.at'.small;have d:=zC w (.cells #[I_ rd] 3);have O:=hN_ w (.cells #[I_ rd] 3);have C:Hid (w.heap.size<(w.alloc (.cells #[I_ rd] 3)).heap.size):=by show _<_;simp
 go_in;go_upto_region 2 with fail
 generalize w.alloc (.cells #[I_ rd] 3)=p at d O C|-;generalize hg:w.heap.size=g at O C|-;have HG:Hid (w.heap.size=g):=hg;clear hg;have h0:=h.below d;have c6:=h0.cell 6 _ rfl;have R:=zfz x.ls x.s z A da dc x.ds p (B.below d);have X:=zpv x.ls z A p H (zw ae d);have Z:Hid (x.ls.length<=400):=H;clear H ae B;go_wp2_with fail
 refine R.mono ?_;rintro _ w1⟨rfl,rfl⟩;dsimp only;clear R;go_wp2_with fail
 refine X.mono ?_;rintro e w2⟨t,f,l,ad,ac⟩;subst l;dsimp only;clear X;have ah:=zm d ac;have g2:w2.cell? (p_ g 0)=some (I_ rd):=zb ((ac.block _ C.out).trans O) 0 _ rfl;have V:=zsG x.ls t f p.heap.size rd g w w2 Z.out ah d.size ad C.out g2;clear c6 ad g2;go_wp2_with fail
 refine V.mono ?_;rintro _ w3⟨rfl,s,ai⟩;dsimp only;clear V;have Y:Hid ((x.ls.filter (kpt rd)).length<=400):=nT_ (List.length_filter_le _ _) Z.out;obtain⟨c,L⟩:∃c,c=x.ls.filter (kpt rd):=⟨_,rfl⟩;have ag:Hid (c=x.ls.filter (kpt rd)):=L;rw[<-L]at s Y|-;clear L;have HS:=zqD c t f p.heap.size w w3 ai d.size (nT_ Y.out (by decide)) s;have G:Hid (∀b,ob t=some b->p.heap.size<=b):=λb e=>(s.lt b (by rw[zdb];exact e)).1;have y:Hid (c.length<=f/\f<=9223372036854775807/\(f=0\/∃b,t=some (p_ b 0))):=by
  show _/\_;rcases s.2 with⟨e,hn⟩|⟨g,aj,ak,e,_,_,h3,h4,_⟩;simp only[Value.slice.injEq]at e;exact⟨by omega,by omega,.inl e.2.2⟩;cases e;exact⟨h3,h4,.inr ⟨_,rfl⟩⟩
 clear s;go_wp2_with fail
 refine HS.mono ?_;rintro e w4⟨J,l,D,M,af,N⟩;subst l;dsimp only;clear HS;have E:Hid (D.Perm (x.ls.filter (kpt rd))):=by show _;rw[<-ag.out];exact M
 have aa:Hid (D.length=c.length):=M.length_eq;have m:Hid _:=af;clear M af;have am:=y.out.1;have an:=y.out.2.1;by_cases h8:8<=c.length
 .have u:Hid ((D.take 8).length=8):=by show _=_;rw[lT9_,aa.out];omega
  have m1:(8:Int)<=c.length:=by omega
  have m2:min (c.length:Int) 8=8:=by omega
  have m3:8<=f:=by omega
  have m4:¬((c.length:Int)<8):=by omega
  obtain⟨b,I⟩:∃b,t=some (p_ b 0):=by
   rcases y.out.2.2 with e|e;omega;exact e
  subst I;go_wp2_with fail
  go_ret;exact zsJ (rc:=f) h J d.size G.out E.out (by first|exact m.out|exact λi j q r=>Int.not_lt.2 (m.out i j q r)) N (by rw[u.out];rfl)
 have u:Hid ((D.take 8).length=c.length):=by show _=_;rw[lT9_,aa.out];omega
 have m1:(c.length:Int)<=8:=by omega
 have m2:min (c.length:Int) 8=c.length:=by omega
 have m4:(c.length:Int)<8:=by omega
 rcases y.out.2.2 with e|⟨b,I⟩
 .obtain hk0:c=[]:=List.length_eq_zero_iff.1 (by omega);subst hk0;subst e;go_wp2_with fail
  all_goals
   go_ret;exact zsJ (rc:=0) h J d.size G.out E.out (by first|exact m.out|exact λi j q r=>Int.not_lt.2 (m.out i j q r)) N (by rw[u.out];rfl)
 subst I;go_wp2_with fail
 all_goals
  go_ret;exact zsJ (rc:=f) h J d.size G.out E.out (by first|exact m.out|exact λi j q r=>Int.not_lt.2 (m.out i j q r)) N (by rw[u.out];rfl)
variable {ops:Array Oper}{Q:Exit->Act->World->Prop}{a:Act}
theorem zsK {d:Addr}{cs:List AV}(y:zbq w (some d) cs):∀j u,(avs cs)[j]? = some u->w.cell? (d.add j)=some u:=by
 intro j u b;rcases y.cells with c|⟨B,l,e,c⟩;subst c;simp[avs]at b;cases e;have A:j<cs.length*4:=by
  rcases lG_ j (cs.length*4)with g|g;exact g;rw[List.getElem?_eq_none (by rw[zg1];omega)]at b;cases b
 have f:j / 4<cs.length:=by omega
 have t:j=j / 4*4+j % 4:=by omega
 have s:j % 4<4:=by omega
 rw[zaP];obtain⟨m,o,p,r⟩:=c (j / 4) f;rw[t,zkr cs (j / 4) (j % 4) f s]at b;have z:l+j=l+j / 4*4+j % 4:=by omega
 rw[z];generalize j / 4=q at*;rcases(by omega:j % 4=0\/j % 4=1\/j % 4=2\/j % 4=3)with h|h|h|h<;>rw[h]at b|-<;>simp[AV.cs]at b<;>subst b;exact m;exact o;exact p;exact r
theorem zfB {rest:List Oper}{o:Oper}(q:o.guard=none)(s x:Operand)
  (t:o.op=.call { callee:=.builtin .append,args:=#[s,x],argTypes:=#[25,25] })
  (base:Nat) (v:Value) (n:Nat) (l:List AV) (u:a.eval s=v) (p:w.ownsRow base 29 4 v n (avs l)) (d:Q_) (m f:Nat) (b:List AV) (y:a.eval x=.slice d m f) (C:m=b.length) (g:zbq w d b) (D:d=none->m=0/\f=0)
  (H:n+m<=3000000000000) (B:base<=w.heap.size)
  (h:∀c w',w'.ownsRow base 29 4 c (n+m) (avs (l++b))->zV w v w' c->wpList prog ops Q rest (a.put o.dst c) w'):wpList prog ops Q (o::rest) a w:=by
 obtain⟨i,r,E,F,G⟩:=info_parts zwM;cases d with
 | none=>
  obtain⟨A,j⟩:=D rfl;subst A j;obtain rfl:b=[]:=eN_ C.symm;exact wpList_append_own_none q s x 25 t base 29 i 4 underlying25 r v n (avs l) u p y (h v w (by simpa using p) (zV.of (World.grownBy.refl _ _) (.inl rfl)))
 | some ad=>
  exact wpList_append_own_at w q s x 25 t base 29 i _ 4 40 underlying25 r E F G rfl (by decide) v n (avs l) u p ad m f (avs b) y (by rw[zg1];omega) (zsK g) (zxF b) (by unfold maxLen;omega) (by omega) B (λc w' z g _ j=>h c w' (by rw[zl5];exact z) (zV.of g j))
end Go.Proofs.YtffaeaonobmmjaaGreatDoor
