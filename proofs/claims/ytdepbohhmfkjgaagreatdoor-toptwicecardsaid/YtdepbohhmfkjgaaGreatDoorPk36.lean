import Derived.Test.YtdepbohhmfkjgaaGreatDoorPk35
set_option maxRecDepth 100000
set_option maxHeartbeats 4000000
namespace Go.Proofs.YtdepbohhmfkjgaaGreatDoor
open Go.RowKit Tryz
theorem znT (b:List ByteArray)(t u:Option Addr)(n m c d:Nat)(w:World)(F:n=b.length)(E:m=b.length)(C:n<=maxLen)(A:zas w t b)(B:zas w u b) :
  Calls prog 53 #[.slice t n c,.slice u m d] w λe w'=>e=.returned (.bool true)/\B_ w w':=by
 subst F E;unfold maxLen at C;go_in;go_wp2_with fail
 go_loopw [5] (λj wr=>∃k:Nat,k<=b.length/\j=I_ k/\B_ w wr) (λj _=>b.length-(intOf j).toNat)
 case atStart=>exact⟨0,nZ_ _,rfl,bR_ _ _⟩
 case round=>
  obtain⟨k,H,rfl,q⟩:=hrel;by_cases hlt:k<b.length
  .obtain⟨f,g,rfl,r⟩:∃f g,t=some ⟨f,g,none⟩/\∀j,j<b.length->w.cell? ⟨f,g+j,none⟩=some (.string (b.getD j ByteArray.empty)):=by
    rcases A.cells with h|h
    .rw[h]at hlt;simp at hlt
    .exact h
   obtain⟨l,o,rfl,s⟩:∃l o,u=some ⟨l,o,none⟩/\∀j,j<b.length->w.cell? ⟨l,o+j,none⟩=some (.string (b.getD j ByteArray.empty)):=by
    rcases B.cells with h|h
    .rw[h]at hlt;simp at hlt
    .exact h
   have I:=(q.cell (p:=⟨f,g+k,none⟩) (bL_ (r k hlt))).trans (r k hlt);have J:=(q.cell (p:=⟨l,o+k,none⟩) (bL_ (s k hlt))).trans (s k hlt);have D:(k:Int)<b.length:=by omega
   have G:(0:Int)<=k:=by omega
   clear r s;generalize b.getD k ByteArray.empty=x at*;go_wp2_with fail
   go_region_held3 (λw'=>w'.cell? ⟨f,g+k,none⟩=some (.string x)/\w'.cell? ⟨l,o+k,none⟩=some (.string x)) (go_keep) (fail)
   all_goals
    go_wp2_with fail
    go_roundw
    case rel=>
     have y:∃z:Nat,z<=b.length/\(Value.int .i64 ((k:Int)+1))=I_ z/\B_ w wr.drew:=⟨k+1,by omega,by go_num,q.drew⟩
     first|exact y|((repeat apply Exists.intro);exact⟨y,rfl⟩)
    case measure=>simp[intOf];omega
  .obtain rfl:k=b.length:=by omega
   have D:¬(b.length:Int)<b.length:=by omega
   go_wp2_with fail
   go_ret;exact⟨rfl,q⟩
theorem znU (au f:Int)(b:List ByteArray)(g j:Option Addr)(n m c d:Nat)(w:World)(q:n=b.length)(p:m=b.length)(o:n<=maxLen)(s:zas w g b)(t:zas w j b) :
  Calls prog 29 #[.agg #[I_ au,I_ f,.slice g n c],.agg #[I_ au,I_ f,.slice j m d]] w λe w'=>e=.returned (.bool true)/\B_ w w':=by
 have l:B_ w ((w.alloc (.cells #[I_ au,I_ f,.slice g n c] 62)).alloc (.cells #[I_ au,I_ f,.slice j m d] 62)):=((bR_ _ _).alloc (nR_ _) _).alloc (by simp) _;have r:=znT b g j n m c d _ q p o (s.below l) (t.below l);clear q p o;go_in;go_wp2_with fail
 refine r.mono ?_;rintro _ z⟨rfl,u⟩;dsimp only;go_wp2_with fail
 go_ret;exact⟨rfl,zS (zS u)⟩
theorem zxO (bs:List Int)(b f:Option Addr)(n m c d:Nat)(w:World)(o:n=bs.length)(l:m=bs.length)(g:zg w b c bs)(j:zg w f d bs) :
  Calls prog 54 #[.slice b n c,.slice f m d] w λe w'=>e=.returned (.bool true)/\w=w':=by
 have p:=zd8 w b n c bs o g;have q:=zd8 w f m d bs l j;clear o l g j;go_in;go_wp2_with fail
 go_ret;exact⟨by simp,rfl⟩
theorem zpz (au rd:Int)(bs:List Int)(b f:Option Addr)(n m c d:Nat)(w:World)(p:n=bs.length)(o:m=bs.length)(j:zg w b c bs)(l:zg w f d bs) :
  Calls prog 30 #[.agg #[I_ au,I_ rd,.slice b n c],.agg #[I_ au,I_ rd,.slice f m d]] w λe w'=>e=.returned (.bool true)/\B_ w w':=by
 have g:B_ w ((w.alloc (.cells #[I_ au,I_ rd,.slice b n c] 66)).alloc (.cells #[I_ au,I_ rd,.slice f m d] 66)):=((bR_ _ _).alloc (nR_ _) _).alloc (by simp) _;have h:=zxO bs b f n m c d _ p o (j.below g) (l.below g);clear p o j l;go_in;go_wp2_with fail
 refine h.mono ?_;rintro e q⟨rfl,rfl⟩;dsimp only;go_wp2_with fail
 go_ret;exact⟨rfl,g⟩
variable {bl:List zi}
theorem zrf (b:List Sl)(j i:Nat)(h:j<b.length)(c:i<3):(slv b)[j*3+i]? = (b[j]).cs[i]?:=by
 induction b generalizing j with
 | nil=>cases h
 | cons x r ih=>
  cases j with
  | zero=>simp only[slv,Nat.zero_mul,Nat.zero_add,List.getElem_cons_zero];rw[List.getElem?_append_left (by simp[Sl.cs];exact c)]
  | succ j=>
   have h':j<r.length:=by simpa using h
   simp only[slv,List.getElem_cons_succ];rw[List.getElem?_append_right (by simp[Sl.cs];omega),<-ih j h']
   congr 1
   simp[Sl.cs];omega
theorem zpA {c:List zi}(j:zT c=zT bl)(d:bl.length<=1000)(g:∀b∈zT bl,∀x∈b,0<=x/\x<=255):zg2 c bl:=
 ⟨j,λp f x l=>g p.bs (List.mem_map.2 ⟨p,f,rfl⟩) x l,d⟩
theorem zuT (c d:Ct)(w:World)(f:c.v=d.v)(N:d.v.f=0)(D:∀b∈d.v.bl++d.v.pl,∀x∈b,0<=x/\x<=255)(J:za7 w c)(L:za7 w d) :
  Calls prog 18 #[.agg #[I_ c.au,I_ c.rd,.slice c.ba c.bl.length c.bc,.slice c.pa c.pl.length c.pc,.slice c.va c.vl.length c.vc],.agg #[I_ d.au,I_ d.rd,.slice d.ba d.bl.length d.bc,.slice d.pa d.pl.length d.pc,.slice d.va d.vl.length d.vc]] w λe w'=>e=.returned (.bool true)/\Below w.heap.size w w':=by
 have H:Hid (c.v=d.v):=f;clear f;refine kA_ ?A0 ?_;exact #[I_ c.au,I_ c.rd,.slice c.ba c.bl.length c.bc,.slice c.pa c.pl.length c.pc,.slice c.va c.vl.length c.vc];refine kA_ ?B0 ?_;exact #[I_ d.au,I_ d.rd,.slice d.ba d.bl.length d.bc,.slice d.pa d.pl.length d.pc,.slice d.va d.vl.length d.vc];have l:Below w.heap.size w ((w.alloc (.cells ?A0 59)).alloc (.cells ?B0 59)):=((bR_ _ _).alloc (nR_ _) _).alloc (by simp) _;have g:=hX_ w (.cells ?A0 59) (.cells ?B0 59);have j:=hY_ w (.cells ?A0 59) (.cells ?B0 59);go_in;go_upto_region 1 with fail
 generalize (w.alloc (.cells ?A0 59)).alloc (.cells ?B0 59)=m at l g j|-;have f:=H.out;have z:c.au=d.au:=congrArg CV.au f;have A:c.rd=d.rd:=congrArg CV.rd f;have B:zT c.bl=zT d.bl:=congrArg CV.bl f;have C:zT c.pl=zT d.pl:=congrArg CV.pl f;have o:c.vl=d.vl:=congrArg CV.vl f;obtain⟨E,F,O,_,_⟩:=zow N;have u:=zpA B E (λb t=>D b (List.mem_append.2 (.inl t)));have y:=zpA C F (λb t=>D b (List.mem_append.2 (.inr t)));have p:=J.below l;have q:=L.below l;have s:=p.ints;rw[o]at s;have r:=zpy c.au c.rd c.ba c.bc c.bl c.pa c.pc c.pl c.va c.vc d.vl d.ba d.bc d.bl d.pa d.pc d.pl d.va d.vc m u y (by omega) p.hat.lb p.hat.lp s q.hat.lb q.hat.lp q.ints;rw[<-o]at r;have G:Calls prog 28 #[.agg ?A0,.agg ?B0] m λe w'=>e=.returned (.bool true)/\Below m.heap.size m w':=by
  rw[<-z,<-A,<-o];exact r
 clear r z A B C o u y s p q E F O f;have R:=zb g 0 _ rfl;have T:=zb g 1 _ rfl;have U:=zb g 2 _ rfl;have V:=zb g 3 _ rfl;have X:=zb g 4 _ rfl;have Y:=zb j 0 _ rfl;have Z:=zb j 1 _ rfl;have b2:=zb j 2 _ rfl;have b3:=zb j 3 _ rfl;have b4:=zb j 4 _ rfl;go_wp2_with fail
 refine G.mono ?_;rintro _ w1⟨rfl,I⟩;dsimp only;go_wp2_with fail
 go_ret;exact⟨rfl,l.trans (I.mono l.size)⟩
theorem zsM (c d:Bc)(w:World)(b:c.v=d.v)(s:zcN w c)(l:zcN w d) :
  Calls prog 19 #[.agg #[I_ c.v.au,I_ c.v.nu,.slice c.ta c.v.ss.length c.tc],.agg #[I_ d.v.au,I_ d.v.nu,.slice d.ta d.v.ss.length d.tc]] w λe w'=>e=.returned (.bool true)/\Below w.heap.size w w':=by
 have p:Hid (c.v=d.v):=b;clear b;refine kO_ ?A0 ?_;exact Obj.cells #[I_ c.v.au,I_ c.v.nu,.slice c.ta c.v.ss.length c.tc] 62;refine kO_ ?B0 ?_;exact Obj.cells #[I_ d.v.au,I_ d.v.nu,.slice d.ta d.v.ss.length d.tc] 62;have f:Below w.heap.size w ((w.alloc ?A0).alloc ?B0):=((bR_ _ _).alloc (nR_ _) _).alloc (by simp) _;have g:=hX_ w ?A0 ?B0;have j:=hY_ w ?A0 ?B0;go_in;go_upto_region 1 with fail
 generalize (w.alloc ?A0).alloc ?B0=q at f g j|-;have b:=p.out;have m:=(s.below f).strs;rw[b]at m;have o:=znU d.v.au d.v.nu d.v.ss c.ta d.ta _ _ c.tc d.tc q rfl rfl (nT_ l.le l.max) m (l.below f).strs;rw[b]at g|-;clear m b;have u:=zb g 0 _ rfl;have A:=zb j 0 _ rfl;have y:=zb g 1 _ rfl;have B:=zb j 1 _ rfl;have z:=zb g 2 _ rfl;have C:=zb j 2 _ rfl;go_wp2_with fail
 refine o.mono ?_;rintro _ D⟨rfl,r⟩;dsimp only;go_wp2_with fail
 go_ret;exact⟨rfl,f.trans (r.mono f.size)⟩
theorem zuU (c d:Sl)(w:World)(b:c.v=d.v)(q:zg w c.p.sa c.p.cap c.p.bs)(r:zg w d.p.sa d.p.cap d.p.bs) :
  Calls prog 20 #[.agg #[I_ c.au,I_ c.rd,.slice c.p.sa c.p.bs.length c.p.cap],.agg #[I_ d.au,I_ d.rd,.slice d.p.sa d.p.bs.length d.p.cap]] w λe w'=>e=.returned (.bool true)/\Below w.heap.size w w':=by
 have u:Hid (c.v=d.v):=b;clear b;refine kO_ ?A0 ?_;exact Obj.cells #[I_ c.au,I_ c.rd,.slice c.p.sa c.p.bs.length c.p.cap] 66;refine kO_ ?B0 ?_;exact Obj.cells #[I_ d.au,I_ d.rd,.slice d.p.sa d.p.bs.length d.p.cap] 66;have f:Below w.heap.size w ((w.alloc ?A0).alloc ?B0):=((bR_ _ _).alloc (nR_ _) _).alloc (by simp) _;have g:=hX_ w ?A0 ?B0;have j:=hY_ w ?A0 ?B0;go_in;go_upto_region 1 with fail
 generalize (w.alloc ?A0).alloc ?B0=y at f g j|-;have b:=u.out;have o:c.au=d.au:=congrArg (λs:SV=>s.1) b;have p:c.rd=d.rd:=congrArg (λs:SV=>s.2.1) b;have l:c.p.bs=d.p.bs:=congrArg (λs:SV=>s.2.2) b;have m:=q.below f;rw[l]at m;have t:=zpz d.au d.rd d.p.bs c.p.sa d.p.sa _ _ c.p.cap d.p.cap y rfl rfl m (r.below f);rw[o,p,l]at g|-;clear m b o p l q r;have B:=zb g 0 _ rfl;have E:=zb j 0 _ rfl;have C:=zb g 1 _ rfl;have F:=zb j 1 _ rfl;have D:=zb g 2 _ rfl;have G:=zb j 2 _ rfl;go_wp2_with fail
 refine t.mono ?_;rintro _ H⟨rfl,z⟩;dsimp only;go_wp2_with fail
 go_ret;exact⟨rfl,f.trans (z.mono f.size)⟩
theorem zyO:(prog.info? 59).map (·.size)=some 5:=by kernel_rfl
theorem zyP:(prog.info? 62).map (·.size)=some 3:=by kernel_rfl
theorem zyQ:(prog.info? 66).map (·.size)=some 3:=by kernel_rfl
structure zcx (p q:Vw):Prop where
 rd:p.rd=q.rd
 cs:p.cs=q.cs
 bs:p.bs=q.bs
 vt:p.vt=q.vt
theorem zpB {α β:Type}{f:α->β}{l m:List α}(h:l.map f=m.map f)(k:Nat)(b:k<l.length)(c:k<m.length):f l[k]=f m[k]:=by
 have:=congrArg (λx:List β=>x[k]?) h
 simpa[b,c]using this
theorem zdC (p q:Vm)(w:World)(hp:zfX w p)(hq:zfX w q)(ho:zlk q.v)(hs:zcx p.v q.v) :
  Calls prog 14 #[.agg #[.bool p.up,I_ p.rd,.slice p.ca p.ls.length p.cc,.slice p.ba p.bl.length p.bc,.slice p.ta p.tab.length p.tc,.slice p.pa p.txs.length p.pc],.agg #[.bool q.up,I_ q.rd,.slice q.ca q.ls.length q.cc,.slice q.ba q.bl.length q.bc,.slice q.ta q.tab.length q.tc,.slice q.pa q.txs.length q.pc]] w λe w'=>e=.returned (.bool true)/\Below w.heap.size w w':=by
 have er:p.rd=q.rd:=hs.rd;have l1:p.ls.length=q.ls.length:=by have:=congrArg List.length hs.cs;simpa[Vm.v,zI]using this
 have l2:p.bl.length=q.bl.length:=by have:=congrArg List.length hs.bs;simpa[Vm.v]using this
 have l3:p.tab.length=q.tab.length:=by have:=congrArg List.length hs.vt;simpa[Vm.v,vs]using this
 have b1:q.ls.length<=400:=zlE ho.dag;have b2:q.bl.length<=800:=by have:=ho.sh;simpa[Vm.v]using this
 have b3:q.tab.length<=400000:=by have:=ho.tab;simpa[Vm.v,vs]using this
 have HS:Hid _:=hs;have HO:Hid _:=ho;have ER:Hid (p.rd=q.rd):=er;have L1:Hid (p.ls.length=q.ls.length):=l1;have L2:Hid (p.bl.length=q.bl.length):=l2;have L3:Hid (p.tab.length=q.tab.length):=l3;clear er l1 l2 l3;refine kO_ ?A0 ?_;exact Obj.cells #[.bool p.up,I_ p.rd,.slice p.ca p.ls.length p.cc,.slice p.ba p.bl.length p.bc,.slice p.ta p.tab.length p.tc,.slice p.pa p.txs.length p.pc] 42;refine kO_ ?B0 ?_;exact Obj.cells #[.bool q.up,I_ q.rd,.slice q.ca q.ls.length q.cc,.slice q.ba q.bl.length q.bc,.slice q.ta q.tab.length q.tc,.slice q.pa q.txs.length q.pc] 42;have hA:Below w.heap.size w ((w.alloc ?A0).alloc ?B0):=((bR_ _ _).alloc (nR_ _) _).alloc (by simp) _;have q0:=hX_ w ?A0 ?B0;have q1:=hY_ w ?A0 ?B0;go_in;go_upto_region 1 with fail
 generalize (w.alloc ?A0).alloc ?B0=W0 at hA q0 q1|-;generalize w.heap.size+1=Q at q1|-;generalize ag:w.heap.size=P at q0|-;have HP:Hid (w.heap.size=P):=ag;clear ag hs ho;have ax:=hp.below hA;have ay:=hq.below hA;clear hp hq;have p1:=zb q0 1 _ rfl;have p2:=zb q0 2 _ rfl;have p3:=zb q0 3 _ rfl;have p4:=zb q0 4 _ rfl;have s1:=zb q1 1 _ rfl;have s2:=zb q1 2 _ rfl;have s3:=zb q1 3 _ rfl;have s4:=zb q1 4 _ rfl;rw[ER.out]at p1;rw[L1.out]at p2;rw[L2.out]at p3;rw[L3.out]at p4;clear q0 q1;generalize ak:q.ls.length=U at p2 s2 b1 L1|-;generalize al:q.bl.length=X at p3 s3 b2 L2|-;generalize am:q.tab.length=Y at p4 s4 b3 L3|-;have N1:Hid _:=ak;have N2:Hid _:=al;have N3:Hid _:=am;clear ak al am;go_wp2_with fail
 have an:=ax;have ao:=ay;have az:=p2;have aC:=p3;have aF:=p4;have aI:=s2;have aL:=s3;have aO:=s4;go_loopw [5] (λj wr=>∃k:Nat,k<=U/\j=I_ k/\Below W0.heap.size W0 wr) (λj _=>U-(intOf j).toNat)
 case atStart=>exact⟨0,nZ_ _,rfl,bR_ _ _⟩
 case round=>
  obtain⟨k,hk,rfl,g⟩:=hrel;have o:=an.below g;have r:=ao.below g;have z:=zr g az;have A:=zr g aC;have B:=zr g aF;have E:=zr g aI;have F:=zr g aL;have G:=zr g aO;by_cases hlt:k<U
  .have af:(k:Int)<U:=by omega
   have N:k<p.ls.length:=by rw[L1.out];exact hlt
   have J:k<q.ls.length:=by rw[N1.out];exact hlt
   have L:Hid _:=(λ(V:World) (hV:Below wr.heap.size wr V)=>zuT (p.ls[k]) (q.ls[k]) V (zpB (f:=Ct.v) HS.out.cs k N J) (znZ HO.out.dag _ (gM_ J)) (HO.out.du8 _ (List.mem_map.2 ⟨_,gM_ J,rfl⟩)) ((o.ec _ (gM_ N)).below hV) ((r.ec _ (gM_ J)).below hV));have Z:=o.rc;rw[L1.out]at Z;have aa:=r.rc;rw[N1.out]at aa;obtain⟨s,ad,O⟩:=zei Z hlt (row:=(p.ls[k]).cs) rfl (λt T=>zfx p.ls k t N T);obtain⟨u,ae,R⟩:=zei aa hlt (row:=(q.ls[k]).cs) rfl (λt T=>zfx q.ls k t J T);rw[ad]at z;rw[ae]at E;generalize p.ls[k]=c at L O;generalize q.ls[k]=d at L R;have y:=dB_ wr;have C:=dC_ z;have H:=dC_ E;have D:=zde O;have I:=zde R;go_upto_region 6 with fail
   refine wR_ (S:=λw'=>w'.cell? ⟨P,2,none⟩=some (.slice (some ⟨s,0,none⟩) U p.cc)/\w'.cell? ⟨Q,2,none⟩=some (.slice (some ⟨u,0,none⟩) U q.cc)/\w'.rangeAt s (k*5) c.cs/\w'.rangeAt u (k*5) d.cs) (by kernel_rfl) ⟨C,H,D,I⟩ (λl=>?_);generalize wr.drew=M at y C H D I l|-;refine tks_ 4 [(0,47,(P_ P 2)),(1,48,.slice (some ⟨s,0,none⟩) U p.cc),(2,49,I_ (k:Int)),(3,50,(P_ s (k*5)))] l ?_;simp only[tkf_,zf];refine kA_ ?C0 ?_;exact #[I_ c.au,I_ c.rd,.slice c.ba c.bl.length c.bc,.slice c.pa c.pl.length c.pc,.slice c.va c.vl.length c.vc];refine tQ_ 4 51 (.agg ?C0) rfl rfl (yieldsIf_load_mid (by rfl) 59 _ rfl s (k*5) rfl c.cs _ (λw0 h=>h.2.2.1) underlying59 rfl zyO) l ?_;simp only[zf];refine tks_ 4 [(5,52,(P_ Q 2)),(6,53,.slice (some ⟨u,0,none⟩) U q.cc),(7,54,I_ (k:Int)),(8,55,(P_ u (k*5)))] l ?_;simp only[tkf_,zf];refine kA_ ?D0 ?_;exact #[I_ d.au,I_ d.rd,.slice d.ba d.bl.length d.bc,.slice d.pa d.pl.length d.pc,.slice d.va d.vl.length d.vc];refine tQ_ 9 56 (.agg ?D0) rfl rfl (yieldsIf_load_mid (by rfl) 59 _ rfl u (k*5) rfl d.cs _ (λw0 h=>h.2.2.2) underlying59 rfl zyO) l ?_;simp only[zf];refine zE 10 rfl (λK9 hK=>?_);refine zj rfl 57 rfl 18 [.tmp 51,.tmp 56] #[59,59] rfl [.agg ?C0,.agg ?D0] rfl (eO_ func18) (λv w'=>v=.bool true/\Below M.heap.size M w') ((L.out M y).mono (λe w2 h=>⟨_,h.1,rfl,h.2⟩)) ?_;rintro v V1⟨rfl,m⟩;have ac:=zm y m;refine hK.out _ _ ⟨zr m C,zr m H,zdd D m,zdd I m⟩ (λl=>?_);simp only[zf];refine zU 11 58 (.bool false) rfl rfl l ?_;simp only[zf];refine wD_ (by kernel_rfl) ?_ _;have ab:=zm g ac;clear C H D I l y m o r Z aa O R z A B E F G;go_wp2_with fail
   go_roundw
   case rel=>exact⟨k+1,by omega,by go_num,ab⟩
   case measure=>simp[intOf];omega
  .obtain rfl:U=k:=by omega
   have af:¬((U:Nat):Int)<(U:Nat):=by omega
   obtain⟨W1,ah⟩:∃W,W=wr:=⟨_,rfl⟩;rw[<-ah]at g o r z A B E F G|-;clear ah;have ab:=zm hA g;have ap:=o;have aq:=r;have aA:=z;have aD:=A;have aG:=B;have aJ:=E;have aM:=F;have aP:=G;clear g o r z A B E F G hlt hk;go_wp2_with fail
   go_loopw [6] (λj wr=>∃k:Nat,k<=X/\j=I_ k/\Below W1.heap.size W1 wr) (λj _=>X-(intOf j).toNat)
   case atStart=>exact⟨0,nZ_ _,rfl,bR_ _ _⟩
   case round=>
    obtain⟨k,hk,rfl,g⟩:=hrel;have o:=ap.below g;have r:=aq.below g;have z:=zr g aA;have A:=zr g aD;have B:=zr g aG;have E:=zr g aJ;have F:=zr g aM;have G:=zr g aP;by_cases hlt:k<X
    .have af:(k:Int)<X:=by omega
     have N:k<p.bl.length:=by rw[L2.out];exact hlt
     have J:k<q.bl.length:=by rw[N2.out];exact hlt
     have L:Hid _:=(λ(V:World) (hV:Below wr.heap.size wr V)=>zsM (p.bl[k]) (q.bl[k]) V (zpB (f:=λb:Bc=>b.v) HS.out.bs k N J) ((o.eb _ (gM_ N)).below hV) ((r.eb _ (gM_ J)).below hV));have Z:=o.rb;rw[L2.out]at Z;have aa:=r.rb;rw[N2.out]at aa;obtain⟨s,ad,O⟩:=zei Z hlt (row:=(p.bl[k]).cs) rfl (λt T=>zrb p.bl k t N T);obtain⟨u,ae,R⟩:=zei aa hlt (row:=(q.bl[k]).cs) rfl (λt T=>zrb q.bl k t J T);rw[ad]at A;rw[ae]at F;generalize p.bl[k]=c at L O;generalize q.bl[k]=d at L R;have y:=dB_ wr;have C:=dC_ A;have H:=dC_ F;have D:=zde O;have I:=zde R;go_upto_region 11 with fail
     refine wR_ (S:=λw'=>w'.cell? ⟨P,3,none⟩=some (.slice (some ⟨s,0,none⟩) X p.bc)/\w'.cell? ⟨Q,3,none⟩=some (.slice (some ⟨u,0,none⟩) X q.bc)/\w'.rangeAt s (k*3) c.cs/\w'.rangeAt u (k*3) d.cs) (by kernel_rfl) ⟨C,H,D,I⟩ (λl=>?_);generalize wr.drew=M at y C H D I l|-;refine tks_ 4 [(0,66,(P_ P 3)),(1,67,.slice (some ⟨s,0,none⟩) X p.bc),(2,68,I_ (k:Int)),(3,69,(P_ s (k*3)))] l ?_;simp only[tkf_,zf];refine kA_ ?E0 ?_;exact #[I_ c.v.au,I_ c.v.nu,.slice c.ta c.v.ss.length c.tc];refine tQ_ 4 70 (.agg ?E0) rfl rfl (yieldsIf_load_mid (by rfl) 62 _ rfl s (k*3) rfl c.cs _ (λw0 h=>h.2.2.1) underlying62 rfl zyP) l ?_;simp only[zf];refine tks_ 4 [(5,71,(P_ Q 3)),(6,72,.slice (some ⟨u,0,none⟩) X q.bc),(7,73,I_ (k:Int)),(8,74,(P_ u (k*3)))] l ?_;simp only[tkf_,zf];refine kA_ ?F0 ?_;exact #[I_ d.v.au,I_ d.v.nu,.slice d.ta d.v.ss.length d.tc];refine tQ_ 9 75 (.agg ?F0) rfl rfl (yieldsIf_load_mid (by rfl) 62 _ rfl u (k*3) rfl d.cs _ (λw0 h=>h.2.2.2) underlying62 rfl zyP) l ?_;simp only[zf];refine zE 10 rfl (λK9 hK=>?_);refine zj rfl 76 rfl 19 [.tmp 70,.tmp 75] #[62,62] rfl [.agg ?E0,.agg ?F0] rfl (eO_ func19) (λv w'=>v=.bool true/\Below M.heap.size M w') ((L.out M y).mono (λe w2 h=>⟨_,h.1,rfl,h.2⟩)) ?_;rintro v V1⟨rfl,m⟩;have ac:=zm y m;refine hK.out _ _ ⟨zr m C,zr m H,zdd D m,zdd I m⟩ (λl=>?_);simp only[zf];refine zU 11 77 (.bool false) rfl rfl l ?_;simp only[zf];refine wD_ (by kernel_rfl) ?_ _;have ab:=zm g ac;clear C H D I l y m o r Z aa O R z A B E F G;go_wp2_with fail
     go_roundw
     case rel=>exact⟨k+1,by omega,by go_num,ab⟩
     case measure=>simp[intOf];omega
    .obtain rfl:X=k:=by omega
     have af:¬((X:Nat):Int)<(X:Nat):=by omega
     obtain⟨W2,ai⟩:∃W,W=wr:=⟨_,rfl⟩;rw[<-ai]at g o r z A B E F G|-;clear ai;have av:=zm ab g;have ar:=o;have au:=r;have aB:=z;have aE:=A;have aH:=B;have aK:=E;have aN:=F;have aQ:=G;clear g o r z A B E F G hlt hk;go_wp2_with fail
     go_loopw [7] (λj wr=>∃k:Nat,k<=Y/\j=I_ k/\Below W2.heap.size W2 wr) (λj _=>Y-(intOf j).toNat)
     case atStart=>exact⟨0,nZ_ _,rfl,bR_ _ _⟩
     case round=>
      obtain⟨k,hk,rfl,g⟩:=hrel;have o:=ar.below g;have r:=au.below g;have z:=zr g aB;have A:=zr g aE;have B:=zr g aH;have E:=zr g aK;have F:=zr g aN;have G:=zr g aQ;by_cases hlt:k<Y
      .have af:(k:Int)<Y:=by omega
       have N:k<p.tab.length:=by rw[L3.out];exact hlt
       have J:k<q.tab.length:=by rw[N3.out];exact hlt
       have L:Hid _:=(λ(V:World) (hV:Below wr.heap.size wr V)=>zuU (p.tab[k]) (q.tab[k]) V (zpB (f:=Sl.v) HS.out.vt k N J) ((o.et _ (gM_ N)).below hV) ((r.et _ (gM_ J)).below hV));have Z:=o.rt;rw[L3.out]at Z;have aa:=r.rt;rw[N3.out]at aa;obtain⟨s,ad,O⟩:=zei Z hlt (row:=(p.tab[k]).cs) rfl (λt T=>zrf p.tab k t N T);obtain⟨u,ae,R⟩:=zei aa hlt (row:=(q.tab[k]).cs) rfl (λt T=>zrf q.tab k t J T);rw[ad]at B;rw[ae]at G;generalize p.tab[k]=c at L O;generalize q.tab[k]=d at L R;have y:=dB_ wr;have C:=dC_ B;have H:=dC_ G;have D:=zde O;have I:=zde R;go_upto_region 16 with fail
       refine wR_ (S:=λw'=>w'.cell? ⟨P,4,none⟩=some (.slice (some ⟨s,0,none⟩) Y p.tc)/\w'.cell? ⟨Q,4,none⟩=some (.slice (some ⟨u,0,none⟩) Y q.tc)/\w'.rangeAt s (k*3) c.cs/\w'.rangeAt u (k*3) d.cs) (by kernel_rfl) ⟨C,H,D,I⟩ (λl=>?_);generalize wr.drew=M at y C H D I l|-;refine tks_ 4 [(0,85,(P_ P 4)),(1,86,.slice (some ⟨s,0,none⟩) Y p.tc),(2,87,I_ (k:Int)),(3,88,(P_ s (k*3)))] l ?_;simp only[tkf_,zf];refine kA_ ?G0 ?_;exact #[I_ c.au,I_ c.rd,.slice c.p.sa c.p.bs.length c.p.cap];refine tQ_ 4 89 (.agg ?G0) rfl rfl (yieldsIf_load_mid (by rfl) 66 _ rfl s (k*3) rfl c.cs _ (λw0 h=>h.2.2.1) underlying66 rfl zyQ) l ?_;simp only[zf];refine tks_ 4 [(5,90,(P_ Q 4)),(6,91,.slice (some ⟨u,0,none⟩) Y q.tc),(7,92,I_ (k:Int)),(8,93,(P_ u (k*3)))] l ?_;simp only[tkf_,zf];refine kA_ ?H0 ?_;exact #[I_ d.au,I_ d.rd,.slice d.p.sa d.p.bs.length d.p.cap];refine tQ_ 9 94 (.agg ?H0) rfl rfl (yieldsIf_load_mid (by rfl) 66 _ rfl u (k*3) rfl d.cs _ (λw0 h=>h.2.2.2) underlying66 rfl zyQ) l ?_;simp only[zf];refine zE 10 rfl (λK9 hK=>?_);refine zj rfl 95 rfl 20 [.tmp 89,.tmp 94] #[66,66] rfl [.agg ?G0,.agg ?H0] rfl (eO_ func20) (λv w'=>v=.bool true/\Below M.heap.size M w') ((L.out M y).mono (λe w2 h=>⟨_,h.1,rfl,h.2⟩)) ?_;rintro v V1⟨rfl,m⟩;have ac:=zm y m;refine hK.out _ _ ⟨zr m C,zr m H,zdd D m,zdd I m⟩ (λl=>?_);simp only[zf];refine zU 11 96 (.bool false) rfl rfl l ?_;simp only[zf];refine wD_ (by kernel_rfl) ?_ _;have ab:=zm g ac;clear C H D I l y m o r Z aa O R z A B E F G;go_wp2_with fail
       go_roundw
       case rel=>exact⟨k+1,by omega,by go_num,ab⟩
       case measure=>simp[intOf];omega
      .obtain rfl:Y=k:=by omega
       have af:¬((Y:Nat):Int)<(Y:Nat):=by omega
       obtain⟨W3,aj⟩:∃W,W=wr:=⟨_,rfl⟩;rw[<-aj]at g o r z A B E F G|-;clear aj;have aw:=zm av g;clear g o r hlt hk;go_wp2_with fail
       go_ret;exact⟨rfl,aw⟩
end Go.Proofs.YtdepbohhmfkjgaaGreatDoor
