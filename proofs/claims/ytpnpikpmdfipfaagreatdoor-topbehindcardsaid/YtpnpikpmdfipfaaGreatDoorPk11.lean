import Derived.Test.YtpnpikpmdfipfaaGreatDoorPk10
set_option maxRecDepth 100000
set_option maxHeartbeats 4000000
namespace Go.Proofs.YtpnpikpmdfipfaaGreatDoor
open Go.RowKit Tryz
variable {l:List SV}
theorem zgi (l:List SV)(b:Ct):zcL l b.au b.rd b.bl b.pl=zaf l b.v:=by
 have c:zO b.v.au b.v.rd (pz b.v.bl) (pz b.v.pl)=zO b.au b.rd b.bl b.pl:=zfk (zcH b.bl) (zcH b.pl);have d:zaE b.v.au b.v.rd (pz b.v.bl) (pz b.v.pl)=zaE b.au b.rd b.bl b.pl:=by rw[Ct.d_v];rfl
 rw[zaf,zcL,zcL,c,d]
 rfl
theorem zvO {s:SV}(h:(za6 l s).2=0):za6 l s=(l,0)\/(za6 l s=(l++[s],0)/\l.length<400):=by
 cases hm:zbp l s.1 s.2.1 l.length with
 | some m=>
  by_cases g:txL (zd1 l m).2.2=txL s.2.2;exact .inl (ziG hm g);rw[zhY hm g]at h;cases h
 | none=>
  by_cases g:400<=l.length;rw[ziH hm g]at h;cases h;exact .inr ⟨zjL hm g,by omega⟩
theorem zlb {h:CV}(b:(zaf l h).2.2=0):zdt l=0/\h.hf=0/\(zaf l h).2.1=h.slot/\((zaf l h).1=l\/((zaf l h).1=l++[h.slot]/\l.length<400)):=by
 unfold zaf zcL at b|-;by_cases h1:zdt l≠0;rw[iP_ h1]at b;cases b;by_cases h2:zO h.au h.rd (pz h.bl) (pz h.pl)≠0;rw[iN_ h1,iP_ h2]at b;exact absurd b h2;rw[iN_ h1,iN_ h2]at b|-;by_cases h3:(za6 l (h.au,h.rd,zaE h.au h.rd (pz h.bl) (pz h.pl))).2≠0;rw[iP_ h3]at b;exact absurd b h3;rw[iN_ h3];refine⟨Decidable.of_not_not h1,Decidable.of_not_not h2,rfl,?_⟩;have d:(za6 l h.slot).2=0:=Decidable.of_not_not h3;rcases zvO d with g|⟨g,c⟩;exact .inl (cA_ Prod.fst g);exact .inr ⟨cA_ Prod.fst g,c⟩
theorem NM.v_tab (x:NM)(a:Q_)(c:Nat)(l:List Sl):({ x with ta:=a,tc:=c,tab:=l }:NM).v={ x.v with k:={ x.v.k with tab:=vs l } }:=rfl
theorem za3.tab_ {n:Nd}(h:za3 n){l:List SV}(b:l.length<=400000)(c:∀s∈l,zaN s.2.2):za3 { n with k:={ n.k with tab:=l } }:=
 ⟨h.nu,h.pool,h.sh,h.shf,h.dag,h.own,h.ovl,h.vot,h.tape,h.syn,h.wai,h.trn,b,c,h.u8s,h.ou8,h.du8⟩
theorem zfy (h:CV):zaN h.slot.2.2:=zkk _ _ _ _
theorem zoZ {h:CV}(f:h.hf=0):zbf h.slot.1 h.slot.2.1 h.slot.2.2.length=0:=by
 obtain⟨b,c,_⟩:=zbi (show zO h.au h.rd (pz h.bl) (pz h.pl)=0 from f);have d:=h.d_length;show zbf h.au h.rd h.d.length=0;rw[d,zbf];simp[b,c]
variable {w w2 w1:World}{U U1:Nat->Bool}{F n o base c':Nat}{fc:X_}{T:TypeId}{x:NM}{xs:List Value}{a':Q_}
theorem zo.hideRow {s:Nat}{e:TypeId}{a:Q_}{m c:Nat}(h:zo w U F o T fc x)(d:B_ w w2)(y:w2.ownsRow base e s (.slice a m c) n xs)(u:∀q,ob a=some q->w.heap.size<=q) :
  zo w2 (zaF U (ob a)) F o T fc x/\zl U (zaF U (ob a)) w w2 F o fc fc x x:=by
 have r:zao U (zaF U (ob a)) w w2:=⟨d.os,d.tape,d.output,d.size,λb l _=>d.block b l,λb l=>by
  cases hu:U b with
  | true=>exact zaB hu
  | false=>exact zbw hu (λe=>by have:=u b e;omega)⟩
 have f:=r.sub;have g:=h.below d;refine⟨⟨g.blk,h.siz,h.cel,zaB h.fu,λb e=>⟨zaB (h.su b e).1,(h.su b e).2⟩,?_,h.tabs.sub f,h.etx.sub f,g.rsh,λs m=>(h.esh s m).sub f,g.rtb,λs m=>(h.etb s m).sub f,⟨g.stk.box,g.stk.rc,g.stk.rd,λc j=>(h.stk.ec c j).sub f,λp z=>(h.stk.ed p z).sub f,h.stk.same,λc j b d=>by rw[r.us b (by have:=(h.stk.ec c j).block_lt b d;rwa [zch]at this)];exact h.stk.ic c j b d⟩,h.hdr.sub f,h.slt.sub f,g.rvo,h.tap.sub f,h.ems,g.rwa,λm e=>(h.ewa m e).sub f,h.inv⟩,?_⟩;intro b t;have:=(h.bnd.grew d.size y) b (by rw[zdb];exact t);exact this;exact⟨d.os,d.tape,d.output,d.size,λb l _ _=>d.block b l,r.us,λ_ h=>.inl h,rfl,λ_ _=>rfl⟩
theorem zo.late_tab {l:X_}{d:NM}{l':List Sl}(n:zl U U1 w w1 F o fc l x d)(h:zo w1 U1 F o T l d)(r:∀q,ob a'=some q->w.heap.size<=q/\U1 q=true/\q≠F)
  (D:w1.ownsRow 0 63 3 (.slice a' l'.length c') l'.length (slv l')) (A:∀s∈l',zg (zq U1 w1) s.p.sa s.p.cap s.p.bs) (B:za3 ({ d with ta:=a',tc:=c',tab:=l' }:NM).v) :
  ∃u t,zo (w1.setCell (p_ F (o+5)) (.slice a' l'.length c')) U1 F o T u t/\zl U U1 w (w1.setCell (p_ F (o+5)) (.slice a' l'.length c')) F o fc u x t/\t.v=({ d with ta:=a',tc:=c',tab:=l' }:NM).v:=by
 refine kW_ ?A0 ?_;exact w1.setCell (p_ F (o+5)) (.slice a' l'.length c');have C:zq U1 ?A0=zq U1 w1:=zb3 h.fu _ _;have p:∀b,b≠F->(?A0).heap[b]? = w1.heap[b]?:=λb f=>hO_ w1 (p_ F (o+5)) b _ f;have g:=λb e=>p b (h.su b e).2;have c:Sub (zq U1 w1) (zq U1 ?A0):=by rw[C];exact Sub.refl _
 refine⟨l.setIfInBounds (o+5) (.slice a' l'.length c'),{ d with ta:=a',tc:=c',tab:=l' },⟨zbb h.blk _,by simpa using h.siz,h.cel.set h.siz 5 (by decide) _ rfl,h.fu,?_,λb f=>by simpa using h.bnd b f,h.tabs.sub c,h.etx.sub c,
  zu h.rsh (λq e=>g q (.inr (.inr (.inr (.inl (zp e)))))),λs m=>(h.esh s m).sub c,zu D (λq e=>p q (r q (zp e)).2.2),λs m=>(A s m).sub c,h.stk.keep c (λ_ _=>rfl) (λb e=>g b (by
   rcases e with e|e|e
   .exact .inl e
   .exact .inr (.inl e)
   .exact .inr (.inr (.inl e)))),h.hdr.sub c,h.slt.sub c,zu h.rvo (λq e=>g q (.inr (.inr (.inr (.inr (.inr (.inl (zp e)))))))),h.tap.sub c,h.ems,zu h.rwa (λq e=>g q (.inr (.inr (.inr (.inr (.inr (.inr (zp e)))))))),λs m=>(h.ewa s m).sub c,B⟩,⟨n.os,n.tape,n.output,by simpa using n.size,λb f E y=>(p b y).trans (n.block b f E y),n.us,?_,by simpa using n.fsz,λj z=>by rw[zip _ o 5 _ (by decide) j z];exact n.far j z⟩,rfl⟩
 intro b e;rcases e with e|e|e|e|e|e|e;exact h.su b (.inl e);exact h.su b (.inr (.inl e));exact h.su b (.inr (.inr (.inl e)));exact h.su b (.inr (.inr (.inr (.inl e))));exact(r b e).2;exact h.su b (.inr (.inr (.inr (.inr (.inr (.inl e))))));exact h.su b (.inr (.inr (.inr (.inr (.inr (.inr e))))));intro b e;rcases e with e|e|e|e|e|e|e;exact n.new b (.inl e);exact n.new b (.inr (.inl e));exact n.new b (.inr (.inr (.inl e)));exact n.new b (.inr (.inr (.inr (.inl e))));exact .inr (r b e).1;exact n.new b (.inr (.inr (.inr (.inr (.inr (.inl e))))));exact n.new b (.inr (.inr (.inr (.inr (.inr (.inr e))))))
theorem sSl:(prog.info? 63).map (·.size)=some 3:=by kernel_rfl
theorem sNo:(prog.info? 53).map (·.size)=some 2:=by kernel_rfl
theorem zo.tabAt (h:zo w U F o T fc x):zeb w x.ta x.tc x.tab:=by
 have d:=h.rtb;have y:x.tab.length<=400000:=by have:=h.inv.tab;simpa[NM.v,vs]using this
 have k:=zK U w;rcases d.2 with⟨e,m⟩|⟨g,t,u,e,r⟩
 all_goals
  simp only[Value.slice.injEq]at e;obtain⟨b,_,c⟩:=e
 have q:=eN_ m;rw[b,c,q];exact zkj w;rw[b,c]at d|-;refine⟨r.2.2.1,nT_ r.2.2.2.1 (by decide),by omega,.inr ⟨g,0,rfl⟩,⟨.inr ⟨g,0,rfl,λj l=>?_⟩,λs p=>(h.etb s p).sub k⟩⟩;have e:∀i,i<3->w.cell? (p_ g (j*3+i))=(x.tab[j]).cs[i]?:=λi f=>by rw[World.ownsRow.cellAt d (j*3+i) (by omega),zti x.tab j i l f]
 simp only[zA_];exact⟨e 0 (by omega),e 1 (by omega),e 2 (by omega)⟩
theorem zvP {n:Nd}{o:No}{h:CV}(b:(decide (h.au=n.nu)||!n.k.knows h||!o.signed h.au h.slot)=true):n.hearO o h=n:=by
 refine iP_ ?_;simp only[Bool.or_eq_true,dE_,Bool.not_eq_true']at b;rcases b with(g|g)|g;exact .inl g;exact .inr (.inl g);exact .inr (.inr (.inr g))
theorem zua {n:Nd}{o:No}{h:CV}(c:h.hf=0)(b:(decide (h.au=n.nu)||!n.k.knows h||!o.signed h.au h.slot)=false):n.hearO o h=if(zaf n.k.tab h).2.2≠0 then n
 else if n.k.tab.length<(zaf n.k.tab h).1.length then
  (if n.room (zcE h.slot)then(n.log (zcE h.slot) { n.k with tab:=(zaf n.k.tab h).1 }).send h.au (zcE h.slot)else n)
 else n.send h.au (zcE h.slot):=by
 refine iN_ ?_;simp only[Bool.or_eq_false_iff,decide_eq_false_iff_not,Bool.not_eq_false']at b;intro g;rcases g with g|g|g|g;exact b.1.1 g;rw[b.1.2]at g;cases g;exact g c;rw[b.2]at g;cases g
theorem zr2 (x:NM)(c:Ct)(M:Int)(L:List Sg)(ga:Q_)(gc:Nat)(w:World)(U:Nat->Bool)(F o:Nat)(T:TypeId)(fc:X_)(h:zo w U F o T fc x)(hH:HAt (zq U w) c.ba c.bc c.bl c.pa c.pc c.pl)(hf:c.v.hf=0)(hg:zdj (zq U w) ga gc L) :
  Calls prog 55 #[P_ F o,.agg (hrow_ c),.agg #[I_ M,.slice ga L.length gc]] w λe w'=>(∃v,e=.returned v)/\zal w U F o T fc x w' (x.v.hearO ⟨M,zA L⟩ c.v):=by
 have hA:B_ w ((w.alloc (.cells (hrow_ c) 60)).alloc (.cells #[I_ M,.slice ga L.length gc] 53)):=((bR_ _ _).alloc (nR_ _) _).alloc (by simp) _;have q0:=hX_ w (.cells (hrow_ c) 60) (.cells #[I_ M,.slice ga L.length gc] 53);have q1:=hY_ w (.cells (hrow_ c) 60) (.cells #[I_ M,.slice ga L.length gc] 53);have bC:=(zbi (by rw[<-Ct.hf_v]at hf;exact hf)).1;go_in;go_upto_region 1 with fail
 generalize ((w.alloc (.cells (hrow_ c) 60)).alloc (.cells #[I_ M,.slice ga L.length gc] 53))=W0 at hA q0 q1|-;have h0:=h.below hA;have aB:=hH.sub (h.later hA);have bD:=hg.sub (h.later hA);have bn:Hid (U w.heap.size=false/\U (w.heap.size+1)=false):=⟨h.bnd.new (nR_ _),h.bnd.new (lS_ _)⟩;have bx:=zl.below (F:=F) (o:=o) U fc x hA;have c0:C_ W0 F o (I_ x.nu):=h0.cell 0 _ rfl;generalize w.heap.size+1=B1 at q1 bn|-;generalize w.heap.size=R at q0 bn|-;clear hA;go_cut [28] (λu wx=>u=.bool (decide (c.v.au=x.v.nu)||!x.v.k.knows c.v||!No.signed ⟨M,zA L⟩ c.v.au c.v.slot)/\B_ W0 wx)
 case first=>
  by_cases e1:c.au=x.nu
  .have HV:Hid ((decide (c.v.au=x.v.nu)||!x.v.k.knows c.v||!No.signed ⟨M,zA L⟩ c.v.au c.v.slot)=true):=by show _=_;rw[dT_ (show c.v.au=x.v.nu from e1)];rfl
   have aJ:(c.au == x.nu)=true:=by simpa using e1
   clear e1;have D:=dB_ W0;have ac:=dC_ c0;have ae:=dQ_ q0;have af:=dQ_ q1;refine wR_ (S:=λw'=>C_ w' F o (I_ x.nu)/\R_ w' R (hrow_ c) 60/\R_ w' B1 #[I_ M,.slice ga L.length gc] 53) (by kernel_rfl) ⟨ac,ae,af⟩ (λm=>?_);generalize W0.drew=H at D ac ae af m|-;refine zU 0 10 (P_ R 0) rfl rfl m ?_;simp only[zf];refine tQ_ 1 11 (I_ c.au) rfl rfl (Or.inl ⟨by rfl,λw0 J=>by have k0:=zb J.2.1 0 _ rfl;go_simp⟩) m ?_;simp only[zf];refine tks_ 6 [(2,12,(P_ F o)),(3,13,(P_ F o)),(4,14,(P_ F o)),(5,15,I_ x.nu),(6,16,.bool (c.au == x.nu)),(7,17,.bool (c.au == x.nu))] m ?_;simp only[tkf_,zf];rw[aJ];refine tks_ 11 [(8,18,undef),(9,19,undef),(10,20,undef),(11,21,undef),(12,22,.bool true),(13,23,.bool true),(14,24,undef),(15,25,undef),(16,26,undef),(17,27,undef),(18,28,.bool true)] m ?_;simp only[tkf_,zf];clear m;refine wD_ (by kernel_rfl) ?_ _;go_wp2_with fail
   go_meet
   case rel=>exact⟨by rw[HV.out],D⟩
  have HE:Hid (decide (c.v.au=x.v.nu)=false):=dF_ e1;have aJ:(c.au == x.nu)=false:=by simpa using e1
  clear e1;cases hk:x.v.k.knows c.v with
  | false=>
   have HK:Hid _:=hk;clear hk;have aY:Hid (∀W:World,B_ W0 W->Calls prog 93 #[P_ F o,.agg (hrow_ c)] W λe w'=>e=.returned (.bool false)/\B_ W w'):=by
    show ∀W,_;intro W Y;rw[<-HK.out];exact zlT x c W U F o T fc (h0.below Y) ((aB.sub (zK U W0)).below Y) hf
   have D:=dB_ W0;have ac:=dC_ c0;have ae:=dQ_ q0;have af:=dQ_ q1;refine wR_ (S:=λw'=>C_ w' F o (I_ x.nu)/\R_ w' R (hrow_ c) 60/\R_ w' B1 #[I_ M,.slice ga L.length gc] 53) (by kernel_rfl) ⟨ac,ae,af⟩ (λm=>?_);generalize W0.drew=H at D ac ae af m|-;refine zU 0 10 (P_ R 0) rfl rfl m ?_;simp only[zf];refine tQ_ 1 11 (I_ c.au) rfl rfl (Or.inl ⟨by rfl,λw0 J=>by have k0:=zb J.2.1 0 _ rfl;go_simp⟩) m ?_;simp only[zf];refine tks_ 6 [(2,12,(P_ F o)),(3,13,(P_ F o)),(4,14,(P_ F o)),(5,15,I_ x.nu),(6,16,.bool (c.au == x.nu)),(7,17,.bool (c.au == x.nu))] m ?_;simp only[tkf_,zf];rw[aJ];refine zU 8 18 (P_ F o) rfl rfl m ?_;simp only[zf];refine tQ_ 9 19 (.agg (hrow_ c)) rfl rfl (Or.inl ⟨by rfl,λw0 J=>zL 60 _ rfl R rfl 60 (hrow_ c) (0,0) _ J.2.1 underlying60 rfl sHd⟩) m ?_;simp only[zf];refine zE 10 rfl (λK9 N=>?_);refine zaJ (by rfl) 20 rfl 93 [.tmp 18,.tmp 19] #[80,60] rfl [P_ F o,.agg (hrow_ c)] rfl (eO_ func93) (λv w'=>v=.bool false/\B_ H w') ((aY.out H D).mono (λe w' k=>⟨_,k.1,rfl,k.2⟩)) ?_;rintro v E⟨rfl,O⟩;have I:=zm D O;have ap:=zr O ac;have aw:=zk O ae;have ax:=zk O af;refine N.out _ _ ⟨ap,aw,ax⟩ (λm=>?_);simp only[zf];refine tks_ 8 [(11,21,.bool (!false)),(12,22,.bool (!false)),(13,23,.bool (!false)),(14,24,undef),(15,25,undef),(16,26,undef),(17,27,undef),(18,28,.bool true)] m ?_;simp only[tkf_,zf];clear m;refine wD_ (by kernel_rfl) ?_ _;go_wp2_with fail
   go_meet
   case rel=>exact⟨by rw[HE.out,HK.out];rfl,I⟩
  | true=>
   have HK:Hid _:=hk;clear hk;have aY:Hid (∀W:World,B_ W0 W->Calls prog 93 #[P_ F o,.agg (hrow_ c)] W λe w'=>e=.returned (.bool true)/\B_ W w'):=by
    show ∀W,_;intro W Y;rw[<-HK.out];exact zlT x c W U F o T fc (h0.below Y) ((aB.sub (zK U W0)).below Y) hf
   cases hs:No.signed ⟨M,zA L⟩ c.v.au c.v.slot with
   | false=>
    have HS:Hid _:=hs;clear hs;have be:Hid (∀W:World,B_ W0 W->Calls prog 94 #[.agg (hrow_ c),.agg #[I_ M,.slice ga L.length gc]] W λe w'=>e=.returned (.bool false)/\B_ W w'):=by
     show ∀W,_;intro W Y;rw[<-HS.out];exact zjZ M L ga gc c W ((bD.sub (zK U W0)).below Y) ((aB.sub (zK U W0)).below Y) hf ((h0.below Y).tabs.sub (zK _ _))
    have D:=dB_ W0;have ac:=dC_ c0;have ae:=dQ_ q0;have af:=dQ_ q1;refine wR_ (S:=λw'=>C_ w' F o (I_ x.nu)/\R_ w' R (hrow_ c) 60/\R_ w' B1 #[I_ M,.slice ga L.length gc] 53) (by kernel_rfl) ⟨ac,ae,af⟩ (λm=>?_);generalize W0.drew=H at D ac ae af m|-;refine zU 0 10 (P_ R 0) rfl rfl m ?_;simp only[zf];refine tQ_ 1 11 (I_ c.au) rfl rfl (Or.inl ⟨by rfl,λw0 J=>by have k0:=zb J.2.1 0 _ rfl;go_simp⟩) m ?_;simp only[zf];refine tks_ 6 [(2,12,(P_ F o)),(3,13,(P_ F o)),(4,14,(P_ F o)),(5,15,I_ x.nu),(6,16,.bool (c.au == x.nu)),(7,17,.bool (c.au == x.nu))] m ?_;simp only[tkf_,zf];rw[aJ];refine zU 8 18 (P_ F o) rfl rfl m ?_;simp only[zf];refine tQ_ 9 19 (.agg (hrow_ c)) rfl rfl (Or.inl ⟨by rfl,λw0 J=>zL 60 _ rfl R rfl 60 (hrow_ c) (0,0) _ J.2.1 underlying60 rfl sHd⟩) m ?_;simp only[zf];refine zE 10 rfl (λK9 N=>?_);refine zaJ (by rfl) 20 rfl 93 [.tmp 18,.tmp 19] #[80,60] rfl [P_ F o,.agg (hrow_ c)] rfl (eO_ func93) (λv w'=>v=.bool true/\B_ H w') ((aY.out H D).mono (λe w' k=>⟨_,k.1,rfl,k.2⟩)) ?_;rintro v E⟨rfl,O⟩;have I:=zm D O;have ap:=zr O ac;have aw:=zk O ae;have ax:=zk O af;refine N.out _ _ ⟨ap,aw,ax⟩ (λm=>?_);simp only[zf];refine tks_ 3 [(11,21,.bool (!true)),(12,22,.bool (!true)),(13,23,.bool (!true))] m ?_;simp only[tkf_,zf];refine tQ_ 14 24 (.agg (hrow_ c)) rfl rfl (Or.inl ⟨by rfl,λw0 J=>zL 60 _ rfl R rfl 60 (hrow_ c) (0,0) _ J.2.1 underlying60 rfl sHd⟩) m ?_;simp only[zf];refine tQ_ 15 25 (.agg #[I_ M,.slice ga L.length gc]) rfl rfl (Or.inl ⟨by rfl,λw0 J=>zL 53 _ rfl B1 rfl 53 #[I_ M,.slice ga L.length gc] (0,0) _ J.2.2 underlying53 rfl sNo⟩) m ?_;simp only[zf];refine zE 16 rfl (λK9 N=>?_);refine zaJ (by rfl) 26 rfl 94 [.tmp 24,.tmp 25] #[60,53] rfl [.agg (hrow_ c),.agg #[I_ M,.slice ga L.length gc]] rfl (eO_ func94) (λv w'=>v=.bool false/\B_ E w') ((be.out E I).mono (λe w' k=>⟨_,k.1,rfl,k.2⟩)) ?_;rintro v X⟨rfl,ab⟩;have an:=zm I ab;have bh:=zr ab ap;have bs:=zk ab aw;have bt:=zk ab ax;refine N.out _ _ ⟨bh,bs,bt⟩ (λm=>?_);simp only[zf];refine tks_ 2 [(17,27,.bool (!false)),(18,28,.bool (!false))] m ?_;simp only[tkf_,zf];clear m;refine wD_ (by kernel_rfl) ?_ _;go_wp2_with fail
    go_meet
    case rel=>exact⟨by rw[HE.out,HK.out,HS.out];rfl,an⟩
   | true=>
    have HS:Hid _:=hs;clear hs;have be:Hid (∀W:World,B_ W0 W->Calls prog 94 #[.agg (hrow_ c),.agg #[I_ M,.slice ga L.length gc]] W λe w'=>e=.returned (.bool true)/\B_ W w'):=by
     show ∀W,_;intro W Y;rw[<-HS.out];exact zjZ M L ga gc c W ((bD.sub (zK U W0)).below Y) ((aB.sub (zK U W0)).below Y) hf ((h0.below Y).tabs.sub (zK _ _))
    have D:=dB_ W0;have ac:=dC_ c0;have ae:=dQ_ q0;have af:=dQ_ q1;refine wR_ (S:=λw'=>C_ w' F o (I_ x.nu)/\R_ w' R (hrow_ c) 60/\R_ w' B1 #[I_ M,.slice ga L.length gc] 53) (by kernel_rfl) ⟨ac,ae,af⟩ (λm=>?_);generalize W0.drew=H at D ac ae af m|-;refine zU 0 10 (P_ R 0) rfl rfl m ?_;simp only[zf];refine tQ_ 1 11 (I_ c.au) rfl rfl (Or.inl ⟨by rfl,λw0 J=>by have k0:=zb J.2.1 0 _ rfl;go_simp⟩) m ?_;simp only[zf];refine tks_ 6 [(2,12,(P_ F o)),(3,13,(P_ F o)),(4,14,(P_ F o)),(5,15,I_ x.nu),(6,16,.bool (c.au == x.nu)),(7,17,.bool (c.au == x.nu))] m ?_;simp only[tkf_,zf];rw[aJ];refine zU 8 18 (P_ F o) rfl rfl m ?_;simp only[zf];refine tQ_ 9 19 (.agg (hrow_ c)) rfl rfl (Or.inl ⟨by rfl,λw0 J=>zL 60 _ rfl R rfl 60 (hrow_ c) (0,0) _ J.2.1 underlying60 rfl sHd⟩) m ?_;simp only[zf];refine zE 10 rfl (λK9 N=>?_);refine zaJ (by rfl) 20 rfl 93 [.tmp 18,.tmp 19] #[80,60] rfl [P_ F o,.agg (hrow_ c)] rfl (eO_ func93) (λv w'=>v=.bool true/\B_ H w') ((aY.out H D).mono (λe w' k=>⟨_,k.1,rfl,k.2⟩)) ?_;rintro v E⟨rfl,O⟩;have I:=zm D O;have ap:=zr O ac;have aw:=zk O ae;have ax:=zk O af;refine N.out _ _ ⟨ap,aw,ax⟩ (λm=>?_);simp only[zf];refine tks_ 3 [(11,21,.bool (!true)),(12,22,.bool (!true)),(13,23,.bool (!true))] m ?_;simp only[tkf_,zf];refine tQ_ 14 24 (.agg (hrow_ c)) rfl rfl (Or.inl ⟨by rfl,λw0 J=>zL 60 _ rfl R rfl 60 (hrow_ c) (0,0) _ J.2.1 underlying60 rfl sHd⟩) m ?_;simp only[zf];refine tQ_ 15 25 (.agg #[I_ M,.slice ga L.length gc]) rfl rfl (Or.inl ⟨by rfl,λw0 J=>zL 53 _ rfl B1 rfl 53 #[I_ M,.slice ga L.length gc] (0,0) _ J.2.2 underlying53 rfl sNo⟩) m ?_;simp only[zf];refine zE 16 rfl (λK9 N=>?_);refine zaJ (by rfl) 26 rfl 94 [.tmp 24,.tmp 25] #[60,53] rfl [.agg (hrow_ c),.agg #[I_ M,.slice ga L.length gc]] rfl (eO_ func94) (λv w'=>v=.bool true/\B_ E w') ((be.out E I).mono (λe w' k=>⟨_,k.1,rfl,k.2⟩)) ?_;rintro v X⟨rfl,ab⟩;have an:=zm I ab;have bh:=zr ab ap;have bs:=zk ab aw;have bt:=zk ab ax;refine N.out _ _ ⟨bh,bs,bt⟩ (λm=>?_);simp only[zf];refine tks_ 2 [(17,27,.bool (!true)),(18,28,.bool (!true))] m ?_;simp only[tkf_,zf];clear m;refine wD_ (by kernel_rfl) ?_ _;go_wp2_with fail
    go_meet
    case rel=>exact⟨by rw[HE.out,HK.out,HS.out];rfl,an⟩
 case rest=>
  obtain⟨rfl,O⟩:=hcut;apply_assumption;generalize hC:(decide (c.v.au=x.v.nu)||!x.v.k.knows c.v||!No.signed ⟨M,zA L⟩ c.v.au c.v.slot)=cc;have HC:Hid _:=hC;clear hC c0;have n1:=bx.trans (zl.below (F:=F) (o:=o) U fc x O);have h1:=h0.below O;have a9:=zk O q0;have bk:=aB.sub (h0.later O);cases cc with
  | true=>
   go_wp2_with fail
   refine bP_ (results_none rfl _ _ _) rfl ?_;exact⟨⟨_,rfl⟩,by rw[zvP HC.out];exact⟨U,fc,x,h1,n1,rfl⟩⟩
  | false=>
   have HM:Hid _:=zua (o:=⟨M,zA L⟩) hf HC.out;clear HC O q0 h0 aB bx;have c5:=h1.cell 5 _ rfl;go_upto_region 2 with fail
   obtain⟨W1,bA⟩:∃W,W=wc:=⟨_,rfl⟩;rw[<-bA]at h1 n1 a9 bk c5|-;clear bA;go_cut [6,7,8] (λu6 u7 u8 wx=>∃(z:Q_) (rc:Nat) (d:List Sl) (l:Nat) (f:Q_) (r:Nat) (B C:Int) (ds:L_) (V:Int),u6=.slice z d.length rc/\u7=(P_ l 0)/\u8=I_ V/\B_ W1 wx/\W1.heap.size<=l/\R_ wx l #[I_ B,I_ C,.slice f ds.length r] 63/\Hid ((vs d,(B,C,ds),V)=zaf x.v.k.tab c.v/\zg wx f r ds/\(∀t A,f=some (p_ t A)->W1.heap.size<=t/\(Value.slice z d.length rc).ownBlock≠some t)/\wx.ownsRow W1.heap.size 63 3 (.slice z d.length rc) d.length (slv d)/\z8 wx W1.heap.size (.slice z d.length rc) (ps d)/\(Value.slice z d.length rc).ownBlock≠some l))
   case first=>
    have D:=dB_ W1;have aH:=dC_ c5;have aS:=dQ_ a9;refine wR_ (S:=λw'=>C_ w' F (o+5) (.slice x.ta x.tab.length x.tc)/\R_ w' R (hrow_ c) 60) (by kernel_rfl) ⟨aH,aS⟩ (λm=>?_);generalize W1.drew=H at D aH aS m|-;refine tks_ 4 [(0,30,(P_ F o)),(1,31,(P_ F o)),(2,32,(P_ F (o+5))),(3,33,.slice x.ta x.tab.length x.tc)] m ?_;simp only[tkf_,zf];refine tQ_ 4 34 (.agg (hrow_ c)) rfl rfl (Or.inl ⟨by rfl,λw0 J=>zL 60 _ rfl R rfl 60 (hrow_ c) (0,0) _ J.2 underlying60 rfl sHd⟩) m ?_;simp only[zf];refine rY_ (rs:=[5,10]) (by kernel_rfl) (by simp) (rA_ rfl (λK9 N=>?_) (rA_ rfl (λK9 N=>?_) rN_))
    .skip
     refine zj rfl 35 rfl 73 [.tmp 33,.tmp 34] #[38,60] rfl [.slice x.ta x.tab.length x.tc,.agg (hrow_ c)] rfl (eO_ func73) (λv w'=>(∃(z:Q_) (rc:Nat) (d:List Sl) (f:Q_) (r:Nat) (B C:Int) (ds:L_) (V:Int),v=.tuple #[.slice z (List.length d) rc,.agg #[I_ B,I_ C,.slice f (List.length ds) r],I_ V]/\(vs d,(B,C,ds),V)=zaf x.v.k.tab c.v/\zg w' f r ds/\(∀t A,f=some (p_ t A)->H.heap.size<=t/\(Value.slice z (List.length d) rc).ownBlock≠some t)/\w'.ownsRow H.heap.size 63 3 (.slice z (List.length d) rc) (List.length d) (slv d)/\z8 w' H.heap.size (.slice z (List.length d) rc) (ps d))/\B_ H w') ((zgh x.tab x.ta x.tc c.au c.rd c.ba c.bc c.bl c.pa c.pc c.pl H ((h1.below D).tabAt) ((bk.sub (zK U W1)).below D) ((h1.below D).tabs.sub (zK _ _))).mono (λe w' k=>by
     obtain⟨z,rc,d,f,r,B,C,ds,V,k1,k2,_,k4,_,k6,k7,k8,k9,bq⟩:=k;exact⟨_,k1,⟨z,rc,d,f,r,B,C,ds,V,rfl,by rw[k2,zgi];rfl,k4,λt A e=>⟨k6 t A e,bq t A e⟩,k8,k9⟩,k7⟩)) ?_
     rintro v E⟨⟨z,rc,d,f,r,B,C,ds,V,rfl,hR,ar,aD,hO,hP⟩,hbc⟩;have I:=zm D hbc;have aq:=zr hbc aH;have au:=zk hbc aS;refine N.out _ _ ⟨aq,au⟩ (λm=>?_);simp only[zf];refine tks_ 4 [(6,29,.tuple #[.slice z d.length rc,.agg #[I_ B,I_ C,.slice f ds.length r],I_ V]),(7,36,.slice z d.length rc),(8,37,.agg #[I_ B,I_ C,.slice f ds.length r]),(9,38,I_ V)] m ?_;simp only[tkf_,zf];refine zE 10 rfl (λK9 N=>?_);refine zy rfl 7 rfl (P_ E.heap.size 0) (E.alloc (.cells #[I_ 0,I_ 0,O_] 63)) (by go_simp) ?_;have aa:=zC E (.cells #[I_ 0,I_ 0,O_] 63);have N_:=hN_ E (.cells #[I_ 0,I_ 0,O_] 63);have an:=zm I aa;have ag:=I.size;have az:=zr aa aq;have aj:F≠E.heap.size:=Nat.ne_of_lt (bL_ aq);have aF:=zk aa au;have al:=Nat.ne_of_lt (ze au);have aE:=λq e=>Nat.ne_of_lt (hO.lt q e).2;have a7:∀t A,f=some (p_ t A)->ds≠[]->t≠E.heap.size:=λt A e hn=>Nat.ne_of_lt (zhh ar hn e);have a6:=λp Z t A e=>Nat.ne_of_lt ((hP p Z).2 t A e).2.1;have ar:=ar.below aa;have hO:=zw hO aa;have hP:=hP.same aa.size (λp Z b A e=>aa.block b ((hP p Z).2 b A e).2.1);refine N.out _ _ ⟨az,aF⟩ (λm=>?_);simp only[zf];have aA:E.heap.size<(E.alloc (.cells #[I_ 0,I_ 0,O_] 63)).heap.size:=by simp
     generalize E.alloc (.cells #[I_ 0,I_ 0,O_] 63)=X at aa N_ an aA az aF ar hO hP m|-;clear aa;generalize E.heap.size=l at N_ ag aA aj al aE a7 a6|-;have b4:=zb N_ 0 _ rfl;have b1:=zd N_ 0;have b5:=zb N_ 1 _ rfl;have b2:=zd N_ 1;have b6:=zb N_ 2 _ rfl;have b3:=zd N_ 2;refine zU 11 6 (.slice z d.length rc) rfl rfl m ?_;simp only[zf];refine zE 12 rfl (λK9 N=>?_);refine zX rfl rfl (((X.setCell (p_ l 0) (I_ B)).setCell (p_ l 1) (I_ C)).setCell (p_ l 2) (.slice f ds.length r)) (by go_simp) ?_;have aR:(((X.setCell (p_ l 0) (I_ B)).setCell (p_ l 1) (I_ C)).setCell (p_ l 2) (.slice f ds.length r)).heap[l]? = some (.cells #[I_ B,I_ C,.slice f ds.length r] 63 (0,0)):=by simpa using(hS_ _ _ 2 _ _ (.slice f ds.length r) (hS_ _ _ 1 _ _ (I_ C) (hS_ _ _ 0 _ _ (I_ B) N_)))
     have aP:=(((an.setCell (p:=p_ l 0) ag (I_ B)).setCell (p:=p_ l 1) ag (I_ C)).setCell (p:=p_ l 2) ag (.slice f ds.length r));have aI:=(zar (k:=2) (v:=.slice f ds.length r) (zar (k:=1) (v:=I_ C) (zar (k:=0) (v:=I_ B) az aj) aj) aj);have aT:=(zh (j:=2) (v:=.slice f ds.length r) (zh (j:=1) (v:=I_ C) (zh (j:=0) (v:=I_ B) aF al) al) al);have XF:∀k,k≠l->(((X.setCell (p_ l 0) (I_ B)).setCell (p_ l 1) (I_ C)).setCell (p_ l 2) (.slice f ds.length r)).heap[k]? = X.heap[k]?:=λk hk=>by rw[hO_ _ (p_ l 2) k _ hk,hO_ _ (p_ l 1) k _ hk,hO_ _ (p_ l 0) k _ hk]
     have aN:=zcp (G:=λk=>k≠l) XF ar a7;have aL:=zcf (zu hO (λq e=>XF q (aE q e))) (by have:=D.size;have:=I.size;omega);have aM:z8 (((X.setCell (p_ l 0) (I_ B)).setCell (p_ l 1) (I_ C)).setCell (p_ l 2) (.slice f ds.length r)) W1.heap.size (.slice z d.length rc) (ps d):=λp Z=>⟨(hP.same (w':=(((X.setCell (p_ l 0) (I_ B)).setCell (p_ l 1) (I_ C)).setCell (p_ l 2) (.slice f ds.length r))) (by simp) (λp Z b A e=>XF b (a6 p Z b A e)) p Z).1,λt A e=>⟨by have:=((hP p Z).2 t A e).1;have:=D.size;have:=I.size;omega,by have:=((hP p Z).2 t A e).2.1;simpa using this,((hP p Z).2 t A e).2.2⟩⟩;have bp:∀t A,f=some (p_ t A)->W1.heap.size<=t/\(Value.slice z d.length rc).ownBlock≠some t:=λt A e=>⟨by have:=(aD t A e).1;have:=D.size;have:=I.size;omega,(aD t A e).2⟩;clear XF;refine N.out _ _ ⟨aI,aT⟩ (λm=>?_);generalize (((X.setCell (p_ l 0) (I_ B)).setCell (p_ l 1) (I_ C)).setCell (p_ l 2) (.slice f ds.length r))=VE at aR aP aI aT aN aL aM m|-;refine zU 13 8 (I_ V) rfl rfl m ?_;simp only[zf];clear m;refine wD_ (by kernel_rfl) ?_ _;go_wp2_with fail
     go_meet
     case rel=>exact⟨z,rc,d,l,f,r,B,C,ds,V,rfl,rfl,rfl,aP,ag,aR,⟨hR,aN,bp,aL,aM,λe=>aE l e rfl⟩⟩
    skip
    refine zy rfl 7 rfl (P_ H.heap.size 0) (H.alloc (.cells #[I_ 0,I_ 0,O_] 63)) (by go_simp) ?_;have aa:=zC H (.cells #[I_ 0,I_ 0,O_] 63);have N_:=hN_ H (.cells #[I_ 0,I_ 0,O_] 63);have I:=zm D aa;have ag:=D.size;have aq:=zr aa aH;have aj:F≠H.heap.size:=Nat.ne_of_lt (bL_ aH);have au:=zk aa aS;have al:=Nat.ne_of_lt (ze aS);refine N.out _ _ ⟨aq,au⟩ (λm=>?_);simp only[zf];have aA:H.heap.size<(H.alloc (.cells #[I_ 0,I_ 0,O_] 63)).heap.size:=by simp
    generalize H.alloc (.cells #[I_ 0,I_ 0,O_] 63)=E at aa N_ I aA aq au m|-;clear aa;generalize H.heap.size=l at N_ ag aA aj al|-;refine zE 5 rfl (λK9 N=>?_);have b9:=aA;refine zj rfl 35 rfl 73 [.tmp 33,.tmp 34] #[38,60] rfl [.slice x.ta x.tab.length x.tc,.agg (hrow_ c)] rfl (eO_ func73) (λv w'=>(∃(z:Q_) (rc:Nat) (d:List Sl) (f:Q_) (r:Nat) (B C:Int) (ds:L_) (V:Int),v=.tuple #[.slice z (List.length d) rc,.agg #[I_ B,I_ C,.slice f (List.length ds) r],I_ V]/\(vs d,(B,C,ds),V)=zaf x.v.k.tab c.v/\zg w' f r ds/\(∀t A,f=some (p_ t A)->E.heap.size<=t/\(Value.slice z (List.length d) rc).ownBlock≠some t)/\w'.ownsRow E.heap.size 63 3 (.slice z (List.length d) rc) (List.length d) (slv d)/\z8 w' E.heap.size (.slice z (List.length d) rc) (ps d))/\B_ E w') ((zgh x.tab x.ta x.tc c.au c.rd c.ba c.bc c.bl c.pa c.pc c.pl E ((h1.below I).tabAt) ((bk.sub (zK U W1)).below I) ((h1.below I).tabs.sub (zK _ _))).mono (λe w' k=>by
    obtain⟨z,rc,d,f,r,B,C,ds,V,k1,k2,_,k4,_,k6,k7,k8,k9,bq⟩:=k;exact⟨_,k1,⟨z,rc,d,f,r,B,C,ds,V,rfl,by rw[k2,zgi];rfl,k4,λt A e=>⟨k6 t A e,bq t A e⟩,k8,k9⟩,k7⟩)) ?_
    rintro v X⟨⟨z,rc,d,f,r,B,C,ds,V,rfl,hR,ar,aD,hO,hP⟩,hbc⟩;have an:=zm I hbc;have az:=zr hbc aq;have aF:=zk hbc au;have N_:=zk hbc N_;refine N.out _ _ ⟨az,aF⟩ (λm=>?_);simp only[zf];refine tks_ 4 [(6,29,.tuple #[.slice z d.length rc,.agg #[I_ B,I_ C,.slice f ds.length r],I_ V]),(7,36,.slice z d.length rc),(8,37,.agg #[I_ B,I_ C,.slice f ds.length r]),(9,38,I_ V)] m ?_;simp only[tkf_,zf];have aE:∀q,(Value.slice z d.length rc).ownBlock=some q->q≠l:=λq e=>by have:=(hO.lt q e).1;omega
    have a7:∀t A,f=some (p_ t A)->ds≠[]->t≠l:=λt A e hn=>by have:=(aD t A e).1;omega
    have a6:∀p∈ps d,∀t A,p.sa=some (p_ t A)->t≠l:=λp Z t A e=>by have:=((hP p Z).2 t A e).1;omega
    have b4:=zb N_ 0 _ rfl;have b1:=zd N_ 0;have b5:=zb N_ 1 _ rfl;have b2:=zd N_ 1;have b6:=zb N_ 2 _ rfl;have b3:=zd N_ 2;refine zU 11 6 (.slice z d.length rc) rfl rfl m ?_;simp only[zf];refine zE 12 rfl (λK9 N=>?_);refine zX rfl rfl (((X.setCell (p_ l 0) (I_ B)).setCell (p_ l 1) (I_ C)).setCell (p_ l 2) (.slice f ds.length r)) (by go_simp) ?_;have aR:(((X.setCell (p_ l 0) (I_ B)).setCell (p_ l 1) (I_ C)).setCell (p_ l 2) (.slice f ds.length r)).heap[l]? = some (.cells #[I_ B,I_ C,.slice f ds.length r] 63 (0,0)):=by simpa using(hS_ _ _ 2 _ _ (.slice f ds.length r) (hS_ _ _ 1 _ _ (I_ C) (hS_ _ _ 0 _ _ (I_ B) N_)))
    have aP:=(((an.setCell (p:=p_ l 0) ag (I_ B)).setCell (p:=p_ l 1) ag (I_ C)).setCell (p:=p_ l 2) ag (.slice f ds.length r));have aI:=(zar (k:=2) (v:=.slice f ds.length r) (zar (k:=1) (v:=I_ C) (zar (k:=0) (v:=I_ B) az aj) aj) aj);have aT:=(zh (j:=2) (v:=.slice f ds.length r) (zh (j:=1) (v:=I_ C) (zh (j:=0) (v:=I_ B) aF al) al) al);have XF:∀k,k≠l->(((X.setCell (p_ l 0) (I_ B)).setCell (p_ l 1) (I_ C)).setCell (p_ l 2) (.slice f ds.length r)).heap[k]? = X.heap[k]?:=λk hk=>by rw[hO_ _ (p_ l 2) k _ hk,hO_ _ (p_ l 1) k _ hk,hO_ _ (p_ l 0) k _ hk]
    have aN:=zcp (G:=λk=>k≠l) XF ar a7;have aL:=zcf (zu hO (λq e=>XF q (aE q e))) (by have:=D.size;have:=I.size;omega);have aM:z8 (((X.setCell (p_ l 0) (I_ B)).setCell (p_ l 1) (I_ C)).setCell (p_ l 2) (.slice f ds.length r)) W1.heap.size (.slice z d.length rc) (ps d):=λp Z=>⟨(hP.same (w':=(((X.setCell (p_ l 0) (I_ B)).setCell (p_ l 1) (I_ C)).setCell (p_ l 2) (.slice f ds.length r))) (by simp) (λp Z b A e=>XF b (a6 p Z b A e)) p Z).1,λt A e=>⟨by have:=((hP p Z).2 t A e).1;have:=D.size;have:=I.size;omega,by have:=((hP p Z).2 t A e).2.1;simpa using this,((hP p Z).2 t A e).2.2⟩⟩;have bp:∀t A,f=some (p_ t A)->W1.heap.size<=t/\(Value.slice z d.length rc).ownBlock≠some t:=λt A e=>⟨by have:=(aD t A e).1;have:=D.size;have:=I.size;omega,(aD t A e).2⟩;clear XF;refine N.out _ _ ⟨aI,aT⟩ (λm=>?_);generalize (((X.setCell (p_ l 0) (I_ B)).setCell (p_ l 1) (I_ C)).setCell (p_ l 2) (.slice f ds.length r))=VE at aR aP aI aT aN aL aM m|-;refine zU 13 8 (I_ V) rfl rfl m ?_;simp only[zf];clear m;refine wD_ (by kernel_rfl) ?_ _;go_wp2_with fail
    go_meet
    case rel=>exact⟨z,rc,d,l,f,r,B,C,ds,V,rfl,rfl,rfl,aP,ag,aR,⟨hR,aN,bp,aL,aM,λe=>aE l e rfl⟩⟩
   case rest=>
    obtain⟨z,rc,d,l,f,r,B,C,ds,V,rfl,rfl,rfl,ab,ag,qn,hX⟩:=hcut;apply_assumption;clear c5;obtain⟨W2,bB⟩:∃W,W=wc:=⟨_,rfl⟩;rw[<-bB]at ab qn hX|-;clear bB;obtain⟨x1,x2,x3,x4,x5,x6⟩:=hX.out;by_cases e0:V=0
    .subst e0;have c0:(zaf x.v.k.tab c.v).2.2=0:=by rw[<-x1]
     obtain⟨-,-,t3,t4⟩:=zlb c0;have aQ:Hid ((zaf x.v.k.tab c.v).1=vs d):=by show _=_;rw[<-x1]
     have a8:c.v.slot=(B,C,ds):=by rw[<-t3,<-x1]
     have e1:B=c.au:=(cA_ (λv=>v.1) a8).symm;have e2:C=c.rd:=(cA_ (λv=>v.2.1) a8).symm;have e3:ds=c.v.d:=(cA_ (λv=>v.2.2) a8).symm;subst e1 e2 e3;obtain⟨ad,bl⟩:=h1.hideRow ab x4 (λq e=>(x4.lt q (zaK _ _ e)).1);have aO:Hid (zaF U (ob z) l=false):=zbw (h1.bnd.new ag) (λe=>x6 (zaK _ _ e));have a3:Hid (zg (zq (zaF U (ob z)) W2) f r c.v.d):=zci x2 (λt A e _=>zbw (h1.bnd.new (x3 t A e).1) (λe2=>(x3 t A e).2 (zaK _ _ e2)));have ah:Hid (∀q,ob z=some q->W1.heap.size<=q/\zaF U (ob z) q=true/\q≠F/\q<W2.heap.size):=λq e=>⟨(x4.lt q (zaK _ _ e)).1,zeM e,λef=>by have:=(x4.lt q (zaK _ _ e)).1;have:=ze h1.blk;omega,(x4.lt q (zaK _ _ e)).2⟩;have bU:Hid (∀q,ob z=some q->¬x.S q):=λq e hs=>by have:=h1.bnd q (h1.su q hs).1;have:=(x4.lt q (zaK _ _ e)).1;omega
     have a2:Hid (∀s∈d,zg (zq (zaF U (ob z)) W2) s.p.sa s.p.cap s.p.bs):=λs hs=>by
      have Z:=x5 s.p (mM_.2 ⟨s,hs,rfl⟩);exact zci Z.1 (λt A e _=>zbw (h1.bnd.new (Z.2 t A e).1) (λe2=>(Z.2 t A e).2.2 (zaK _ _ e2)))
     have bm:Hid (W2.ownsRow 0 63 3 (.slice z d.length rc) d.length (slv d)):=zcf x4 (nZ_ _);have bz:Hid (∀s∈vs d,zaN s.2.2):=by
      show ∀s,_;intro s hs;rw[<-aQ.out]at hs;rcases t4 with g|⟨g,_⟩;rw[g]at hs;exact h.inv.u8t s hs;rw[g]at hs;rcases mA_.1 hs with g2|g2;exact h.inv.u8t s g2;obtain rfl:s=c.v.slot:=by simpa using g2
      exact zfy _
     have bW:Hid (U=U):=rfl;have HN:=n1.trans bl;have ba:=zk ab a9;have aK:Hid (zaF U (ob z) R=false):=zbw bn.out.1 (λe=>by have:=(ah.out R e).1;have:=ze a9;omega);have ao:Hid (c.v.d.length=32):=c.v.d_length;rw[ao.out]at qn;rw[iN_ (by rw[c0];decide),aQ.out]at HM;have bI:=zay d;have bH:x.v.k.tab.length=x.tab.length:=zay x.tab;rw[bI,bH]at HM;have b8:zO c.au c.rd c.bl c.pl=0:=by rw[Ct.hf_v];exact hf
     generalize hU':zaF U (ob z)=U2 at ad bl aO a3 ah a2 HN aK;clear hX x1 x2 x3 x4 x5 x6 c0 t3 a8 hU' bI bH bW;rcases t4 with t4|⟨t4,t5⟩
     .have a5:d.length=x.tab.length:=by have:=cA_ List.length t4;rw[aQ.out,zay]at this;rw[this];exact zay _
      have bY:Hid (vs d=x.v.k.tab):=by show _=_;rw[<-aQ.out,t4]
      have c5:=ad.cell 5 _ rfl;have bV:¬((x.tab.length:Int)<d.length):=by omega
      have am:Hid (x.v.hearO ⟨M,zA L⟩ c.v=x.v.send c.au (zcE c.v.slot)):=by show _=_;rw[HM.out,iN_ (by omega)];rfl
      have a0:Hid (U2 l=false/\U2 R=false):=⟨aO.out,aK.out⟩;have bP:∀q,ob z=some q->w.heap.size<=q/\U2 q=true/\q≠F:=λq e=>⟨nT_ n1.size (ah.out q e).1,(ah.out q e).2.1,(ah.out q e).2.2.1⟩;have bS:Hid (({ x with ta:=z,tc:=rc,tab:=d }:NM).v=x.v):=by show _=_;rw[NM.v_tab,bY.out]
      have bo:Hid (d.length<=400000):=by show _<=_;rw[a5];have:=h.inv.tab;simpa[NM.v,vs]using this
      clear t4 a5 HM;go_upto_region 6 with fail
      have f5:=ad.free (o+5);have bi:=ad.cell 5 _ rfl;obtain⟨ai,x5,h5,n5,v5⟩:=zo.late_tab (a':=z) (c':=rc) (l':=d) HN ad bP bm.out a2.out (by rw[NM.v_tab];exact ad.inv.tab_ (by rw[zay];exact bo.out) bz.out);rw[bS.out]at v5;have aW:=zh (b:=F) (j:=o+5) (v:=.slice z d.length rc) qn (λe=>by have:=a0.out.1;rw[e,ad.fu]at this;cases this);have aU:=zh (b:=F) (j:=o+5) (v:=.slice z d.length rc) ba (λe=>by have:=a0.out.2;rw[e,ad.fu]at this;cases this);have aG:Hid (zg (zq U2 (W2.setCell (p_ F (o+5)) (.slice z d.length rc))) f r c.v.d):=by show zg _ _ _ _;rw[zb3 ad.fu];exact a3.out
      go_upto_region 7 with fail
      generalize W2.setCell (p_ F (o+5)) (.slice z d.length rc)=W5 at h5 n5 aW aU aG|-;have bf:Hid _:=v5;clear v5 f5 bi;have bb:Hid (∀W:World,B_ W5 W->Calls prog 80 #[P_ F o,I_ c.au,.agg (mrow_ (z7 ⟨c.au,c.rd,⟨f,r,c.v.d⟩⟩).m)] W λe w'=>(∃v,e=.returned v)/\zal W U2 F o T ai x5 w' (x5.v.send c.au (zcE c.v.slot))):=by
       show ∀W,_;intro W Y;exact zeN x5 (z7 ⟨c.au,c.rd,⟨f,r,c.v.d⟩⟩) c.au W U2 F o T ai (h5.below Y) (ztW (aG.out.sub (h5.later Y)) (zoZ hf) (zfy c.v)) bC
      have D:=dB_ W5;have av:=dQ_ aU;have ay:=dQ_ aW;refine wR_ (S:=λw'=>R_ w' R (hrow_ c) 60/\R_ w' l #[I_ c.au,I_ c.rd,.slice f 32 r] 63) (by kernel_rfl) ⟨av,ay⟩ (λm=>?_);generalize W5.drew=H at D av ay m|-;refine tks_ 2 [(0,61,(P_ F o)),(1,62,(P_ R 0))] m ?_;simp only[tkf_,zf];refine tQ_ 2 63 (I_ c.au) rfl rfl (Or.inl ⟨by rfl,λw0 J=>by have k0:=zb J.1 0 _ rfl;go_simp⟩) m ?_;simp only[zf];refine tQ_ 3 64 (.agg #[I_ c.au,I_ c.rd,.slice f 32 r]) rfl rfl (Or.inl ⟨by rfl,λw0 J=>zL 63 _ rfl l rfl 63 #[I_ c.au,I_ c.rd,.slice f 32 r] (0,0) _ J.2 underlying63 rfl sSl⟩) m ?_;simp only[zf];have bg:Hid (∀W:World,Calls prog 95 #[.agg #[I_ c.au,I_ c.rd,.slice f 32 r]] W λe w'=>e=.returned (.agg #[I_ 0,I_ 0,I_ 3,I_ 0,I_ 0,O_,I_ 0,I_ 0,O_,O_,I_ c.au,I_ c.rd,.slice f 32 r,I_ 0,I_ 0,O_,O_,O_,I_ 0])/\B_ W w'):=by
       show ∀W,_;intro W;have k:=zmA ⟨c.au,c.rd,⟨f,r,c.v.d⟩⟩ W;dsimp only [z7]at k;rw[ao.out]at k;exact k
      have bc:Hid (∀W:World,B_ W5 W->Calls prog 80 #[P_ F o,I_ c.au,.agg #[I_ 0,I_ 0,I_ 3,I_ 0,I_ 0,O_,I_ 0,I_ 0,O_,O_,I_ c.au,I_ c.rd,.slice f 32 r,I_ 0,I_ 0,O_,O_,O_,I_ 0]] W λe w'=>(∃v,e=.returned v)/\zal W U2 F o T ai x5 w' (x5.v.send c.au (zcE c.v.slot))):=by
       show ∀W,_;intro W Y;have k:=bb.out W Y;dsimp only [z7]at k;rw[ao.out]at k;exact k
      refine zE 4 rfl (λK9 N=>?_);refine zj rfl 65 rfl 95 [.tmp 64] #[63] rfl [.agg #[I_ c.au,I_ c.rd,.slice f 32 r]] rfl (eO_ func95) (λv w'=>v=.agg #[I_ 0,I_ 0,I_ 3,I_ 0,I_ 0,O_,I_ 0,I_ 0,O_,O_,I_ c.au,I_ c.rd,.slice f 32 r,I_ 0,I_ 0,O_,O_,O_,I_ 0]/\B_ H w') ((bg.out H).mono (λe w' k=>⟨_,k.1,rfl,k.2⟩)) ?_;rintro v E⟨rfl,O⟩;have I:=zm D O;have aV:=zk O av;have aX:=zk O ay;refine N.out _ _ ⟨aV,aX⟩ (λm=>?_);simp only[zf];refine zE 5 rfl (λK9 N=>?_);refine zj rfl 66 rfl 80 [.tmp 61,.tmp 63,.tmp 65] #[80,3,90] rfl [P_ F o,I_ c.au,.agg #[I_ 0,I_ 0,I_ 3,I_ 0,I_ 0,O_,I_ 0,I_ 0,O_,O_,I_ c.au,I_ c.rd,.slice f 32 r,I_ 0,I_ 0,O_,O_,O_,I_ 0]] rfl (eO_ func80) (λv w'=>zal E U2 F o T ai x5 w' (x5.v.send c.au (zcE c.v.slot))) ((bc.out E I).mono (λe w' k=>by
       obtain⟨⟨v,k1⟩,k2⟩:=k;exact⟨v,k1,k2⟩)) ?_
      rintro v X⟨U6,bj,x6,h6,n6,v6⟩;have br:=n6.box (h5.below I) aV a0.out.2;have bu:=n6.box (h5.below I) aX a0.out.1;refine N.out _ _ ⟨br,bu⟩ (λm=>?_);simp only[zf];clear m;refine wD_ (by kernel_rfl) ?_ _;go_wp2_with fail
      go_end0;refine⟨⟨_,rfl⟩,?_⟩;rw[am.out];exact⟨U6,bj,x6,h6,(n5.trans (zl.below (F:=F) (o:=o) U2 ai x5 I)).trans n6,by rw[v6,bf.out]⟩
     have a5:d.length=x.tab.length+1:=by have:=cA_ List.length t4;rw[aQ.out,zay]at this;rw[this,lP_];simp[NM.v,vs]
     have c5:=ad.cell 5 _ rfl;have bV:((x.tab.length:Int)<d.length):=by omega
     have am:Hid (x.v.hearO ⟨M,zA L⟩ c.v=if x.v.room (zcE c.v.slot)then(x.v.log (zcE c.v.slot) { x.v.k with tab:=vs d }).send c.au (zcE c.v.slot)else x.v):=by show _=_;rw[HM.out,iP_ (by omega)];rfl
     have bo:Hid (d.length<=400000):=by show _<=_;have e9:x.v.k.tab.length=x.tab.length:=zay x.tab;omega
     clear t4 t5 a5 HM;have s0:=zb qn 0 _ rfl;have s1:=zb qn 1 _ rfl;have s2:=zb qn 2 _ rfl;go_wp2_with fail
     have a1:=zmA ⟨c.au,c.rd,⟨f,r,c.v.d⟩⟩ W2;dsimp only [srow_]at a1;rw[ao.out]at a1;refine a1.mono ?_;rintro _ w3⟨rfl,ak⟩;clear a1 s0 s1 s2;dsimp only;have aC:=ad.below ak;have bd:=a3.out.sub (ad.later ak);have bG:zbf c.au c.rd c.v.d.length=0:=zoZ hf;have bX:∀y∈c.v.d,0<=y/\y<=255:=zfy c.v;have HW:=zgZ x (z7 ⟨c.au,c.rd,⟨f,r,c.v.d⟩⟩) w3 U2 F o T fc aC (ztO bd (by rw[ao.out];decide)) (zqX bG) (ztS bX);have bJ:(z7 ⟨c.au,c.rd,⟨f,r,c.v.d⟩⟩).c=zcE c.v.slot:=rfl;rw[bJ]at HW;dsimp only [z7]at HW;rw[ao.out]at HW;generalize bF:x.v.room (zcE c.v.slot)=rm at HW am;have bv:Hid _:=bF;clear bF bG bJ;go_wp2_with fail
     refine HW.mono ?_;rintro _ w4⟨rfl,U4,bT,x4,h4,n4,v4⟩;dsimp only;clear HW;have bw:Hid _:=v4;clear v4;cases rm with
     | false=>
      go_wp2_with fail
      refine bP_ (results_none rfl _ _ _) rfl ?_;refine⟨⟨_,rfl⟩,?_⟩;rw[am.out];exact⟨U4,bT,x4,h4,(HN.trans (zl.below (F:=F) (o:=o) U2 fc x ak)).trans n4,by rw[bw.out,Nd.wrt,bv.out];rfl⟩
     | true=>
      have n3:=zl.below (F:=F) (o:=o) U2 fc x ak;have bZ:=n4.box aC (zk ak ba) aK.out;have b0:=n4.box aC (zk ak qn) aO.out;have a4:=ak.size;have aZ:Hid (U4 l=false/\U4 R=false):=⟨n4.hides (nL_ (ze qn) a4) aO.out,n4.hides (nL_ (ze ba) a4) aK.out⟩;have bQ:Hid (zg (zq U4 w4) f r c.v.d):=bd.sub (n4.sub aC);have bN:Hid (∀s∈d,zg (zq U4 w4) s.p.sa s.p.cap s.p.bs):=λs hs=>((a2.out s hs).sub (ad.later ak)).sub (n4.sub aC);have bM:Hid (w4.ownsRow 0 63 3 (.slice z d.length rc) d.length (slv d)):=zu (zw bm.out ak) (λq e=>n4.block q (nL_ (ah.out q (zp e)).2.2.2 a4) (bU.out q (zp e)) (ah.out q (zp e)).2.2.1);have bO:Hid (∀q,ob z=some q->w.heap.size<=q/\U4 q=true/\q≠F):=λq e=>⟨nT_ n1.size (ah.out q e).1,by rw[n4.us q (nL_ (ah.out q e).2.2.2 a4)];exact(ah.out q e).2.1,(ah.out q e).2.2.1⟩;have bL:=(HN.trans n3).trans n4;have bR:Hid (({ x4 with ta:=z,tc:=rc,tab:=d }:NM).v=x.v.log (zcE c.v.slot) { x.v.k with tab:=vs d }):=by
       show _=_;rw[NM.v_tab,bw.out,Nd.wrt,bv.out];rfl
      have bK:Hid (x.v.hearO ⟨M,zA L⟩ c.v=(x.v.log (zcE c.v.slot) { x.v.k with tab:=vs d }).send c.au (zcE c.v.slot)):=am.out;clear ba qn aO aK a3 a2 bm ah HN ad bl bd aC n3 am;go_upto_region 6 with fail
      have f5:=h4.free (o+5);have bi:=h4.cell 5 _ rfl;obtain⟨ai,x5,h5,n5,v5⟩:=zo.late_tab (a':=z) (c':=rc) (l':=d) bL h4 bO.out bM.out bN.out (by rw[NM.v_tab];exact h4.inv.tab_ (by rw[zay];exact bo.out) bz.out);rw[bR.out]at v5;have aW:=zh (b:=F) (j:=o+5) (v:=.slice z d.length rc) b0 (λe=>by have:=aZ.out.1;rw[e,h4.fu]at this;cases this);have aU:=zh (b:=F) (j:=o+5) (v:=.slice z d.length rc) bZ (λe=>by have:=aZ.out.2;rw[e,h4.fu]at this;cases this);have aG:Hid (zg (zq U4 (w4.setCell (p_ F (o+5)) (.slice z d.length rc))) f r c.v.d):=by show zg _ _ _ _;rw[zb3 h4.fu];exact bQ.out
      go_upto_region 7 with fail
      generalize w4.setCell (p_ F (o+5)) (.slice z d.length rc)=W5 at h5 n5 aW aU aG|-;have bf:Hid _:=v5;clear v5 f5 bi;have bb:Hid (∀W:World,B_ W5 W->Calls prog 80 #[P_ F o,I_ c.au,.agg (mrow_ (z7 ⟨c.au,c.rd,⟨f,r,c.v.d⟩⟩).m)] W λe w'=>(∃v,e=.returned v)/\zal W U4 F o T ai x5 w' (x5.v.send c.au (zcE c.v.slot))):=by
       show ∀W,_;intro W Y;exact zeN x5 (z7 ⟨c.au,c.rd,⟨f,r,c.v.d⟩⟩) c.au W U4 F o T ai (h5.below Y) (ztW (aG.out.sub (h5.later Y)) (zoZ hf) (zfy c.v)) bC
      have D:=dB_ W5;have av:=dQ_ aU;have ay:=dQ_ aW;refine wR_ (S:=λw'=>R_ w' R (hrow_ c) 60/\R_ w' l #[I_ c.au,I_ c.rd,.slice f 32 r] 63) (by kernel_rfl) ⟨av,ay⟩ (λm=>?_);generalize W5.drew=H at D av ay m|-;refine tks_ 2 [(0,61,(P_ F o)),(1,62,(P_ R 0))] m ?_;simp only[tkf_,zf];refine tQ_ 2 63 (I_ c.au) rfl rfl (Or.inl ⟨by rfl,λw0 J=>by have k0:=zb J.1 0 _ rfl;go_simp⟩) m ?_;simp only[zf];refine tQ_ 3 64 (.agg #[I_ c.au,I_ c.rd,.slice f 32 r]) rfl rfl (Or.inl ⟨by rfl,λw0 J=>zL 63 _ rfl l rfl 63 #[I_ c.au,I_ c.rd,.slice f 32 r] (0,0) _ J.2 underlying63 rfl sSl⟩) m ?_;simp only[zf];have bg:Hid (∀W:World,Calls prog 95 #[.agg #[I_ c.au,I_ c.rd,.slice f 32 r]] W λe w'=>e=.returned (.agg #[I_ 0,I_ 0,I_ 3,I_ 0,I_ 0,O_,I_ 0,I_ 0,O_,O_,I_ c.au,I_ c.rd,.slice f 32 r,I_ 0,I_ 0,O_,O_,O_,I_ 0])/\B_ W w'):=by
       show ∀W,_;intro W;have k:=zmA ⟨c.au,c.rd,⟨f,r,c.v.d⟩⟩ W;dsimp only [z7]at k;rw[ao.out]at k;exact k
      have bc:Hid (∀W:World,B_ W5 W->Calls prog 80 #[P_ F o,I_ c.au,.agg #[I_ 0,I_ 0,I_ 3,I_ 0,I_ 0,O_,I_ 0,I_ 0,O_,O_,I_ c.au,I_ c.rd,.slice f 32 r,I_ 0,I_ 0,O_,O_,O_,I_ 0]] W λe w'=>(∃v,e=.returned v)/\zal W U4 F o T ai x5 w' (x5.v.send c.au (zcE c.v.slot))):=by
       show ∀W,_;intro W Y;have k:=bb.out W Y;dsimp only [z7]at k;rw[ao.out]at k;exact k
      refine zE 4 rfl (λK9 N=>?_);refine zj rfl 65 rfl 95 [.tmp 64] #[63] rfl [.agg #[I_ c.au,I_ c.rd,.slice f 32 r]] rfl (eO_ func95) (λv w'=>v=.agg #[I_ 0,I_ 0,I_ 3,I_ 0,I_ 0,O_,I_ 0,I_ 0,O_,O_,I_ c.au,I_ c.rd,.slice f 32 r,I_ 0,I_ 0,O_,O_,O_,I_ 0]/\B_ H w') ((bg.out H).mono (λe w' k=>⟨_,k.1,rfl,k.2⟩)) ?_;rintro v E⟨rfl,O⟩;have I:=zm D O;have aV:=zk O av;have aX:=zk O ay;refine N.out _ _ ⟨aV,aX⟩ (λm=>?_);simp only[zf];refine zE 5 rfl (λK9 N=>?_);refine zj rfl 66 rfl 80 [.tmp 61,.tmp 63,.tmp 65] #[80,3,90] rfl [P_ F o,I_ c.au,.agg #[I_ 0,I_ 0,I_ 3,I_ 0,I_ 0,O_,I_ 0,I_ 0,O_,O_,I_ c.au,I_ c.rd,.slice f 32 r,I_ 0,I_ 0,O_,O_,O_,I_ 0]] rfl (eO_ func80) (λv w'=>zal E U4 F o T ai x5 w' (x5.v.send c.au (zcE c.v.slot))) ((bc.out E I).mono (λe w' k=>by
       obtain⟨⟨v,k1⟩,k2⟩:=k;exact⟨v,k1,k2⟩)) ?_
      rintro v X⟨U6,bj,x6,h6,n6,v6⟩;have br:=n6.box (h5.below I) aV aZ.out.2;have bu:=n6.box (h5.below I) aX aZ.out.1;refine N.out _ _ ⟨br,bu⟩ (λm=>?_);simp only[zf];clear m;refine wD_ (by kernel_rfl) ?_ _;go_wp2_with fail
      go_end0;refine⟨⟨_,rfl⟩,?_⟩;rw[bK.out];exact⟨U6,bj,x6,h6,(n5.trans (zl.below (F:=F) (o:=o) U4 ai x5 I)).trans n6,by rw[v6,bf.out]⟩
    have bE:(zaf x.v.k.tab c.v).2.2≠0:=by rw[<-x1];exact e0
    have am:Hid (x.v.hearO ⟨M,zA L⟩ c.v=x.v):=by show _=_;rw[HM.out,iP_ bE]
    have b7:(V != 0)=true:=by simpa using e0
    clear hX x1 x2 x3 x4 x5 x6 e0 bE HM;go_wp2_with fail
    refine bP_ (results_none rfl _ _ _) rfl ?_;exact⟨⟨_,rfl⟩,by rw[am.out];exact⟨U,fc,x,h1.below ab,n1.trans (zl.below (F:=F) (o:=o) U fc x ab),rfl⟩⟩
variable {q:Nat}
theorem zzD:(prog.info? 60).map (·.size)=some 4:=by kernel_rfl
theorem zzE:(prog.info? 63).map (·.size)=some 3:=by kernel_rfl
theorem zq4 {b:Nat}(h:ob (some (p_ b 0))=some q):b=q:=by simpa[ob]using h
theorem zac {b i j:Nat}{v u:Value}(h:C_ w b i u)(c:i≠j):(w.setCell (p_ b j) v).cell? (p_ b i)=some u:=(World.cell?_setCell_other w (p_ b j) (p_ b i) v (λe=>c (by cases e;rfl))).trans h
theorem zan {b i j:Nat}{v:Value}(h:w.frozen? (p_ b i)=false):(w.setCell (p_ b j) v).frozen? (p_ b i)=false:=(by simpa using h)
theorem zcY {j:Nat}{v:Value}{b:Obj}(h:F<w.heap.size):(w.setCell (p_ F j) v).alloc b=(w.alloc b).setCell (p_ F j) v:=by
 simp only[World.alloc,World.setCell]
 congr 1
 apply Array.ext
 simp
 intro i c d;simp only[Array.getElem_modify,Array.getElem_push,Array.size_modify]
 split<;>split<;>first|rfl|(simp_all;done)|(exfalso;omega)
theorem zvQ {b:Nat}{n:Int}(h:R_ w b #[I_ n] 3):w.ownsRow 0 3 1 (.slice (some (p_ b 0)) [n].length 1) [n].length (iv [n]):=
 ⟨rfl,.inr ⟨b,1,_,rfl,nZ_ _,h,nR_ _,by decide,rfl,rfl⟩⟩
theorem U8L.v {l:List zi}(h:U8L l):∀b∈zT l,∀x∈b,0<=x/\x<=255:=λb c=>by
 obtain⟨p,d,rfl⟩:=mM_.1 c
 exact h p d
theorem za3.own_ {n:Nd}(h:za3 n){c:CV}{s:SV}(f:c.hf=0)(d:c.vl=[])(g:zaN s.2.2)(j:∀b∈c.bl++c.pl,∀x∈b,0<=x/\x<=255):za3 { n with k:={ n.k with own:=c,slot:=s },vot:=[n.nu] }:=
 ⟨h.nu,h.pool,h.sh,h.shf,h.dag,.inr f,d,⟨by simp,(λv d=>by
  have e:v=n.nu:=by simpa using d
  rw[e];exact h.nu),by simp⟩,h.tape,h.syn,h.wai,h.trn,h.tab,h.u8t,g,j,h.du8⟩
theorem zlV (x:NM)(c:Ct)(s:Sl)(w:World)(U:Nat->Bool)(F o:Nat)(T:TypeId)(fc:X_)(h:zo w U F o T fc x)(hH:HAt (zq U w) c.ba c.bc c.bl c.pa c.pc c.pl)(hS:zg (zq U w) s.p.sa s.p.cap s.p.bs)(hf:c.v.hf=0)(au:c.vl=[])(bW:zaN s.p.bs)(h1:U8L c.bl)(h2:U8L c.pl) :
  Calls prog 76 #[P_ F o,.agg (hrow_ c),.agg (srow_ s)] w λe w'=>(∃v,e=.returned v)/\zal w U F o T fc x w' { x.v with k:={ x.v.k with own:=c.v,slot:=s.v },vot:=[x.v.nu] }:=by
 refine kW_ ?G0 ?_;exact(w.alloc (.cells (hrow_ c) 60)).alloc (.cells (srow_ s) 63);have hA:B_ w ?G0:=((bR_ _ _).alloc (nR_ _) _).alloc (by simp) _;have q0:=hX_ w (.cells (hrow_ c) 60) (.cells (srow_ s) 63);have q1:=hY_ w (.cells (hrow_ c) 60) (.cells (srow_ s) 63);go_in;go_upto_region 1 with fail
 generalize ?G0=W0 at hA q0 q1|-;have h0:=h.below hA;have bT:=h.bnd F h.fu;have d:Hid (w.heap.size≠F/\w.heap.size+1≠F):=⟨by omega,by omega⟩;generalize w.heap.size+1=B1 at q1 d|-;generalize w.heap.size=B0 at q0 d|-;clear bT;refine kV_ ?B0 ?_;exact Value.slice s.p.sa s.p.bs.length s.p.cap;refine kV_ ?E0 ?_;exact Value.slice c.ba c.bl.length c.bc;refine kV_ ?F0 ?_;exact Value.slice c.pa c.pl.length c.pc;have af:∀(u:World) (p:Nat),B_ w u->w.heap.size<=p->R_ u p #[I_ x.nu] 3->(∃v,Ending.returned (.tuple #[])=.returned v)/\zal w U F o T fc x ((((((((u.setCell (p_ F (o+7)) (I_ c.au)).setCell (p_ F (o+8)) (I_ c.rd)).setCell (p_ F (o+9)) ?E0).setCell (p_ F (o+10)) ?F0).setCell (p_ F (o+11)) (I_ s.au)).setCell (p_ F (o+12)) (I_ s.rd)).setCell (p_ F (o+13)) ?B0).setCell (p_ F (o+14)) (.slice (some (p_ p 0)) 1 1)) { x.v with k:={ x.v.k with own:=c.v,slot:=s.v },vot:=[x.v.nu] }:=by
  intro u p y E z;refine⟨⟨_,rfl⟩,?_⟩;have gx:zao U (zaF U (ob (some (p_ p 0)))) w u:=⟨y.os,y.tape,y.output,y.size,λb hl _=>y.block b hl,λb hl=>by
   cases hu:U b with
   | true=>exact zaB hu
   | false=>exact zbw hu (λe=>by have:=zq4 e;omega)⟩
  have bU:=hH.sub gx.sub;have bV:=hS.sub gx.sub;have bX:=h.put_own (w2:=u) (h':=c) (s':=s) (a':=some (p_ p 0)) (c':=1) (l':=[x.nu]) y (λq e=>by have:=zq4 e;omega) (zvQ z) ?_ ?_ ?_;exact bX;exact⟨bU,⟨.inl au⟩,by rw[au];exact nZ_ _⟩;exact bV;exact h.inv.own_ hf au bW (λb hb=>by
   rcases mA_.1 hb with g|g
   .exact h1.v b g
   .exact h2.v b g)
 have D:=hA.drew;have M:=dQ_ q0;have O:=dQ_ q1;refine wR_ (S:=λw'=>R_ w' B0 (hrow_ c) 60/\R_ w' B1 (srow_ s) 63) (by kernel_rfl) ⟨M,O⟩ (λl=>?_);generalize W0.drew=m at D M O l|-;refine tks_ 3 [(0,6,(P_ F o)),(1,7,(P_ F o)),(2,8,(P_ F o))] l ?_;simp only[tkf_,zf];refine tQ_ 3 9 (.agg (hrow_ c)) rfl rfl (Or.inl ⟨by rfl,λw0 ah=>zL 60 _ rfl B0 rfl 60 (hrow_ c) (0,0) _ ah.1 underlying60 rfl zzD⟩) l ?_;simp only[zf];refine tQ_ 4 10 (.agg (srow_ s)) rfl rfl (Or.inl ⟨by rfl,λw0 ah=>zL 63 _ rfl B1 rfl 63 (srow_ s) (0,0) _ ah.2 underlying63 rfl zzE⟩) l ?_;simp only[zf];refine tks_ 3 [(5,11,(P_ F o)),(6,12,(P_ F o)),(7,13,(P_ F o))] l ?_;simp only[tkf_,zf];refine zE 8 rfl (λB r=>?_);have k0:C_ m F o (I_ x.nu):=(h.below D).cell 0 _ rfl;refine zy rfl 14 rfl (I_ x.nu) m (by go_simp) ?_;refine r.out _ _ l (λl=>?_);simp only[zf];have t:=h.below D;have C:=ze t.blk;clear k0;have aR:=t.cell 7 _ rfl;have bE:=t.free (o+7);have aS:=t.cell 8 _ rfl;have bG:=t.free (o+8);have aT:=t.cell 9 _ rfl;have bI:=t.free (o+9);have aJ:=t.cell 10 _ rfl;have br:=t.free (o+10);have V:=t.cell 11 _ rfl;have aU:=t.free (o+11);have Z:=t.cell 12 _ rfl;have aX:=t.free (o+12);have ab:=t.cell 13 _ rfl;have a0:=t.free (o+13);have ad:=t.cell 14 _ rfl;have a3:=t.free (o+14);clear t;refine tks_ 2 [(10,16,(P_ F o)),(11,17,(P_ F (o+7)))] l ?_;simp only[tkf_,zf];refine rY_ (rs:=[9,12]) (by kernel_rfl) (by simp) (rA_ rfl (λB r=>?_) (rA_ rfl (λB r=>?_) rN_));refine kO_ ?A0 ?_;exact Obj.cells #[I_ x.nu] 3
 .skip
  refine zy rfl 15 rfl (.slice (some (p_ m.heap.size 0)) 1 1) (m.alloc ?A0) (by go_simp) ?_;have G:=zC m ?A0;have y:=zm D G;have z:=hN_ m ?A0;have E:=D.size;clear G;have f:=zC m ?A0;have av:=zk f M;have aC:=zk f O;have bo:=zr f aR;have bF:=(World.frozen?_of_block (f.block F (bL_ aR))).trans bE;have bp:=zr f aS;have bH:=(World.frozen?_of_block (f.block F (bL_ aS))).trans bG;have bq:=zr f aT;have bJ:=(World.frozen?_of_block (f.block F (bL_ aT))).trans bI;have be:=zr f aJ;have bs:=(World.frozen?_of_block (f.block F (bL_ aJ))).trans br;have aK:=zr f V;have aV:=(World.frozen?_of_block (f.block F (bL_ V))).trans aU;have aL:=zr f Z;have aY:=(World.frozen?_of_block (f.block F (bL_ Z))).trans aX;have aM:=zr f ab;have a1:=(World.frozen?_of_block (f.block F (bL_ ab))).trans a0;have aN:=zr f ad;have a4:=(World.frozen?_of_block (f.block F (bL_ ad))).trans a3;refine r.out _ _ ⟨av,aC⟩ (λl=>?_);simp only[zf];generalize m.alloc ?A0=u at y z f av aC bo bF bp bH bq bJ be bs aK aV aL aY aM a1 aN a4 l|-;clear f;generalize m.heap.size=p at z E|-;refine zE 12 rfl (λB r=>?_);refine kW_ ?H0 ?_;exact(((u.setCell (p_ F (o+7)) (I_ c.au)).setCell (p_ F (o+8)) (I_ c.rd)).setCell (p_ F (o+9)) ?E0).setCell (p_ F (o+10)) ?F0;refine zX rfl rfl ?H0 (by go_simp) ?_;have ax:=(zh (b:=F) (j:=o+10) (v:=.slice c.pa c.pl.length c.pc) (zh (b:=F) (j:=o+9) (v:=.slice c.ba c.bl.length c.bc) (zh (b:=F) (j:=o+8) (v:=I_ c.rd) (zh (b:=F) (j:=o+7) (v:=I_ c.au) av d.out.1) d.out.1) d.out.1) d.out.1);have aE:=(zh (b:=F) (j:=o+10) (v:=.slice c.pa c.pl.length c.pc) (zh (b:=F) (j:=o+9) (v:=.slice c.ba c.bl.length c.bc) (zh (b:=F) (j:=o+8) (v:=I_ c.rd) (zh (b:=F) (j:=o+7) (v:=I_ c.au) aC d.out.2) d.out.2) d.out.2) d.out.2);have bf:=(zac (j:=o+10) (v:=.slice c.pa c.pl.length c.pc) (zac (j:=o+9) (v:=.slice c.ba c.bl.length c.bc) (zac (j:=o+8) (v:=I_ c.rd) (zac (j:=o+7) (v:=I_ c.au) aK (by omega)) (by omega)) (by omega)) (by omega));have bt:=(zan (b:=F) (j:=o+10) (v:=.slice c.pa c.pl.length c.pc) (zan (b:=F) (j:=o+9) (v:=.slice c.ba c.bl.length c.bc) (zan (b:=F) (j:=o+8) (v:=I_ c.rd) (zan (b:=F) (j:=o+7) (v:=I_ c.au) aV))));have bh:=(zac (j:=o+10) (v:=.slice c.pa c.pl.length c.pc) (zac (j:=o+9) (v:=.slice c.ba c.bl.length c.bc) (zac (j:=o+8) (v:=I_ c.rd) (zac (j:=o+7) (v:=I_ c.au) aL (by omega)) (by omega)) (by omega)) (by omega));have bv:=(zan (b:=F) (j:=o+10) (v:=.slice c.pa c.pl.length c.pc) (zan (b:=F) (j:=o+9) (v:=.slice c.ba c.bl.length c.bc) (zan (b:=F) (j:=o+8) (v:=I_ c.rd) (zan (b:=F) (j:=o+7) (v:=I_ c.au) aY))));have bj:=(zac (j:=o+10) (v:=.slice c.pa c.pl.length c.pc) (zac (j:=o+9) (v:=.slice c.ba c.bl.length c.bc) (zac (j:=o+8) (v:=I_ c.rd) (zac (j:=o+7) (v:=I_ c.au) aM (by omega)) (by omega)) (by omega)) (by omega));have bx:=(zan (b:=F) (j:=o+10) (v:=.slice c.pa c.pl.length c.pc) (zan (b:=F) (j:=o+9) (v:=.slice c.ba c.bl.length c.bc) (zan (b:=F) (j:=o+8) (v:=I_ c.rd) (zan (b:=F) (j:=o+7) (v:=I_ c.au) a1))));have aO:=(zac (j:=o+10) (v:=.slice c.pa c.pl.length c.pc) (zac (j:=o+9) (v:=.slice c.ba c.bl.length c.bc) (zac (j:=o+8) (v:=I_ c.rd) (zac (j:=o+7) (v:=I_ c.au) aN (by omega)) (by omega)) (by omega)) (by omega));have a5:=(zan (b:=F) (j:=o+10) (v:=.slice c.pa c.pl.length c.pc) (zan (b:=F) (j:=o+9) (v:=.slice c.ba c.bl.length c.bc) (zan (b:=F) (j:=o+8) (v:=I_ c.rd) (zan (b:=F) (j:=o+7) (v:=I_ c.au) a4))));refine r.out _ _ ⟨ax,aE⟩ (λl=>?_);obtain⟨X2,ak⟩:∃X,X=?H0:=⟨_,rfl⟩;rw[<-ak]at l ax aE bf bt bh bv bj bx aO a5|-;have bM:Hid _:=ak;clear ak bo bF bp bH bq bJ be bs aK aV aL aY aM a1 aN a4;refine tks_ 2 [(13,18,(P_ F o)),(14,19,(P_ F (o+11)))] l ?_;simp only[tkf_,zf];refine zE 15 rfl (λB r=>?_);refine kW_ ?I0 ?_;exact((X2.setCell (p_ F (o+11)) (I_ s.au)).setCell (p_ F (o+12)) (I_ s.rd)).setCell (p_ F (o+13)) ?B0;refine zX rfl rfl ?I0 (by go_simp) ?_;have ay:=(zh (b:=F) (j:=o+13) (v:=.slice s.p.sa s.p.bs.length s.p.cap) (zh (b:=F) (j:=o+12) (v:=I_ s.rd) (zh (b:=F) (j:=o+11) (v:=I_ s.au) ax d.out.1) d.out.1) d.out.1);have aF:=(zh (b:=F) (j:=o+13) (v:=.slice s.p.sa s.p.bs.length s.p.cap) (zh (b:=F) (j:=o+12) (v:=I_ s.rd) (zh (b:=F) (j:=o+11) (v:=I_ s.au) aE d.out.2) d.out.2) d.out.2);have bm:=(zac (j:=o+13) (v:=.slice s.p.sa s.p.bs.length s.p.cap) (zac (j:=o+12) (v:=I_ s.rd) (zac (j:=o+11) (v:=I_ s.au) aO (by omega)) (by omega)) (by omega));have bB:=(zan (b:=F) (j:=o+13) (v:=.slice s.p.sa s.p.bs.length s.p.cap) (zan (b:=F) (j:=o+12) (v:=I_ s.rd) (zan (b:=F) (j:=o+11) (v:=I_ s.au) a5)));refine r.out _ _ ⟨ay,aF⟩ (λl=>?_);obtain⟨X3,al⟩:∃X,X=?I0:=⟨_,rfl⟩;rw[<-al]at l ay aF bm bB|-;have bN:Hid _:=al;clear al bf bt bh bv bj bx aO a5;refine tks_ 2 [(16,20,(P_ F o)),(17,21,(P_ F (o+14)))] l ?_;simp only[tkf_,zf];refine zE 18 rfl (λB r=>?_);refine kW_ ?J0 ?_;exact X3.setCell (p_ F (o+14)) (.slice (some (p_ p 0)) 1 1);refine zX rfl rfl ?J0 (by go_simp) ?_;have a9:=(zh (b:=F) (j:=o+14) (v:=.slice (some (p_ p 0)) 1 1) ay d.out.1);have bc:=(zh (b:=F) (j:=o+14) (v:=.slice (some (p_ p 0)) 1 1) aF d.out.2);refine r.out _ _ ⟨a9,bc⟩ (λl=>?_);obtain⟨X4,am⟩:∃X,X=?J0:=⟨_,rfl⟩;rw[<-am]at l a9 bc  ⊢;have bO:Hid _:=am;clear am bm bB;clear l;refine wD_ (by kernel_rfl) ?_ _;go_wp2_with fail
  go_end0;rw[bO.out,bN.out,bM.out];exact af u p y E z
 refine kW_ ?C0 ?_;exact((((m.alloc ?A0).setCell (p_ F (o+7)) (I_ c.au)).setCell (p_ F (o+8)) (I_ c.rd)).setCell (p_ F (o+9)) (.slice c.ba c.bl.length c.bc)).setCell (p_ F (o+10)) (.slice c.pa c.pl.length c.pc);refine kW_ ?D0 ?_;exact(((m.setCell (p_ F (o+7)) (I_ c.au)).setCell (p_ F (o+8)) (I_ c.rd)).setCell (p_ F (o+9)) (.slice c.ba c.bl.length c.bc)).setCell (p_ F (o+10)) (.slice c.pa c.pl.length c.pc)
 skip
 refine zX rfl rfl ?D0 (by go_simp) ?_;have N:=(zh (b:=F) (j:=o+10) (v:=.slice c.pa c.pl.length c.pc) (zh (b:=F) (j:=o+9) (v:=.slice c.ba c.bl.length c.bc) (zh (b:=F) (j:=o+8) (v:=I_ c.rd) (zh (b:=F) (j:=o+7) (v:=I_ c.au) M d.out.1) d.out.1) d.out.1) d.out.1);have R:=(zh (b:=F) (j:=o+10) (v:=.slice c.pa c.pl.length c.pc) (zh (b:=F) (j:=o+9) (v:=.slice c.ba c.bl.length c.bc) (zh (b:=F) (j:=o+8) (v:=I_ c.rd) (zh (b:=F) (j:=o+7) (v:=I_ c.au) O d.out.2) d.out.2) d.out.2) d.out.2);have Y:=(zac (j:=o+10) (v:=.slice c.pa c.pl.length c.pc) (zac (j:=o+9) (v:=.slice c.ba c.bl.length c.bc) (zac (j:=o+8) (v:=I_ c.rd) (zac (j:=o+7) (v:=I_ c.au) V (by omega)) (by omega)) (by omega)) (by omega));have aW:=(zan (b:=F) (j:=o+10) (v:=.slice c.pa c.pl.length c.pc) (zan (b:=F) (j:=o+9) (v:=.slice c.ba c.bl.length c.bc) (zan (b:=F) (j:=o+8) (v:=I_ c.rd) (zan (b:=F) (j:=o+7) (v:=I_ c.au) aU))));have aa:=(zac (j:=o+10) (v:=.slice c.pa c.pl.length c.pc) (zac (j:=o+9) (v:=.slice c.ba c.bl.length c.bc) (zac (j:=o+8) (v:=I_ c.rd) (zac (j:=o+7) (v:=I_ c.au) Z (by omega)) (by omega)) (by omega)) (by omega));have aZ:=(zan (b:=F) (j:=o+10) (v:=.slice c.pa c.pl.length c.pc) (zan (b:=F) (j:=o+9) (v:=.slice c.ba c.bl.length c.bc) (zan (b:=F) (j:=o+8) (v:=I_ c.rd) (zan (b:=F) (j:=o+7) (v:=I_ c.au) aX))));have ac:=(zac (j:=o+10) (v:=.slice c.pa c.pl.length c.pc) (zac (j:=o+9) (v:=.slice c.ba c.bl.length c.bc) (zac (j:=o+8) (v:=I_ c.rd) (zac (j:=o+7) (v:=I_ c.au) ab (by omega)) (by omega)) (by omega)) (by omega));have a2:=(zan (b:=F) (j:=o+10) (v:=.slice c.pa c.pl.length c.pc) (zan (b:=F) (j:=o+9) (v:=.slice c.ba c.bl.length c.bc) (zan (b:=F) (j:=o+8) (v:=I_ c.rd) (zan (b:=F) (j:=o+7) (v:=I_ c.au) a0))));have L:=(zac (j:=o+10) (v:=.slice c.pa c.pl.length c.pc) (zac (j:=o+9) (v:=.slice c.ba c.bl.length c.bc) (zac (j:=o+8) (v:=I_ c.rd) (zac (j:=o+7) (v:=I_ c.au) ad (by omega)) (by omega)) (by omega)) (by omega));have ae:=(zan (b:=F) (j:=o+10) (v:=.slice c.pa c.pl.length c.pc) (zan (b:=F) (j:=o+9) (v:=.slice c.ba c.bl.length c.bc) (zan (b:=F) (j:=o+8) (v:=I_ c.rd) (zan (b:=F) (j:=o+7) (v:=I_ c.au) a3))));refine r.out _ _ ⟨N,R⟩ (λl=>?_);obtain⟨A,an⟩:∃X,X=?D0:=⟨_,rfl⟩;rw[<-an]at l N R Y aW aa aZ ac a2 L ae|-;have a7:Hid _:=an;clear an aR bE aS bG aT bI aJ br V aU Z aX ab a0 ad a3;refine tks_ 2 [(13,18,(P_ F o)),(14,19,(P_ F (o+11)))] l ?_;simp only[tkf_,zf];refine rY_ (rs:=[9,15]) (by kernel_rfl) (by simp) (rA_ rfl (λB r=>?_) (rA_ rfl (λB r=>?_) rN_))
 .skip
  refine zy rfl 15 rfl (.slice (some (p_ A.heap.size 0)) 1 1) (A.alloc ?A0) (by go_simp) ?_;have G:=zC m ?A0;have y:=zm D G;have z:=hN_ m ?A0;have E:=D.size;clear G;have f:=zC A ?A0;have az:=zk f N;have aG:=zk f R;have bg:=zr f Y;have bu:=(World.frozen?_of_block (f.block F (bL_ Y))).trans aW;have bi:=zr f aa;have bw:=(World.frozen?_of_block (f.block F (bL_ aa))).trans aZ;have bk:=zr f ac;have bz:=(World.frozen?_of_block (f.block F (bL_ ac))).trans a2;have aP:=zr f L;have a6:=(World.frozen?_of_block (f.block F (bL_ L))).trans ae;refine r.out _ _ ⟨az,aG⟩ (λl=>?_);simp only[zf];have I:A.alloc ?A0=?C0/\A.heap.size=m.heap.size:=by
   rw[a7.out];exact⟨by rw[zcY (by simpa using C),zcY (by simpa using C),zcY (by simpa using C),zcY (by simpa using C)],by simp⟩
  rw[I.2];have J:=I.1;clear I;generalize m.alloc ?A0=u at y z J;generalize m.heap.size=p at z E|-;obtain⟨X6,ao⟩:∃X,X=A.alloc ?A0:=⟨_,rfl⟩;rw[<-ao]at l az aG bg bu bi bw bk bz aP a6|-;have bP:Hid (X6=((((u.setCell (p_ F (o+7)) (I_ c.au)).setCell (p_ F (o+8)) (I_ c.rd)).setCell (p_ F (o+9)) ?E0).setCell (p_ F (o+10)) ?F0)):=ao.trans J;clear ao J f;refine zE 15 rfl (λB r=>?_);refine kW_ ?L0 ?_;exact((X6.setCell (p_ F (o+11)) (I_ s.au)).setCell (p_ F (o+12)) (I_ s.rd)).setCell (p_ F (o+13)) ?B0;refine zX rfl rfl ?L0 (by go_simp) ?_;have aA:=(zh (b:=F) (j:=o+13) (v:=.slice s.p.sa s.p.bs.length s.p.cap) (zh (b:=F) (j:=o+12) (v:=I_ s.rd) (zh (b:=F) (j:=o+11) (v:=I_ s.au) az d.out.1) d.out.1) d.out.1);have aH:=(zh (b:=F) (j:=o+13) (v:=.slice s.p.sa s.p.bs.length s.p.cap) (zh (b:=F) (j:=o+12) (v:=I_ s.rd) (zh (b:=F) (j:=o+11) (v:=I_ s.au) aG d.out.2) d.out.2) d.out.2);have bn:=(zac (j:=o+13) (v:=.slice s.p.sa s.p.bs.length s.p.cap) (zac (j:=o+12) (v:=I_ s.rd) (zac (j:=o+11) (v:=I_ s.au) aP (by omega)) (by omega)) (by omega));have bC:=(zan (b:=F) (j:=o+13) (v:=.slice s.p.sa s.p.bs.length s.p.cap) (zan (b:=F) (j:=o+12) (v:=I_ s.rd) (zan (b:=F) (j:=o+11) (v:=I_ s.au) a6)));refine r.out _ _ ⟨aA,aH⟩ (λl=>?_);obtain⟨X7,ap⟩:∃X,X=?L0:=⟨_,rfl⟩;rw[<-ap]at l aA aH bn bC|-;have bQ:Hid _:=ap;clear ap bg bu bi bw bk bz aP a6;refine tks_ 2 [(16,20,(P_ F o)),(17,21,(P_ F (o+14)))] l ?_;simp only[tkf_,zf];refine zE 18 rfl (λB r=>?_);refine kW_ ?M0 ?_;exact X7.setCell (p_ F (o+14)) (.slice (some (p_ p 0)) 1 1);refine zX rfl rfl ?M0 (by go_simp) ?_;have ba:=(zh (b:=F) (j:=o+14) (v:=.slice (some (p_ p 0)) 1 1) aA d.out.1);have bd:=(zh (b:=F) (j:=o+14) (v:=.slice (some (p_ p 0)) 1 1) aH d.out.2);refine r.out _ _ ⟨ba,bd⟩ (λl=>?_);obtain⟨X8,aq⟩:∃X,X=?M0:=⟨_,rfl⟩;rw[<-aq]at l ba bd  ⊢;have bR:Hid _:=aq;clear aq bn bC;clear l;refine wD_ (by kernel_rfl) ?_ _;go_wp2_with fail
  go_end0;rw[bR.out,bQ.out,bP.out];exact af u p y E z
 refine kW_ ?K0 ?_;exact((A.setCell (p_ F (o+11)) (I_ s.au)).setCell (p_ F (o+12)) (I_ s.rd)).setCell (p_ F (o+13)) ?B0
 skip
 refine zX rfl rfl ?K0 (by go_simp) ?_;have aB:=(zh (b:=F) (j:=o+13) (v:=.slice s.p.sa s.p.bs.length s.p.cap) (zh (b:=F) (j:=o+12) (v:=I_ s.rd) (zh (b:=F) (j:=o+11) (v:=I_ s.au) N d.out.1) d.out.1) d.out.1);have aI:=(zh (b:=F) (j:=o+13) (v:=.slice s.p.sa s.p.bs.length s.p.cap) (zh (b:=F) (j:=o+12) (v:=I_ s.rd) (zh (b:=F) (j:=o+11) (v:=I_ s.au) R d.out.2) d.out.2) d.out.2);have aQ:=(zac (j:=o+13) (v:=.slice s.p.sa s.p.bs.length s.p.cap) (zac (j:=o+12) (v:=I_ s.rd) (zac (j:=o+11) (v:=I_ s.au) L (by omega)) (by omega)) (by omega));have bD:=(zan (b:=F) (j:=o+13) (v:=.slice s.p.sa s.p.bs.length s.p.cap) (zan (b:=F) (j:=o+12) (v:=I_ s.rd) (zan (b:=F) (j:=o+11) (v:=I_ s.au) ae)));refine r.out _ _ ⟨aB,aI⟩ (λl=>?_);obtain⟨H,ar⟩:∃X,X=?K0:=⟨_,rfl⟩;rw[<-ar]at l aB aI aQ bD|-;have bS:Hid _:=ar;clear ar Y aW aa aZ ac a2 L ae;refine zE 9 rfl (λB r=>?_);refine zy rfl 15 rfl (.slice (some (p_ H.heap.size 0)) 1 1) (H.alloc ?A0) (by go_simp) ?_;have G:=zC m ?A0;have y:=zm D G;have z:=hN_ m ?A0;have E:=D.size;clear G;have f:=zC H ?A0;have aw:=zk f aB;have aD:=zk f aI;have bl:=zr f aQ;have bA:=(World.frozen?_of_block (f.block F (bL_ aQ))).trans bD;refine r.out _ _ ⟨aw,aD⟩ (λl=>?_);simp only[zf];have I:H.alloc ?A0=((((?C0).setCell (p_ F (o+11)) (I_ s.au)).setCell (p_ F (o+12)) (I_ s.rd)).setCell (p_ F (o+13)) ?B0)/\H.heap.size=m.heap.size:=by
  rw[bS.out,a7.out];exact⟨by rw[zcY (by simpa using C),zcY (by simpa using C),zcY (by simpa using C),zcY (by simpa using C),zcY (by simpa using C),zcY (by simpa using C),zcY (by simpa using C)],by simp⟩
 rw[I.2];have J:=I.1;clear I;generalize m.alloc ?A0=u at y z J;generalize m.heap.size=p at z E|-;obtain⟨ag,ai⟩:∃X,X=H.alloc ?A0:=⟨_,rfl⟩;rw[<-ai]at l aw aD bl bA|-;have bK:Hid (ag=(((((((u.setCell (p_ F (o+7)) (I_ c.au)).setCell (p_ F (o+8)) (I_ c.rd)).setCell (p_ F (o+9)) ?E0).setCell (p_ F (o+10)) ?F0).setCell (p_ F (o+11)) (I_ s.au)).setCell (p_ F (o+12)) (I_ s.rd)).setCell (p_ F (o+13)) ?B0)):=ai.trans J;clear ai J f;refine tks_ 2 [(16,20,(P_ F o)),(17,21,(P_ F (o+14)))] l ?_;simp only[tkf_,zf];refine zE 18 rfl (λB r=>?_);refine kW_ ?N0 ?_;exact ag.setCell (p_ F (o+14)) (.slice (some (p_ p 0)) 1 1);refine zX rfl rfl ?N0 (by go_simp) ?_;have a8:=(zh (b:=F) (j:=o+14) (v:=.slice (some (p_ p 0)) 1 1) aw d.out.1);have bb:=(zh (b:=F) (j:=o+14) (v:=.slice (some (p_ p 0)) 1 1) aD d.out.2);refine r.out _ _ ⟨a8,bb⟩ (λl=>?_);obtain⟨bY,aj⟩:∃X,X=?N0:=⟨_,rfl⟩;rw[<-aj]at l a8 bb  ⊢;have bL:Hid _:=aj;clear aj bl bA;clear l;refine wD_ (by kernel_rfl) ?_ _;go_wp2_with fail
 go_end0;rw[bL.out,bK.out];exact af u p y E z
def Nd.recO (n:Nd)(h:CV):Nd:={ n with k:={ n.k with own:=h,slot:=h.slot,tab:=if(zaf n.k.tab h).2.2=0 then(zaf n.k.tab h).1 else n.k.tab },vot:=[n.nu] }
theorem zqe {n:Nd}{m:MC}(b:m.ki=2)(c:m.h.hf=0):n.recall m=n.recO m.h:=by
 have d:(if m.ki=2/\m.h.hf=0 then [n.nu]else n.vot)=[n.nu]:=iP_ ⟨b,c⟩;have f:n.k.rcl m=(n.recO m.h).k:=by
  unfold Kn.rcl;rw[iN_ (show ¬m.ki=1 by rw[b];decide),iP_ b,iP_ c]
  rfl
 rw[Nd.recall,d,f]
 rfl
theorem zqf (x:NM)(c:Ct)(w:World)(U:Nat->Bool)(F o:Nat)(T:TypeId)(fc:X_)(h:zo w U F o T fc x)(hH:HAt (zq U w) c.ba c.bc c.bl c.pa c.pc c.pl)(hf:c.v.hf=0)(a3:c.vl=[])(a1:U8L c.bl)(a2:U8L c.pl) :
  Calls prog 91 #[P_ F o,.agg (hrow_ c)] w λe w'=>(∃v,e=.returned v)/\zal w U F o T fc x w' (x.v.recO c.v):=by
 have aX:zO c.au c.rd c.bl c.pl=0:=by rw[Ct.hf_v];exact hf
 have hA:=zC w (.cells (hrow_ c) 60);have q0:=hN_ w (.cells (hrow_ c) 60);have aK:Hid (U w.heap.size=false):=h.bnd.new (nR_ _);go_in;go_upto_region 1 with fail
 generalize w.alloc (.cells (hrow_ c) 60)=W0 at hA q0|-;generalize w.heap.size=B0 at q0 aK|-;have h0:=h.below hA;have aI:=hH.sub (h.later hA);have s0:=zb q0 0 _ rfl;have s1:=zb q0 1 _ rfl;have s2:=zb q0 2 _ rfl;have s3:=zb q0 3 _ rfl;have HS:=zi1 c.au c.rd c.ba c.bc c.bl c.pa c.pc c.pl W0 (aI.sub (zK _ _)) aX (h0.tabs.sub (zK _ _));go_wp2_with fail
 refine HS.mono ?_;rintro e w1⟨b,he,aP,aZ,X,aO⟩;subst he;dsimp only;clear HS s0 s1 s2 s3;have aw:=zC w1 (.cells #[I_ c.au,I_ c.rd,.slice (some (p_ b 0)) 32 32] 63);have q2:=hN_ w1 (.cells #[I_ c.au,I_ c.rd,.slice (some (p_ b 0)) 32 32] 63);go_upto_region 3 with fail
 generalize w1.alloc (.cells #[I_ c.au,I_ c.rd,.slice (some (p_ b 0)) 32 32] 63)=W2 at aw q2|-;generalize w1.heap.size=NB at q2|-;have aB:=zm aO aw;have ax:=zm hA aB;have h2:=h.below ax;have n2:=zl.below (F:=F) (o:=o) U fc x ax;have aD:=hH.sub (h.later ax);have a0:Hid (c.v.d.length=32):=c.v.d_length;have aQ:=(Ct.d_v c).symm;have aJ:zg (zq U W2) (some (p_ b 0)) 32 c.v.d:=by
  rw[aQ];exact zci (X.below aw) (λl r e _=>by cases e;exact h0.bnd.new aP)
 have aj:=zk aB q0;have aG:Calls prog 76 #[P_ F o,.agg (hrow_ c),.agg #[I_ c.au,I_ c.rd,.slice (some (p_ b 0)) 32 32]] W2 λe w'=>(∃v,e=.returned v)/\zal W2 U F o T fc x w' { x.v with k:={ x.v.k with own:=c.v,slot:=c.v.slot },vot:=[x.v.nu] }:=by
  have k:=zlV x c ⟨c.au,c.rd,⟨some (p_ b 0),32,c.v.d⟩⟩ W2 U F o T fc h2 aD aJ hf a3 (zfy c.v) a1 a2;dsimp only [srow_]at k;rw[a0.out]at k;exact k
 clear aQ aJ X aP aZ hA aO aw aB ax h0 aI q0;have s0:=zb aj 0 _ rfl;have s1:=zb aj 1 _ rfl;have s2:=zb aj 2 _ rfl;have s3:=zb aj 3 _ rfl;have r0:=zb q2 0 _ rfl;have r1:=zb q2 1 _ rfl;have r2:=zb q2 2 _ rfl;go_wp2_with fail
 refine aG.mono ?_;rintro e w3⟨⟨v,he⟩,U3,fc3,x3,h1,n3,v3⟩;subst he;dsimp only;clear aG s0 s1 s2 s3 r0 r1 r2;have aU:=n3.box h2 aj aK.out;have aC:=aD.sub (n3.sub h2);have n1:=n2.trans n3;have aT:Hid (x3.v.k.tab=x.v.k.tab):=by show _=_;rw[v3]
 have aH:Hid _:=v3;clear v3 aj q2 h2 aD n2 n3;have c5:=h1.cell 5 _ rfl;go_upto_region 4 with fail
 obtain⟨I,aM⟩:∃W,W=w3:=⟨_,rfl⟩;rw[<-aM]at h1 n1 aU aC c5|-;clear aM;go_cut [6,7,8] (λu6 u7 u8 wx=>∃(z:Q_) (rc:Nat) (f:List Sl) (d:Nat) (m:Q_) (t:Nat) (u y:Int) (ds:L_) (A:Int),u6=.slice z f.length rc/\u7=(P_ d 0)/\u8=I_ A/\B_ I wx/\I.heap.size<=d/\R_ wx d #[I_ u,I_ y,.slice m ds.length t] 63/\Hid ((vs f,(u,y,ds),A)=zaf x3.v.k.tab c.v/\zg wx m t ds/\(∀l r,m=some (p_ l r)->I.heap.size<=l/\(Value.slice z f.length rc).ownBlock≠some l)/\wx.ownsRow I.heap.size 63 3 (.slice z f.length rc) f.length (slv f)/\z8 wx I.heap.size (.slice z f.length rc) (ps f)/\(Value.slice z f.length rc).ownBlock≠some d))
 case first=>
  have O:=dB_ I;have ak:=dC_ c5;have au:=dQ_ aU;refine wR_ (S:=λw'=>C_ w' F (o+5) (.slice x3.ta x3.tab.length x3.tc)/\R_ w' B0 (hrow_ c) 60) (by kernel_rfl) ⟨ak,au⟩ (λD=>?_);generalize I.drew=J at O ak au D|-;refine tks_ 4 [(0,21,(P_ F o)),(1,22,(P_ F o)),(2,23,(P_ F (o+5))),(3,24,.slice x3.ta x3.tab.length x3.tc)] D ?_;simp only[tkf_,zf];refine tQ_ 4 25 (.agg (hrow_ c)) rfl rfl (Or.inl ⟨by rfl,λw0 aY=>zL 60 _ rfl B0 rfl 60 (hrow_ c) (0,0) _ aY.2 underlying60 rfl sHd⟩) D ?_;simp only[zf];refine rY_ (rs:=[5,10]) (by kernel_rfl) (by simp) (rA_ rfl (λK9 V=>?_) (rA_ rfl (λK9 V=>?_) rN_));refine zj rfl 26 rfl 73 [.tmp 24,.tmp 25] #[38,60] rfl [.slice x3.ta x3.tab.length x3.tc,.agg (hrow_ c)] rfl (eO_ func73) (λv w'=>(∃(z:Q_) (rc:Nat) (f:List Sl) (m:Q_) (t:Nat) (u y:Int) (ds:L_) (A:Int),v=.tuple #[.slice z (List.length f) rc,.agg #[I_ u,I_ y,.slice m (List.length ds) t],I_ A]/\(vs f,(u,y,ds),A)=zaf x3.v.k.tab c.v/\zg w' m t ds/\(∀l r,m=some (p_ l r)->J.heap.size<=l/\(Value.slice z (List.length f) rc).ownBlock≠some l)/\w'.ownsRow J.heap.size 63 3 (.slice z (List.length f) rc) (List.length f) (slv f)/\z8 w' J.heap.size (.slice z (List.length f) rc) (ps f))/\B_ J w') ((zgh x3.tab x3.ta x3.tc c.au c.rd c.ba c.bc c.bl c.pa c.pc c.pl J ((h1.below O).tabAt) ((aC.sub (zK U3 I)).below O) ((h1.below O).tabs.sub (zK _ _))).mono (λe w' k=>by
    obtain⟨z,rc,f,m,t,u,y,ds,A,k1,k2,_,k4,_,k6,k7,k8,k9,aF⟩:=k;exact⟨_,k1,⟨z,rc,f,m,t,u,y,ds,A,rfl,by rw[k2,zgi];rfl,k4,λl r e=>⟨k6 l r e,aF l r e⟩,k8,k9⟩,k7⟩)) ?_
  rintro v E⟨⟨z,rc,f,m,t,u,y,ds,A,rfl,hR,X,ag,hO,M⟩,hbc⟩;have N:=zm O hbc;have ab:=zr hbc ak;have ac:=zk hbc au;refine V.out _ _ ⟨ab,ac⟩ (λD=>?_)
  rotate_left
  refine zy rfl 7 rfl (P_ J.heap.size 0) (J.alloc (.cells #[I_ 0,I_ 0,O_] 63)) (by go_simp) ?_;have L:=zC J (.cells #[I_ 0,I_ 0,O_] 63);have C:=hN_ J (.cells #[I_ 0,I_ 0,O_] 63);have N:=zm O L;have R:=O.size;have ab:=zr L ak;have Z:F≠J.heap.size:=Nat.ne_of_lt (bL_ ak);have ac:=zk L au;have aa:=Nat.ne_of_lt (ze au);refine V.out _ _ ⟨ab,ac⟩ (λD=>?_);simp only[zf];have ae:J.heap.size<(J.alloc (.cells #[I_ 0,I_ 0,O_] 63)).heap.size:=by simp
  generalize J.alloc (.cells #[I_ 0,I_ 0,O_] 63)=E at L C N ae ab ac D|-;clear L;generalize J.heap.size=d at C R ae Z aa|-;refine zE 5 rfl (λK9 V=>?_);have bd:=ae;refine zj rfl 26 rfl 73 [.tmp 24,.tmp 25] #[38,60] rfl [.slice x3.ta x3.tab.length x3.tc,.agg (hrow_ c)] rfl (eO_ func73) (λv w'=>(∃(z:Q_) (rc:Nat) (f:List Sl) (m:Q_) (t:Nat) (u y:Int) (ds:L_) (A:Int),v=.tuple #[.slice z (List.length f) rc,.agg #[I_ u,I_ y,.slice m (List.length ds) t],I_ A]/\(vs f,(u,y,ds),A)=zaf x3.v.k.tab c.v/\zg w' m t ds/\(∀l r,m=some (p_ l r)->E.heap.size<=l/\(Value.slice z (List.length f) rc).ownBlock≠some l)/\w'.ownsRow E.heap.size 63 3 (.slice z (List.length f) rc) (List.length f) (slv f)/\z8 w' E.heap.size (.slice z (List.length f) rc) (ps f))/\B_ E w') ((zgh x3.tab x3.ta x3.tc c.au c.rd c.ba c.bc c.bl c.pa c.pc c.pl E ((h1.below N).tabAt) ((aC.sub (zK U3 I)).below N) ((h1.below N).tabs.sub (zK _ _))).mono (λe w' k=>by
    obtain⟨z,rc,f,m,t,u,y,ds,A,k1,k2,_,k4,_,k6,k7,k8,k9,aF⟩:=k;exact⟨_,k1,⟨z,rc,f,m,t,u,y,ds,A,rfl,by rw[k2,zgi];rfl,k4,λl r e=>⟨k6 l r e,aF l r e⟩,k8,k9⟩,k7⟩)) ?_
  rintro v H⟨⟨z,rc,f,m,t,u,y,ds,A,rfl,hR,X,ag,hO,M⟩,hbc⟩;have ay:=zm N hbc;have ad:=zr hbc ab;have ai:=zk hbc ac;have C:=zk hbc C;refine V.out _ _ ⟨ad,ai⟩ (λD=>?_)
  rotate_left
  all_goals
   simp only[zf];refine tks_ 4 [(6,20,.tuple #[.slice z f.length rc,.agg #[I_ u,I_ y,.slice m ds.length t],I_ A]),(7,27,.slice z f.length rc),(8,28,.agg #[I_ u,I_ y,.slice m ds.length t]),(9,29,I_ A)] D ?_;simp only[tkf_,zf]
  refine zE 10 rfl (λK9 V=>?_);refine zy rfl 7 rfl (P_ E.heap.size 0) (E.alloc (.cells #[I_ 0,I_ 0,O_] 63)) (by go_simp) ?_;have L:=zC E (.cells #[I_ 0,I_ 0,O_] 63);have C:=hN_ E (.cells #[I_ 0,I_ 0,O_] 63);have ay:=zm N L;have R:=N.size;have ad:=zr L ab;have Z:F≠E.heap.size:=Nat.ne_of_lt (bL_ ab);have ai:=zk L ac;have aa:=Nat.ne_of_lt (ze ac);have ah:=λq e=>Nat.ne_of_lt (hO.lt q e).2;have aA:∀l r,m=some (p_ l r)->ds≠[]->l≠E.heap.size:=λl r e hn=>Nat.ne_of_lt (zhh X hn e);have az:=λp B l r e=>Nat.ne_of_lt ((M p B).2 l r e).2.1;have X:=X.below L;have hO:=zw hO L;have M:=M.same L.size (λp B b r e=>L.block b ((M p B).2 b r e).2.1);refine V.out _ _ ⟨ad,ai⟩ (λD=>?_);simp only[zf];have ae:E.heap.size<(E.alloc (.cells #[I_ 0,I_ 0,O_] 63)).heap.size:=by simp
  generalize E.alloc (.cells #[I_ 0,I_ 0,O_] 63)=H at L C ay ae ad ai X hO M D|-;clear L;generalize E.heap.size=d at C R ae Z aa ah aA az|-
  rotate_left
  have ah:∀q,(Value.slice z f.length rc).ownBlock=some q->q≠d:=λq e=>by have:=(hO.lt q e).1;omega
  have aA:∀l r,m=some (p_ l r)->ds≠[]->l≠d:=λl r e hn=>by have:=(ag l r e).1;omega
  have az:∀p∈ps f,∀l r,p.sa=some (p_ l r)->l≠d:=λp B l r e=>by have:=((M p B).2 l r e).1;omega
  rotate_left
  all_goals
   have a8:=zb C 0 _ rfl;have a5:=zd C 0;have a9:=zb C 1 _ rfl;have a6:=zd C 1;have ba:=zb C 2 _ rfl;have a7:=zd C 2;refine zU 11 6 (.slice z f.length rc) rfl rfl D ?_;simp only[zf];refine zE 12 rfl (λK9 V=>?_);refine zX rfl rfl (((H.setCell (p_ d 0) (I_ u)).setCell (p_ d 1) (I_ y)).setCell (p_ d 2) (.slice m ds.length t)) (by go_simp) ?_;have ar:(((H.setCell (p_ d 0) (I_ u)).setCell (p_ d 1) (I_ y)).setCell (p_ d 2) (.slice m ds.length t)).heap[d]? = some (.cells #[I_ u,I_ y,.slice m ds.length t] 63 (0,0)):=by simpa using(hS_ _ _ 2 _ _ (.slice m ds.length t) (hS_ _ _ 1 _ _ (I_ y) (hS_ _ _ 0 _ _ (I_ u) C)))
   have ap:=(((ay.setCell (p:=p_ d 0) R (I_ u)).setCell (p:=p_ d 1) R (I_ y)).setCell (p:=p_ d 2) R (.slice m ds.length t));have al:=(zar (k:=2) (v:=.slice m ds.length t) (zar (k:=1) (v:=I_ y) (zar (k:=0) (v:=I_ u) ad Z) Z) Z);have av:=(zh (j:=2) (v:=.slice m ds.length t) (zh (j:=1) (v:=I_ y) (zh (j:=0) (v:=I_ u) ai aa) aa) aa);have Y:∀k,k≠d->(((H.setCell (p_ d 0) (I_ u)).setCell (p_ d 1) (I_ y)).setCell (p_ d 2) (.slice m ds.length t)).heap[k]? = H.heap[k]?:=λk hk=>by rw[hO_ _ (p_ d 2) k _ hk,hO_ _ (p_ d 1) k _ hk,hO_ _ (p_ d 0) k _ hk]
   have ao:=zcp (G:=λk=>k≠d) Y X aA;have am:=zcf (zu hO (λq e=>Y q (ah q e))) (by have:=O.size;have:=N.size;omega);have an:z8 (((H.setCell (p_ d 0) (I_ u)).setCell (p_ d 1) (I_ y)).setCell (p_ d 2) (.slice m ds.length t)) I.heap.size (.slice z f.length rc) (ps f):=λp B=>⟨(M.same (w':=(((H.setCell (p_ d 0) (I_ u)).setCell (p_ d 1) (I_ y)).setCell (p_ d 2) (.slice m ds.length t))) (by simp) (λp B b r e=>Y b (az p B b r e)) p B).1,λl r e=>⟨by have:=((M p B).2 l r e).1;have:=O.size;have:=N.size;omega,by have:=((M p B).2 l r e).2.1;simpa using this,((M p B).2 l r e).2.2⟩⟩;have aE:∀l r,m=some (p_ l r)->I.heap.size<=l/\(Value.slice z f.length rc).ownBlock≠some l:=λl r e=>⟨by have:=(ag l r e).1;have:=O.size;have:=N.size;omega,(ag l r e).2⟩;clear Y;refine V.out _ _ ⟨al,av⟩ (λD=>?_);generalize (((H.setCell (p_ d 0) (I_ u)).setCell (p_ d 1) (I_ y)).setCell (p_ d 2) (.slice m ds.length t))=VE at ar ap al av ao am an D|-;refine zU 13 8 (I_ A) rfl rfl D ?_;simp only[zf];clear D;refine wD_ (by kernel_rfl) ?_ _;go_wp2_with fail
   go_meet
   case rel=>exact⟨z,rc,f,d,m,t,u,y,ds,A,rfl,rfl,rfl,ap,R,ar,⟨hR,ao,aE,am,an,λe=>ah d e rfl⟩⟩
 case rest=>
  obtain⟨z,rc,f,d,m,t,u,y,ds,A,rfl,rfl,rfl,af,R,qn,hX⟩:=hcut;apply_assumption;clear c5 qn R;obtain⟨W2,aN⟩:∃W,W=wc:=⟨_,rfl⟩;rw[<-aN]at af hX|-;clear aN;obtain⟨x1,x2,aV,x4,x5,x6⟩:=hX.out;by_cases e0:A=0
  .subst e0;have c0:(zaf x3.v.k.tab c.v).2.2=0:=by rw[<-x1]
   obtain⟨-,-,-,t4⟩:=zlb c0;have aq:Hid ((zaf x3.v.k.tab c.v).1=vs f):=by show _=_;rw[<-x1]
   have aL:Hid (∀s∈vs f,zaN s.2.2):=by
    show ∀s,_;intro s hs;rw[<-aq.out]at hs;rcases t4 with g|⟨g,_⟩;rw[g]at hs;exact h1.inv.u8t s hs;rw[g]at hs;rcases mA_.1 hs with g2|g2;exact h1.inv.u8t s g2;obtain rfl:s=c.v.slot:=by simpa using g2
    exact zfy _
   have aR:Hid (f.length<=400000):=by
    show _<=_;have e8:=zay f;have e7:=h1.inv.tab;rw[<-e8,<-aq.out];rcases t4 with g|⟨g,g2⟩;rw[g];exact e7;rw[g,lP_];simp;omega
   obtain⟨U5,aW,y5,h5,n5,v5⟩:=h1.put_tab (a':=z) (c':=rc) (l':=f) af (λq e=>(x4.lt q (zaK _ _ e)).1) (zcf x4 (nZ_ _)) (λs hs=>by
    have B:=x5 s.p (mM_.2 ⟨s,hs,rfl⟩);exact zci B.1 (λl r e _=>zbw (h1.bnd.new (B.2 l r e).1) (λe2=>(B.2 l r e).2.2 (zaK _ _ e2)))) (by rw[NM.v_tab];exact h1.inv.tab_ (by rw[zay];exact aR.out) aL.out)
   have HF:Hid (y5.v=(x.v.recO c.v)):=by
    show _=_;rw[aT.out]at c0 aq;rw[v5,NM.v_tab,Nd.recO,iP_ c0,aq.out,aH.out]
   have a4:=n1.trans n5;have f5:=(h1.below af).free (o+5);have bb:=(h1.below af).cell 5 _ rfl;clear hX x1 x2 aV x4 x5 x6 c0 t4 aq aL aR v5 n5;go_wp2_with fail
   go_end0;exact⟨⟨_,rfl⟩,U5,aW,y5,h5,a4,HF.out⟩
  have aS:¬(zaf x.v.k.tab c.v).2.2=0:=by rw[<-aT.out,<-x1];exact e0
  have HF:Hid (x3.v=(x.v.recO c.v)):=by
   show _=_;rw[Nd.recO,iN_ aS,aH.out]
  have bc:(A == 0)=false:=by simpa using e0
  clear hX x1 x2 aV x4 x5 x6 e0 aS;go_wp2_with fail
  go_end0;exact⟨⟨_,rfl⟩,U3,fc3,x3,h1.below af,n1.trans (zl.below (F:=F) (o:=o) U3 fc3 x3 af),HF.out⟩
theorem zvR {n:Nd}{m:MC}(k:m.ki=1):n.recall m=if zbG n.k.sh m.b then { n with k:={ n.k with sh:=n.k.sh++[m.b] } } else n:=by
 have b:(if m.ki=2/\m.h.hf=0 then [n.nu]else n.vot)=n.vot:=iN_ (λg=>by rw[k]at g;exact absurd g.1 (by decide));have c:n.k.rcl m=if zbG n.k.sh m.b then { n.k with sh:=n.k.sh++[m.b] } else n.k:=iP_ k;rw[Nd.recall,b,c];cases zbG n.k.sh m.b<;>rfl
theorem zvS {n:Nd}{m:MC}(k:m.ki=3):n.recall m={ n with k:={ n.k with tab:=n.k.tab++[m.s] } }:=by
 have b:(if m.ki=2/\m.h.hf=0 then [n.nu]else n.vot)=n.vot:=iN_ (λg=>by rw[k]at g;exact absurd g.1 (by decide));have c:n.k.rcl m={ n.k with tab:=n.k.tab++[m.s] }:=by
  unfold Kn.rcl;rw[iN_ (show ¬m.ki=1 by rw[k];decide),iN_ (show ¬m.ki=2 by rw[k];decide),iP_ k]
 rw[Nd.recall,b,c]
theorem zvT {n:Nd}{m:MC}(k:m.ki=4):n.recall m=if za8 n.k.dag m.ct=0 then { n with k:={ n.k with dag:=n.k.dag++[m.ct] } } else n:=by
 have b:(if m.ki=2/\m.h.hf=0 then [n.nu]else n.vot)=n.vot:=iN_ (λg=>by rw[k]at g;exact absurd g.1 (by decide));have c:n.k.rcl m=if za8 n.k.dag m.ct=0 then { n.k with dag:=n.k.dag++[m.ct] } else n.k:=by
  unfold Kn.rcl;rw[iN_ (show ¬m.ki=1 by rw[k];decide),iN_ (show ¬m.ki=2 by rw[k];decide),iN_ (show ¬m.ki=3 by rw[k];decide),iP_ k]
 rw[Nd.recall,b,c];by_cases g:za8 n.k.dag m.ct=0;rw[iP_ g,iP_ g];rw[iN_ g,iN_ g]
theorem zub {m:MV}(h:zaT m):(m.m.ki=1/\zbk m.m.bau m.m.bnu m.ss=0)\/(m.m.ki=2/\zO m.m.hau m.m.hrd m.bl m.pl=0)\/(m.m.ki=3/\zbf m.m.sau m.m.srd m.m.sdn=0)\/(m.m.ki=4/\zap m.m.cau m.m.crd m.cbl m.cpl m.vl=0):=by
 have b:=h.car;unfold MV.car zD at b;by_cases k1:m.m.ki=1;rw[iP_ k1]at b;exact .inl ⟨k1,b⟩;rw[iN_ k1]at b;by_cases k2:m.m.ki=2;rw[iP_ k2]at b;exact .inr (.inl ⟨k2,b⟩);rw[iN_ k2]at b;by_cases k3:m.m.ki=3;rw[iP_ k3]at b;exact .inr (.inr (.inl ⟨k3,b⟩));rw[iN_ k3]at b;by_cases k4:m.m.ki=4;rw[iP_ k4]at b;exact .inr (.inr (.inr ⟨k4,b⟩));rw[iN_ k4,iN_ h.ki]at b;cases b
theorem zqg (x:NM)(m:MV)(w:World)(U:Nat->Bool)(F o:Nat)(T:TypeId)(M:X_)(h:zo w U F o T M x)(hm:MAt (zq U w) m)(hs:MSh (zq U w) m)(hr:zaT m)(D:U8M m.bl m.pl m.cbl m.cpl m.ds)(ht:x.tab.length<400000) :
  Calls prog 52 #[P_ F o,.agg (mrow_ m.m)] w λe w'=>(∃v,e=.returned v)/\zal w U F o T M x w' (x.v.recall m.c):=by
 have hA:=zC w (.cells (mrow_ m.m) 90);have R:=hN_ w (.cells (mrow_ m.m) 90);have ao:Hid (U w.heap.size=false):=h.bnd.new (nR_ _);go_in;go_upto_region 1 with fail
 generalize w.alloc (.cells (mrow_ m.m) 90)=I at hA R|-;generalize aI:w.heap.size=B at R ao|-;have aZ:Hid _:=aI;clear aI;have X:=h.below hA;have ay:=hm.sub (h.later hA);have aA:=hs.sub (h.later hA);have c2:=zb R 2 _ rfl;have HT:Hid (x.tab.length<400000):=ht;have aS:=zub hr;clear ht hr;rcases aS with⟨k,hf⟩|⟨k,hf⟩|⟨k,hf⟩|⟨k,hf⟩
 .replace c2:C_ I B 2 (I_ 1):=by rw[<-k];exact c2
  have HM:Hid (x.v.recall m.c=if zbG (shw x.sh) (⟨m.m.bau,m.m.bnu,m.ss⟩:BW)then { x.v with k:={ x.v.k with sh:=x.v.k.sh++[(⟨m.m.bau,m.m.bnu,m.ss⟩:BW)] } } else x.v):=zvR k;have a0:=zb R 3 _ rfl;have a1:=zb R 4 _ rfl;have a2:C_ I B 5 (.slice m.m.bta m.ss.length m.m.btc):=by rw[<-hm.at'.e1];exact zb R 5 _ rfl
  have aq:=zlO x ⟨⟨m.m.bau,m.m.bnu,m.ss⟩,m.m.bta,m.m.btc⟩ I U F o T M X (aA.b.sub (zK _ _)) hf;dsimp only at aq;clear k R;go_wp2_with fail
  refine aq.mono ?_;rintro e w1⟨⟨⟨⟨v9,y,z⟩,d⟩,he,hsv,hSA,hs1,hs2⟩,hb1⟩
  simp only at hsv
  subst hsv;subst he;dsimp only at hs1 hs2|-;clear aq a0 a1 a2 c2;have aH:=zm hA hb1;have aY:=hA.size;have an:=zC w1 (.cells #[I_ m.m.bau,I_ m.m.bnu,.slice y m.ss.length z,.slice d.sa d.bs.length d.cap] 102);have q2:=hN_ w1 (.cells #[I_ m.m.bau,I_ m.m.bnu,.slice y m.ss.length z,.slice d.sa d.bs.length d.cap] 102);have HS:Hid (∀W:World,B_ w1 W->zd3 (zq U W) (⟨⟨⟨m.m.bau,m.m.bnu,m.ss⟩,y,z⟩,d⟩:Sh)):=λW hW=>(hSA.hid (U:=U) (λsb so e=>h.bnd.new (by have:=hs1 sb so e;omega)) (λsb so e=>h.bnd.new (by have:=hs2 sb so e;omega))).sub (zao.below U hW).sub;clear hSA hs1 hs2;go_upto_region 4 with fail
  generalize w1.alloc (.cells #[I_ m.m.bau,I_ m.m.bnu,.slice y m.ss.length z,.slice d.sa d.bs.length d.cap] 102)=W2 at an q2|-;have av:=zm aH an;have h2:=h.below av;have aT:Hid (zd3 (zq U W2) (⟨⟨⟨m.m.bau,m.m.bnu,m.ss⟩,y,z⟩,d⟩:Sh)):=HS.out W2 an;have aw:Hid (U w1.heap.size=false):=h.bnd.new aH.size;generalize w1.heap.size=V at q2 aw|-;clear HS an hb1 aY X;generalize aK:zbG (shw x.sh) (⟨m.m.bau,m.m.bnu,m.ss⟩:BW)=tb at HM|-;have aU:Hid _:=aK;clear aK;cases tb with
  | false=>
   go_wp2_with fail
   go_end0;exact⟨⟨_,rfl⟩,by rw[HM.out];exact zal.quiet h av⟩
  | true=>
   have aQ:∀P:Prop,¬(U V=true/\P):=λP k=>by have:=k.1;rw[aw.out]at this;cases this
   have aP:V≠F:=λe=>by have:=aw.out;rw[e,h.fu]at this;cases this
   have aV:x.sh.length<800:=by have e2:=zlQ aU.out;rw[zb6]at e2;exact e2
   have aF:∀(E A:World) (r:Q_) (t:Nat),B_ W2 E->A.ownsRow 0 102 4 (.slice r (x.sh++[(⟨⟨⟨m.m.bau,m.m.bnu,m.ss⟩,y,z⟩,d⟩:Sh)]).length t) (x.sh++[(⟨⟨⟨m.m.bau,m.m.bnu,m.ss⟩,y,z⟩,d⟩:Sh)]).length (shv (x.sh++[(⟨⟨⟨m.m.bau,m.m.bnu,m.ss⟩,y,z⟩,d⟩:Sh)]))->zV E (.slice x.sa x.sh.length x.sc) A (.slice r (x.sh++[(⟨⟨⟨m.m.bau,m.m.bnu,m.ss⟩,y,z⟩,d⟩:Sh)]).length t)->(∃v,Ending.returned (.tuple #[])=.returned v)/\zal w U F o T M x (A.setCell (p_ F (o+4)) (.slice r (x.sh.length+1) t)) (x.v.recall m.c):=by
    intro E A r t hb ho G;refine⟨⟨_,rfl⟩,?_⟩;rw[HM.out,iP_ rfl];have h1:=h2.below hb;have ax:(x.sh++[(⟨⟨⟨m.m.bau,m.m.bnu,m.ss⟩,y,z⟩,d⟩:Sh)]).length=x.sh.length+1:=by simp
    have ag:=h1.more_sh G ho (λs hs=>?_) ?_;rw[ax]at ag;refine zal.after ((zl.below (F:=F) (o:=o) U M x av).trans (zl.below U M x hb)) ?_;obtain⟨U',ar,x',k1,k2,k3⟩:=ag;exact⟨U',ar,x',k1,k2,by rw[k3,NM.v_sh]⟩;have k:=h1.grew_sub G (λq e=>.inr (.inr (.inr (.inl e))));rcases mA_.1 hs with g|g;exact(h1.esh s g).sub k;obtain rfl:s=(⟨⟨⟨m.m.bau,m.m.bnu,m.ss⟩,y,z⟩,d⟩:Sh):=by simpa using g
    exact(aT.out.sub (zao.below U hb).sub).sub k;rw[NM.v_sh];exact h.inv.sh_ (b:=(⟨m.m.bau,m.m.bnu,m.ss⟩:BW)) (by show(shw x.sh).length<800;rw[zb6];exact aV) hf
   go_upto_region 5 with fail
   obtain⟨ti,aj,ak,al,am⟩:=info_parts zt6;have N:=dB_ W2;have ap:=dQ_ q2;refine wR_ (S:=λw'=>R_ w' V #[I_ m.m.bau,I_ m.m.bnu,.slice y m.ss.length z,.slice d.sa d.bs.length d.cap] 102) (by kernel_rfl) ap (λc=>?_);generalize W2.drew=l at N ap c|-;have az:=h2.below N;refine tks_ 4 [(0,18,(P_ F o)),(1,19,(P_ F o)),(2,20,(P_ F o)),(3,21,(P_ F (o+4)))] c ?_;simp only[tkf_,zf];refine tQ_ 5 23 (.agg #[I_ m.m.bau,I_ m.m.bnu,.slice y m.ss.length z,.slice d.sa d.bs.length d.cap]) rfl rfl (Or.inl ⟨by rfl,λw0 Z=>zL 102 _ rfl V rfl 102 #[I_ m.m.bau,I_ m.m.bnu,.slice y m.ss.length z,.slice d.sa d.bs.length d.cap] (0,0) _ Z underlying102 rfl sSh⟩) c ?_;simp only[zf];refine rY_ (rs:=[4,6]) (by kernel_rfl) (by simp) (rA_ rfl (λH f=>?_) (rA_ rfl (λH f=>?_) rN_));have ae:=az.cell 4 _ rfl;refine zy rfl 22 rfl (.slice x.sa x.sh.length x.sc) l (by go_simp) ?_;refine f.out _ _ c (λc=>?_);simp only[zf];clear ae;refine zE 6 rfl (λH f=>?_)
   all_goals
    refine zy rfl 24 rfl (.slice (some (p_ l.heap.size 0)) 1 1) (l.alloc (.cells #[I_ m.m.bau,I_ m.m.bnu,.slice y m.ss.length z,.slice d.sa d.bs.length d.cap] 102)) (by go_simp) ?_;have C:=zC l (.cells #[I_ m.m.bau,I_ m.m.bnu,.slice y m.ss.length z,.slice d.sa d.bs.length d.cap] 102);have O:=zm N C;have L:=hN_ l (.cells #[I_ m.m.bau,I_ m.m.bnu,.slice y m.ss.length z,.slice d.sa d.bs.length d.cap] 102);have af:=zk C ap;refine f.out _ _ af (λc=>?_);simp only[zf];generalize l.alloc (.cells #[I_ m.m.bau,I_ m.m.bnu,.slice y m.ss.length z,.slice d.sa d.bs.length d.cap] 102)=E at C O L af c|-;clear C;generalize l.heap.size=V at L|-;have p:=h2.below O
   rotate_left
   refine zE 4 rfl (λH f=>?_);have ae:=p.cell 4 _ rfl;refine zy rfl 22 rfl (.slice x.sa x.sh.length x.sc) E (by go_simp) ?_;refine f.out _ _ c (λc=>?_);simp only[zf];clear ae
   rotate_left
   all_goals
    refine zE 7 rfl (λH f=>?_);refine zaz rfl 25 rfl (.tmp 22) (.tmp 24) 56 rfl 0 102 ti (.agg #[I_ 0,I_ 0,O_,O_]) 4 64 underlying56 aj ak al am rfl (by decide) (.slice x.sa x.sh.length x.sc) x.sh.length (shv x.sh) rfl p.rsh (p_ V 0) 1 1 (Sh.cs (⟨⟨⟨m.m.bau,m.m.bnu,m.ss⟩,y,z⟩,d⟩:Sh)) rfl rfl (λj u D=>by rw[zaP,zA_];exact zb L j u (by rw[<-Array.getElem?_toList];exact D)) (zlP _) (by unfold maxLen;omega) (by omega) (nZ_ _) ?_;intro v3 A aa J;obtain⟨r,t,ad⟩:=zH aa;subst ad;have ai:=J.row af (λe=>aQ _ (p.su _ (.inr (.inr (.inr (.inl (zp e)))))));have Y:=J.row p.blk (λe=>(p.su _ (.inr (.inr (.inr (.inl (zp e)))))).2 rfl);refine f.out _ _ ai (λc=>?_);simp only[zf];refine tks_ 2 [(8,26,(P_ F o)),(9,27,(P_ F (o+4)))] c ?_;simp only[tkf_,zf];refine zE 10 rfl (λH f=>?_);have aD:=zb Y (o+4) _ (p.cel 4 (by decide));have aE:=zd Y (o+4);refine zX rfl rfl (A.setCell (p_ F (o+4)) (.slice r (x.sh.length+1) t)) (by go_simp) ?_;have aC:=zh (b:=F) (j:=o+4) (v:=.slice r (x.sh.length+1) t) ai (λe=>aP e);refine f.out _ _ aC (λc=>?_);refine wD_ (by kernel_rfl) ?_ _;go_wp2_with fail
    go_end0;exact aF E A r t O (by rw[zi0];simpa using aa) (by simpa using J)
 .replace c2:C_ I B 2 (I_ 2):=by rw[<-k];exact c2
  have aL:(⟨m.m.hau,m.m.hrd,m.m.hba,m.m.hbc,m.bl,m.m.hpa,m.m.hpc,m.pl,none,0,[]⟩:Ct).v.hf=0:=by rw[<-Ct.hf_v];exact hf
  have HM:Hid (x.v.recall m.c=x.v.recO (⟨m.m.hau,m.m.hrd,m.m.hba,m.m.hbc,m.bl,m.m.hpa,m.m.hpc,m.pl,none,0,[]⟩:Ct).v):=zqe (m:=m.c) k aL;have a0:=zb R 6 _ rfl;have a1:=zb R 7 _ rfl;have a2:C_ I B 8 (.slice m.m.hba m.bl.length m.m.hbc):=by rw[<-hm.at'.e2];exact zb R 8 _ rfl
  have a3:C_ I B 9 (.slice m.m.hpa m.pl.length m.m.hpc):=by rw[<-hm.at'.e3];exact zb R 9 _ rfl
  have HR:=zqf x (⟨m.m.hau,m.m.hrd,m.m.hba,m.m.hbc,m.bl,m.m.hpa,m.m.hpc,m.pl,none,0,[]⟩:Ct) I U F o T M X aA.h aL rfl D.hb D.hp;dsimp only [hrow_]at HR;clear k R;go_wp2_with fail
  refine HR.mono ?_;rintro e w1⟨⟨v,he⟩,U9,au,x9,h9,n9,v9⟩;subst he;dsimp only;clear HR;go_wp2_with fail
  go_end0;exact⟨⟨_,rfl⟩,U9,au,x9,h9,(zl.below (F:=F) (o:=o) U M x hA).trans n9,by rw[HM.out,v9]⟩
 .replace c2:C_ I B 2 (I_ 3):=by rw[<-k];exact c2
  have HM:Hid (x.v.recall m.c={ x.v with k:={ x.v.k with tab:=x.v.k.tab++[(⟨m.m.sau,m.m.srd,⟨m.m.sda,m.m.sdc,m.ds⟩⟩:Sl).v] } }):=zvS k;have aW:Hid (zg (zq U I) m.m.sda m.m.sdc m.ds):=ay.dig;have aJ:Hid (m.m.sdn=m.ds.length):=hm.dn;have a4:=HT.out;have aO:∀P:Prop,¬(U B=true/\P):=λP k=>by have:=k.1;rw[ao.out]at this;cases this
  have aN:B≠F:=λe=>by have:=ao.out;rw[e,h.fu]at this;cases this
  have aG:∀(E A:World) (r:Q_) (t:Nat),B_ I E->A.ownsRow 0 63 3 (.slice r (x.tab++[(⟨m.m.sau,m.m.srd,⟨m.m.sda,m.m.sdc,m.ds⟩⟩:Sl)]).length t) (x.tab++[(⟨m.m.sau,m.m.srd,⟨m.m.sda,m.m.sdc,m.ds⟩⟩:Sl)]).length (slv (x.tab++[(⟨m.m.sau,m.m.srd,⟨m.m.sda,m.m.sdc,m.ds⟩⟩:Sl)]))->zV E (.slice x.ta x.tab.length x.tc) A (.slice r (x.tab++[(⟨m.m.sau,m.m.srd,⟨m.m.sda,m.m.sdc,m.ds⟩⟩:Sl)]).length t)->(∃v,Ending.returned (.tuple #[])=.returned v)/\zal w U F o T M x (A.setCell (p_ F (o+5)) (.slice r (x.tab.length+1) t)) (x.v.recall m.c):=by
   intro E A r t hb ho G;refine⟨⟨_,rfl⟩,?_⟩;rw[HM.out];have h1:=X.below hb;have ax:(x.tab++[(⟨m.m.sau,m.m.srd,⟨m.m.sda,m.m.sdc,m.ds⟩⟩:Sl)]).length=x.tab.length+1:=by simp
   have aM:vs (x.tab++[(⟨m.m.sau,m.m.srd,⟨m.m.sda,m.m.sdc,m.ds⟩⟩:Sl)])=x.v.k.tab++[(⟨m.m.sau,m.m.srd,⟨m.m.sda,m.m.sdc,m.ds⟩⟩:Sl).v]:=by simp[vs,NM.v]
   have ag:=h1.more_tab G ho (λs hs=>?_) ?_;rw[ax]at ag;refine zal.after ((zl.below (F:=F) (o:=o) U M x hA).trans (zl.below U M x hb)) ?_;obtain⟨U',ar,x',k1,k2,k3⟩:=ag;exact⟨U',ar,x',k1,k2,by rw[k3,NM.v_tab,aM]⟩;have k:=h1.grew_sub G (λq e=>.inr (.inr (.inr (.inr (.inl e)))));rcases mA_.1 hs with g|g;exact(h1.etb s g).sub k;obtain rfl:s=(⟨m.m.sau,m.m.srd,⟨m.m.sda,m.m.sdc,m.ds⟩⟩:Sl):=by simpa using g
   exact(aW.out.sub (zao.below U hb).sub).sub k;rw[NM.v_tab,aM];refine h.inv.tab_ (by rw[lP_];have e9:x.v.k.tab.length=x.tab.length:=zay x.tab;simp;omega) ?_;intro s hs;rcases mA_.1 hs with g|g;exact h.inv.u8t s g;obtain rfl:s=(⟨m.m.sau,m.m.srd,⟨m.m.sda,m.m.sdc,m.ds⟩⟩:Sl).v:=by simpa using g
   exact D.sd
  clear k;go_upto_region 9 with fail
  obtain⟨ti,aj,ak,al,am⟩:=info_parts zk0;have N:=dB_ I;have ac:=dQ_ R;refine wR_ (S:=λw'=>R_ w' B (mrow_ m.m) 90) (by kernel_rfl) ac (λc=>?_);generalize I.drew=l at N ac c|-;have az:=X.below N;refine tks_ 5 [(0,36,(P_ F o)),(1,37,(P_ F o)),(2,38,(P_ F o)),(3,39,(P_ F (o+5))),(5,41,(P_ B 10))] c ?_;simp only[tkf_,zf];refine tQ_ 6 42 (.agg #[I_ m.m.sau,I_ m.m.srd,.slice m.m.sda m.m.sdn m.m.sdc]) rfl rfl (Or.inl ⟨by rfl,λw0 Z=>by have a5:=zb Z 10 _ rfl;have a6:=zb Z 11 _ rfl;have a7:=zb Z 12 _ rfl;go_simp⟩) c ?_;simp only[zf];refine rY_ (rs:=[4,7]) (by kernel_rfl) (by simp) (rA_ rfl (λH f=>?_) (rA_ rfl (λH f=>?_) rN_));have ae:=az.cell 5 _ rfl;refine zy rfl 40 rfl (.slice x.ta x.tab.length x.tc) l (by go_simp) ?_;refine f.out _ _ c (λc=>?_);simp only[zf];clear ae;refine zE 7 rfl (λH f=>?_)
  all_goals
   refine zy rfl 43 rfl (.slice (some (p_ l.heap.size 0)) 1 1) (l.alloc (.cells #[I_ m.m.sau,I_ m.m.srd,.slice m.m.sda m.m.sdn m.m.sdc] 63)) (by go_simp) ?_;have C:=zC l (.cells #[I_ m.m.sau,I_ m.m.srd,.slice m.m.sda m.m.sdn m.m.sdc] 63);have O:=zm N C;have L:=hN_ l (.cells #[I_ m.m.sau,I_ m.m.srd,.slice m.m.sda m.m.sdn m.m.sdc] 63);have ab:=zk C ac;refine f.out _ _ ab (λc=>?_);simp only[zf];generalize l.alloc (.cells #[I_ m.m.sau,I_ m.m.srd,.slice m.m.sda m.m.sdn m.m.sdc] 63)=E at C O L ab c|-;clear C;generalize l.heap.size=V at L|-;have p:=X.below O
  rotate_left
  refine zE 4 rfl (λH f=>?_);have ae:=p.cell 5 _ rfl;refine zy rfl 40 rfl (.slice x.ta x.tab.length x.tc) E (by go_simp) ?_;refine f.out _ _ c (λc=>?_);simp only[zf];clear ae
  rotate_left
  all_goals
   refine zE 8 rfl (λH f=>?_);refine zaz rfl 44 rfl (.tmp 40) (.tmp 43) 38 rfl 0 63 ti (.agg #[I_ 0,I_ 0,O_]) 3 40 underlying38 aj ak al am rfl (by decide) (.slice x.ta x.tab.length x.tc) x.tab.length (slv x.tab) rfl p.rtb (p_ V 0) 1 1 ([I_ m.m.sau,I_ m.m.srd,.slice m.m.sda m.m.sdn m.m.sdc]) rfl rfl (λj u D=>by rw[zaP,zA_];exact zb L j u (by rw[<-Array.getElem?_toList];exact D)) (λu D=>by simp at D;rcases D with rfl|rfl|rfl<;>rfl) (by unfold maxLen;omega) (by omega) (nZ_ _) ?_;intro v3 A aa J;obtain⟨r,t,ad⟩:=zH aa;subst ad;have ah:=J.row ab (λe=>aO _ (p.su _ (.inr (.inr (.inr (.inr (.inl (zp e))))))));have Y:=J.row p.blk (λe=>(p.su _ (.inr (.inr (.inr (.inr (.inl (zp e))))))).2 rfl);refine f.out _ _ ah (λc=>?_);simp only[zf];refine tks_ 2 [(9,45,(P_ F o)),(10,46,(P_ F (o+5)))] c ?_;simp only[tkf_,zf];refine zE 11 rfl (λH f=>?_);have aD:=zb Y (o+5) _ (p.cel 5 (by decide));have aE:=zd Y (o+5);refine zX rfl rfl (A.setCell (p_ F (o+5)) (.slice r (x.tab.length+1) t)) (by go_simp) ?_;have aB:=zh (b:=F) (j:=o+5) (v:=.slice r (x.tab.length+1) t) ah (λe=>aN e);refine f.out _ _ aB (λc=>?_);refine wD_ (by kernel_rfl) ?_ _;go_wp2_with fail
   go_end0;exact aG E A r t O (by rw[zki];simpa[Sl.cs,aJ.out]using aa) (by simpa using J)
 replace c2:C_ I B 2 (I_ 4):=by rw[<-k];exact c2
 have HM:Hid (x.v.recall m.c=if za8 x.v.k.dag (⟨m.m.cau,m.m.crd,m.m.cba,m.m.cbc,m.cbl,m.m.cpa,m.m.cpc,m.cpl,m.m.cva,m.m.cvc,m.vl⟩:Ct).v=0 then { x.v with k:={ x.v.k with dag:=x.v.k.dag++[(⟨m.m.cau,m.m.crd,m.m.cba,m.m.cbc,m.cbl,m.m.cpa,m.m.cpc,m.cpl,m.m.cva,m.m.cvc,m.vl⟩:Ct).v] } } else x.v):=zvT k;have aX:za7 (zq U I) (⟨m.m.cau,m.m.crd,m.m.cba,m.m.cbc,m.cbl,m.m.cpa,m.m.cpc,m.cpl,m.m.cva,m.m.cvc,m.vl⟩:Ct):=⟨aA.c,ay.at'.vot,ay.at'.s6⟩;have aR:Hid (∀W:World,B_ I W->Calls prog 92 #[P_ x.s 0,.agg #[I_ m.m.cau,I_ m.m.crd,.slice m.m.cba m.m.cbn m.m.cbc,.slice m.m.cpa m.m.cpn m.m.cpc,.slice m.m.cva m.m.cvn m.m.cvc]] W λe w'=>∃v,e=.returned v/\zal W U F o T M x w' (x.v.recall m.c)):=by
  show ∀W,_;intro W hW;have h2:=X.below hW;have k:=zlS x.ls x.ds x.vc x.vd x.s (⟨m.m.cau,m.m.crd,m.m.cba,m.m.cbc,m.cbl,m.m.cpa,m.m.cpc,m.cpl,m.m.cva,m.m.cvc,m.vl⟩:Ct) W h2.stkIn h2.stk.same (zlE h2.inv.dag) ((aX.sub (X.later hW)).sub (zK _ _)) (h2.tabs.sub (zK _ _));dsimp only [crow_]at k;rw[<-hm.at'.e4,<-hm.at'.e5,<-hm.at'.e6]at k;refine k.mono (λe w' q=>⟨_,q.told,?_⟩);rw[HM.out];exact h2.inserts q (zt8 D.cb D.cp)
 clear k;go_upto_region 11 with fail
 have N:=dB_ I;have ac:=dQ_ R;refine wR_ (S:=λw'=>R_ w' B (mrow_ m.m) 90) (by kernel_rfl) ac (λc=>?_);generalize I.drew=l at N ac c|-;refine tks_ 4 [(0,49,(P_ F o)),(1,50,(P_ F o)),(2,51,(P_ F (o+6))),(4,53,(P_ B 13))] c ?_;simp only[tkf_,zf];refine tQ_ 5 54 (.agg #[I_ m.m.cau,I_ m.m.crd,.slice m.m.cba m.m.cbn m.m.cbc,.slice m.m.cpa m.m.cpn m.m.cpc,.slice m.m.cva m.m.cvn m.m.cvc]) rfl rfl (Or.inl ⟨by rfl,λw0 Z=>by have a8:=zb Z 13 _ rfl;have a9:=zb Z 14 _ rfl;have ba:=zb Z 15 _ rfl;have bb:=zb Z 16 _ rfl;have bc:=zb Z 17 _ rfl;go_simp⟩) c ?_;simp only[zf];refine zE 3 rfl (λH f=>?_);have k6:=(X.below N).cell 6 _ rfl;refine zy rfl 52 rfl (P_ x.s 0) l (by go_simp) ?_;refine f.out _ _ c (λc=>?_);simp only[zf];refine zE 6 rfl (λH f=>?_);refine zj rfl 55 rfl 92 [.tmp 52,.tmp 54] #[57,88] rfl [P_ x.s 0,.agg #[I_ m.m.cau,I_ m.m.crd,.slice m.m.cba m.m.cbn m.m.cbc,.slice m.m.cpa m.m.cpn m.m.cpc,.slice m.m.cva m.m.cvn m.m.cvc]] rfl (eO_ func92) (λv w'=>zal l U F o T M x w' (x.v.recall m.c)) ((aR.out l N).mono (λe w' k=>k)) ?_;rintro v E⟨U9,au,x9,h9,n9,v9⟩;have ab:=n9.box (X.below N) ac ao.out;refine f.out _ _ ab (λc=>?_);simp only[zf];clear c;refine wD_ (by kernel_rfl) ?_ _;go_wp2_with fail
 go_end0;exact⟨⟨_,rfl⟩,U9,au,x9,h9,((zl.below (F:=F) (o:=o) U M x hA).trans (zl.below (F:=F) (o:=o) U M x N)).trans n9,v9⟩
def zh6 (nu g:Int)(b:BW):Int:=if b.au=nu then max g b.nu else g
def zlW (nu:Int)(l:List BW):Int:=l.foldl (zh6 nu) 0
theorem zr3 (b:Int)(l:List BW):zd2 b l=zlW b l+1:=rfl
theorem zr4 (b:Int)(l:List BW)(i:Nat)(c:i<l.length):zlW b (l.take (i+1))=zh6 b (zlW b (l.take i)) l[i]:=by
 rw[tS_ c,zlW,List.foldl_append]
 rfl
theorem zqh (f:Int)(l:List BW)(h:∀b∈l,b.nu<=1048576):∀g:Int,0<=g/\g<=1048576->0<=l.foldl (zh6 f) g/\l.foldl (zh6 f) g<=1048576:=by
 induction l with
 | nil=>intro g d;exact d
 | cons b l ih=>
  intro g d;have m:=h b (List.mem_cons_self ..);refine ih (λc j=>h c (mC_ _ j)) (zh6 f g b) ?_;rw[zh6]
  split
  omega;exact d
theorem zqi (x:NM)(w:World)(U:Nat->Bool)(F o:Nat)(T:TypeId)(fc:X_)(h:zo w U F o T fc x) :
  Calls prog 53 #[P_ F o] w λe w'=>e=.returned (I_ (zd2 x.nu x.v.k.sh))/\B_ w w':=by
 have Z:=h.cell 4 _ rfl;have ab:x.sh.length<=800:=by have:=h.inv.sh;simpa[NM.v,shw]using this
 have D:Hid (x.v.k.sh.length=x.sh.length):=zb6 _;go_in;go_wp2_with fail
 go_loopw [11,3] (λj v wr=>∃(k:Nat) (E:Int),k<=x.sh.length/\j=I_ k/\v=I_ E/\Hid (E=zlW x.nu (x.v.k.sh.take k))/\B_ w wr) (λj _ _=>x.sh.length-(intOf j).toNat)
 case atStart=>exact⟨0,0,nZ_ _,rfl,rfl,rfl,bR_ _ _⟩
 case round=>
  obtain⟨k,E,hk,rfl,rfl,C,l⟩:=hrel;clear Z;have ac:0<=E/\E<=1048576:=by
   rw[C.out];exact zqh x.nu _ (λb l=>(zh5 (h.inv.shf b (List.mem_of_mem_take l))).2.1.2) 0 (by decide)
  by_cases hlt:k<x.sh.length
  .have ad:(k:Int)<x.sh.length:=by omega
   have L:=h.below l;obtain⟨sb,so,aa,R,V,X,Y⟩:=L.shs.at k hlt;have I:k<x.v.k.sh.length:=by rw[D.out];exact hlt
   have J:x.v.k.sh[k]=(x.sh[k]).b.v:=by show(shw x.sh)[k]'_=_;simp[shw]
   have q:Hid _:=zr4 x.nu x.v.k.sh k I;rw[J,<-C.out]at q;rw[aa];clear I J;generalize x.sh[k]=s at*;refine kO_ ?A0 ?_;exact Obj.cells #[I_ s.b.v.au,I_ s.b.v.nu,.slice s.b.ta s.b.v.ss.length s.b.tc,.slice s.d.sa s.d.bs.length s.d.cap] 102;have z:=zC wr ?A0;have p:=hN_ wr ?A0;go_upto_region 5 with fail
   generalize wr.alloc ?A0=f at z p|-;generalize wr.heap.size=B at p|-;have A:=zm l z;have h0:=h.below A;have H:=zb p 0 _ rfl;have O:=zb p 1 _ rfl;have M:C_ f F o (I_ x.nu):=h0.cell 0 _ rfl;clear R V X Y L p z;by_cases e:s.b.v.au=x.nu;have y:(s.b.v.au == x.nu)=true:=by simpa using e
   have r:Hid (zh6 x.nu E s.b.v=max E s.b.v.nu):=iP_ e
   rotate_left
   have y:(s.b.v.au == x.nu)=false:=by simpa using e
   have r:Hid (zh6 x.nu E s.b.v=E):=iN_ e
   rotate_left
   all_goals
    clear e;have d:=dB_ f;have g:=dC_ H;have m:=dC_ M;refine wR_ (S:=λw'=>C_ w' B 0 (I_ s.b.v.au)/\C_ w' F o (I_ x.nu)) (by kernel_rfl) ⟨g,m⟩ (λc=>?_);generalize f.drew=G at d g m c|-;refine tks_ 8 [(0,15,(P_ B 0)),(1,16,(P_ B 0)),(2,17,I_ s.b.v.au),(3,18,(P_ F o)),(4,19,(P_ F o)),(5,20,(P_ F o)),(6,21,I_ x.nu),(7,22,.bool (s.b.v.au == x.nu))] c ?_;simp only[tkf_,zf];rw[y];clear c;refine wD_ (by kernel_rfl) ?_ _;have t:=zm A d
   .have k1:C_ G B 1 (I_ s.b.v.nu):=zr d O;by_cases hm:E<s.b.v.nu
    .have u:Hid (zh6 x.nu E s.b.v=s.b.v.nu):=by show _=_;rw[r.out];omega
     have ae:¬s.b.v.nu<E:=by omega
     go_wp2_with fail
     all_goals
      go_roundw
      case rel=>exact⟨k+1,s.b.v.nu,by omega,by go_num,rfl,by show _=_;rw[q.out,u.out],t⟩
      case measure=>simp[intOf];omega
    have u:Hid (zh6 x.nu E s.b.v=E):=by show _=_;rw[r.out];omega
    go_wp2_with fail
    all_goals
     go_roundw
     case rel=>exact⟨k+1,E,by omega,by go_num,rfl,by show _=_;rw[q.out,u.out],t⟩
     case measure=>simp[intOf];omega
   go_wp2_with fail
   go_roundw
   case rel=>exact⟨k+1,E,by omega,by go_num,rfl,by show _=_;rw[q.out,r.out],t⟩
   case measure=>simp[intOf];omega
  obtain rfl:k=x.sh.length:=by omega
  have N:Hid (zd2 x.nu x.v.k.sh=E+1):=by
   show _=_;rw[zr3,C.out,tL_ (by rw[D.out];exact nR_ _)]
  have af:IntKind.i64.wrap (E+1)=E+1:=by rw[IntKind.wrap_i64];omega
  go_wp2_with fail
  go_ret;exact⟨by rw[N.out];rfl,l⟩
theorem zvU {e:TypeId}{s:Nat}{a:Q_}{c:Nat}(h:w.ownsRow base e s (.slice a n c) n xs):n<=c/\c<=maxLen/\(a=none->c=0):=by
 rcases h.2 with⟨e,l⟩|⟨g,f,j,e,_,_,b,d,_⟩
 injection e with e1 e2 e3
 subst e3;exact⟨by omega,by decide,λ_=>rfl⟩
 injection e with e1 e2 e3
 subst e1 e3;exact⟨b,d,λg=>by cases g⟩
structure zq5 (w w':World)(e:Ending)(R:Nat)(s:St):Prop where
 out:∃ta tc,e=.returned (.agg #[I_ (nB 1 s),I_ (nB 3 (nx 1 s)),.slice ta (bN s) tc])/\zas w' ta (bT (nx 1 (bS3 s)) (bN s))/\(∀sb so,ta=some (p_ sb so)->w.heap.size<=sb)/\RdS w' R (bL (nx 1 (bS3 s)) (bN s))/\zaG R w w'/\bN s<=tc/\tc<=maxLen/\(ta=none->tc=0)
theorem zvV (R:Nat)(s:St)(w:World)(hR:RdS w R s)(hs:zbC s) :
  Calls prog 106 #[P_ R 0] w λe w'=>zq5 w w' e R s:=by
 obtain⟨i,hi,hz0,hz1,hz2⟩:=info_parts zkf;have hlt:=hR.lt;refine kO_ ?B0 ?_;exact Obj.cells #[I_ 0,I_ 0,O_] 86;have hA:=zC w ?B0;have q0:=hN_ w ?B0;have hsz:=ze q0;have hg3:zbC (bS3 s):=hs.nx.nx;obtain⟨hb0,hb1⟩:=zfE hg3;have hNI:Hid (((bN s:Nat):Int)=nB 1 (bS3 s)):=by show _=_;show((nB 1 (bS3 s)).toNat:Int)=_;omega
 have hN255:bN s<=255:=by show(nB 1 (bS3 s)).toNat<=255;omega
 clear hb0 hb1;go_in;go_wp2_with fail
 generalize w.alloc ?B0=W0 at hA q0 hsz|-;refine(zdn R 1 s W0 (zaw.below hR hA) hs (by omega)).mono ?_;rintro _ w0⟨rfl,hR0,ho0⟩;dsimp only;go_wp2_with fail
 refine(ziB R _ w0 hR0 hs.nx).mono ?_;rintro _ w1⟨rfl,hR1,ho1'⟩;dsimp only;have ho1:=ho0.trans ho1';have p0:=(ho1.block _ hsz (by omega)).trans q0;have hOw1:=(zbR (R:=R) hA).trans ho1;have hlt1:=ze p0;generalize hAU':nB 1 s=AU at*;generalize hRD':nB 3 (nx 1 s)=RD at*;have hAU:Hid (nB 1 s=AU):=hAU';have hRD:Hid (nB 3 (nx 1 s)=RD):=hRD';clear hAU' hRD';go_upto_region 2 with fail
 refine kO_ ?A0 ?_;exact Obj.cells #[I_ AU,I_ RD,O_] 86;have hA1:=zC w1 ?A0;have qC:=hN_ w1 ?A0;have hszC:=ze qC;generalize hCB:w1.heap.size=CB at qC hszC|-;generalize w1.alloc ?A0=W1 at hA1 qC hszC|-;have HCB:Hid (w1.heap.size=CB):=hCB;have hRCB:R<CB:=by omega
 have hwCB:w.heap.size<CB:=by omega
 clear hCB;have hN:=zdn R 1 (bS3 s) W1 (zaw.below hR1 hA1) hg3 (by omega);rw[<-hNI.out]at hN;go_wp2_with fail
 refine hN.mono ?_;rintro _ w2⟨rfl,hR2,ho2⟩;dsimp only;clear hN;have p2:=(ho2.block _ hszC (by omega)).trans qC;have hO12:=(zbR hA1).trans ho2;have hg5:zbC (nx 1 (bS3 s)):=hg3.nx;generalize hs5:nx 1 (bS3 s)=s5 at*;generalize hcn:bN s=N at*;have HS5:Hid (nx 1 (bS3 s)=s5):=hs5;have HK:Hid (bN s=N):=hcn;clear hs5 hcn;go_upto_region 3 with fail
 go_loopw [11] (λj wr=>∃(k:Nat) (tv:Value),k<=N/\j=I_ k/\wr.ownsRow W1.heap.size 9 1 tv k (sv (bT s5 k))/\R_ wr CB #[I_ AU,I_ RD,tv] 86/\RdS wr R (bL s5 k)/\zaG R w1 wr/\W1.heap.size<=wr.heap.size) (λj _=>N-(intOf j).toNat)
 case atStart=>exact⟨0,O_,nZ_ _,rfl,oN_ _ _ _ _,p2,hR2,hO12,ho2.size⟩
 case round=>
  obtain⟨k,tv,hk,rfl,ho,r0,hRk,hok,hszk⟩:=hrel;by_cases hltk:k<N;refine K_ (?C0:St) ?_;exact nx 1 (bL s5 k);refine K_ (?D0:Int) ?_;exact nB 1 (bL s5 k)
  .have hltI:(k:Int)<N:=by omega
   have hgk:=zqM hg5 k;have hNk:=zdn R 1 (bL s5 k) wr.drew (zaw.below hRk ((bR_ _ _).drew)) hgk (by omega);obtain⟨hx0,hx1⟩:=zfE hgk;have hst:Hid (bT s5 (k+1)=bT s5 k++[zai (tT (?D0).toNat ?C0)]):=rfl;have hst2:Hid (bL s5 (k+1)=nx (?D0).toNat ?C0):=rfl;have HTk:Hid (∀W:World,RdS W R ?C0->Calls prog 156 #[P_ R 0,I_ ?D0] W λe w'=>zhb W w' e R (tT (?D0).toNat ?C0) (nx (?D0).toNat ?C0).1 (nx (?D0).toNat ?C0).2):=by
    show ∀_,_;intro W hW;have h:=zjx R (?D0).toNat (?C0).1 (?C0).2 W hW hgk.nx.len (by omega);rw[show(((?D0).toNat:Nat):Int)=nB 1 (bL s5 k) by omega]at h;exact h
   have hE2:Hid (∀args w,(callFunc 105 args).run prog w=.ok (.enter 105 args) w):=eO_ func105;have hE3:Hid (∀args w,(callFunc 156 args).run prog w=.ok (.enter 156 args) w):=eO_ func156;have hCBlt:=ze r0;have hneC:CB≠R:=by omega
   have c4:C_ wr CB 2 tv:=zb r0 2 _ rfl;have c4d:C_ wr.drew CB 2 tv:=c4;generalize tT (?D0).toNat ?C0=TX at*;generalize nx (?D0).toNat ?C0=s7 at*;generalize nB 1 (bL s5 k)=X at*;generalize nx 1 (bL s5 k)=s6 at*;have hvC:tv.ownBlock≠some CB:=λe=>by have:=(ho.lt _ e).1;omega
   go_wp2_with fail
   go_region_law (first
    | (refine zdF rfl 105 _ _ rfl [P_ R 0,I_ 1] rfl hE2.out (λu w9=>u=I_ X/\RdS w9 R s6/\zaG R wr w9) (hNk.mono (λe w9 ⟨he,h1,h2⟩=>⟨_,he,rfl,h1,zjA h2⟩)) ?_;rintro u w4⟨rfl,hR4,ho4⟩;have v4:=(ho4.block _ hCBlt hneC).trans r0;have b4:C_ w4 CB 2 tv:=zb v4 2 _ rfl)
    | (refine zdF rfl 156 _ _ rfl [P_ R 0,I_ X] rfl hE3.out (λu w9=>∃ta tc,u=.slice ta TX.length tc/\zg w9 ta tc TX/\RdS w9 R s7/\zaG R w4 w9) ((HTk.out w4 hR4).mono (λe w9 h=>by obtain⟨ta,tc,he,h1,_,h2,h3⟩:=h.out;exact⟨_,he,ta,tc,rfl,h1,h2,h3⟩)) ?_;rintro u w5⟨ta,tc,rfl,hs5',hR5,ho5'⟩;have ho5:=ho4.trans ho5';have v5:=(ho5.block _ hCBlt hneC).trans r0;have d4:C_ w5 CB 2 tv:=zb v5 2 _ rfl;have d4a:(w5.alloc (.cells #[.string (zai TX)] 9)).cell? (p_ CB 2)=some tv:=zb (zR v5) 2 _ rfl;have hob:=zjy ho ho5 (by omega);have hw5:W1.heap.size<=w5.heap.size:=nT_ hszk ho5.size;have htx:=zd8 w5 ta _ tc TX rfl hs5')
    | (refine zcc rfl _ _ 39 rfl W1.heap.size 9 i (.string ByteArray.empty) 1 16 underlying39 hi hz0 hz1 hz2 rfl (by decide) tv k (sv (bT s5 k)) rfl (oA_ hob _) (p_ w5.heap.size 0) 1 1 [.string (zai TX)] rfl rfl (zag _ _ _) (by intro u hu;simp at hu;subst hu;rfl) (by unfold maxLen;omega) (by omega) (zB hw5 _) ?_;intro v6 w6 ho6 G6;have x5:=G6.row (zR v5) hvC;have xd4:=zb x5 2 _ rfl;have xf4:=zd x5 2;obtain⟨fa,fc,hvf⟩:=zH ho6;subst hvf))
   all_goals
    have hG:=G6.grown;have hb5:=zC w5 (.cells #[.string (zai TX)] 9);have hOw5:=hok.trans ho5;have hvlt:=λq e=>(ho.lt q e).1;have hO6:zaG R w1 w6:=by
     refine⟨hG.os.trans hOw5.os,hG.tape.trans hOw5.tape,hG.output.trans hOw5.output,nT_ hOw5.size (nT_ hb5.size hG.size),λq hq hn=>?_⟩;have:=HCB.out;exact(hG.block q (by have:=hb5.size;have:=hOw5.size;omega) (λe=>by have:=hvlt q e.symm;omega)).trans ((hb5.block q (by have:=hOw5.size;omega)).trans (hOw5.block q hq hn))
    have hR6:RdS w6 R s7:=(zaw.below hR5 hb5).stays (λq hq=>hG.block q (by have:=hb5.size;have:=zaw.lt hR5;omega) (λe=>by have:=hvlt q e.symm;omega));go_wp2_with fail
    go_roundw
    case rel=>
     refine⟨k+1,.slice fa (k+1) fc,by omega,by go_num,?_,by simpa using hS_ _ _ 2 _ _ (.slice fa (k+1) fc) x5,?_,?_,?_⟩
     .rw[hst.out];have h:=zQ ho6 CB 2 (.slice fa (k+1) fc) hszC
      simpa[sv]using h
     .rw[hst2.out];exact zaw.far hR6 hRCB
     .have:=HCB.out;exact⟨hO6.os,hO6.tape,hO6.output,by simpa using hO6.size,λq hq hn=>(hO_ _ (p_ CB 2) q _ (by show q≠CB;omega)).trans (hO6.block q hq hn)⟩
     .have:=hb5.size;have:=hG.size
      simp
      omega
    case measure=>simp[intOf];omega
  obtain rfl:k=N:=by omega
  have hltI:¬(k:Int)<k:=by omega
  obtain⟨va,vc,hv,-,hI,hfv⟩:=zf6 ho (zwS hg5 k);subst hv;have z0:=(hok.block _ hlt1 (by omega)).trans p0;have hOw:=hOw1.trans hok;have c0:=zb r0 0 _ rfl;have c1:=zb r0 1 _ rfl;have c2:=zb r0 2 _ rfl;have d0:=zb z0 0 _ rfl;have d1:=zb z0 1 _ rfl;have d2:=zb z0 2 _ rfl;have f0:=zd z0 0;have f1:=zd z0 1;have f2:=zd z0 2;have HCP:Hid (bN s<=vc/\vc<=maxLen/\(va=none->vc=0)):=by
   rw[HK.out];exact zvU ho
  have HAU:Hid (nB 1 s=AU/\nB 3 (nx 1 s)=RD/\bN s=k/\nx 1 (bS3 s)=s5):=⟨hAU.out,hRD.out,HK.out,HS5.out⟩;have hX:Hid (zq5 w (((wr.setCell (p_ w.heap.size 0) (I_ AU)).setCell (p_ w.heap.size 1) (I_ RD)).setCell (p_ w.heap.size 2) (.slice va k vc)) (.returned (.agg #[I_ AU,I_ RD,.slice va k vc])) R s):=by
   have farI:∀(W:World) (j:Nat) (v:Value),zas W va (bT s5 k)->zas (W.setCell (p_ w.heap.size j) v) va (bT s5 k):=λW j v h=>zs8 (R:=w.heap.size) h ((zaG.refl _ W).setCell) (λsb so e e2=>by have:=hfv sb so e;omega);refine⟨va,vc,?_,?_,(λsb so e=>by have:=hfv sb so e;omega),?_,?_,HCP.out.1,HCP.out.2.1,HCP.out.2.2⟩;rw[HAU.out.1,HAU.out.2.1,HAU.out.2.2.1];rw[HAU.out.2.2.1,HAU.out.2.2.2];exact farI _ _ _ (farI _ _ _ (farI _ _ _ hI));rw[HAU.out.2.2.1,HAU.out.2.2.2];exact zaw.far (zaw.far (zaw.far hRk hlt) hlt) hlt;exact⟨hOw.os,hOw.tape,hOw.output,by simpa using hOw.size,λq hq hn=>(hO_ _ (p_ w.heap.size 2) q _ (by show q≠w.heap.size;omega)).trans ((hO_ _ (p_ w.heap.size 1) q _ (by show q≠w.heap.size;omega)).trans ((hO_ _ (p_ w.heap.size 0) q _ (by show q≠w.heap.size;omega)).trans (hOw.block q hq hn)))⟩
  clear hI hfv hRk hok hOw hOw1 ho z0 r0;go_wp2_with fail
  exact bP_ (v:=.agg #[I_ AU,I_ RD,.slice va k vc]) (by simp[results,results106,go_sem,d0,d1,d2]) rfl hX.out
structure zyr (w w':World)(e:Ending)(R:Nat)(ls:List (L_))(l:L_)(sh:Bool):Prop where
 out:∃ra rc qs,e=.returned (.slice ra (List.length qs) rc)/\qs.map (·.bs)=ls/\zx w' ra rc qs/\za1 w.heap.size ra qs/\zaw w' R l sh/\zaG R w w'/\(qs=[]->ra=none)
theorem zlX (R:Nat)(l:L_)(sh:Bool)(w:World)(hR:zaw w R l sh)(hl:l.length<=100000)(hu:zZ l) :
  Calls prog 157 #[P_ R 0] w λe w'=>zyr w w' e R (dgD (tkL 1 l sh) (tkS 1 l sh) (dN l sh)) (dgL (tkL 1 l sh) (tkS 1 l sh) (dN l sh)).1 (dgL (tkL 1 l sh) (tkS 1 l sh) (dN l sh)).2:=by
 obtain⟨i,hi,hz0,hz1,hz2⟩:=info_parts zhc;have hN:=ziA R 1 l sh w hR hl (by omega) hu;obtain⟨hb0,hb1⟩:=zhe (sh:=sh) hu;have hNI:((dN l sh:Nat):Int)=zbe (tkT 1 l sh):=by unfold dN;omega
 have hl1:(tkL 1 l sh).length<=100000:=nT_ zn5 hl;have hlt:=hR.lt;rw[<-hNI]at hN hb1;generalize dN l sh=N at*;generalize tkL 1 l sh=l1 at*;generalize tkS 1 l sh=s1 at*;clear hNI hb0;go_in;go_wp2_with fail
 refine hN.mono ?_;rintro _ w1⟨rfl,hR1,ho1⟩;dsimp only;clear hN;go_upto_region 3 with fail
 go_loopw [6,3] (λj v wr=>∃(k:Nat) (qs:List zi) (tv:Value),k<=N/\j=I_ k/\tv=v/\Hid (qs.map (·.bs)=dgD l1 s1 k)/\wr.ownsRow w.heap.size 61 1 tv k (pv qs)/\z8 wr w.heap.size tv qs/\zaw wr R (dgL l1 s1 k).1 (dgL l1 s1 k).2/\zaG R w wr/\Hid (k=0->tv=O_)) (λj _ _=>N-(intOf j).toNat)
 case atStart=>exact⟨0,[],_,nZ_ _,rfl,rfl,rfl,oN_ _ _ _ _,(λp hp=>by cases hp),hR1,ho1,(λ_=>rfl)⟩
 case round=>
  obtain⟨k,qs,tv,hk,rfl,rfl,hq,ho,hap,hRk,hok,hnz⟩:=hrel;by_cases hltk:k<N
  .have hltI:(k:Int)<N:=by omega
   have hD:=zkA R _ _ wr hRk (nT_ (zqL l1 s1 k) hl1);have hst:Hid (dgD l1 s1 (k+1)=dgD l1 s1 k++[tkT 32 (dgL l1 s1 k).1 (dgL l1 s1 k).2]):=rfl;have hst2:Hid ((dgL l1 s1 (k+1)).1=tkL 32 (dgL l1 s1 k).1 (dgL l1 s1 k).2/\(dgL l1 s1 (k+1)).2=tkS 32 (dgL l1 s1 k).1 (dgL l1 s1 k).2):=⟨rfl,rfl⟩;have htl:=zg4 (n:=32) (l:=(dgL l1 s1 k).1) (sh:=(dgL l1 s1 k).2);generalize tkT 32 (dgL l1 s1 k).1 (dgL l1 s1 k).2=t at*;go_wp2_with fail
   refine hD.mono ?_;rintro e w2⟨da,dc,he,hs2,hf2,hR2,ho2⟩;subst he;dsimp only;clear hD;have hB2:=hok.trans ho2;have hob:=zjy ho ho2 hlt;have hap2:=zri hap ho2 hlt;have hszw:=hok.size;have hszr:=hB2.size;go_wp2_with (at_builtin;refine wpList_append_own_at _ rfl _ _ 58 rfl w.heap.size 61 i (O_) 1 24 underlying58 hi hz0 hz1 hz2 rfl (by decide) _ k _ rfl (oA_ hob _) (p_ w2.heap.size 0) 1 1 [.slice da t.length dc] rfl rfl (zag _ _ _) (by intro u hu;simp at hu;subst hu;rfl) (by unfold maxLen;omega) (by omega) (zB hB2.size _) ?_;intro v3 w3 ho3 hg3 _ hat3)
   have G:=zV.of hg3 hat3;have hap3:=zrj (q:=⟨da,dc,t⟩) hap2 hs2 (λsb so e=>by
    have h:=hf2 sb so e;exact⟨by omega,h.2,λhv=>by have:=(ho.lt sb hv).2;omega⟩) G
   have hb3:=zC w2 (.cells #[.slice da t.length dc] 61);have ho3w:zaG R w w3:=by
    have hg:=G.grown;refine⟨hg.os.trans hB2.os,hg.tape.trans hB2.tape,hg.output.trans hB2.output,nT_ hB2.size (nT_ hb3.size hg.size),λq hq hn=>?_⟩;exact(hg.block q (by have:=hb3.size;omega) (λe=>by have:=(ho.lt q e.symm).1;omega)).trans ((hb3.block q (by omega)).trans (hB2.block q hq hn))
   have hR3:zaw w3 R (dgL l1 s1 (k+1)).1 (dgL l1 s1 (k+1)).2:=by
    rw[hst2.out.1,hst2.out.2];refine(hR2.below hb3).stays (λq hq=>G.grown.block q (by have:=hb3.size;have:=hR2.lt;omega) (λe=>by have:=(ho.lt q e.symm).1;omega))
   go_roundw
   case rel=>
    have hR:∃(k':Nat) (qs':List zi) (tv':Value),k'<=N/\(Value.int .i64 ((k:Int)+1))=I_ k'/\tv'=v3/\Hid (qs'.map (·.bs)=dgD l1 s1 k')/\w3.ownsRow w.heap.size 61 1 tv' k' (pv qs')/\z8 w3 w.heap.size tv' qs'/\zaw w3 R (dgL l1 s1 k').1 (dgL l1 s1 k').2/\zaG R w w3/\Hid (k'=0->tv'=O_):=
     ⟨k+1,qs++[⟨da,dc,t⟩],v3,by omega,by go_num,rfl,(show _=_ by rw[hst.out,List.map_append,hq.out];rfl),by simpa[pv,zi.val]using ho3,hap3,hR3,ho3w,(λh=>by omega)⟩
    first|exact hR|((repeat apply Exists.intro);exact⟨hR,rfl⟩)
   case measure=>simp[intOf];omega
  obtain rfl:k=N:=by omega
  have hltI:¬(k:Int)<k:=by omega
  obtain⟨ra,rc,hv,hlq,hL,hfr⟩:=zcI ho hap;subst hv;have HL:Hid (k=qs.length):=hlq;clear hlq;go_wp2_with fail
  go_ret;exact⟨ra,rc,qs,by rw[<-HL.out];rfl,hq.out,hL (by omega),hfr,hRk,hok,(λh0=>by have e:=hnz.out (by rw[HL.out,h0];rfl);injection e)⟩
structure zuc (w w':World)(e:Ending)(R:Nat)(s:St):Prop where
 out:∃ba bc bl pa pc pl,e=.returned (.agg #[I_ (nB 1 s),I_ (nB 3 (nx 1 s)),.slice ba (List.length bl) bc,.slice pa (List.length pl) pc])/\bl.map (·.bs)=dgs (nx 3 (nx 1 s))/\pl.map (·.bs)=dgs (dgS (nx 3 (nx 1 s)))/\zx w' ba bc bl/\zx w' pa pc pl/\za1 w.heap.size ba bl/\za1 w.heap.size pa pl/\RdS w' R (dgS (dgS (nx 3 (nx 1 s))))/\zaG R w w'/\(bl=[]->ba=none)/\(pl=[]->pa=none)
theorem znm (R:Nat)(s:St)(w:World)(T:RdS w R s)(o:zbC s) :
  Calls prog 107 #[P_ R 0] w λe w'=>zuc w w' e R s:=by
 have y:=T.lt;refine kO_ ?B0 ?_;exact Obj.cells #[I_ 0,I_ 0,O_,O_] 60;have F:=zC w ?B0;have L:=hN_ w ?B0;have ab:=ze L;go_in;go_wp2_with fail
 generalize w.alloc ?B0=W0 at F L ab|-;refine(zdn R 1 s W0 (zaw.below T F) o (by omega)).mono ?_;rintro _ w1⟨rfl,U,z⟩;dsimp only;go_wp2_with fail
 refine(ziB R _ w1 U o.nx).mono ?_;rintro _ w2⟨rfl,V,A⟩;dsimp only;go_wp2_with fail
 refine(zlX R _ _ w2 V o.nx.nx.len o.nx.nx.u8).mono ?_;rintro e w3⟨q,u,bl,g,Z,N,d,X,H,ac⟩;subst g;dsimp only;go_wp2_with fail
 refine(zlX R _ _ w3 X (zbC.dgS o.nx.nx).len (zbC.dgS o.nx.nx).u8).mono ?_;rintro e w4⟨t,C,pl,g,aa,O,f,Y,I,ad⟩;subst g;dsimp only;have G:=((z.trans A).trans H).trans I;have af:=(z.trans A).size;have ag:=((z.trans A).trans H).size;have b:=(G.block _ ab (by omega)).trans L;have d0:=zb b 0 _ rfl;have d1:=zb b 1 _ rfl;have d2:=zb b 2 _ rfl;have d3:=zb b 3 _ rfl;have f0:=zd b 0;have f1:=zd b 1;have f2:=zd b 2;have f3:=zd b 3;have M:Hid ((bl=[]->q=none)/\(pl=[]->t=none)):=⟨ac,ad⟩;clear ac ad;refine kA_ ?A0 ?_;exact #[I_ (nB 1 s),I_ (nB 3 (nx 1 s)),.slice q bl.length u,.slice t pl.length C];have hX:Hid (zuc w ((((w4.setCell (p_ w.heap.size 0) (I_ (nB 1 s))).setCell (p_ w.heap.size 1) (I_ (nB 3 (nx 1 s)))).setCell (p_ w.heap.size 2) (.slice q bl.length u)).setCell (p_ w.heap.size 3) (.slice t pl.length C)) (.returned (.agg ?A0)) R s):=by
  have ae:=zjz N d I (by omega);have c:∀(W:World) (E:Q_) (rc:Nat) (D:List zi) (B j:Nat) (v:Value),w.heap.size<B->za1 B E D->zx W E rc D->zx (W.setCell (p_ w.heap.size j) v) E rc D:=λW E rc D B j v hB hF h=>h.setCell hF _ _ _ hB;refine⟨q,u,bl,t,C,pl,rfl,Z,aa,?_,?_,⟨λl m e=>by have:=d.row l m e;omega,λp J l m e=>by have:=d.each p J l m e;omega⟩,⟨λl m e=>by have:=f.row l m e;omega,λp J l m e=>by have:=f.each p J l m e;omega⟩,(((Y.far y).far y).far y).far y,?_,M.out.1,M.out.2⟩;exact c _ _ _ _ _ _ _ (by omega) d (c _ _ _ _ _ _ _ (by omega) d (c _ _ _ _ _ _ _ (by omega) d (c _ _ _ _ w2.heap.size _ _ (by omega) d ae)));exact c _ _ _ _ _ _ _ (by omega) f (c _ _ _ _ _ _ _ (by omega) f (c _ _ _ _ _ _ _ (by omega) f (c _ _ _ _ w3.heap.size _ _ (by omega) f O)));have r:=(zbR (R:=R) F).trans G;refine⟨r.os,r.tape,r.output,by simpa using r.size,λk hk hn=>?_⟩;exact(hO_ _ (p_ w.heap.size 3) k _ (by show k≠w.heap.size;omega)).trans ((hO_ _ (p_ w.heap.size 2) k _ (by show k≠w.heap.size;omega)).trans ((hO_ _ (p_ w.heap.size 1) k _ (by show k≠w.heap.size;omega)).trans ((hO_ _ (p_ w.heap.size 0) k _ (by show k≠w.heap.size;omega)).trans (r.block k hk hn))))
 clear Z aa N O d f X Y U V G z A H I b af ag;go_wp2_with fail
 exact bodyPost_ret (v:=.agg ?A0) (by simp[results,results107,go_sem,d0,d1,d2,d3]) rfl hX.out
structure zud (w w':World)(e:Ending)(R:Nat)(s:St):Prop where
 out:∃ba bc bl pa pc pl va vc,e=.returned (.agg #[I_ (nB 1 s),I_ (nB 3 (nx 1 s)),.slice ba (List.length bl) bc,.slice pa (List.length pl) pc,.slice va (cN s) vc])/\bl.map (·.bs)=dgs (nx 3 (nx 1 s))/\pl.map (·.bs)=dgs (dgS (nx 3 (nx 1 s)))/\zx w' ba bc bl/\zx w' pa pc pl/\za1 w.heap.size ba bl/\za1 w.heap.size pa pl/\zax w' va (nV (nx 1 (hS4 s)) (cN s))/\(∀sb so,va=some (p_ sb so)->w.heap.size<=sb)/\RdS w' R (nL (nx 1 (hS4 s)) (cN s))/\zaG R w w'/\(bl=[]->ba=none)/\(pl=[]->pa=none)
theorem zxp (R:Nat)(s:St)(w:World)(hR:RdS w R s)(hs:zbC s) :
  Calls prog 109 #[P_ R 0] w λe w'=>zud w w' e R s:=by
 obtain⟨i,hi,a4,a6,a5⟩:=info_parts zu5;have aa:=hR.lt;refine kO_ ?B0 ?_;exact Obj.cells #[I_ 0,I_ 0,O_,O_,O_] 88;have hA:=zC w ?B0;have q0:=hN_ w ?B0;have ai:=ze q0;have ag:zbC (hS4 s):=zbC.dgS (zbC.dgS hs.nx.nx);obtain⟨aQ,aR⟩:=zhe (l:=(hS4 s).1) (sh:=(hS4 s).2) ag.u8;have aJ:Hid (((cN s:Nat):Int)=nB 1 (hS4 s)):=by show _=_;show((zbe (tkT 1 (hS4 s).1 (hS4 s).2)).toNat:Int)=zbe (tkT 1 (hS4 s).1 (hS4 s).2);omega
 have bb:cN s<=255:=by show(zbe (tkT 1 (hS4 s).1 (hS4 s).2)).toNat<=255;omega
 clear aQ aR;go_in;go_wp2_with fail
 generalize w.alloc ?B0=W0 at hA q0 ai|-;refine(znm R s W0 (zaw.below hR hA) hs).mono ?_;rintro e g⟨t,B,bl,z,E,pl,Z,az,aA,an,ap,C,D,aL,ax,aD,aE⟩;have ak:Hid ((bl=[]->t=none)/\(pl=[]->z=none)):=⟨aD,aE⟩;clear aD aE;subst Z;dsimp only;have p0:=(ax.block _ ai (by omega)).trans q0;have au:=(zbR (R:=R) hA).trans ax;have aT:=ze p0;generalize hAU':nB 1 s=o at*;generalize hRD':nB 3 (nx 1 s)=r at*;have aG:Hid (nB 1 s=o):=hAU';have aP:Hid (nB 3 (nx 1 s)=r):=hRD';clear hAU' hRD';go_upto_region 2 with fail
 refine kO_ ?A0 ?_;exact Obj.cells #[I_ o,I_ r,.slice t bl.length B,.slice z pl.length E,O_] 88;have ad:=zC g ?A0;have qC:=hN_ g ?A0;have ac:=ze qC;generalize am:g.heap.size=c at qC ac|-;generalize g.alloc ?A0=J at ad qC ac|-;have aj:Hid (g.heap.size=c):=am;have aO:R<c:=by omega
 have bd:w.heap.size<c:=by omega
 clear am;have hN:=zdn R 1 (hS4 s) J (zaw.below aL ad) ag (by omega);rw[<-aJ.out]at hN;go_wp2_with fail
 refine hN.mono ?_;rintro _ w2⟨rfl,aM,ah⟩;dsimp only;clear hN;have p2:=(ah.block _ ac (by omega)).trans qC;have aK:=(zbR ad).trans ah;have aS:zbC (nx 1 (hS4 s)):=ag.nx;generalize aB:nx 1 (hS4 s)=b at*;generalize aw:cN s=N at*;have aF:Hid (nx 1 (hS4 s)=b):=aB;have HK:Hid (cN s=N):=aw;clear aB aw;go_upto_region 3 with fail
 refine kV_ ?C0 ?_;exact Value.slice t bl.length B;refine kV_ ?D0 ?_;exact Value.slice z pl.length E;go_loopw [9] (λj wr=>∃(k:Nat) (A:Value),k<=N/\j=I_ k/\wr.ownsRow J.heap.size 3 1 A k (iv (nV b k))/\R_ wr c #[I_ o,I_ r,?C0,?D0,A] 88/\RdS wr R (nL b k)/\zaG R g wr/\J.heap.size<=wr.heap.size) (λj _=>N-(intOf j).toNat)
 case atStart=>exact⟨0,O_,nZ_ _,rfl,oN_ _ _ _ _,p2,aM,aK,ah.size⟩
 case round=>
  obtain⟨k,A,hk,rfl,ho,F,ae,O,a0⟩:=hrel;by_cases hltk:k<N
  .have aU:(k:Int)<N:=by omega
   have ar:=zdn R 1 (nL b k) wr.drew (zaw.below ae ((bR_ _ _).drew)) (zwR aS k) (by omega);have aY:Hid (nV b (k+1)=nV b k++[nB 1 (nL b k)]):=rfl;have aZ:Hid (nL b (k+1)=nx 1 (nL b k)):=rfl;have aI:Hid (∀al w,(callFunc 105 al).run prog w=.ok (.enter 105 al) w):=eO_ func105;have aH:=ze F;have aV:c≠R:=by omega
   have c4:C_ wr c 4 A:=zb F 4 _ rfl;have a8:C_ wr.drew c 4 A:=c4;generalize nB 1 (nL b k)=X at*;generalize nx 1 (nL b k)=s6 at*;have a7:Hid _:=ar;have a1:A.ownBlock≠some c:=λe=>by have:=(ho.lt _ e).1;omega
   go_wp2_with fail
   go_region_law (first
    | (refine zdF rfl 105 _ _ rfl [P_ R 0,I_ 1] rfl aI.out (λu w9=>u=I_ X/\RdS w9 R s6/\zaG R wr w9) (ar.mono (λe w9 ⟨Z,h1,h2⟩=>⟨_,Z,rfl,h1,zjA h2⟩)) ?_;rintro u w5⟨rfl,av,ab⟩;have v5:=(ab.block _ aH aV).trans F;have d4:C_ w5 c 4 A:=zb v5 4 _ rfl;have a9:(w5.alloc (.cells #[I_ X] 3)).cell? (p_ c 4)=some A:=zb (zR v5) 4 _ rfl;have aX:=zjy ho ab (by omega);have a3:J.heap.size<=w5.heap.size:=nT_ a0 ab.size)
    | (refine zcc rfl _ _ 64 rfl J.heap.size 3 i (I_ 0) 1 8 underlying64 hi a4 a6 a5 rfl (by decide) A k (iv (nV b k)) rfl (oA_ aX _) (p_ w5.heap.size 0) 1 1 [I_ X] rfl rfl (zag _ _ _) (by intro u hu;simp at hu;subst hu;rfl) (by unfold maxLen;omega) (by omega) (zB a3 _) ?_;intro v6 w6 ay G6;have x5:=G6.row (zR v5) a1;have be:=zb x5 4 _ rfl;have bf:=zd x5 4;obtain⟨fa,fc,a2⟩:=zH ay;subst a2))
   all_goals
    have H:=G6.grown;have M:=zC w5 (.cells #[I_ X] 3);have I:=O.trans ab;have aC:=λq e=>(ho.lt q e).1;have aW:=ownsRow_base' ay (nR_ _);have Y:zaG R g w6:=by
     refine⟨H.os.trans I.os,H.tape.trans I.tape,H.output.trans I.output,nT_ I.size (nT_ M.size H.size),λq T hn=>?_⟩;have:=aj.out;exact(H.block q (by have:=M.size;have:=I.size;omega) (λe=>by have:=aC q e.symm;omega)).trans ((M.block q (by have:=I.size;omega)).trans (I.block q T hn))
    have aN:RdS w6 R s6:=(av.below M).stays (λq T=>H.block q (by have:=M.size;have:=av.lt;omega) (λe=>by have:=aC q e.symm;omega));go_wp2_with fail
    go_roundw
    case rel=>
     refine⟨k+1,.slice fa (k+1) fc,by omega,by go_num,?_,by simpa using hS_ _ _ 4 _ _ (.slice fa (k+1) fc) x5,?_,?_,?_⟩
     .rw[aY.out];have h:=zQ aW c 4 (.slice fa (k+1) fc) ac
      simpa[iv]using h
     .rw[aZ.out];exact zaw.far aN aO
     .have:=aj.out;exact⟨Y.os,Y.tape,Y.output,by simpa using Y.size,λq T hn=>(hO_ _ (p_ c 4) q _ (by show q≠c;omega)).trans (Y.block q T hn)⟩
     .have:=M.size;have:=H.size
      simp
      omega
    case measure=>simp[intOf];omega
  obtain rfl:k=N:=by omega
  have aU:¬(k:Int)<k:=by omega
  have ao:=zjz an C O (by omega);have aq:=zjz ap D O (by omega);obtain⟨U,vc,hv,hI,af⟩:=zpL ho;subst hv;have m:=(O.block _ aT (by omega)).trans p0;have L:=au.trans O;have c0:=zb F 0 _ rfl;have c1:=zb F 1 _ rfl;have c2:=zb F 2 _ rfl;have c3:=zb F 3 _ rfl;have c4:=zb F 4 _ rfl;have d0:=zb m 0 _ rfl;have d1:=zb m 1 _ rfl;have d2:=zb m 2 _ rfl;have d3:=zb m 3 _ rfl;have d4:=zb m 4 _ rfl;have f0:=zd m 0;have f1:=zd m 1;have f2:=zd m 2;have f3:=zd m 3;have f4:=zd m 4;have G:Hid (nB 1 s=o/\nB 3 (nx 1 s)=r/\cN s=k/\nx 1 (hS4 s)=b):=⟨aG.out,aP.out,HK.out,aF.out⟩;have hX:Hid (zud w (((((wr.setCell (p_ w.heap.size 0) (I_ o)).setCell (p_ w.heap.size 1) (I_ r)).setCell (p_ w.heap.size 2) ?C0).setCell (p_ w.heap.size 3) ?D0).setCell (p_ w.heap.size 4) (.slice U k vc)) (.returned (.agg #[I_ o,I_ r,?C0,?D0,.slice U k vc])) R s):=by
   have y:∀(W:World) (ra:Q_) (rc:Nat) (qs:List zi) (j:Nat) (v:Value),za1 W0.heap.size ra qs->zx W ra rc qs->zx (W.setCell (p_ w.heap.size j) v) ra rc qs:=λW ra rc qs j v hF h=>h.setCell hF _ _ _ ai;have V:∀(W:World) (j:Nat) (v:Value),zax W U (nV b k)->zax (W.setCell (p_ w.heap.size j) v) U (nV b k):=λW j v h=>zs6 (R:=w.heap.size) h ((zaG.refl _ W).setCell) (λd f e e2=>by have:=af d f e;omega);refine⟨t,B,bl,z,E,pl,U,vc,?_,az,aA,?_,?_,⟨λd f e=>by have:=C.row d f e;omega,λp hp d f e=>by have:=C.each p hp d f e;omega⟩,⟨λd f e=>by have:=D.row d f e;omega,λp hp d f e=>by have:=D.each p hp d f e;omega⟩,?_,(λd f e=>by have:=af d f e;omega),?_,?_,ak.out.1,ak.out.2⟩;rw[G.out.1,G.out.2.1,G.out.2.2.1];exact y _ _ _ _ _ _ C (y _ _ _ _ _ _ C (y _ _ _ _ _ _ C (y _ _ _ _ _ _ C (y _ _ _ _ _ _ C (ao)))));exact y _ _ _ _ _ _ D (y _ _ _ _ _ _ D (y _ _ _ _ _ _ D (y _ _ _ _ _ _ D (y _ _ _ _ _ _ D (aq)))));rw[G.out.2.2.1,G.out.2.2.2];exact V _ _ _ (V _ _ _ (V _ _ _ (V _ _ _ (V _ _ _ (hI)))));rw[G.out.2.2.1,G.out.2.2.2];exact zaw.far (zaw.far (zaw.far (zaw.far (zaw.far (ae) aa) aa) aa) aa) aa;exact⟨L.os,L.tape,L.output,by simpa using L.size,λq T hn=>((hO_ _ (p_ w.heap.size 4) q _ (by show q≠w.heap.size;omega)).trans ((hO_ _ (p_ w.heap.size 3) q _ (by show q≠w.heap.size;omega)).trans ((hO_ _ (p_ w.heap.size 2) q _ (by show q≠w.heap.size;omega)).trans ((hO_ _ (p_ w.heap.size 1) q _ (by show q≠w.heap.size;omega)).trans ((hO_ _ (p_ w.heap.size 0) q _ (by show q≠w.heap.size;omega)).trans (L.block q T hn))))))⟩
  clear az aA an ap C D ao aq hI af ae O L au ho m F;go_wp2_with fail
  exact bP_ (v:=.agg #[I_ o,I_ r,?C0,?D0,.slice U k vc]) (by simp[results,results109,go_sem,d0,d1,d2,d3,d4]) rfl hX.out
structure zhr (x:MV):Prop where
 bt:x.ss.length<=x.m.btc/\x.m.btc<=maxLen/\(x.m.bta=none->x.m.btc=0)/\(x.m.ki≠1->x.m.bta=none)
 hb:x.bl=[]->x.m.hba=none
 hp:x.pl=[]->x.m.hpa=none
 cb:x.cbl=[]->x.m.cba=none
 cp:x.cpl=[]->x.m.cpa=none
def CEq (x:MV)(s:St):Prop:=x.c=pM s/\zhr x
structure zzd (w w':World)(e:Ending)(R:Nat)(s:St):Prop where
 out:∃x:MV,e=.returned (.agg (mrow_ x.m))/\MAt w' x/\zbU (λq=>w.heap.size<=q) x/\CEq x s/\RdS w' R (mS s)/\zaG R w w'
theorem zr5 (R:Nat)(s:St)(w:World)(hR:RdS w R s)(hs:zbC s)(B:1<=nB 1 s/\nB 1 s<=5) :
  Calls prog 62 #[P_ R 0] w λe w'=>zzd w w' e R s:=by
 have a9:=zaw.lt hR;refine kO_ ?F0 ?_;exact Obj.cells mz_ 90;have hA:=zC w ?F0;have q0:=hN_ w ?F0;have aM:=ze q0;refine K_ (?A0:St) ?_;exact nx 1 (nx 1 (nx 1 s));have ah:zbC ?A0:=hs.nx.nx.nx;have aP:bN ?A0<=255:=by have:=zfE (s:=bS3 ?A0) ah.nx.nx;show(nB 1 (bS3 ?A0)).toNat<=255;omega
 have aQ:cN ?A0<=255:=by have:=zfE (s:=hS4 ?A0) (zbC.dgS (zbC.dgS ah.nx.nx));show(nB 1 (hS4 ?A0)).toNat<=255;omega
 go_in;go_wp2_with fail
 generalize w.alloc ?F0=W0 at hA q0 aM|-;refine(zdn R 1 s W0 (zaw.below hR hA) hs (by omega)).mono ?_;rintro _ w1⟨rfl,aC,aJ⟩;dsimp only;go_wp2_with fail
 refine(zdn R 1 _ w1 aC hs.nx (by omega)).mono ?_;rintro _ w2⟨rfl,aD,aK⟩;dsimp only;go_wp2_with fail
 refine(zdn R 1 _ w2 aD hs.nx.nx (by omega)).mono ?_;rintro _ w3⟨rfl,aE,aL⟩;dsimp only;have az:=(aJ.trans aK).trans aL;have p3:=(az.block _ aM (by omega)).trans q0;have aI:=ze p3;have qz:=hN_ w3 ?F0;refine kA_ ?B0 ?_;exact #[I_ (nB 1 (nx 1 s)),I_ (nB 1 (nx 1 (nx 1 s))),I_ (nB 1 s),I_ 0,I_ 0,O_,I_ 0,I_ 0,O_,O_,I_ 0,I_ 0,O_,I_ 0,I_ 0,O_,O_,O_,I_ 0];have ak:=zbs w3 mz_ ?B0 90;have X:=sH_ _ _ _ ?B0 _ _ qz;have zM:=(ak.block _ aI).trans p3;have ai:=ze X;go_upto_region 2 with(refine wS_ rfl 90 _ _ rfl w3.heap.size ?B0 rfl rfl 90 _ qz sMsg' rfl (by simp[Value.oneCell']) ?_)
 generalize (w3.alloc ?F0).setRow w3.heap.size ?B0=H at ak X zM ai|-;have ar:RdS H R ?A0:=zaw.below aE ak;have ap:=az.trans (zbR ak);have aq:zaG R w W0:=zbR hA;generalize aN:w3.heap.size=b at X ai aI|-;clear aN ak qz p3 az aJ aK aL aC aD aE q0;have c2:=zb X 2 (I_ (nB 1 s)) rfl;have aO:nB 1 s=1\/nB 1 s=2\/nB 1 s=3\/nB 1 s=4\/nB 1 s=5:=by omega
 clear B;rcases aO with B|B|B|B|B;refine kV_ ?C0 ?_;exact I_ (nB 3 (nx 1 ?A0));refine kV_ ?D0 ?_;exact I_ (nB 1 ?A0);refine kV_ ?E0 ?_;exact I_ (nB 1 (nx 1 (nx 1 s)));refine kV_ ?G0 ?_;exact I_ (nB 1 (nx 1 s))
 .rw[B]at X c2|-;have T:Hid (nB 1 s=1):=B;clear B;go_wp2_with fail
  refine(zvV R ?A0 H ar ah).mono ?_;rintro e c⟨I,D,O,aA,au,ab,E,aF,aG,aH⟩;have ay:Hid (bN ?A0<=D/\D<=maxLen/\(I=none->D=0)):=⟨aF,aG,aH⟩;clear aF aG aH;subst O;dsimp only;have d:=(E.block _ ai (by omega)).trans X;have Z:=(E.block _ (by omega) (by omega)).trans zM;have aa:=ap.trans E;have ac:w.heap.size≠b:=by omega
  have C:=ac;have x3:=zb d 3 (I_ 0) rfl;have y3:=zd d 3;have x4:=zb d 4 (I_ 0) rfl;have y4:=zd d 4;have x5:=zb d 5 (O_) rfl;have y5:=zd d 5;refine kW_ ?H0 ?_;exact((c.setCell (p_ b 3) ?D0).setCell (p_ b 4) ?C0).setCell (p_ b 5) (.slice I (bN ?A0) D);refine kA_ ?I0 ?_;exact #[?G0,?E0,I_ 1,?D0,?C0,.slice I (bN ?A0) D,I_ 0,I_ 0,O_,O_,I_ 0,I_ 0,O_,I_ 0,I_ 0,O_,O_,O_,I_ 0];have Y:(?H0).heap[b]? = some (.cells ?I0 90 (0,0)):=by simpa using(hS_ _ _ 5 _ _ (.slice I (bN ?A0) D) (hS_ _ _ 4 _ _ ?C0 (hS_ _ _ 3 _ _ ?D0 d)))
  have F:=(zh (j:=5) (v:=.slice I (bN ?A0) D) (zh (j:=4) (v:=I_ (nB 3 (nx 1 ?A0))) (zh (j:=3) (v:=I_ (nB 1 ?A0)) Z C) C) C);have HX:Hid (∃x:MV,(.agg (mrow_ x.m):Value)=.agg ?I0/\MAt c x/\zbU (λq=>H.heap.size<=q) x/\CEq x s/\RdS c R (mS s)):=by
   refine⟨⟨⟨nB 1 (nx 1 s),nB 1 (nx 1 (nx 1 s)),1,nB 1 ?A0,nB 3 (nx 1 ?A0),0,0,0,0,0,0,0,I,none,none,none,none,none,none,bN ?A0,D,0,0,0,0,0,0,0,0,0,0,0,0⟩,bT (nx 1 (bS3 ?A0)) (bN ?A0),[],[],[],[],[],[]⟩,rfl,⟨⟨(zjC _ _).symm,rfl,rfl,rfl,rfl,rfl,by rw[zjC];have:=aP;omega,by simp,by simp,aA,(zaj _),(zaj _),(zaj _),(zaj _),⟨.inl rfl⟩⟩,(zgD _),rfl⟩,ziF.has (x:=⟨⟨nB 1 (nx 1 s),nB 1 (nx 1 (nx 1 s)),1,nB 1 ?A0,nB 3 (nx 1 ?A0),0,0,0,0,0,0,0,I,none,none,none,none,none,none,bN ?A0,D,0,0,0,0,0,0,0,0,0,0,0,0⟩,bT (nx 1 (bS3 ?A0)) (bN ?A0),[],[],[],[],[],[]⟩) ⟨au,⟨(λ_ _ e=>by cases e),(λp r=>by cases r)⟩,⟨(λ_ _ e=>by cases e),(λp r=>by cases r)⟩,(λ_ _ e=>by cases e),⟨(λ_ _ e=>by cases e),(λp r=>by cases r)⟩,⟨(λ_ _ e=>by cases e),(λp r=>by cases r)⟩,(λ_ _ e=>by cases e)⟩,?_,?_⟩;refine⟨?_,⟨⟨(by show(bT _ _).length<=D;rw[zjC];exact ay.out.1),ay.out.2.1,ay.out.2.2,(λh=>absurd rfl h)⟩,(λ_=>rfl),(λ_=>rfl),(λ_=>rfl),(λ_=>rfl)⟩⟩;simp only[MV.c,pM,T.out];rfl;simp only[mS,T.out];exact ab
  have z:Hid (∀q,q≠b->(?H0).heap[q]? = c.heap[q]?):=by
   show ∀_,_;intro q u;exact((hO_ _ (p_ b 5) q _ u).trans ((hO_ _ (p_ b 4) q _ u).trans ((hO_ _ (p_ b 3) q _ u).trans (rfl:c.heap[q]? = c.heap[q]?))))
  have U:Hid ((?H0).heap.size=c.heap.size):=by show _=_;simp
  have y:Hid ((?H0).os=c.os/\(?H0).tape=c.tape/\(?H0).output=c.output):=⟨rfl,rfl,rfl⟩;go_upto_region 13 with fail
  generalize ?H0=VF at Y F z U y|-;clear d Z x3 y3 x4 y4 x5 y5;go_wp2_with (first|refine wL_ rfl 90 _ rfl b rfl 90 ?I0 (0,0) _ Y underlying90 rfl sMsg' ?_|refine wS_ rfl 90 _ _ rfl w.heap.size ?I0 rfl rfl 90 _ F sMsg' rfl (by simp[Value.oneCell']) ?_)
  obtain⟨x,ag,ad,V,af,ae⟩:=HX.out;refine bP_ (v:=.agg ?I0) (rC_ (fn:=Tryz.f62) (p:=2) (ty:=90) rfl _ _ w.heap.size 90 _ (0,0) _ rfl (sH_ _ _ _ _ _ _ F) underlying90 rfl sMsg') rfl ⟨x,by rw[ag],?_,V.mono (λq A=>by omega),af,?_,?_⟩;refine ad.stays (G:=λq=>H.heap.size<=q) (λq A=>?_) V;exact(sO_ _ w.heap.size q _ (by omega)).trans (z.out q (by omega));refine zaw.stays ae (λq A=>?_);exact(sO_ _ w.heap.size q _ (by omega)).trans (z.out q (by omega));have t:=aq.trans aa;refine⟨y.out.1.trans t.os,y.out.2.1.trans t.tape,y.out.2.2.trans t.output,by have:=t.size;have:=U.out;simp[World.setRow];omega,λq A hn=>?_⟩;exact((sO_ _ w.heap.size q _ (by omega)).trans (z.out q (by omega))).trans (t.block q A hn)
 .rw[B]at X c2|-;have T:Hid (nB 1 s=2):=B;clear B;go_wp2_with fail
  refine K_ (?L0:St) ?_;exact nx 1 (nx 1 (nx 1 s));refine(znm R ?L0 H ar ah).mono ?_;rintro e c⟨f,m,bl,g,o,pl,O,u,av,an,ao,al,am,ab,E,aw,ax⟩;have aj:Hid ((bl=[]->f=none)/\(pl=[]->g=none)):=⟨aw,ax⟩;clear aw ax;subst O;dsimp only;have d:=(E.block _ ai (by omega)).trans X;have Z:=(E.block _ (by omega) (by omega)).trans zM;have aa:=ap.trans E;have ac:w.heap.size≠b:=by omega
  have C:=ac;have x6:=zb d 6 (I_ 0) rfl;have y6:=zd d 6;have x7:=zb d 7 (I_ 0) rfl;have y7:=zd d 7;have x8:=zb d 8 (O_) rfl;have y8:=zd d 8;have x9:=zb d 9 (O_) rfl;have y9:=zd d 9;refine kV_ ?J0 ?_;exact Value.slice f bl.length m;refine kV_ ?K0 ?_;exact Value.slice g pl.length o;have Y:((((c.setCell (p_ b 6) (I_ (nB 1 ?L0))).setCell (p_ b 7) (I_ (nB 3 (nx 1 ?L0)))).setCell (p_ b 8) ?J0).setCell (p_ b 9) ?K0).heap[b]? = some (.cells #[I_ (nB 1 (nx 1 s)),I_ (nB 1 (nx 1 (nx 1 s))),I_ 2,I_ 0,I_ 0,O_,I_ (nB 1 ?L0),I_ (nB 3 (nx 1 ?L0)),?J0,?K0,I_ 0,I_ 0,O_,I_ 0,I_ 0,O_,O_,O_,I_ 0] 90 (0,0)):=by simpa using(hS_ _ _ 9 _ _ ?K0 (hS_ _ _ 8 _ _ ?J0 (hS_ _ _ 7 _ _ (I_ (nB 3 (nx 1 ?L0))) (hS_ _ _ 6 _ _ (I_ (nB 1 ?L0)) d))))
  have F:=(zh (j:=9) (v:=.slice g pl.length o) (zh (j:=8) (v:=.slice f bl.length m) (zh (j:=7) (v:=I_ (nB 3 (nx 1 ?L0))) (zh (j:=6) (v:=I_ (nB 1 ?L0)) Z C) C) C) C);have HX:Hid (∃x:MV,(.agg (mrow_ x.m):Value)=.agg #[I_ (nB 1 (nx 1 s)),I_ (nB 1 (nx 1 (nx 1 s))),I_ 2,I_ 0,I_ 0,O_,I_ (nB 1 (nx 1 (nx 1 (nx 1 s)))),I_ (nB 3 (nx 1 (nx 1 (nx 1 (nx 1 s))))),?J0,?K0,I_ 0,I_ 0,O_,I_ 0,I_ 0,O_,O_,O_,I_ 0]/\MAt c x/\zbU (λq=>H.heap.size<=q) x/\CEq x s/\RdS c R (mS s)):=by
   refine⟨⟨⟨nB 1 (nx 1 s),nB 1 (nx 1 (nx 1 s)),2,0,0,nB 1 (nx 1 (nx 1 (nx 1 s))),nB 3 (nx 1 (nx 1 (nx 1 (nx 1 s)))),0,0,0,0,0,none,f,g,none,none,none,none,0,0,bl.length,m,pl.length,o,0,0,0,0,0,0,0,0⟩,[],bl,pl,[],[],[],[]⟩,rfl,⟨⟨rfl,rfl,rfl,rfl,rfl,rfl,by simp,by simp,by simp,⟨.inl rfl,λs h=>by cases h⟩,an,ao,(zaj _),(zaj _),⟨.inl rfl⟩⟩,(zgD _),rfl⟩,ziF.has (x:=⟨⟨nB 1 (nx 1 s),nB 1 (nx 1 (nx 1 s)),2,0,0,nB 1 (nx 1 (nx 1 (nx 1 s))),nB 3 (nx 1 (nx 1 (nx 1 (nx 1 s)))),0,0,0,0,0,none,f,g,none,none,none,none,0,0,bl.length,m,pl.length,o,0,0,0,0,0,0,0,0⟩,[],bl,pl,[],[],[],[]⟩) ⟨(λ_ _ e=>by cases e),al,am,(λ_ _ e=>by cases e),⟨(λ_ _ e=>by cases e),(λp r=>by cases r)⟩,⟨(λ_ _ e=>by cases e),(λp r=>by cases r)⟩,(λ_ _ e=>by cases e)⟩,?_,?_⟩;refine⟨?_,⟨⟨(by decide:(0:Nat)<=0),(by decide:(0:Nat)<=maxLen),(λ_=>rfl),(λ_=>rfl)⟩,aj.out.1,aj.out.2,(λ_=>rfl),(λ_=>rfl)⟩⟩;simp only[MV.c,pM,T.out,u,av];rfl;simp only[mS,T.out];exact ab
  clear u av an ao al am;refine kW_ ?M0 ?_;exact(((c.setCell (p_ b 6) (I_ (nB 1 (nx 1 (nx 1 (nx 1 s)))))).setCell (p_ b 7) (I_ (nB 3 (nx 1 (nx 1 (nx 1 (nx 1 s))))))).setCell (p_ b 8) ?J0).setCell (p_ b 9) ?K0;have z:Hid (∀q,q≠b->(?M0).heap[q]? = c.heap[q]?):=by
   show ∀_,_;intro q u;exact((hO_ _ (p_ b 9) q _ u).trans ((hO_ _ (p_ b 8) q _ u).trans ((hO_ _ (p_ b 7) q _ u).trans ((hO_ _ (p_ b 6) q _ u).trans (rfl:c.heap[q]? = c.heap[q]?)))))
  have U:Hid ((?M0).heap.size=c.heap.size):=by show _=_;simp
  have y:Hid ((?M0).os=c.os/\(?M0).tape=c.tape/\(?M0).output=c.output):=⟨rfl,rfl,rfl⟩;go_upto_region 13 with fail
  generalize ?M0=VF at Y F z U y|-;clear d Z x6 y6 x7 y7 x8 y8 x9 y9;go_wp2_with (first|refine wL_ rfl 90 _ rfl b rfl 90 #[I_ (nB 1 (nx 1 s)),I_ (nB 1 (nx 1 (nx 1 s))),I_ 2,I_ 0,I_ 0,O_,I_ (nB 1 (nx 1 (nx 1 (nx 1 s)))),I_ (nB 3 (nx 1 (nx 1 (nx 1 (nx 1 s))))),?J0,?K0,I_ 0,I_ 0,O_,I_ 0,I_ 0,O_,O_,O_,I_ 0] (0,0) _ Y underlying90 rfl sMsg' ?_|refine wS_ rfl 90 _ _ rfl w.heap.size #[I_ (nB 1 (nx 1 s)),I_ (nB 1 (nx 1 (nx 1 s))),I_ 2,I_ 0,I_ 0,O_,I_ (nB 1 (nx 1 (nx 1 (nx 1 s)))),I_ (nB 3 (nx 1 (nx 1 (nx 1 (nx 1 s))))),?J0,?K0,I_ 0,I_ 0,O_,I_ 0,I_ 0,O_,O_,O_,I_ 0] rfl rfl 90 _ F sMsg' rfl (by simp[Value.oneCell']) ?_)
  obtain⟨x,ag,ad,V,af,ae⟩:=HX.out;refine bP_ (v:=.agg #[I_ (nB 1 (nx 1 s)),I_ (nB 1 (nx 1 (nx 1 s))),I_ 2,I_ 0,I_ 0,O_,I_ (nB 1 (nx 1 (nx 1 (nx 1 s)))),I_ (nB 3 (nx 1 (nx 1 (nx 1 (nx 1 s))))),?J0,?K0,I_ 0,I_ 0,O_,I_ 0,I_ 0,O_,O_,O_,I_ 0]) (rC_ (fn:=Tryz.f62) (p:=2) (ty:=90) rfl _ _ w.heap.size 90 _ (0,0) _ rfl (sH_ _ _ _ _ _ _ F) underlying90 rfl sMsg') rfl ⟨x,by rw[ag],?_,V.mono (λq A=>by omega),af,?_,?_⟩;refine ad.stays (G:=λq=>H.heap.size<=q) (λq A=>?_) V;exact(sO_ _ w.heap.size q _ (by omega)).trans (z.out q (by omega));refine zaw.stays ae (λq A=>?_);exact(sO_ _ w.heap.size q _ (by omega)).trans (z.out q (by omega));have t:=aq.trans aa;refine⟨y.out.1.trans t.os,y.out.2.1.trans t.tape,y.out.2.2.trans t.output,by have:=t.size;have:=U.out;simp[World.setRow];omega,λq A hn=>?_⟩;exact((sO_ _ w.heap.size q _ (by omega)).trans (z.out q (by omega))).trans (t.block q A hn)
 .rw[B]at X c2|-;have T:Hid (nB 1 s=3):=B;clear B;go_wp2_with fail
  refine K_ (?N0:St) ?_;exact nx 1 (nx 1 (nx 1 s));refine(zu3 R ?N0 H ar ah).mono ?_;rintro e c⟨J,L,O,aA,au,ab,E⟩;subst O;dsimp only;have d:=(E.block _ ai (by omega)).trans X;have Z:=(E.block _ (by omega) (by omega)).trans zM;have aa:=ap.trans E;have ac:w.heap.size≠b:=by omega
  have C:=ac;have aR:=zb d 10 (I_ 0) rfl;have a0:=zd d 10;have aS:=zb d 11 (I_ 0) rfl;have a1:=zd d 11;have aT:=zb d 12 (O_) rfl;have a2:=zd d 12;refine kV_ ?P0 ?_;exact Value.slice J (tT 32 (nx 3 (nx 1 ?N0))).length L;have Y:(((c.setCell (p_ b 10) (I_ (nB 1 ?N0))).setCell (p_ b 11) (I_ (nB 3 (nx 1 ?N0)))).setCell (p_ b 12) ?P0).heap[b]? = some (.cells #[I_ (nB 1 (nx 1 s)),I_ (nB 1 (nx 1 (nx 1 s))),I_ 3,I_ 0,I_ 0,O_,I_ 0,I_ 0,O_,O_,I_ (nB 1 ?N0),I_ (nB 3 (nx 1 ?N0)),?P0,I_ 0,I_ 0,O_,O_,O_,I_ 0] 90 (0,0)):=by simpa using(hS_ _ _ 12 _ _ ?P0 (hS_ _ _ 11 _ _ (I_ (nB 3 (nx 1 ?N0))) (hS_ _ _ 10 _ _ (I_ (nB 1 ?N0)) d)))
  have F:=(zh (j:=12) (v:=.slice J (tT 32 (nx 3 (nx 1 ?N0))).length L) (zh (j:=11) (v:=I_ (nB 3 (nx 1 ?N0))) (zh (j:=10) (v:=I_ (nB 1 ?N0)) Z C) C) C);have HX:Hid (∃x:MV,(.agg (mrow_ x.m):Value)=.agg #[I_ (nB 1 (nx 1 s)),I_ (nB 1 (nx 1 (nx 1 s))),I_ 3,I_ 0,I_ 0,O_,I_ 0,I_ 0,O_,O_,I_ (nB 1 (nx 1 (nx 1 (nx 1 s)))),I_ (nB 3 (nx 1 (nx 1 (nx 1 (nx 1 s))))),.slice J (tT 32 (nx 3 (nx 1 (nx 1 (nx 1 (nx 1 s)))))).length L,I_ 0,I_ 0,O_,O_,O_,I_ 0]/\MAt c x/\zbU (λq=>H.heap.size<=q) x/\CEq x s/\RdS c R (mS s)):=by
   refine⟨⟨⟨nB 1 (nx 1 s),nB 1 (nx 1 (nx 1 s)),3,0,0,0,0,nB 1 (nx 1 (nx 1 (nx 1 s))),nB 3 (nx 1 (nx 1 (nx 1 (nx 1 s)))),0,0,0,none,none,none,J,none,none,none,0,0,0,0,0,0,(tT 32 (nx 3 (nx 1 (nx 1 (nx 1 (nx 1 s)))))).length,L,0,0,0,0,0,0⟩,[],[],[],[],[],tT 32 (nx 3 (nx 1 (nx 1 (nx 1 (nx 1 s))))),[]⟩,rfl,⟨⟨rfl,rfl,rfl,rfl,rfl,rfl,by simp,by simp,by have:=zg4 (n:=32) (l:=(nx 3 (nx 1 (nx 1 (nx 1 (nx 1 s))))).1) (sh:=(nx 3 (nx 1 (nx 1 (nx 1 (nx 1 s))))).2);show(tkT _ _ _).length<=_;omega,⟨.inl rfl,λs h=>by cases h⟩,(zaj _),(zaj _),(zaj _),(zaj _),⟨.inl rfl⟩⟩,aA,rfl⟩,ziF.has (x:=⟨⟨nB 1 (nx 1 s),nB 1 (nx 1 (nx 1 s)),3,0,0,0,0,nB 1 (nx 1 (nx 1 (nx 1 s))),nB 3 (nx 1 (nx 1 (nx 1 (nx 1 s)))),0,0,0,none,none,none,J,none,none,none,0,0,0,0,0,0,(tT 32 (nx 3 (nx 1 (nx 1 (nx 1 (nx 1 s)))))).length,L,0,0,0,0,0,0⟩,[],[],[],[],[],tT 32 (nx 3 (nx 1 (nx 1 (nx 1 (nx 1 s))))),[]⟩) ⟨(λ_ _ e=>by cases e),⟨(λ_ _ e=>by cases e),(λp r=>by cases r)⟩,⟨(λ_ _ e=>by cases e),(λp r=>by cases r)⟩,au,⟨(λ_ _ e=>by cases e),(λp r=>by cases r)⟩,⟨(λ_ _ e=>by cases e),(λp r=>by cases r)⟩,(λ_ _ e=>by cases e)⟩,?_,?_⟩;refine⟨?_,⟨⟨(by decide:(0:Nat)<=0),(by decide:(0:Nat)<=maxLen),(λ_=>rfl),(λ_=>rfl)⟩,(λ_=>rfl),(λ_=>rfl),(λ_=>rfl),(λ_=>rfl)⟩⟩;simp only[MV.c,pM,T.out];rfl;simp only[mS,T.out];exact ab
  refine kW_ ?O0 ?_;exact((c.setCell (p_ b 10) (I_ (nB 1 (nx 1 (nx 1 (nx 1 s)))))).setCell (p_ b 11) (I_ (nB 3 (nx 1 (nx 1 (nx 1 (nx 1 s))))))).setCell (p_ b 12) (.slice J (tT 32 (nx 3 (nx 1 (nx 1 (nx 1 (nx 1 s)))))).length L);have z:Hid (∀q,q≠b->(?O0).heap[q]? = c.heap[q]?):=by
   show ∀_,_;intro q u;exact((hO_ _ (p_ b 12) q _ u).trans ((hO_ _ (p_ b 11) q _ u).trans ((hO_ _ (p_ b 10) q _ u).trans (rfl:c.heap[q]? = c.heap[q]?))))
  have U:Hid ((?O0).heap.size=c.heap.size):=by show _=_;simp
  have y:Hid ((?O0).os=c.os/\(?O0).tape=c.tape/\(?O0).output=c.output):=⟨rfl,rfl,rfl⟩;go_upto_region 13 with fail
  generalize ?O0=VF at Y F z U y|-;clear d Z aR a0 aS a1 aT a2;go_wp2_with (first|refine wL_ rfl 90 _ rfl b rfl 90 #[I_ (nB 1 (nx 1 s)),I_ (nB 1 (nx 1 (nx 1 s))),I_ 3,I_ 0,I_ 0,O_,I_ 0,I_ 0,O_,O_,I_ (nB 1 (nx 1 (nx 1 (nx 1 s)))),I_ (nB 3 (nx 1 (nx 1 (nx 1 (nx 1 s))))),.slice J (tT 32 (nx 3 (nx 1 (nx 1 (nx 1 (nx 1 s)))))).length L,I_ 0,I_ 0,O_,O_,O_,I_ 0] (0,0) _ Y underlying90 rfl sMsg' ?_|refine wS_ rfl 90 _ _ rfl w.heap.size #[I_ (nB 1 (nx 1 s)),I_ (nB 1 (nx 1 (nx 1 s))),I_ 3,I_ 0,I_ 0,O_,I_ 0,I_ 0,O_,O_,I_ (nB 1 (nx 1 (nx 1 (nx 1 s)))),I_ (nB 3 (nx 1 (nx 1 (nx 1 (nx 1 s))))),.slice J (tT 32 (nx 3 (nx 1 (nx 1 (nx 1 (nx 1 s)))))).length L,I_ 0,I_ 0,O_,O_,O_,I_ 0] rfl rfl 90 _ F sMsg' rfl (by simp[Value.oneCell']) ?_)
  obtain⟨x,ag,ad,V,af,ae⟩:=HX.out;refine bP_ (v:=.agg #[I_ (nB 1 (nx 1 s)),I_ (nB 1 (nx 1 (nx 1 s))),I_ 3,I_ 0,I_ 0,O_,I_ 0,I_ 0,O_,O_,I_ (nB 1 (nx 1 (nx 1 (nx 1 s)))),I_ (nB 3 (nx 1 (nx 1 (nx 1 (nx 1 s))))),.slice J (tT 32 (nx 3 (nx 1 (nx 1 (nx 1 (nx 1 s)))))).length L,I_ 0,I_ 0,O_,O_,O_,I_ 0]) (rC_ (fn:=Tryz.f62) (p:=2) (ty:=90) rfl _ _ w.heap.size 90 _ (0,0) _ rfl (sH_ _ _ _ _ _ _ F) underlying90 rfl sMsg') rfl ⟨x,by rw[ag],?_,V.mono (λq A=>by omega),af,?_,?_⟩;refine ad.stays (G:=λq=>H.heap.size<=q) (λq A=>?_) V;exact(sO_ _ w.heap.size q _ (by omega)).trans (z.out q (by omega));refine zaw.stays ae (λq A=>?_);exact(sO_ _ w.heap.size q _ (by omega)).trans (z.out q (by omega));have t:=aq.trans aa;refine⟨y.out.1.trans t.os,y.out.2.1.trans t.tape,y.out.2.2.trans t.output,by have:=t.size;have:=U.out;simp[World.setRow];omega,λq A hn=>?_⟩;exact((sO_ _ w.heap.size q _ (by omega)).trans (z.out q (by omega))).trans (t.block q A hn)
 .rw[B]at X c2|-;have T:Hid (nB 1 s=4):=B;clear B;go_wp2_with fail
  refine K_ (?Q0:St) ?_;exact nx 1 (nx 1 (nx 1 s));refine(zxp R ?Q0 H ar ah).mono ?_;rintro e c⟨f,m,bl,g,o,pl,M,N,O,u,av,an,ao,al,am,aB,au,ab,E,aw,ax⟩;have aj:Hid ((bl=[]->f=none)/\(pl=[]->g=none)):=⟨aw,ax⟩;clear aw ax;subst O;dsimp only;have d:=(E.block _ ai (by omega)).trans X;have Z:=(E.block _ (by omega) (by omega)).trans zM;have aa:=ap.trans E;have ac:w.heap.size≠b:=by omega
  have C:=ac;have aU:=zb d 13 (I_ 0) rfl;have a3:=zd d 13;have aV:=zb d 14 (I_ 0) rfl;have a4:=zd d 14;have aW:=zb d 15 (O_) rfl;have a5:=zd d 15;have aX:=zb d 16 (O_) rfl;have a6:=zd d 16;have aY:=zb d 17 (O_) rfl;have a7:=zd d 17;refine kV_ ?S0 ?_;exact Value.slice f bl.length m;refine kV_ ?T0 ?_;exact Value.slice g pl.length o;have Y:(((((c.setCell (p_ b 13) (I_ (nB 1 ?Q0))).setCell (p_ b 14) (I_ (nB 3 (nx 1 ?Q0)))).setCell (p_ b 15) ?S0).setCell (p_ b 16) ?T0).setCell (p_ b 17) (.slice M (cN ?Q0) N)).heap[b]? = some (.cells #[I_ (nB 1 (nx 1 s)),I_ (nB 1 (nx 1 (nx 1 s))),I_ 4,I_ 0,I_ 0,O_,I_ 0,I_ 0,O_,O_,I_ 0,I_ 0,O_,I_ (nB 1 ?Q0),I_ (nB 3 (nx 1 ?Q0)),?S0,?T0,.slice M (cN ?Q0) N,I_ 0] 90 (0,0)):=by simpa using(hS_ _ _ 17 _ _ (.slice M (cN ?Q0) N) (hS_ _ _ 16 _ _ ?T0 (hS_ _ _ 15 _ _ ?S0 (hS_ _ _ 14 _ _ (I_ (nB 3 (nx 1 ?Q0))) (hS_ _ _ 13 _ _ (I_ (nB 1 ?Q0)) d)))))
  have F:=(zh (j:=17) (v:=.slice M (cN ?Q0) N) (zh (j:=16) (v:=.slice g pl.length o) (zh (j:=15) (v:=.slice f bl.length m) (zh (j:=14) (v:=I_ (nB 3 (nx 1 ?Q0))) (zh (j:=13) (v:=I_ (nB 1 ?Q0)) Z C) C) C) C) C);have HX:Hid (∃x:MV,(.agg (mrow_ x.m):Value)=.agg #[I_ (nB 1 (nx 1 s)),I_ (nB 1 (nx 1 (nx 1 s))),I_ 4,I_ 0,I_ 0,O_,I_ 0,I_ 0,O_,O_,I_ 0,I_ 0,O_,I_ (nB 1 (nx 1 (nx 1 (nx 1 s)))),I_ (nB 3 (nx 1 (nx 1 (nx 1 (nx 1 s))))),?S0,?T0,.slice M (cN (nx 1 (nx 1 (nx 1 s)))) N,I_ 0]/\MAt c x/\zbU (λq=>H.heap.size<=q) x/\CEq x s/\RdS c R (mS s)):=by
   refine⟨⟨⟨nB 1 (nx 1 s),nB 1 (nx 1 (nx 1 s)),4,0,0,0,0,0,0,nB 1 (nx 1 (nx 1 (nx 1 s))),nB 3 (nx 1 (nx 1 (nx 1 (nx 1 s)))),0,none,none,none,none,f,g,M,0,0,0,0,0,0,0,0,bl.length,m,pl.length,o,cN (nx 1 (nx 1 (nx 1 s))),N⟩,[],[],[],bl,pl,[],nV (nx 1 (hS4 (nx 1 (nx 1 (nx 1 s))))) (cN (nx 1 (nx 1 (nx 1 s))))⟩,rfl,⟨⟨rfl,rfl,rfl,rfl,rfl,(zmT _ _).symm,by simp,by rw[zmT];have:=aQ;omega,by simp,⟨.inl rfl,λs h=>by cases h⟩,(zaj _),(zaj _),an,ao,aB⟩,(zgD _),rfl⟩,ziF.has (x:=⟨⟨nB 1 (nx 1 s),nB 1 (nx 1 (nx 1 s)),4,0,0,0,0,0,0,nB 1 (nx 1 (nx 1 (nx 1 s))),nB 3 (nx 1 (nx 1 (nx 1 (nx 1 s)))),0,none,none,none,none,f,g,M,0,0,0,0,0,0,0,0,bl.length,m,pl.length,o,cN (nx 1 (nx 1 (nx 1 s))),N⟩,[],[],[],bl,pl,[],nV (nx 1 (hS4 (nx 1 (nx 1 (nx 1 s))))) (cN (nx 1 (nx 1 (nx 1 s))))⟩) ⟨(λ_ _ e=>by cases e),⟨(λ_ _ e=>by cases e),(λp r=>by cases r)⟩,⟨(λ_ _ e=>by cases e),(λp r=>by cases r)⟩,(λ_ _ e=>by cases e),al,am,au⟩,?_,?_⟩;refine⟨?_,⟨⟨(by decide:(0:Nat)<=0),(by decide:(0:Nat)<=maxLen),(λ_=>rfl),(λ_=>rfl)⟩,(λ_=>rfl),(λ_=>rfl),aj.out.1,aj.out.2⟩⟩;simp only[MV.c,pM,T.out,u,av];rfl;simp only[mS,T.out];exact ab
  clear u av an ao al am aB;refine kW_ ?R0 ?_;exact((((c.setCell (p_ b 13) (I_ (nB 1 (nx 1 (nx 1 (nx 1 s)))))).setCell (p_ b 14) (I_ (nB 3 (nx 1 (nx 1 (nx 1 (nx 1 s))))))).setCell (p_ b 15) (.slice f bl.length m)).setCell (p_ b 16) (.slice g pl.length o)).setCell (p_ b 17) (.slice M (cN (nx 1 (nx 1 (nx 1 s)))) N);have z:Hid (∀q,q≠b->(?R0).heap[q]? = c.heap[q]?):=by
   show ∀_,_;intro q u;exact((hO_ _ (p_ b 17) q _ u).trans ((hO_ _ (p_ b 16) q _ u).trans ((hO_ _ (p_ b 15) q _ u).trans ((hO_ _ (p_ b 14) q _ u).trans ((hO_ _ (p_ b 13) q _ u).trans (rfl:c.heap[q]? = c.heap[q]?))))))
  have U:Hid ((?R0).heap.size=c.heap.size):=by show _=_;simp
  have y:Hid ((?R0).os=c.os/\(?R0).tape=c.tape/\(?R0).output=c.output):=⟨rfl,rfl,rfl⟩;go_upto_region 13 with fail
  generalize ?R0=VF at Y F z U y|-;clear d Z aU a3 aV a4 aW a5 aX a6 aY a7;go_wp2_with (first|refine wL_ rfl 90 _ rfl b rfl 90 #[I_ (nB 1 (nx 1 s)),I_ (nB 1 (nx 1 (nx 1 s))),I_ 4,I_ 0,I_ 0,O_,I_ 0,I_ 0,O_,O_,I_ 0,I_ 0,O_,I_ (nB 1 (nx 1 (nx 1 (nx 1 s)))),I_ (nB 3 (nx 1 (nx 1 (nx 1 (nx 1 s))))),?S0,?T0,.slice M (cN (nx 1 (nx 1 (nx 1 s)))) N,I_ 0] (0,0) _ Y underlying90 rfl sMsg' ?_|refine wS_ rfl 90 _ _ rfl w.heap.size #[I_ (nB 1 (nx 1 s)),I_ (nB 1 (nx 1 (nx 1 s))),I_ 4,I_ 0,I_ 0,O_,I_ 0,I_ 0,O_,O_,I_ 0,I_ 0,O_,I_ (nB 1 (nx 1 (nx 1 (nx 1 s)))),I_ (nB 3 (nx 1 (nx 1 (nx 1 (nx 1 s))))),?S0,?T0,.slice M (cN (nx 1 (nx 1 (nx 1 s)))) N,I_ 0] rfl rfl 90 _ F sMsg' rfl (by simp[Value.oneCell']) ?_)
  obtain⟨x,ag,ad,V,af,ae⟩:=HX.out;refine bP_ (v:=.agg #[I_ (nB 1 (nx 1 s)),I_ (nB 1 (nx 1 (nx 1 s))),I_ 4,I_ 0,I_ 0,O_,I_ 0,I_ 0,O_,O_,I_ 0,I_ 0,O_,I_ (nB 1 (nx 1 (nx 1 (nx 1 s)))),I_ (nB 3 (nx 1 (nx 1 (nx 1 (nx 1 s))))),?S0,?T0,.slice M (cN (nx 1 (nx 1 (nx 1 s)))) N,I_ 0]) (rC_ (fn:=Tryz.f62) (p:=2) (ty:=90) rfl _ _ w.heap.size 90 _ (0,0) _ rfl (sH_ _ _ _ _ _ _ F) underlying90 rfl sMsg') rfl ⟨x,by rw[ag],?_,V.mono (λq A=>by omega),af,?_,?_⟩;refine ad.stays (G:=λq=>H.heap.size<=q) (λq A=>?_) V;exact(sO_ _ w.heap.size q _ (by omega)).trans (z.out q (by omega));refine zaw.stays ae (λq A=>?_);exact(sO_ _ w.heap.size q _ (by omega)).trans (z.out q (by omega));have t:=aq.trans aa;refine⟨y.out.1.trans t.os,y.out.2.1.trans t.tape,y.out.2.2.trans t.output,by have:=t.size;have:=U.out;simp[World.setRow];omega,λq A hn=>?_⟩;exact((sO_ _ w.heap.size q _ (by omega)).trans (z.out q (by omega))).trans (t.block q A hn)
 rw[B]at X c2|-;have T:Hid (nB 1 s=5):=B;clear B;go_wp2_with fail
 refine(ziB R (nx 1 (nx 1 (nx 1 s))) H ar ah).mono ?_;rintro _ c⟨rfl,ab,E⟩;dsimp only;have d:=(E.block _ ai (by omega)).trans X;have Z:=(E.block _ (by omega) (by omega)).trans zM;have aa:=ap.trans E;have ac:w.heap.size≠b:=by omega
 have C:=ac;have aZ:=zb d 18 (I_ 0) rfl;have a8:=zd d 18;refine K_ (?U0:Int) ?_;exact nB 3 (nx 1 (nx 1 (nx 1 s)));have Y:(c.setCell (p_ b 18) (I_ ?U0)).heap[b]? = some (.cells #[I_ (nB 1 (nx 1 s)),I_ (nB 1 (nx 1 (nx 1 s))),I_ 5,I_ 0,I_ 0,O_,I_ 0,I_ 0,O_,O_,I_ 0,I_ 0,O_,I_ 0,I_ 0,O_,O_,O_,I_ ?U0] 90 (0,0)):=by simpa using(hS_ _ _ 18 _ _ (I_ ?U0) d)
 have F:=(zh (j:=18) (v:=I_ ?U0) Z C);have HX:Hid (∃x:MV,(.agg (mrow_ x.m):Value)=.agg #[I_ (nB 1 (nx 1 s)),I_ (nB 1 (nx 1 (nx 1 s))),I_ 5,I_ 0,I_ 0,O_,I_ 0,I_ 0,O_,O_,I_ 0,I_ 0,O_,I_ 0,I_ 0,O_,O_,O_,I_ (nB 3 (nx 1 (nx 1 (nx 1 s))))]/\MAt c x/\zbU (λq=>H.heap.size<=q) x/\CEq x s/\RdS c R (mS s)):=by
  refine⟨⟨⟨nB 1 (nx 1 s),nB 1 (nx 1 (nx 1 s)),5,0,0,0,0,0,0,0,0,nB 3 (nx 1 (nx 1 (nx 1 s))),none,none,none,none,none,none,none,0,0,0,0,0,0,0,0,0,0,0,0,0,0⟩,[],[],[],[],[],[],[]⟩,rfl,⟨⟨rfl,rfl,rfl,rfl,rfl,rfl,by simp,by simp,by simp,⟨.inl rfl,λs h=>by cases h⟩,(zaj _),(zaj _),(zaj _),(zaj _),⟨.inl rfl⟩⟩,(zgD _),rfl⟩,ziF.has (x:=⟨⟨nB 1 (nx 1 s),nB 1 (nx 1 (nx 1 s)),5,0,0,0,0,0,0,0,0,nB 3 (nx 1 (nx 1 (nx 1 s))),none,none,none,none,none,none,none,0,0,0,0,0,0,0,0,0,0,0,0,0,0⟩,[],[],[],[],[],[],[]⟩) ⟨(λ_ _ e=>by cases e),⟨(λ_ _ e=>by cases e),(λp r=>by cases r)⟩,⟨(λ_ _ e=>by cases e),(λp r=>by cases r)⟩,(λ_ _ e=>by cases e),⟨(λ_ _ e=>by cases e),(λp r=>by cases r)⟩,⟨(λ_ _ e=>by cases e),(λp r=>by cases r)⟩,(λ_ _ e=>by cases e)⟩,?_,?_⟩;refine⟨?_,⟨⟨(by decide:(0:Nat)<=0),(by decide:(0:Nat)<=maxLen),(λ_=>rfl),(λ_=>rfl)⟩,(λ_=>rfl),(λ_=>rfl),(λ_=>rfl),(λ_=>rfl)⟩⟩;simp only[MV.c,pM,T.out];rfl;simp only[mS,T.out];exact ab
 refine kW_ ?V0 ?_;exact c.setCell (p_ b 18) (I_ (nB 3 (nx 1 (nx 1 (nx 1 s)))));have z:Hid (∀q,q≠b->(?V0).heap[q]? = c.heap[q]?):=by
  show ∀_,_;intro q u;exact((hO_ _ (p_ b 18) q _ u).trans (rfl:c.heap[q]? = c.heap[q]?))
 have U:Hid ((?V0).heap.size=c.heap.size):=by show _=_;simp
 have y:Hid ((?V0).os=c.os/\(?V0).tape=c.tape/\(?V0).output=c.output):=⟨rfl,rfl,rfl⟩;go_upto_region 13 with fail
 generalize ?V0=VF at Y F z U y|-;clear d Z aZ a8;go_wp2_with (first|refine wL_ rfl 90 _ rfl b rfl 90 #[I_ (nB 1 (nx 1 s)),I_ (nB 1 (nx 1 (nx 1 s))),I_ 5,I_ 0,I_ 0,O_,I_ 0,I_ 0,O_,O_,I_ 0,I_ 0,O_,I_ 0,I_ 0,O_,O_,O_,I_ (nB 3 (nx 1 (nx 1 (nx 1 s))))] (0,0) _ Y underlying90 rfl sMsg' ?_|refine wS_ rfl 90 _ _ rfl w.heap.size #[I_ (nB 1 (nx 1 s)),I_ (nB 1 (nx 1 (nx 1 s))),I_ 5,I_ 0,I_ 0,O_,I_ 0,I_ 0,O_,O_,I_ 0,I_ 0,O_,I_ 0,I_ 0,O_,O_,O_,I_ (nB 3 (nx 1 (nx 1 (nx 1 s))))] rfl rfl 90 _ F sMsg' rfl (by simp[Value.oneCell']) ?_)
 obtain⟨x,ag,ad,V,af,ae⟩:=HX.out;refine bP_ (v:=.agg #[I_ (nB 1 (nx 1 s)),I_ (nB 1 (nx 1 (nx 1 s))),I_ 5,I_ 0,I_ 0,O_,I_ 0,I_ 0,O_,O_,I_ 0,I_ 0,O_,I_ 0,I_ 0,O_,O_,O_,I_ (nB 3 (nx 1 (nx 1 (nx 1 s))))]) (rC_ (fn:=Tryz.f62) (p:=2) (ty:=90) rfl _ _ w.heap.size 90 _ (0,0) _ rfl (sH_ _ _ _ _ _ _ F) underlying90 rfl sMsg') rfl ⟨x,by rw[ag],?_,V.mono (λq A=>by omega),af,?_,?_⟩;refine ad.stays (G:=λq=>H.heap.size<=q) (λq A=>?_) V;exact(sO_ _ w.heap.size q _ (by omega)).trans (z.out q (by omega));refine zaw.stays ae (λq A=>?_);exact(sO_ _ w.heap.size q _ (by omega)).trans (z.out q (by omega));have t:=aq.trans aa;refine⟨y.out.1.trans t.os,y.out.2.1.trans t.tape,y.out.2.2.trans t.output,by have:=t.size;have:=U.out;simp[World.setRow];omega,λq A hn=>?_⟩;exact((sO_ _ w.heap.size q _ (by omega)).trans (z.out q (by omega))).trans (t.block q A hn)
structure zys (w w':World)(e:Ending)(bs:L_):Prop where
 out:(zbt bs≠0/\e=.returned (.tuple #[.agg mz_,I_ (zbt bs)])\/zbt bs=0/\∃x:MV,e=.returned (.tuple #[.agg (mrow_ x.m),I_ 0])/\MAt w' x/\zbU (λq=>w.heap.size<=q) x/\CEq x (bs,false))
 below:B_ w w'
theorem zxq (bs:L_)(T:Q_)(n r:Nat)(w:World)(hn:n=bs.length)(C:zg w T r bs)(E:zZ bs)(hl:bs.length<=140737488355328) :
  Calls prog 41 #[.slice T n r] w λe w'=>zys w w' e bs:=by
 subst hn;refine kO_ ?A0 ?_;exact Obj.cells mz_ 90;have d:=zC w ?A0;have c:=hN_ w ?A0;have D:=ze c;by_cases h1:4000<bs.length
 .have g:Hid (zbt bs=1):=by show _=_;rw[zbt,iP_ h1]
  have aj:(4000:Int)<bs.length:=by omega
  go_in;go_upto_region 2 with fail
  generalize w.alloc ?A0=V at d c D|-;go_wp2_with (refine wS_ rfl 90 _ _ rfl w.heap.size mz_ rfl rfl 90 _ c sMsg' rfl (by simp[Value.oneCell']) ?_)
  have b:=g.out;refine bP_ (v:=.tuple #[.agg mz_,I_ 1]) (zak (fn:=Tryz.f41) (p:=2) (q:=3) (ty:=90) rfl _ _ w.heap.size 90 _ (0,0) _ (I_ 1) ⟨rfl,rfl⟩ (sH_ _ _ _ _ _ _ c) underlying90 rfl sMsg') rfl ⟨.inl ⟨by rw[b];decide,by rw[b]⟩,(Upd.setRow c).below d d.size (nR_ _)⟩
 have aj:¬(4000:Int)<bs.length:=by omega
 by_cases h2:bs=[]
 .have g:Hid (zbt bs=5):=by show _=_;rw[zbt,iN_ h1,iP_ h2]
  have ak:((bs.length:Int) == 0)=true:=by rw[h2];rfl
  clear h2 C E;go_in;go_upto_region 4 with fail
  generalize w.alloc ?A0=V at d c D|-;go_wp2_with (refine wS_ rfl 90 _ _ rfl w.heap.size mz_ rfl rfl 90 _ c sMsg' rfl (by simp[Value.oneCell']) ?_)
  have b:=g.out;refine bP_ (v:=.tuple #[.agg mz_,I_ 5]) (zak (fn:=Tryz.f41) (p:=2) (q:=3) (ty:=90) rfl _ _ w.heap.size 90 _ (0,0) _ (I_ 5) ⟨rfl,rfl⟩ (sH_ _ _ _ _ _ _ c) underlying90 rfl sMsg') rfl ⟨.inl ⟨by rw[b];decide,by rw[b]⟩,(Upd.setRow c).below d d.size (nR_ _)⟩
 have L:0<bs.length:=by cases bs with|nil=>exact absurd rfl h2|cons _ _=>simp
 have aw:(0:Int)<bs.length:=by omega
 have ak:((bs.length:Int) == 0)=false:=by simp;omega
 obtain⟨l,m,rfl,J⟩:∃l m,T=some (p_ l m)/\∀j,j<bs.length->C_ w l (m+j) (.int .u8 (bs.getD j 0)):=by
  rcases C.bytes with h|h;exact absurd h h2;exact h
 have aq:l<w.heap.size:=bL_ (J 0 L);have Y:=(d.cell (p:=p_ l m) aq).trans (J 0 L);obtain⟨ay,az⟩:=E (bs.getD 0 0) (by simp[List.getD,L]);have hK:=zta h2;have ab:zbt bs=if ¬(1<=bs.getD 0 0/\bs.getD 0 0<=5)then 3 else if(mS (bs,false)).2=true then 5 else if(mS (bs,false)).1≠[]then 4 else 0:=by rw[zbt,iN_ h1,iN_ h2]
 have H:Hid _:=ab;have ar:Hid (bs≠[]):=h2;clear ab J h2;generalize hX:bs.getD 0 0=X at*;have ai:Hid (nB 1 (bs,false)=X):=hK;clear hK hX;by_cases hk:1<=X/\X<=5;refine kV_ ?B0 ?_;exact Value.slice (some (p_ l m)) bs.length r
 .have z:=dT_ hk;have G:Hid (∀W:World,Calls prog 61 #[I_ X] W λe w'=>e=.returned (.bool true)/\W=w'):=by
   show ∀_,_;intro W;exact zkB X true W z.symm
  have U:Hid (1<=X/\X<=5):=hk;clear z;obtain⟨au,av⟩:=hk;go_in;go_upto_region 8 with(go_at_call 61;refine(G.out _).mono ?_;rintro e w9⟨rfl,rfl⟩)
  have I:B_ w ((w.alloc ?A0).alloc (.cells #[?B0,.bool false] 126)):=d.alloc d.size _;have N:=hY_ w ?A0 (.cells #[?B0,.bool false] 126);have ah:=hX_ w ?A0 (.cells #[?B0,.bool false] 126);generalize (w.alloc ?A0).alloc (.cells #[?B0,.bool false] 126)=y at I N ah|-;have ad:RdS y (w.heap.size+1) (bs,false):=⟨some (p_ l m),r,N,C.below I,λaA aB e=>by cases e;exact⟨by omega,λ_=>by omega⟩⟩;have aa:=zr5 (w.heap.size+1) (bs,false) y ad ⟨by show bs.length<=_;omega,E⟩ (by rw[ai.out];exact U.out);have ax:=ze N;have u:Hid (zbt bs=if(mS (bs,false)).2=true then 5 else if(mS (bs,false)).1≠[]then 4 else 0):=by show _=_;rw[H.out,iN_ (λh=>h U.out)]
  clear ad Y H C E d c D;go_wp2_with fail
  refine aa.mono ?_;rintro e f⟨x,he,hM,Z,ae,ac,af⟩;subst he;dsimp only;clear aa;have z3:=(af.block _ (by omega) (by omega)).trans ah;obtain⟨la,lc,M,-,-⟩:=zaw.out ac;generalize (mS (bs,false)).1=F at*;generalize (mS (bs,false)).2=ag at*;have an:=(zbR I).trans af;have al:=an.below (B:=w.heap.size) (by omega) (nR_ _);have ao:=ze M;have O:=hN_ f ?A0;have s:=zbs f mz_ (mrow_ x.m) 90;have qM:=sH_ _ _ _ (mrow_ x.m) _ _ O;have o:=(s.block _ (by omega)).trans z3;have R:=(s.block _ ao).trans M;have A:Hid (MAt f x/\zbU (λq=>y.heap.size<=q) x/\CEq x (bs,false)):=⟨hM,Z,ae⟩;clear hM Z ae ac;go_upto_region 9 with(refine wS_ rfl 90 _ _ rfl f.heap.size (mrow_ x.m) rfl rfl 90 _ O sMsg' rfl (by simp[Value.oneCell']) ?_)
  generalize (f.alloc ?A0).setRow f.heap.size (mrow_ x.m)=W4 at s qM o R|-;have t:=zm al s;have am:Hid (MAt W4 x):=A.out.1.below s;have s0:=zb R 0 (.slice la F.length lc) rfl;have s1:=zb R 1 (.bool ag) rfl;clear O z3 M s;cases ag with
  | true=>
   have g:Hid (zbt bs=5):=by show _=_;rw[u.out,iP_ rfl]
   go_wp2_with (refine wS_ rfl 90 _ _ rfl w.heap.size mz_ rfl rfl 90 _ o sMsg' rfl (by simp[Value.oneCell']) ?_)
   have b:=g.out;refine bP_ (v:=.tuple #[.agg mz_,I_ 5]) (zak (fn:=Tryz.f41) (p:=2) (q:=3) (ty:=90) rfl _ _ w.heap.size 90 _ (0,0) _ (I_ 5) ⟨rfl,rfl⟩ (sH_ _ _ _ _ _ _ o) underlying90 rfl sMsg') rfl ⟨.inl ⟨by rw[b];decide,by rw[b]⟩,(Upd.setRow o).below t t.size (nR_ _)⟩
  | false=>
   by_cases hml:F=[]
   .have g:Hid (zbt bs=0):=by show _=_;rw[u.out,iN_ (by decide),iN_ (λh=>h hml)]
    have ap:¬(0:Int)<(F.length:Int):=by rw[hml];decide
    clear hml u;go_wp2_with (first|refine wL_ rfl 90 _ rfl f.heap.size rfl 90 (mrow_ x.m) (0,0) _ qM underlying90 rfl sMsg' ?_|refine wS_ rfl 90 _ _ rfl w.heap.size (mrow_ x.m) rfl rfl 90 _ o sMsg' rfl (by simp[Value.oneCell']) ?_)
    refine bP_ (v:=.tuple #[.agg (mrow_ x.m),I_ 0]) (zak (fn:=Tryz.f41) (p:=2) (q:=3) (ty:=90) rfl _ _ w.heap.size 90 _ (0,0) _ (I_ 0) ⟨rfl,rfl⟩ (sH_ _ _ _ _ _ _ o) underlying90 rfl sMsg') rfl ⟨.inr ⟨g.out,x,rfl,?_,A.out.2.1.mono (λq hq=>by omega),A.out.2.2⟩,(Upd.setRow o).below t t.size (nR_ _)⟩;exact am.out.setRow (B:=y.heap.size) A.out.2.1 (by omega)
   have g:Hid (zbt bs=4):=by show _=_;rw[u.out,iN_ (by decide),iP_ hml]
   have ap:(0:Int)<(F.length:Int):=by have:=zdA hml;omega
   clear hml u;go_wp2_with (refine wS_ rfl 90 _ _ rfl w.heap.size mz_ rfl rfl 90 _ o sMsg' rfl (by simp[Value.oneCell']) ?_)
   have b:=g.out;refine bP_ (v:=.tuple #[.agg mz_,I_ 4]) (zak (fn:=Tryz.f41) (p:=2) (q:=3) (ty:=90) rfl _ _ w.heap.size 90 _ (0,0) _ (I_ 4) ⟨rfl,rfl⟩ (sH_ _ _ _ _ _ _ o) underlying90 rfl sMsg') rfl ⟨.inl ⟨by rw[b];decide,by rw[b]⟩,(Upd.setRow o).below t t.size (nR_ _)⟩
 have z:=dF_ hk;have G:Hid (∀W:World,Calls prog 61 #[I_ X] W λe w'=>e=.returned (.bool false)/\W=w'):=by
  show ∀_,_;intro W;exact zkB X false W z.symm
 have g:Hid (zbt bs=3):=by show _=_;rw[H.out,iP_ hk]
 clear z hk;go_in;go_upto_region 6 with(go_at_call 61;refine(G.out _).mono ?_;rintro e w9⟨rfl,rfl⟩)
 generalize w.alloc ?A0=V at d c D Y|-;go_wp2_with (refine wS_ rfl 90 _ _ rfl w.heap.size mz_ rfl rfl 90 _ c sMsg' rfl (by simp[Value.oneCell']) ?_)
 have b:=g.out;refine bP_ (v:=.tuple #[.agg mz_,I_ 3]) (zak (fn:=Tryz.f41) (p:=2) (q:=3) (ty:=90) rfl _ _ w.heap.size 90 _ (0,0) _ (I_ 3) ⟨rfl,rfl⟩ (sH_ _ _ _ _ _ _ c) underlying90 rfl sMsg') rfl ⟨.inl ⟨by rw[b];decide,by rw[b]⟩,(Upd.setRow c).below d d.size (nR_ _)⟩
structure zi6 (w w':World)(e:Ending)(bs:L_):Prop where
 out:(zbt bs≠0/\e=.returned (.tuple #[.agg mz_,I_ (zbt bs)]))\/(zbt bs=0/\∃x:MV,CEq x (bs,false)/\MAt w' x/\zbU (λq=>w.heap.size<=q) x/\((zP x.m x.car=0/\e=.returned (.tuple #[.agg (mrow_ x.m),I_ 0]))\/(zP x.m x.car≠0/\e=.returned (.tuple #[.agg mz_,I_ (zP x.m x.car)]))))
 below:B_ w w'
theorem zj0 (bs:L_)(L:Q_)(n B:Nat)(w:World)(hn:n=bs.length)(hs:zg w L B bs)(hu:zZ bs)(hl:bs.length<=140737488355328) :
  Calls prog 30 #[.slice L n B] w λe w'=>zi6 w w' e bs:=by
 refine kO_ ?A0 ?_;exact Obj.cells mz_ 90;have C:=zC w ?A0;have J:=hN_ w ?A0;have t:=ze J;have G:=zxq bs L n B _ hn (hs.below C) hu hl;clear hn hs hu hl;go_in;go_wp2_with fail
 generalize w.alloc ?A0=W0 at C J t G|-;refine G.mono ?_;rintro e b⟨ac,Z⟩;clear G;have R:=zm C Z;have I:=(Z.block _ t).trans J;have H:=ze I;rcases ac with⟨f,l⟩|⟨f,x,l,X,V,hc⟩
 .subst l;dsimp only;have y:Hid (zbt bs≠0):=f;generalize U:zbt bs=F at*;have M:Hid (zbt bs=F):=U;clear U;have ad:(F == 0)=false:=by simp[f]
  have m:=hN_ b ?A0;have d:=zbs b mz_ mz_ 90;have g:=(d.block _ H).trans I;go_upto_region 2 with(refine wS_ rfl 90 _ _ rfl b.heap.size mz_ rfl rfl 90 _ m sMsg' rfl (by simp[Value.oneCell']) ?_)
  generalize (b.alloc ?A0).setRow b.heap.size mz_=A at d g|-;have o:=zm R d;go_wp2_with (refine wS_ rfl 90 _ _ rfl w.heap.size mz_ rfl rfl 90 _ g sMsg' rfl (by simp[Value.oneCell']) ?_)
  exact bP_ (v:=.tuple #[.agg mz_,I_ F]) (zak (fn:=Tryz.f30) (p:=2) (q:=3) (ty:=90) rfl _ _ w.heap.size 90 _ (0,0) _ (I_ F) ⟨rfl,rfl⟩ (sH_ _ _ _ _ _ _ g) underlying90 rfl sMsg') rfl ⟨.inl ⟨by rw[M.out];exact y.out,by rw[M.out]⟩,(Upd.setRow g).below o o.size (nR_ _)⟩
 subst l;dsimp only;have c:Hid (zbt bs=0/\MAt b x/\zbU (λq=>W0.heap.size<=q) x/\CEq x (bs,false)):=⟨f,X,V,hc⟩;clear f X V hc;have m:=hN_ b ?A0;have d:=zbs b mz_ (mrow_ x.m) 90;have u:=sH_ _ _ _ (mrow_ x.m) _ _ m;have g:=(d.block _ H).trans I;go_upto_region 2 with(refine wS_ rfl 90 _ _ rfl b.heap.size (mrow_ x.m) rfl rfl 90 _ m sMsg' rfl (by simp[Value.oneCell']) ?_)
 generalize (b.alloc ?A0).setRow b.heap.size (mrow_ x.m)=A at d u g|-;have o:=zm R d;have E:=c.out.2.1.below d;have D:=zjT x.m x.ss x.bl x.pl x.cbl x.cpl x.vl A E.at';have T:zP x.m (zD x.m x.ss x.bl x.pl x.cbl x.cpl x.vl)=zP x.m x.car:=rfl;rw[T]at D;have aa:Hid (MAt A x):=E;clear E T m;generalize ab:b.heap.size=O at u H|-;clear ab;go_wp2_with (refine wL_ rfl 90 _ rfl O rfl 90 (mrow_ x.m) (0,0) _ u underlying90 rfl sMsg' ?_)
 refine D.mono ?_;rintro _ w5⟨rfl,s⟩;dsimp only;clear D;have q5:=zk s u;have j:=zk s g;have r:=zm o s;have N:Hid (MAt w5 x):=aa.out.below s;generalize Y:zP x.m x.car=F at*;have z:Hid (zP x.m x.car=F):=Y;clear Y;by_cases f:F=0
 .subst f;go_wp2_with (first|refine wL_ rfl 90 _ rfl O rfl 90 (mrow_ x.m) (0,0) _ q5 underlying90 rfl sMsg' ?_|refine wS_ rfl 90 _ _ rfl w.heap.size (mrow_ x.m) rfl rfl 90 _ j sMsg' rfl (by simp[Value.oneCell']) ?_)
  exact bP_ (v:=.tuple #[.agg (mrow_ x.m),I_ 0]) (zak (fn:=Tryz.f30) (p:=2) (q:=3) (ty:=90) rfl _ _ w.heap.size 90 _ (0,0) _ (I_ 0) ⟨rfl,rfl⟩ (sH_ _ _ _ _ _ _ j) underlying90 rfl sMsg') rfl ⟨.inr ⟨c.out.1,x,c.out.2.2.2,N.out.setRow c.out.2.2.1 t,c.out.2.2.1.mono (λq hq=>by omega),.inl ⟨z.out,rfl⟩⟩,(Upd.setRow j).below r r.size (nR_ _)⟩
 have y:Hid (F≠0):=f;go_wp2_with (refine wS_ rfl 90 _ _ rfl w.heap.size mz_ rfl rfl 90 _ j sMsg' rfl (by simp[Value.oneCell']) ?_)
 refine bP_ (v:=.tuple #[.agg mz_,I_ F]) (zak (fn:=Tryz.f30) (p:=2) (q:=3) (ty:=90) rfl _ _ w.heap.size 90 _ (0,0) _ (I_ F) ⟨rfl,rfl⟩ (sH_ _ _ _ _ _ _ j) underlying90 rfl sMsg') rfl ⟨.inr ⟨c.out.1,x,c.out.2.2.2,N.out.setRow c.out.2.2.1 t,c.out.2.2.1.mono (λq hq=>by omega),.inr ⟨?_,?_⟩⟩,(Upd.setRow j).below r r.size (nR_ _)⟩;rw[z.out];exact y.out;rw[z.out]
variable {w':World}{bs:L_}
theorem zi6.dec {e:Ending}(h:zi6 w w' e bs):zwG w w' e bs:=by
 refine⟨?_,h.below⟩;rcases h.out with g|⟨b,x,c,d⟩;exact .inl g;exact .inr ⟨b,x,c.1,d⟩
theorem zo0 {e:Ending}(h:zi6 w w' e bs)(p:zZ bs) :
  (∃F:Int,F≠0/\e=.returned (.tuple #[.agg mz_,I_ F]))\/∃y:MV,MAt w' y/\zbU (λq=>w.heap.size<=q) y/\zP y.m y.car=0/\y.bytes=bs/\e=.returned (.tuple #[.agg (mrow_ y.m),I_ 0])/\zhr y:=by
 rcases h.out with⟨b,c⟩|⟨b,y,f,l,m,r⟩;exact .inl ⟨_,b,c⟩;rcases r with⟨d,c⟩|⟨d,c⟩;refine .inr ⟨y,l,m,d,?_,c,f.2⟩;have o:mS (bs,false)=([],false):=by
  unfold zbt at b
  split at b
  cases b
  split at b
  cases b
  split at b
  cases b
  split at b
  cases b
  rename_i j
  split at b
  cases b
  rename_i g
  refine Prod.ext ?_ ?_;exact Decidable.not_not.1 g;exact eq_false_of_ne_true j
 exact zyk d p o f.1;exact .inl ⟨_,d,c⟩
structure zmD (w w':World)(e:Ending)(bs:L_):Prop where
 out:(e=.returned (.tuple #[.agg mz_,I_ 0])/\zcS bs)\/∃(y:MV) (r:L_),bs=y.onTape++r/\MAt w' y/\zbU (λq=>w.heap.size<=q) y/\(zaT y/\zhr y)/\e=.returned (.tuple #[.agg (mrow_ y.m),I_ (y.onTape.length:Int)])
 below:B_ w w'
theorem zo1 (bs:L_)(sa:Q_)(n ak:Nat)(w:World)(hn:n=bs.length)(hs:zg w sa ak bs)(hu:zZ bs)(hl:bs.length<=400000) :
  Calls prog 89 #[.slice sa n ak] w λe w'=>zmD w w' e bs:=by
 refine kO_ ?A0 ?_;exact Obj.cells mz_ 90;have U:=zC w ?A0;have q0:=hN_ w ?A0;by_cases f:n<2;refine kA_ ?B0 ?_;exact(#[.agg mz_,I_ 0]:X_)
 .have C:Hid (zcS bs):=by
   show zcS bs;intro w0 x r _ _ e;have:=(zet e).2.2.1;omega
  have aK:(n:Int)<2:=by omega
  clear hs hu hn hl;go_in;go_upto_region 2 with fail
  generalize w.alloc ?A0=W0 at U q0|-;go_wp2_with (refine wS_ rfl 90 _ _ rfl w.heap.size mz_ rfl rfl 90 _ q0 sMsg' rfl (by simp[Value.oneCell']) ?_)
  exact bP_ (v:=.tuple ?B0) (zak (fn:=Tryz.f89) (p:=2) (q:=3) (ty:=90) rfl _ _ w.heap.size 90 _ (0,0) _ (I_ 0) ⟨rfl,rfl⟩ (sH_ _ _ _ _ _ _ q0) underlying90 rfl sMsg') rfl ⟨.inl ⟨rfl,C.out⟩,(Upd.setRow q0).below U U.size (nR_ _)⟩
 obtain⟨b0,an⟩:∃b,bs.getD 0 0=b:=⟨_,rfl⟩;obtain⟨b1,ao⟩:∃b,bs.getD 1 0=b:=⟨_,rfl⟩;obtain⟨sb,so,rfl,hc⟩:∃sb so,sa=some (p_ sb so)/\∀j,j<bs.length->C_ w sb (so+j) (.int .u8 (bs.getD j 0)):=by
  rcases hs.bytes with h|h;subst h;simp at hn;omega;exact h
 have c0:=hc 0 (by omega);have c1:=hc 1 (by omega);rw[an]at c0;rw[ao]at c1;have aK:¬((n:Int)<2):=by omega
 have aV:(0:Int)<n:=by omega
 have aW:(1:Int)<n:=by omega
 go_in;go_upto_region 3 with fail
 have d0:(w.alloc ?A0).cell? (p_ sb so)=some (.int .u8 b0):=(cB_ (U.block sb (bL_ c0))).trans c0;have d1:=(cB_ (U.block sb (bL_ c1))).trans c1;have aC:=hs.below U;have aQ:=hu b0 (by rw[<-an];exact znh (by omega));have aR:=hu b1 (by rw[<-ao];exact znh (by omega));clear c0 c1 hc;generalize w.alloc ?A0=W0 at U q0 d0 d1 aC|-;obtain⟨L,hL⟩:∃L:Nat,b0*256+b1=L:=⟨(b0*256+b1).toNat,by omega⟩;have ar:2+b0*256+b1=((2+L:Nat):Int):=by omega
 have HF:Hid (∀(x:MV) (r:L_),bs=x.onTape++r->x.bytes.length=L/\2+L<=n/\(bs.drop 2).take L=x.bytes):=by
  show ∀_,_;intro x r e;obtain⟨f1,f2,f3,f4⟩:=zet e;have aB:x.bytes.length=L:=by omega
  rw[aB]at f4;exact⟨aB,by omega,f4⟩
 obtain⟨E,hE⟩:∃E:Nat,2+L=E:=⟨_,rfl⟩;rw[hE]at ar;have aE:Hid _:=ar;have aF:Hid _:=hs;have aG:Hid _:=hu;have Hn:Hid _:=hn;clear ar hs hu hn;go_cut [4] (λv J=>v=I_ (E:Int)/\B_ w J/\R_ J w.heap.size mz_ 90)
 case first=>
  go_region
  all_goals
   go_wp2_with fail
   go_meet
   case rel=>exact⟨by rw[<-aE.out],U.drew,q0⟩
 case rest=>
  obtain⟨rfl,ab,q2⟩:=hcut;clear U q0 d0 d1 aC;have ae:=aF.out.below ab;have hu:=aG.out;have hn:=Hn.out;generalize wc=M at ab q2 ae|-;apply_assumption;by_cases hEn:n<E
  .have aA:(n:Int)<E:=by omega
   have C:Hid (zcS bs):=by
    show zcS bs;intro w0 x r _ _ e;have:=(HF.out x r e).2.1;omega
   clear hu ae;go_wp2_with (refine wS_ rfl 90 _ _ rfl w.heap.size mz_ rfl rfl 90 _ q2 sMsg' rfl (by simp[Value.oneCell']) ?_)
   exact bP_ (v:=.tuple ?B0) (zak (fn:=Tryz.f89) (p:=2) (q:=3) (ty:=90) rfl _ _ w.heap.size 90 _ (0,0) _ (I_ 0) ⟨rfl,rfl⟩ (sH_ _ _ _ _ _ _ q2) underlying90 rfl sMsg') rfl ⟨.inl ⟨rfl,C.out⟩,(Upd.setRow q2).below ab ab.size (nR_ _)⟩
  have aA:¬((n:Int)<E):=by omega
  have aP:=ae.le;have aO:(E:Int)<=ak:=by omega
  have aJ:(2:Int)<=E:=by omega
  have ay:=(zjw (n:=2) ae (by omega)).takeR L L (by rw[List.length_drop];omega) (nR_ _) (by omega) (λe=>by cases e);have az:E=2->zg M (some (p_ sb so)) L ((bs.drop 2).take L):=by
   intro h;have aM:L=0:=by omega
   rw[aM];exact ae.takeR 0 0 (nZ_ _) (nR_ _) (nZ_ _) (λe=>by cases e)
  have al:((bs.drop 2).take L).length=L:=by rw[lT9_,List.length_drop];omega
  have am:zZ ((bs.drop 2).take L):=λz hz=>hu z (List.mem_of_mem_drop (List.mem_of_mem_take hz));have hB:Hid (∀y:MV,y.bytes=(bs.drop 2).take L->bs=y.onTape++bs.drop E/\(y.onTape.length:Int)=E):=by
   show ∀_,_;intro y hy;have aD:y.bytes.length=L:=by rw[hy,al]
   have hb:bs=b0::b1::bs.drop 2:=by
    match bs,an,ao,hn with
    | a::b::l,e1,e2,_=>
     have aH:a=b0:=e1;have aI:b=b1:=e2;rw[aH,aI];rfl
    | [],_,_,h9=>simp at h9;omega
    | [_],_,_,h9=>simp at h9;omega
   have hd:bs.drop E=(bs.drop 2).drop L:=by rw[List.drop_drop];congr 1;omega
   constructor
   rw[MV.onTape,aD,hd,hy,List.append_assoc,List.take_append_drop];rw[show(L:Int) / 256=b0 by omega,show(L:Int) % 256=b1 by omega];exact hb;rw[MV.onTape,lP_,aD]
   simp
   omega
  have av:Hid (Calls prog 30 #[.slice (some (p_ sb (so+2))) (E-2) (E-2)] M λe w'=>zi6 M w' e ((bs.drop 2).take L)):=by
   show Calls _ _ _ _ _;rw[show E-2=L by omega];exact zj0 _ _ L L M al.symm ay am (by omega)
  have aw:Hid (E=2->Calls prog 30 #[.slice (some (p_ sb so)) 0 0] M λe w'=>zi6 M w' e ((bs.drop 2).take L)):=λh=>by
   have h9:=zj0 _ _ L L M al.symm (az h) am (by omega);rw[show L=0 by omega]at h9|-;exact h9
  have ax:Hid _:=am;have HE:Hid _:=hE;clear al an ao ay az ae hu am hL aQ aR;rcases(by omega:E=2\/2<E)with hE2|hE2
  .subst hE2;have HD:Hid _:=aw.out rfl;have aX:¬((n:Int)<2):=by omega
   have aU:(2:Int)<=ak:=by omega
   clear av aw HE aA aO aJ hEn aP hn hE;go_upto_region 6 with fail
   go_cut [5,6] (λx v J=>∃A:Nat,x=(P_ A 0)/\B_ w J/\R_ J w.heap.size mz_ 90/\((∃F:Int,F≠0/\v=I_ F/\Hid (zcS bs))\/∃y:MV,v=I_ 0/\MAt J y/\zbU (λq=>M.heap.size<=q) y/\zP y.m y.car=0/\y.bytes=(bs.drop 2).take L/\R_ J A (mrow_ y.m) 90/\zhr y))
   case first=>
    clear hB;go_wp2_with fail
    refine Calls.mono (HD.out) ?_
    all_goals
     intro e c H;have ah:=H.below;have af:=zm ab ah;have z3:=zk ah q2;have HX:Hid (∀(w0:World) (x:MV) (r:L_),MAt w0 x->zaT x->bs=x.onTape++r->(bs.drop 2).take L=x.bytes/\∃m:Msg,e=.returned (.tuple #[.agg (mrow_ m),I_ 0])):=by
      show ∀_,_;intro w0 x r t f u;have g:=(HF.out x r u).2.2;rw[g]at H;obtain⟨y,_,_,_,s,_⟩:=zoS t f.check H.dec;exact⟨g,y.m,s⟩
     rcases zo0 H ax.out with⟨F,X,s⟩|⟨y,hY,Y,G,N,s,ad⟩
     .have C:Hid (zcS bs):=by
       show zcS bs;intro w0 x r t f u;obtain⟨_,m,g⟩:=HX.out w0 x r t f u;rw[s]at g
       simp at g
       exact X g.2
      clear H HX;subst s;dsimp only;have T:=hN_ c ?A0;have D:=zbs c mz_ mz_ 90;have O:=sH_ _ _ _ mz_ _ _ T;have d:=zk D z3;have o:=zm af D;go_wp2_with (refine wS_ rfl 90 _ _ rfl c.heap.size mz_ rfl rfl 90 _ T sMsg' rfl (by simp[Value.oneCell']) ?_)
      go_meet
      case rel=>exact⟨c.heap.size,rfl,o,d,.inl ⟨F,X,rfl,C⟩⟩
     .clear H HX;subst s;dsimp only;have Z:=hY;have T:=hN_ c ?A0;have D:=zbs c mz_ (mrow_ y.m) 90;have O:=sH_ _ _ _ (mrow_ y.m) _ _ T;have d:=zk D z3;have o:=zm af D;go_wp2_with (refine wS_ rfl 90 _ _ rfl c.heap.size (mrow_ y.m) rfl rfl 90 _ T sMsg' rfl (by simp[Value.oneCell']) ?_)
      go_meet
      case rel=>exact⟨c.heap.size,rfl,o,d,.inr ⟨y,rfl,hY.below D,Y,G,N,O,ad⟩⟩
   case rest=>
    obtain⟨A,rfl,o,d,h⟩:=hcut;generalize wc=W4 at o d h|-;apply_assumption;rcases h with⟨F,X,rfl,C⟩|⟨y,rfl,Z,Y,G,N,O,ad⟩
    .have aL:(F != 0)=true:=by simp[X]
     clear hB;go_wp2_with (refine wS_ rfl 90 _ _ rfl w.heap.size mz_ rfl rfl 90 _ d sMsg' rfl (by simp[Value.oneCell']) ?_)
     exact bP_ (v:=.tuple ?B0) (zak (fn:=Tryz.f89) (p:=2) (q:=3) (ty:=90) rfl _ _ w.heap.size 90 _ (0,0) _ (I_ 0) ⟨rfl,rfl⟩ (sH_ _ _ _ _ _ _ d) underlying90 rfl sMsg') rfl ⟨.inl ⟨rfl,C.out⟩,(Upd.setRow d).below o o.size (nR_ _)⟩
    obtain⟨ai,aj⟩:=hB.out y N;have ac:=zgI y.m y.ss y.bl y.pl y.cbl y.cpl y.vl W4 Z.at';have ag:zP y.m (zD y.m y.ss y.bl y.pl y.cbl y.cpl y.vl)=0:=G;rw[ag]at ac;have HR:Hid (∀(w0:World) (x:MV) (r:L_),MAt w0 x->zaT x->bs=x.onTape++r->zcO y.m 0=0):=by
     show ∀_,_;intro w0 x r t f u;have g:=(HF.out x r u).2.2;rw[zt2 (zoU t Z f.check G (N.trans g))];exact zq3 f
    have HI:Hid (zcO y.m 0=0->zaT y):=zt1 G;have ap:Hid _:=ai;have aq:Hid _:=aj;clear ai aj N G ag hB;generalize zcO y.m 0=R at*;go_wp2_with (refine zfb rfl 90 _ rfl A rfl 90 (mrow_ y.m) (0,0) _ O underlying90 rfl sMsg' ?_)
    refine ac.mono ?_;rintro e w5⟨s,aa⟩;clear ac;subst s;dsimp only;have V:=zm o aa;have I:=zk aa d;have q5:=zk aa O;have au:=Z.below aa;by_cases hR:R=0
    .have hI:Hid (zaT y):=HI.out hR;subst hR;go_wp2_with (first|refine wL_ rfl 90 _ rfl A rfl 90 (mrow_ y.m) (0,0) _ q5 underlying90 rfl sMsg' ?_|refine wS_ rfl 90 _ _ rfl w.heap.size (mrow_ y.m) rfl rfl 90 _ I sMsg' rfl (by simp[Value.oneCell']) ?_)
     exact bP_ (v:=.tuple #[.agg (mrow_ y.m),I_ ((2:Nat):Int)]) (zak (fn:=Tryz.f89) (p:=2) (q:=3) (ty:=90) rfl _ _ w.heap.size 90 _ (0,0) _ (I_ ((2:Nat):Int)) ⟨rfl,rfl⟩ (sH_ _ _ _ _ _ _ I) underlying90 rfl sMsg') rfl ⟨.inr ⟨y,bs.drop 2,ap.out,au.setRow (B:=M.heap.size) Y (ze q2),Y.mono (λq hq=>nT_ ab.size hq),⟨hI.out,ad⟩,by rw[aq.out]⟩,(Upd.setRow I).below V V.size (nR_ _)⟩
    have C:Hid (zcS bs):=by
     show zcS bs;intro w0 x r t f u;exact hR (HR.out w0 x r t f u)
    have aN:(R != 0)=true:=by simp[hR]
    go_wp2_with (refine wS_ rfl 90 _ _ rfl w.heap.size mz_ rfl rfl 90 _ I sMsg' rfl (by simp[Value.oneCell']) ?_)
    exact bP_ (v:=.tuple ?B0) (zak (fn:=Tryz.f89) (p:=2) (q:=3) (ty:=90) rfl _ _ w.heap.size 90 _ (0,0) _ (I_ 0) ⟨rfl,rfl⟩ (sH_ _ _ _ _ _ _ I) underlying90 rfl sMsg') rfl ⟨.inl ⟨rfl,C.out⟩,(Upd.setRow I).below V V.size (nR_ _)⟩
  have aS:(2:Int)<E:=by omega
  have aT:¬E=2:=by omega
  clear hn hE;go_upto_region 6 with fail
  go_cut [5,6] (λx v J=>∃A:Nat,x=(P_ A 0)/\B_ w J/\R_ J w.heap.size mz_ 90/\((∃F:Int,F≠0/\v=I_ F/\Hid (zcS bs))\/∃y:MV,v=I_ 0/\MAt J y/\zbU (λq=>M.heap.size<=q) y/\zP y.m y.car=0/\y.bytes=(bs.drop 2).take L/\R_ J A (mrow_ y.m) 90/\zhr y))
  case first=>
   clear hB;go_wp2_with fail
   refine Calls.mono (av.out) ?_
   all_goals
    intro e c H;have ah:=H.below;have af:=zm ab ah;have z3:=zk ah q2;have HX:Hid (∀(w0:World) (x:MV) (r:L_),MAt w0 x->zaT x->bs=x.onTape++r->(bs.drop 2).take L=x.bytes/\∃m:Msg,e=.returned (.tuple #[.agg (mrow_ m),I_ 0])):=by
     show ∀_,_;intro w0 x r t f u;have g:=(HF.out x r u).2.2;rw[g]at H;obtain⟨y,_,_,_,s,_⟩:=zoS t f.check H.dec;exact⟨g,y.m,s⟩
    rcases zo0 H ax.out with⟨F,X,s⟩|⟨y,hY,Y,G,N,s,ad⟩
    .have C:Hid (zcS bs):=by
      show zcS bs;intro w0 x r t f u;obtain⟨_,m,g⟩:=HX.out w0 x r t f u;rw[s]at g
      simp at g
      exact X g.2
     clear H HX;subst s;dsimp only;have T:=hN_ c ?A0;have D:=zbs c mz_ mz_ 90;have O:=sH_ _ _ _ mz_ _ _ T;have d:=zk D z3;have o:=zm af D;go_wp2_with (refine wS_ rfl 90 _ _ rfl c.heap.size mz_ rfl rfl 90 _ T sMsg' rfl (by simp[Value.oneCell']) ?_)
     go_meet
     case rel=>exact⟨c.heap.size,rfl,o,d,.inl ⟨F,X,rfl,C⟩⟩
    .clear H HX;subst s;dsimp only;have Z:=hY;have T:=hN_ c ?A0;have D:=zbs c mz_ (mrow_ y.m) 90;have O:=sH_ _ _ _ (mrow_ y.m) _ _ T;have d:=zk D z3;have o:=zm af D;go_wp2_with (refine wS_ rfl 90 _ _ rfl c.heap.size (mrow_ y.m) rfl rfl 90 _ T sMsg' rfl (by simp[Value.oneCell']) ?_)
     go_meet
     case rel=>exact⟨c.heap.size,rfl,o,d,.inr ⟨y,rfl,hY.below D,Y,G,N,O,ad⟩⟩
  case rest=>
   obtain⟨A,rfl,o,d,h⟩:=hcut;generalize wc=W4 at o d h|-;apply_assumption;rcases h with⟨F,X,rfl,C⟩|⟨y,rfl,Z,Y,G,N,O,ad⟩
   .have aL:(F != 0)=true:=by simp[X]
    clear hB;go_wp2_with (refine wS_ rfl 90 _ _ rfl w.heap.size mz_ rfl rfl 90 _ d sMsg' rfl (by simp[Value.oneCell']) ?_)
    exact bP_ (v:=.tuple ?B0) (zak (fn:=Tryz.f89) (p:=2) (q:=3) (ty:=90) rfl _ _ w.heap.size 90 _ (0,0) _ (I_ 0) ⟨rfl,rfl⟩ (sH_ _ _ _ _ _ _ d) underlying90 rfl sMsg') rfl ⟨.inl ⟨rfl,C.out⟩,(Upd.setRow d).below o o.size (nR_ _)⟩
   obtain⟨ai,aj⟩:=hB.out y N;have ac:=zgI y.m y.ss y.bl y.pl y.cbl y.cpl y.vl W4 Z.at';have ag:zP y.m (zD y.m y.ss y.bl y.pl y.cbl y.cpl y.vl)=0:=G;rw[ag]at ac;have HR:Hid (∀(w0:World) (x:MV) (r:L_),MAt w0 x->zaT x->bs=x.onTape++r->zcO y.m 0=0):=by
    show ∀_,_;intro w0 x r t f u;have g:=(HF.out x r u).2.2;rw[zt2 (zoU t Z f.check G (N.trans g))];exact zq3 f
   have HI:Hid (zcO y.m 0=0->zaT y):=zt1 G;have ap:Hid _:=ai;have aq:Hid _:=aj;clear ai aj N G ag hB;generalize zcO y.m 0=R at*;go_wp2_with (refine zfb rfl 90 _ rfl A rfl 90 (mrow_ y.m) (0,0) _ O underlying90 rfl sMsg' ?_)
   refine ac.mono ?_;rintro e w5⟨s,aa⟩;clear ac;subst s;dsimp only;have V:=zm o aa;have I:=zk aa d;have q5:=zk aa O;have au:=Z.below aa;by_cases hR:R=0
   .have hI:Hid (zaT y):=HI.out hR;subst hR;go_wp2_with (first|refine wL_ rfl 90 _ rfl A rfl 90 (mrow_ y.m) (0,0) _ q5 underlying90 rfl sMsg' ?_|refine wS_ rfl 90 _ _ rfl w.heap.size (mrow_ y.m) rfl rfl 90 _ I sMsg' rfl (by simp[Value.oneCell']) ?_)
    exact bP_ (v:=.tuple #[.agg (mrow_ y.m),I_ (E:Int)]) (zak (fn:=Tryz.f89) (p:=2) (q:=3) (ty:=90) rfl _ _ w.heap.size 90 _ (0,0) _ (I_ (E:Int)) ⟨rfl,rfl⟩ (sH_ _ _ _ _ _ _ I) underlying90 rfl sMsg') rfl ⟨.inr ⟨y,bs.drop E,ap.out,au.setRow (B:=M.heap.size) Y (ze q2),Y.mono (λq hq=>nT_ ab.size hq),⟨hI.out,ad⟩,by rw[aq.out]⟩,(Upd.setRow I).below V V.size (nR_ _)⟩
   have C:Hid (zcS bs):=by
    show zcS bs;intro w0 x r t f u;exact hR (HR.out w0 x r t f u)
   have aN:(R != 0)=true:=by simp[hR]
   go_wp2_with (refine wS_ rfl 90 _ _ rfl w.heap.size mz_ rfl rfl 90 _ I sMsg' rfl (by simp[Value.oneCell']) ?_)
   exact bP_ (v:=.tuple ?B0) (zak (fn:=Tryz.f89) (p:=2) (q:=3) (ty:=90) rfl _ _ w.heap.size 90 _ (0,0) _ (I_ 0) ⟨rfl,rfl⟩ (sH_ _ _ _ _ _ _ I) underlying90 rfl sMsg') rfl ⟨.inl ⟨rfl,C.out⟩,(Upd.setRow I).below V V.size (nR_ _)⟩
structure zze (w w':World)(e:Ending)(bs:L_)(sy:Int):Prop where
 out:(zbO bs.length sy=false/\e=.returned (.tuple #[O_,.agg #[O_,I_ 0],I_ 12]))\/(zbO bs.length sy=true/\∃(v:Value) (ys:List MV) (r:L_) (ra:Q_) (rc:Nat),(∀y∈ys,zhr y)/\bs=zv ys++r/\zcS r/\w'.ownsRow w.heap.size 90 19 v ys.length (zY ys)/\zda w' w.heap.size v ys/\zg w' ra rc (zv ys)/\(∀sb so,ra=some (p_ sb so)->w.heap.size<=sb/\sb<w'.heap.size)/\e=.returned (.tuple #[v,.agg #[.slice ra (zv ys).length rc,I_ (min sy (zv ys).length)],I_ 0]))
 below:B_ w w'
theorem zr6 (bs:L_)(m:Q_)(n c:Nat)(sy:Int)(w:World)(hn:n=bs.length)(hs:zg w m c bs)(hu:zZ bs)(hl:bs.length<=140737488355328) :
  Calls prog 51 #[.agg #[.slice m n c,I_ sy]] w λe w'=>zze w w' e bs sy:=by
 subst hn;obtain⟨i,hi,aI,aJ,aK⟩:=info_parts zkn;refine kA_ ?A0 ?_;exact(#[.slice m bs.length c,I_ sy]:X_);refine kO_ ?B0 ?_;exact Obj.cells #[O_,I_ 0] 66;refine kW_ ?C0 ?_;exact w.alloc (.cells ?A0 66);have Z:B_ w ((?C0).alloc ?B0):=((bR_ _ _).alloc (nR_ _) _).alloc (by simp) _;have r0:=hX_ w (.cells ?A0 66) ?B0;have r1:=hY_ w (.cells ?A0 66) ?B0;have T:=zhG m bs.length c sy ((?C0).alloc ?B0) hl;cases ht:zbO bs.length sy with
 | false=>
  have hF:Hid (zbO bs.length sy=false):=ht;rw[ht]at T;clear ht hs hu;go_in;go_wp2_with fail
  generalize (?C0).alloc ?B0=W0 at Z r0 r1 T|-;refine T.mono ?_;rintro _ J⟨rfl,U⟩;dsimp only;have O:=zk U r1;have d0:=zb O 0 (O_) rfl;have d1:=zb O 1 (I_ 0) rfl;have f0:=zd O 0;have f1:=zd O 1;go_wp2_with fail
  refine bP_ (v:=.tuple #[O_,.agg #[O_,I_ 0],I_ 12]) (by simp[results,results51,go_sem,d0,d1]) rfl ⟨.inl ⟨hF.out,rfl⟩,?_⟩;exact((Z.trans (U.mono Z.size)).setCell (by simp) _).setCell (by simp) _
 | true=>
  have hF:Hid (zbO bs.length sy=true):=ht;obtain⟨t1,t2,t3⟩:=zcr.1 ht;have h4:bs.length<=400000:=by omega
  rw[ht]at T;clear ht;have Hs:Hid _:=hs;have Hu:Hid _:=hu;clear hs hu;go_in;go_wp2_with fail
  generalize (?C0).alloc ?B0=W0 at Z r0 r1 T|-;refine T.mono ?_;rintro _ J⟨rfl,U⟩;dsimp only;have az:=zm Z U;have p0:=zk U r0;have O:=zk U r1;clear T Z r0 r1 U t1;have N:=ze O;go_wp2_with fail
  go_loopw [5,6] (λv j wr=>∃(k:Nat) (ys:List MV) (r:L_) (C:Value),j=I_ k/\C=v/\k<=bs.length/\Hid (bs=zv ys++r/\k=(zv ys).length)/\wr.ownsRow J.heap.size 90 19 C ys.length (zY ys)/\zda wr J.heap.size C ys/\R_ wr w.heap.size ?A0 66/\R_ wr (w.heap.size+1) #[O_,I_ 0] 66/\B_ J wr/\Hid (∀y∈ys,zhr y)) (λ_ j _=>bs.length-(intOf j).toNat)
  case atStart=>exact⟨0,[],bs,_,rfl,rfl,nZ_ _,⟨rfl,rfl⟩,oN_ _ _ _ _,(λx hx=>by cases hx),p0,O,bR_ _ _,(λx hx=>by cases hx)⟩
  case round=>
   obtain⟨k,ys,r,C,rfl,rfl,hk,t,ho,ha,q0,q1,hb,ag⟩:=hrel;have ad:=zm az hb;have ab:=Hs.out.below ad;have aO:=ab.le;have ak:Hid (bs.drop k=r):=by
    show _=_;rw[t.out.1,t.out.2,List.drop_left]
   have ax:Hid (r.length=bs.length-k):=by show _=_;rw[<-ak.out,List.length_drop]
   have aq:Hid (zZ r):=by
    show zZ r;intro z hz;exact Hu.out z (by rw[t.out.1];exact List.mem_append_right _ hz)
   have ay:Hid (ys.length<=200000):=by
    show _<=_;have h1:=zni ys (λy _=>zfW y);have h2:=t.out.2;omega
   have HA:Hid (zda wr J.heap.size C ys):=ha;clear ha;obtain⟨sx,cx,ac,au⟩:∃sx cx,Hid (Calls prog 89 #[.slice sx (bs.length-k) cx] wr λe w'=>zmD wr w' e r)/\((k=c/\bs.length=c/\sx=m/\cx=0)\/(∃d l,m=some (p_ d l)/\k<c/\sx=some (p_ d (l+k))/\cx=c-k)):=by
    have aR:=ax.out;by_cases af:k=c;refine⟨m,0,?_,.inl ⟨af,by omega,rfl,rfl⟩⟩;show Calls _ _ _ _ _;have aH:r=[]:=List.length_eq_zero_iff.1 (by omega);refine zo1 r _ _ 0 wr (by omega) ?_ aq.out (by omega);have:=ab.takeR 0 0 (nZ_ _) (nR_ _) (nZ_ _) (λ_=>rfl);rw[aH]
    simpa using this
    rcases ab.some with h|⟨d,l,h⟩;omega;subst h;refine⟨some (p_ d (l+k)),c-k,?_,.inr ⟨d,l,rfl,by omega,rfl,rfl⟩⟩;show Calls _ _ _ _ _;refine zo1 r _ _ (c-k) wr (by omega) ?_ aq.out (by omega);rw[<-ak.out];exact zjw ab hk
   have c0:=zb q0 0 (.slice m bs.length c) rfl;have c1:=zb q0 1 (I_ sy) rfl;have HS:Hid (∀(W:World) (mm:Int),B_ w W->Calls prog 88 #[.agg ?A0,I_ (k:Int),I_ mm] W λe w'=>∃I rc,e=.returned (.agg #[.slice I k rc,I_ mm])/\zg w' I rc (bs.take k)/\(∀d l,I=some (p_ d l)->W.heap.size<=d/\d<w'.heap.size)/\B_ W w'):=by
    show ∀_,_;intro W mm hW;exact zh1 bs m _ c k sy mm W rfl (Hs.out.below hW) hk hl
   have HT:Hid (bs.take k=zv ys):=by show _=_;rw[t.out.1,t.out.2,List.take_left]
   have kI:(k:Int)<=bs.length:=by omega
   have k0:(0:Int)<=k:=by omega
   clear ab;go_upto_region 5 with fail
   go_cut [7,8]from 13 to 37 (λp v wx=>∃A:Nat,p=(P_ A 0)/\wr.heap.size<=A/\B_ wr wx/\((v=I_ 0/\Hid (zcS r))\/∃(y:MV) (B:L_),v=I_ (y.onTape.length:Int)/\Hid (r=y.onTape++B/\MAt wx y/\zaT y/\zbU (λq=>wr.heap.size<=q) y/\zhr y)/\R_ wx A (mrow_ y.m) 90))
   case first=>
    clear HS HT ak ax aq ay t HA Hs Hu ho q1 hF t2 t3 hl;rcases au with⟨af,aD,rfl,rfl⟩|⟨d,l,rfl,af,rfl,rfl⟩;have aE:(bs.length:Int)<=c:=by omega
    have aA:Hid (Calls prog 89 #[.slice sx 0 0] wr λe w'=>zmD wr w' e r):=by
     have h:=ac.out;rw[show bs.length-k=0 by omega]at h;exact h
    subst af;clear aD ac;go_wp2_with fail
    refine aA.out.mono ?_
    rotate_left
    have aE:(bs.length:Int)<=c:=by omega
    have aN:(k:Int)<c:=by omega
    go_wp2_with fail
    refine ac.out.mono ?_
    rotate_left
    all_goals
     rintro e w2 F;have f:=F.below;have u:=zm ad f;rcases F.out with⟨o,M⟩|⟨y,B,aa,hY,hH,⟨hI,ah⟩,o⟩
     all_goals
      clear F;subst o;dsimp only;have H:=hN_ w2 (.cells mz_ 90)
     .have E:=zbs w2 mz_ mz_ 90;have R:=zm f E;have hN:Hid (zcS r):=M;clear M;go_wp2_with (refine wS_ rfl 90 _ _ rfl w2.heap.size mz_ rfl rfl 90 _ H sMsg' rfl (by simp[Value.oneCell']) ?_)
      go_meet
      case rel=>exact⟨w2.heap.size,rfl,f.size,R,.inl ⟨rfl,hN⟩⟩
     .have E:=zbs w2 mz_ (mrow_ y.m) 90;have q4:=sH_ _ _ _ (mrow_ y.m) _ _ H;have R:=zm f E;have D:Hid (r=y.onTape++B/\MAt ((w2.alloc (.cells mz_ 90)).setRow w2.heap.size (mrow_ y.m)) y/\zaT y/\zbU (λq=>wr.heap.size<=q) y/\zhr y):=⟨aa,hY.below E,hI,hH,ah⟩;clear aa hY hI hH;go_wp2_with (refine wS_ rfl 90 _ _ rfl w2.heap.size (mrow_ y.m) rfl rfl 90 _ H sMsg' rfl (by simp[Value.oneCell']) ?_)
      go_meet
      case rel=>exact⟨w2.heap.size,rfl,f.size,R,.inr ⟨y,B,rfl,D,q4⟩⟩
   case rest=>
    obtain⟨A,rfl,aL,f,h⟩:=hcut;generalize wc=Y at f h|-;apply_assumption;clear ac au c0 c1;have u0:=zk f q0;have u1:=zk f q1;have u:=zm ad f;have s:=zm hb f;have an:=zw ho f;rcases h with⟨rfl,M⟩|⟨y,B,rfl,D,qy⟩
    .have ar:Hid (zda Y J.heap.size C ys):=HA.out.below f;have c0:=zb u0 0 (.slice m bs.length c) rfl;have c1:=zb u0 1 (I_ sy) rfl;by_cases hm:sy<=k;have am:Hid (sy=min sy (k:Int)):=by show _=_;omega
     go_wp2_with fail
     refine(HS.out Y sy u).mono ?_
     rotate_left
     have am:Hid ((k:Int)=min sy (k:Int)):=by show _=_;omega
     have aP:(k:Int)<sy:=by omega
     go_wp2_with fail
     refine(HS.out Y (k:Int) u).mono ?_
     rotate_left
     all_goals
      rintro e w3⟨I,rc,o,ap,V,s⟩;subst o;dsimp only;have al:=ze u1;have G:=(s.block _ al).trans u1;have d0:=zb G 0 (O_) rfl;have d1:=zb G 1 (I_ 0) rfl;have f0:=zd G 0;have f1:=zd G 1;have ao:=zw an s;have ai:=ar.out.below s;clear c0 c1;go_wp2_with fail
     .refine bP_ (v:=.tuple #[C,.agg #[.slice I k rc,I_ sy],I_ 0]) (by simp[results,results51,go_sem,d0,d1]) rfl ⟨.inr ⟨hF.out,C,ys,r,I,rc,ag.out,t.out.1,M.out,?_,?_,?_,?_,?_⟩,?_⟩;exact zcX (zQ (zQ ao _ _ _ N) _ _ _ N) (by omega);exact((ai.far (b:=w.heap.size+1) N (λq X=>hO_ _ (p_ (w.heap.size+1) 0) q _ X)).far (b:=w.heap.size+1) N (λq X=>hO_ _ (p_ (w.heap.size+1) 1) q _ X)).mono (by omega);rw[<-HT.out];exact(ap.setCellT _ _ _ (λd l e=>by have:=(V d l e).1;omega)).setCellT _ _ _ (λd l e=>by have:=(V d l e).1;omega);intro d l e;obtain⟨g1,g2⟩:=V d l e;have:=u.size;exact⟨by omega,by simpa using g2⟩;rw[<-t.out.2,<-am.out];exact((u.trans (s.mono u.size)).setCell (by simp) _).setCell (by simp) _
     refine bP_ (v:=.tuple #[C,.agg #[.slice I k rc,I_ (k:Int)],I_ 0]) (by simp[results,results51,go_sem,d0,d1]) rfl ⟨.inr ⟨hF.out,C,ys,r,I,rc,ag.out,t.out.1,M.out,?_,?_,?_,?_,?_⟩,?_⟩;exact zcX (zQ (zQ ao _ _ _ N) _ _ _ N) (by omega);exact((ai.far (b:=w.heap.size+1) N (λq X=>hO_ _ (p_ (w.heap.size+1) 0) q _ X)).far (b:=w.heap.size+1) N (λq X=>hO_ _ (p_ (w.heap.size+1) 1) q _ X)).mono (by omega);rw[<-HT.out];exact(ap.setCellT _ _ _ (λd l e=>by have:=(V d l e).1;omega)).setCellT _ _ _ (λd l e=>by have:=(V d l e).1;omega);intro d l e;obtain⟨g1,g2⟩:=V d l e;have:=u.size;exact⟨by omega,by simpa using g2⟩;rw[<-t.out.2,<-am.out];exact((u.trans (s.mono u.size)).setCell (by simp) _).setCell (by simp) _
    have aQ:=zfW y;have ae:Hid (bs=zv (ys++[y])++B/\k+y.onTape.length=(zv (ys++[y])).length):=by
     show _/\_;rw[zfQ,List.append_assoc,<-D.out.1,lP_,<-t.out.2];exact⟨t.out.1,rfl⟩
    have aw:k+y.onTape.length<=bs.length:=by
     have h1:=ae.out.1;have h2:=ae.out.2;rw[h1,lP_];omega
    have aU:((y.onTape.length:Int) == 0)=false:=by rw[beq_eq_false_iff_ne];omega
    have aT:k+y.onTape.length<=400000:=by omega
    have aS:IntKind.i64.wrap ((k:Int)+(y.onTape.length:Int))=((k+y.onTape.length:Nat):Int):=by rw[IntKind.wrap_i64];omega
    have aV:=ay.out;have HB:Hid _:=ae;have HK:Hid _:=aw;clear ae aw HS HT t;generalize y.onTape.length=L at*;go_wp2_with (first|refine wL_ rfl 90 _ rfl A rfl 90 (mrow_ y.m) (0,0) _ qy underlying90 rfl sMsg' ?_|(at_builtin;go_loud (refine wpList_append_own_at _ rfl _ _ 67 rfl J.heap.size 90 i (.agg mz_) 19 264 underlying67 hi aI aJ aK rfl (by decide) _ ys.length _ rfl (oA_ an _) (p_ Y.heap.size 0) 1 1 (zcR y.m) rfl (zd7 y.m) (zag _ _ _) (zfv y.m) (by unfold maxLen;omega) (by omega) (zB s.size _) ?_;intro v6 w6 aF av _ aC)))
    have G6:=zV.of av aC;have aB:=HA.out.more hb.size ho f D.out.2.1 D.out.2.2.1 D.out.2.2.2.1 G6;have aj:=Below.grown (s.alloc s.size (.cells (zcR y.m).toArray 90)) av (zB s.size _) (λq e=>(ho.lt q e).1);have aG:w6.ownsRow J.heap.size 90 19 v6 (ys++[y]).length (zY (ys++[y])):=by rw[zfi,lP_];exact aF
    have s0:=(aj.block _ (by omega)).trans p0;have s1:=(aj.block _ (by omega)).trans O;go_roundw
    case rel=>
     exact⟨k+L,ys++[y],B,v6,by go_num,rfl,HK.out,HB,aG,aB,s0,s1,aj,(λz hz=>by rcases mA_.1 hz with g|g;exact ag.out z g;rw[mS_.1 g];exact D.out.2.2.2.2)⟩
    case measure=>have aM:=HK.out;simp[intOf];omega
end Go.Proofs.YtpnpikpmdfipfaaGreatDoor
