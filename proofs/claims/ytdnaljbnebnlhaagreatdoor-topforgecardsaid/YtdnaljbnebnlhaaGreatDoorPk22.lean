import Derived.Test.YtdnaljbnebnlhaaGreatDoorPk21
set_option maxRecDepth 100000
set_option maxHeartbeats 4000000
namespace Go.Proofs.YtdnaljbnebnlhaaGreatDoor
open Go.RowKit Tryz
variable {l:List SV}
theorem zgi (l:List SV)(b:Ct):zcL l b.au b.rd b.bl b.pl=zaf l b.v:=by
 have c:zO b.v.au b.v.rd (pz b.v.bl) (pz b.v.pl)=zO b.au b.rd b.bl b.pl:=zfk (zcH b.bl) (zcH b.pl);have d:zaE b.v.au b.v.rd (pz b.v.bl) (pz b.v.pl)=zaE b.au b.rd b.bl b.pl:=by rw[Ct.d_v];rfl
 rw[zaf,zcL,zcL,c,d]
 rfl
theorem zvO {s:SV}(h:(za6 l s).2=0):za6 l s=(l,0)\/(za6 l s=(l++[s],0)/\l.length<400):=by
 cases hm:zbp l s.1 s.2.1 l.length with
 | some m=>
  by_cases g:txL (zd1 l m).2.2=txL s.2.2
  .exact .inl (ziG hm g)
  .rw[zhY hm g]at h;cases h
 | none=>
  by_cases g:400<=l.length
  .rw[ziH hm g]at h;cases h
  .exact .inr ⟨zjL hm g,by omega⟩
theorem zlb {h:CV}(b:(zaf l h).2.2=0):zdt l=0/\h.hf=0/\(zaf l h).2.1=h.slot/\((zaf l h).1=l\/((zaf l h).1=l++[h.slot]/\l.length<400)):=by
 unfold zaf zcL at b|-;by_cases h1:zdt l≠0
 .rw[if_pos h1]at b;cases b
 .by_cases h2:zO h.au h.rd (pz h.bl) (pz h.pl)≠0
  .rw[if_neg h1,if_pos h2]at b;exact absurd b h2
  .rw[if_neg h1,if_neg h2]at b|-;by_cases h3:(za6 l (h.au,h.rd,zaE h.au h.rd (pz h.bl) (pz h.pl))).2≠0
   .rw[if_pos h3]at b;exact absurd b h3
   .rw[if_neg h3];refine⟨Decidable.of_not_not h1,Decidable.of_not_not h2,rfl,?_⟩;have d:(za6 l h.slot).2=0:=Decidable.of_not_not h3;rcases zvO d with g|⟨g,c⟩
    .exact .inl (congrArg Prod.fst g)
    .exact .inr ⟨congrArg Prod.fst g,c⟩
theorem NM.v_tab (x:NM)(a:Option Addr)(c:Nat)(l:List Sl):({ x with ta:=a,tc:=c,tab:=l }:NM).v={ x.v with k:={ x.v.k with tab:=vs l } }:=rfl
theorem za3.tab_ {n:Nd}(h:za3 n){l:List SV}(b:l.length<=400000)(c:∀s∈l,zaN s.2.2):za3 { n with k:={ n.k with tab:=l } }:=
 ⟨h.nu,h.pool,h.sh,h.shf,h.dag,h.own,h.ovl,h.vot,h.tape,h.syn,h.wai,h.trn,b,c,h.u8s,h.ou8,h.du8⟩
theorem zfy (h:CV):zaN h.slot.2.2:=zkk _ _ _ _
theorem zoZ {h:CV}(f:h.hf=0):zbf h.slot.1 h.slot.2.1 h.slot.2.2.length=0:=by
 obtain⟨b,c,_⟩:=zbi (show zO h.au h.rd (pz h.bl) (pz h.pl)=0 from f);have d:h.d.length=32:=h.d_length;show zbf h.au h.rd h.d.length=0;rw[d,zbf];simp[b,c]
variable {w w2 w1:World}{U U1:Nat->Bool}{F n o base c':Nat}{fc:Array Value}{T:TypeId}{x:NM}{xs:List Value}{a':Option Addr}
theorem zo.hideRow {s:Nat}{e:TypeId}{a:Option Addr}{m c:Nat}(h:zo w U F o T fc x)(d:B_ w w2)(y:w2.ownsRow base e s (.slice a m c) n xs)(u:∀q,ob a=some q->w.heap.size<=q) :
  zo w2 (zaF U (ob a)) F o T fc x/\NTo U (zaF U (ob a)) w w2 F o fc fc x x:=by
 have r:zao U (zaF U (ob a)) w w2:=⟨d.os,d.tape,d.output,d.size,λb l _=>d.block b l,λb l=>by
  cases hu:U b with
  | true=>exact zaB hu
  | false=>exact zbw hu (λe=>by have:=u b e;omega)⟩
 have f:=r.sub;have g:=h.below d;refine⟨⟨g.blk,h.siz,h.cel,zaB h.fu,λb e=>⟨zaB (h.su b e).1,(h.su b e).2⟩,?_,h.tabs.sub f,h.etx.sub f,g.rsh,λs m=>(h.esh s m).sub f,g.rtb,λs m=>(h.etb s m).sub f,⟨g.stk.box,g.stk.rc,g.stk.rd,λc j=>(h.stk.ec c j).sub f,λp z=>(h.stk.ed p z).sub f,h.stk.same,λc j b d=>by rw[r.us b (by have:=(h.stk.ec c j).block_lt b d;rwa [zch]at this)];exact h.stk.ic c j b d⟩,h.hdr.sub f,h.slt.sub f,g.rvo,h.tap.sub f,h.ems,g.rwa,λm e=>(h.ewa m e).sub f,h.inv⟩,?_⟩
 .intro b t;have:=(h.bnd.grew d.size y) b (by rw[zdb];exact t);exact this
 .exact⟨d.os,d.tape,d.output,d.size,λb l _ _=>d.block b l,r.us,λ_ h=>.inl h,rfl,λ_ _=>rfl⟩
theorem zo.late_tab {l:Array Value}{d:NM}{l':List Sl}(n:NTo U U1 w w1 F o fc l x d)(h:zo w1 U1 F o T l d)(r:∀q,ob a'=some q->w.heap.size<=q/\U1 q=true/\q≠F)
  (D:w1.ownsRow 0 53 3 (.slice a' l'.length c') l'.length (slv l')) (A:∀s∈l',zg (zq U1 w1) s.p.sa s.p.cap s.p.bs) (B:za3 ({ d with ta:=a',tc:=c',tab:=l' }:NM).v) :
  ∃u t,zo (w1.setCell ⟨F,o+5,none⟩ (.slice a' l'.length c')) U1 F o T u t/\NTo U U1 w (w1.setCell ⟨F,o+5,none⟩ (.slice a' l'.length c')) F o fc u x t/\t.v=({ d with ta:=a',tc:=c',tab:=l' }:NM).v:=by
 refine kW_ ?A0 ?_;exact w1.setCell ⟨F,o+5,none⟩ (.slice a' l'.length c');have C:zq U1 ?A0=zq U1 w1:=zb3 h.fu _ _;have p:∀b,b≠F->(?A0).heap[b]? = w1.heap[b]?:=λb f=>hO_ w1 ⟨F,o+5,none⟩ b _ f;have g:∀b,d.S b->(?A0).heap[b]? = w1.heap[b]?:=λb e=>p b (h.su b e).2;have c:Sub (zq U1 w1) (zq U1 ?A0):=by rw[C];exact Sub.refl _
 refine⟨l.setIfInBounds (o+5) (.slice a' l'.length c'),{ d with ta:=a',tc:=c',tab:=l' },⟨zbb h.blk _,by simpa using h.siz,h.cel.set h.siz 5 (by decide) _ rfl,h.fu,?_,λb f=>by simpa using h.bnd b f,h.tabs.sub c,h.etx.sub c,
  zu h.rsh (λq e=>g q (.inr (.inr (.inr (.inl (zp e)))))),λs m=>(h.esh s m).sub c,zu D (λq e=>p q (r q (zp e)).2.2),λs m=>(A s m).sub c,h.stk.keep c (λ_ _=>rfl) (λb e=>g b (by
   rcases e with e|e|e
   .exact .inl e
   .exact .inr (.inl e)
   .exact .inr (.inr (.inl e)))),h.hdr.sub c,h.slt.sub c,zu h.rvo (λq e=>g q (.inr (.inr (.inr (.inr (.inr (.inl (zp e)))))))),h.tap.sub c,h.ems,zu h.rwa (λq e=>g q (.inr (.inr (.inr (.inr (.inr (.inr (zp e)))))))),λs m=>(h.ewa s m).sub c,B⟩,⟨n.os,n.tape,n.output,by simpa using n.size,λb f E y=>(p b y).trans (n.block b f E y),n.us,?_,by simpa using n.fsz,λj z=>by rw[zip _ o 5 _ (by decide) j z];exact n.far j z⟩,rfl⟩
 .intro b e;rcases e with e|e|e|e|e|e|e
  .exact h.su b (.inl e)
  .exact h.su b (.inr (.inl e))
  .exact h.su b (.inr (.inr (.inl e)))
  .exact h.su b (.inr (.inr (.inr (.inl e))))
  .exact(r b e).2
  .exact h.su b (.inr (.inr (.inr (.inr (.inr (.inl e))))))
  .exact h.su b (.inr (.inr (.inr (.inr (.inr (.inr e))))))
 .intro b e;rcases e with e|e|e|e|e|e|e
  .exact n.new b (.inl e)
  .exact n.new b (.inr (.inl e))
  .exact n.new b (.inr (.inr (.inl e)))
  .exact n.new b (.inr (.inr (.inr (.inl e))))
  .exact .inr (r b e).1
  .exact n.new b (.inr (.inr (.inr (.inr (.inr (.inl e))))))
  .exact n.new b (.inr (.inr (.inr (.inr (.inr (.inr e))))))
theorem sSl:(prog.info? 53).map (·.size)=some 3:=by kernel_rfl
theorem sNo:(prog.info? 108).map (·.size)=some 2:=by kernel_rfl
theorem zo.tabAt (h:zo w U F o T fc x):zeb w x.ta x.tc x.tab:=by
 have d:=h.rtb;have y:x.tab.length<=400000:=by have:=h.inv.tab;simpa[NM.v,vs]using this
 have k:=zK U w;rcases d.2 with⟨e,m⟩|⟨g,t,u,e,r⟩
 all_goals
  simp only[Value.slice.injEq]at e;obtain⟨b,_,c⟩:=e
 .have q:x.tab=[]:=eN_ m;rw[b,c,q];exact zkj w
 .rw[b,c]at d|-;refine⟨r.2.2.1,nT_ r.2.2.2.1 (by decide),by omega,.inr ⟨g,0,rfl⟩,⟨.inr ⟨g,0,rfl,λj l=>?_⟩,λs p=>(h.etb s p).sub k⟩⟩;have e:∀i,i<3->w.cell? ⟨g,j*3+i,none⟩=(x.tab[j]).cs[i]?:=λi f=>by rw[World.ownsRow.cellAt d (j*3+i) (by omega),zti x.tab j i l f]
  simp only[Nat.zero_add];exact⟨e 0 (by omega),e 1 (by omega),e 2 (by omega)⟩
theorem zvP {n:Nd}{o:No}{h:CV}(b:(decide (h.au=n.nu)||!n.k.knows h||!o.signed h.au h.slot)=true):n.hearO o h=n:=by
 refine if_pos ?_;simp only[Bool.or_eq_true,decide_eq_true_eq,Bool.not_eq_true']at b;rcases b with(g|g)|g
 .exact .inl g
 .exact .inr (.inl g)
 .exact .inr (.inr (.inr g))
theorem zua {n:Nd}{o:No}{h:CV}(c:h.hf=0)(b:(decide (h.au=n.nu)||!n.k.knows h||!o.signed h.au h.slot)=false):n.hearO o h=if(zaf n.k.tab h).2.2≠0 then n
 else if n.k.tab.length<(zaf n.k.tab h).1.length then
  (if n.room (zcE h.slot)then(n.log (zcE h.slot) { n.k with tab:=(zaf n.k.tab h).1 }).send h.au (zcE h.slot)else n)
 else n.send h.au (zcE h.slot):=by
 refine if_neg ?_;simp only[Bool.or_eq_false_iff,decide_eq_false_iff_not,Bool.not_eq_false']at b;intro g;rcases g with g|g|g|g
 .exact b.1.1 g
 .rw[b.1.2]at g;cases g
 .exact g c
 .rw[b.2]at g;cases g
theorem zr2 (x:NM)(c:Ct)(M:Int)(L:List Sg)(ga:Option Addr)(gc:Nat)(w:World)(U:Nat->Bool)(F o:Nat)(T:TypeId)(fc:Array Value)(h:zo w U F o T fc x)(hH:HAt (zq U w) c.ba c.bc c.bl c.pa c.pc c.pl)(hf:c.v.hf=0)(hg:zdj (zq U w) ga gc L) :
  Calls prog 127 #[P_ F o,.agg (hrow_ c),.agg #[I_ M,.slice ga L.length gc]] w λe w'=>(∃v,e=.returned v)/\zal w U F o T fc x w' (x.v.hearO ⟨M,gvs L⟩ c.v):=by
 have hA:B_ w ((w.alloc (.cells (hrow_ c) 61)).alloc (.cells #[I_ M,.slice ga L.length gc] 108)):=((bR_ _ _).alloc (nR_ _) _).alloc (by simp) _;have q0:=hX_ w (.cells (hrow_ c) 61) (.cells #[I_ M,.slice ga L.length gc] 108);have q1:=hY_ w (.cells (hrow_ c) 61) (.cells #[I_ M,.slice ga L.length gc] 108);have bC:0<=c.au/\c.au<4:=(zbi (by rw[<-Ct.hf_v]at hf;exact hf)).1;go_in;go_upto_region 1 with fail
 generalize ((w.alloc (.cells (hrow_ c) 61)).alloc (.cells #[I_ M,.slice ga L.length gc] 108))=W0 at hA q0 q1|-;have h0:=h.below hA;have aB:=hH.sub (h.later hA);have bD:=hg.sub (h.later hA);have bn:Hid (U w.heap.size=false/\U (w.heap.size+1)=false):=⟨h.bnd.new (nR_ _),h.bnd.new (Nat.le_succ _)⟩;have bx:=NTo.below (F:=F) (o:=o) U fc x hA;have c0:W0.cell? ⟨F,o,none⟩=some (I_ x.nu):=h0.cell 0 _ rfl;generalize w.heap.size+1=B1 at q1 bn|-;generalize w.heap.size=R at q0 bn|-;clear hA;go_cut [28] (λu wx=>u=.bool (decide (c.v.au=x.v.nu)||!x.v.k.knows c.v||!No.signed ⟨M,gvs L⟩ c.v.au c.v.slot)/\B_ W0 wx)
 case first=>
  by_cases e1:c.au=x.nu
  .have HV:Hid ((decide (c.v.au=x.v.nu)||!x.v.k.knows c.v||!No.signed ⟨M,gvs L⟩ c.v.au c.v.slot)=true):=by show _=_;rw[dT_ (show c.v.au=x.v.nu from e1)];rfl
   have aJ:(c.au == x.nu)=true:=by simpa using e1
   clear e1;have D:=dB_ W0;have ac:=dC_ c0;have ae:=dQ_ q0;have af:=dQ_ q1;refine wR_ (S:=λw'=>w'.cell? ⟨F,o,none⟩=some (I_ x.nu)/\R_ w' R (hrow_ c) 61/\R_ w' B1 #[I_ M,.slice ga L.length gc] 108) (by kernel_rfl) ⟨ac,ae,af⟩ (λm=>?_);generalize W0.drew=H at D ac ae af m|-;refine zU 0 10 (P_ R 0) rfl rfl m ?_;simp only[zf];refine tQ_ 1 11 (I_ c.au) rfl rfl (Or.inl ⟨by rfl,λw0 J=>by have k0:=zb J.2.1 0 _ rfl;go_simp⟩) m ?_;simp only[zf];refine tks_ 6 [(2,12,(P_ F o)),(3,13,(P_ F o)),(4,14,(P_ F o)),(5,15,I_ x.nu),(6,16,.bool (c.au == x.nu)),(7,17,.bool (c.au == x.nu))] m ?_;simp only[tkf_,zf];rw[aJ];refine tks_ 11 [(8,18,undef),(9,19,undef),(10,20,undef),(11,21,undef),(12,22,.bool true),(13,23,.bool true),(14,24,undef),(15,25,undef),(16,26,undef),(17,27,undef),(18,28,.bool true)] m ?_;simp only[tkf_,zf];clear m;refine wD_ (by kernel_rfl) ?_ _;go_wp2_with fail
   go_meet
   case rel=>exact⟨by rw[HV.out],D⟩
  .have HE:Hid (decide (c.v.au=x.v.nu)=false):=dF_ e1;have aJ:(c.au == x.nu)=false:=by simpa using e1
   clear e1;cases hk:x.v.k.knows c.v with
   | false=>
    have HK:Hid _:=hk;clear hk;have aY:Hid (∀W:World,B_ W0 W->Calls prog 163 #[P_ F o,.agg (hrow_ c)] W λe w'=>e=.returned (.bool false)/\B_ W w'):=by
     show ∀W,_;intro W Y;rw[<-HK.out];exact zlT x c W U F o T fc (h0.below Y) ((aB.sub (zK U W0)).below Y) hf
    have D:=dB_ W0;have ac:=dC_ c0;have ae:=dQ_ q0;have af:=dQ_ q1;refine wR_ (S:=λw'=>w'.cell? ⟨F,o,none⟩=some (I_ x.nu)/\R_ w' R (hrow_ c) 61/\R_ w' B1 #[I_ M,.slice ga L.length gc] 108) (by kernel_rfl) ⟨ac,ae,af⟩ (λm=>?_);generalize W0.drew=H at D ac ae af m|-;refine zU 0 10 (P_ R 0) rfl rfl m ?_;simp only[zf];refine tQ_ 1 11 (I_ c.au) rfl rfl (Or.inl ⟨by rfl,λw0 J=>by have k0:=zb J.2.1 0 _ rfl;go_simp⟩) m ?_;simp only[zf];refine tks_ 6 [(2,12,(P_ F o)),(3,13,(P_ F o)),(4,14,(P_ F o)),(5,15,I_ x.nu),(6,16,.bool (c.au == x.nu)),(7,17,.bool (c.au == x.nu))] m ?_;simp only[tkf_,zf];rw[aJ];refine zU 8 18 (P_ F o) rfl rfl m ?_;simp only[zf];refine tQ_ 9 19 (.agg (hrow_ c)) rfl rfl (Or.inl ⟨by rfl,λw0 J=>zL 61 _ rfl R rfl 61 (hrow_ c) (0,0) _ J.2.1 underlying61 rfl sHd⟩) m ?_;simp only[zf];refine zE 10 rfl (λK9 N=>?_);refine zaJ (by rfl) 20 rfl 163 [.tmp 18,.tmp 19] #[127,61] rfl [P_ F o,.agg (hrow_ c)] rfl (eO_ func163) (λv w'=>v=.bool false/\B_ H w') ((aY.out H D).mono (λe w' k=>⟨_,k.1,rfl,k.2⟩)) ?_;rintro v E⟨rfl,O⟩;have I:=zm D O;have ap:=zr O ac;have aw:=zk O ae;have ax:=zk O af;refine N.out _ _ ⟨ap,aw,ax⟩ (λm=>?_);simp only[zf];refine tks_ 8 [(11,21,.bool (!false)),(12,22,.bool (!false)),(13,23,.bool (!false)),(14,24,undef),(15,25,undef),(16,26,undef),(17,27,undef),(18,28,.bool true)] m ?_;simp only[tkf_,zf];clear m;refine wD_ (by kernel_rfl) ?_ _;go_wp2_with fail
    go_meet
    case rel=>exact⟨by rw[HE.out,HK.out];rfl,I⟩
   | true=>
    have HK:Hid _:=hk;clear hk;have aY:Hid (∀W:World,B_ W0 W->Calls prog 163 #[P_ F o,.agg (hrow_ c)] W λe w'=>e=.returned (.bool true)/\B_ W w'):=by
     show ∀W,_;intro W Y;rw[<-HK.out];exact zlT x c W U F o T fc (h0.below Y) ((aB.sub (zK U W0)).below Y) hf
    cases hs:No.signed ⟨M,gvs L⟩ c.v.au c.v.slot with
    | false=>
     have HS:Hid _:=hs;clear hs;have be:Hid (∀W:World,B_ W0 W->Calls prog 164 #[.agg (hrow_ c),.agg #[I_ M,.slice ga L.length gc]] W λe w'=>e=.returned (.bool false)/\B_ W w'):=by
      show ∀W,_;intro W Y;rw[<-HS.out];exact zjZ M L ga gc c W ((bD.sub (zK U W0)).below Y) ((aB.sub (zK U W0)).below Y) hf ((h0.below Y).tabs.sub (zK _ _))
     have D:=dB_ W0;have ac:=dC_ c0;have ae:=dQ_ q0;have af:=dQ_ q1;refine wR_ (S:=λw'=>w'.cell? ⟨F,o,none⟩=some (I_ x.nu)/\R_ w' R (hrow_ c) 61/\R_ w' B1 #[I_ M,.slice ga L.length gc] 108) (by kernel_rfl) ⟨ac,ae,af⟩ (λm=>?_);generalize W0.drew=H at D ac ae af m|-;refine zU 0 10 (P_ R 0) rfl rfl m ?_;simp only[zf];refine tQ_ 1 11 (I_ c.au) rfl rfl (Or.inl ⟨by rfl,λw0 J=>by have k0:=zb J.2.1 0 _ rfl;go_simp⟩) m ?_;simp only[zf];refine tks_ 6 [(2,12,(P_ F o)),(3,13,(P_ F o)),(4,14,(P_ F o)),(5,15,I_ x.nu),(6,16,.bool (c.au == x.nu)),(7,17,.bool (c.au == x.nu))] m ?_;simp only[tkf_,zf];rw[aJ];refine zU 8 18 (P_ F o) rfl rfl m ?_;simp only[zf];refine tQ_ 9 19 (.agg (hrow_ c)) rfl rfl (Or.inl ⟨by rfl,λw0 J=>zL 61 _ rfl R rfl 61 (hrow_ c) (0,0) _ J.2.1 underlying61 rfl sHd⟩) m ?_;simp only[zf];refine zE 10 rfl (λK9 N=>?_);refine zaJ (by rfl) 20 rfl 163 [.tmp 18,.tmp 19] #[127,61] rfl [P_ F o,.agg (hrow_ c)] rfl (eO_ func163) (λv w'=>v=.bool true/\B_ H w') ((aY.out H D).mono (λe w' k=>⟨_,k.1,rfl,k.2⟩)) ?_;rintro v E⟨rfl,O⟩;have I:=zm D O;have ap:=zr O ac;have aw:=zk O ae;have ax:=zk O af;refine N.out _ _ ⟨ap,aw,ax⟩ (λm=>?_);simp only[zf];refine tks_ 3 [(11,21,.bool (!true)),(12,22,.bool (!true)),(13,23,.bool (!true))] m ?_;simp only[tkf_,zf];refine tQ_ 14 24 (.agg (hrow_ c)) rfl rfl (Or.inl ⟨by rfl,λw0 J=>zL 61 _ rfl R rfl 61 (hrow_ c) (0,0) _ J.2.1 underlying61 rfl sHd⟩) m ?_;simp only[zf];refine tQ_ 15 25 (.agg #[I_ M,.slice ga L.length gc]) rfl rfl (Or.inl ⟨by rfl,λw0 J=>zL 108 _ rfl B1 rfl 108 #[I_ M,.slice ga L.length gc] (0,0) _ J.2.2 underlying108 rfl sNo⟩) m ?_;simp only[zf];refine zE 16 rfl (λK9 N=>?_);refine zaJ (by rfl) 26 rfl 164 [.tmp 24,.tmp 25] #[61,108] rfl [.agg (hrow_ c),.agg #[I_ M,.slice ga L.length gc]] rfl (eO_ func164) (λv w'=>v=.bool false/\B_ E w') ((be.out E I).mono (λe w' k=>⟨_,k.1,rfl,k.2⟩)) ?_;rintro v X⟨rfl,ab⟩;have an:=zm I ab;have bh:=zr ab ap;have bs:=zk ab aw;have bt:=zk ab ax;refine N.out _ _ ⟨bh,bs,bt⟩ (λm=>?_);simp only[zf];refine tks_ 2 [(17,27,.bool (!false)),(18,28,.bool (!false))] m ?_;simp only[tkf_,zf];clear m;refine wD_ (by kernel_rfl) ?_ _;go_wp2_with fail
     go_meet
     case rel=>exact⟨by rw[HE.out,HK.out,HS.out];rfl,an⟩
    | true=>
     have HS:Hid _:=hs;clear hs;have be:Hid (∀W:World,B_ W0 W->Calls prog 164 #[.agg (hrow_ c),.agg #[I_ M,.slice ga L.length gc]] W λe w'=>e=.returned (.bool true)/\B_ W w'):=by
      show ∀W,_;intro W Y;rw[<-HS.out];exact zjZ M L ga gc c W ((bD.sub (zK U W0)).below Y) ((aB.sub (zK U W0)).below Y) hf ((h0.below Y).tabs.sub (zK _ _))
     have D:=dB_ W0;have ac:=dC_ c0;have ae:=dQ_ q0;have af:=dQ_ q1;refine wR_ (S:=λw'=>w'.cell? ⟨F,o,none⟩=some (I_ x.nu)/\R_ w' R (hrow_ c) 61/\R_ w' B1 #[I_ M,.slice ga L.length gc] 108) (by kernel_rfl) ⟨ac,ae,af⟩ (λm=>?_);generalize W0.drew=H at D ac ae af m|-;refine zU 0 10 (P_ R 0) rfl rfl m ?_;simp only[zf];refine tQ_ 1 11 (I_ c.au) rfl rfl (Or.inl ⟨by rfl,λw0 J=>by have k0:=zb J.2.1 0 _ rfl;go_simp⟩) m ?_;simp only[zf];refine tks_ 6 [(2,12,(P_ F o)),(3,13,(P_ F o)),(4,14,(P_ F o)),(5,15,I_ x.nu),(6,16,.bool (c.au == x.nu)),(7,17,.bool (c.au == x.nu))] m ?_;simp only[tkf_,zf];rw[aJ];refine zU 8 18 (P_ F o) rfl rfl m ?_;simp only[zf];refine tQ_ 9 19 (.agg (hrow_ c)) rfl rfl (Or.inl ⟨by rfl,λw0 J=>zL 61 _ rfl R rfl 61 (hrow_ c) (0,0) _ J.2.1 underlying61 rfl sHd⟩) m ?_;simp only[zf];refine zE 10 rfl (λK9 N=>?_);refine zaJ (by rfl) 20 rfl 163 [.tmp 18,.tmp 19] #[127,61] rfl [P_ F o,.agg (hrow_ c)] rfl (eO_ func163) (λv w'=>v=.bool true/\B_ H w') ((aY.out H D).mono (λe w' k=>⟨_,k.1,rfl,k.2⟩)) ?_;rintro v E⟨rfl,O⟩;have I:=zm D O;have ap:=zr O ac;have aw:=zk O ae;have ax:=zk O af;refine N.out _ _ ⟨ap,aw,ax⟩ (λm=>?_);simp only[zf];refine tks_ 3 [(11,21,.bool (!true)),(12,22,.bool (!true)),(13,23,.bool (!true))] m ?_;simp only[tkf_,zf];refine tQ_ 14 24 (.agg (hrow_ c)) rfl rfl (Or.inl ⟨by rfl,λw0 J=>zL 61 _ rfl R rfl 61 (hrow_ c) (0,0) _ J.2.1 underlying61 rfl sHd⟩) m ?_;simp only[zf];refine tQ_ 15 25 (.agg #[I_ M,.slice ga L.length gc]) rfl rfl (Or.inl ⟨by rfl,λw0 J=>zL 108 _ rfl B1 rfl 108 #[I_ M,.slice ga L.length gc] (0,0) _ J.2.2 underlying108 rfl sNo⟩) m ?_;simp only[zf];refine zE 16 rfl (λK9 N=>?_);refine zaJ (by rfl) 26 rfl 164 [.tmp 24,.tmp 25] #[61,108] rfl [.agg (hrow_ c),.agg #[I_ M,.slice ga L.length gc]] rfl (eO_ func164) (λv w'=>v=.bool true/\B_ E w') ((be.out E I).mono (λe w' k=>⟨_,k.1,rfl,k.2⟩)) ?_;rintro v X⟨rfl,ab⟩;have an:=zm I ab;have bh:=zr ab ap;have bs:=zk ab aw;have bt:=zk ab ax;refine N.out _ _ ⟨bh,bs,bt⟩ (λm=>?_);simp only[zf];refine tks_ 2 [(17,27,.bool (!true)),(18,28,.bool (!true))] m ?_;simp only[tkf_,zf];clear m;refine wD_ (by kernel_rfl) ?_ _;go_wp2_with fail
     go_meet
     case rel=>exact⟨by rw[HE.out,HK.out,HS.out];rfl,an⟩
 case rest=>
  obtain⟨rfl,O⟩:=hcut;apply_assumption;generalize hC:(decide (c.v.au=x.v.nu)||!x.v.k.knows c.v||!No.signed ⟨M,gvs L⟩ c.v.au c.v.slot)=cc;have HC:Hid _:=hC;clear hC c0;have n1:=bx.trans (NTo.below (F:=F) (o:=o) U fc x O);have h1:=h0.below O;have a9:=zk O q0;have bk:=aB.sub (h0.later O);cases cc with
  | true=>
   go_wp2_with fail
   refine bP_ (results_none rfl _ _ _) rfl ?_;exact⟨⟨_,rfl⟩,by rw[zvP HC.out];exact⟨U,fc,x,h1,n1,rfl⟩⟩
  | false=>
   have HM:Hid _:=zua (o:=⟨M,gvs L⟩) hf HC.out;clear HC O q0 h0 aB bx;have c5:=h1.cell 5 _ rfl;go_upto_region 2 with fail
   obtain⟨W1,bA⟩:∃W,W=wc:=⟨_,rfl⟩;rw[<-bA]at h1 n1 a9 bk c5|-;clear bA;go_cut [6,7,8] (λu6 u7 u8 wx=>∃(z:Option Addr) (rc:Nat) (d:List Sl) (l:Nat) (f:Option Addr) (r:Nat) (B C:Int) (ds:List Int) (V:Int),u6=.slice z d.length rc/\u7=(P_ l 0)/\u8=I_ V/\B_ W1 wx/\W1.heap.size<=l/\R_ wx l #[I_ B,I_ C,.slice f ds.length r] 53/\Hid ((vs d,(B,C,ds),V)=zaf x.v.k.tab c.v/\zg wx f r ds/\(∀t A,f=some ⟨t,A,none⟩->W1.heap.size<=t/\(Value.slice z d.length rc).ownBlock≠some t)/\wx.ownsRow W1.heap.size 53 3 (.slice z d.length rc) d.length (slv d)/\z8 wx W1.heap.size (.slice z d.length rc) (ps d)/\(Value.slice z d.length rc).ownBlock≠some l))
   case first=>
    have D:=dB_ W1;have aH:=dC_ c5;have aS:=dQ_ a9;refine wR_ (S:=λw'=>w'.cell? ⟨F,o+5,none⟩=some (.slice x.ta x.tab.length x.tc)/\R_ w' R (hrow_ c) 61) (by kernel_rfl) ⟨aH,aS⟩ (λm=>?_);generalize W1.drew=H at D aH aS m|-;refine tks_ 4 [(0,30,(P_ F o)),(1,31,(P_ F o)),(2,32,(P_ F (o+5))),(3,33,.slice x.ta x.tab.length x.tc)] m ?_;simp only[tkf_,zf];refine tQ_ 4 34 (.agg (hrow_ c)) rfl rfl (Or.inl ⟨by rfl,λw0 J=>zL 61 _ rfl R rfl 61 (hrow_ c) (0,0) _ J.2 underlying61 rfl sHd⟩) m ?_;simp only[zf];refine wpAnyH_ready (rs:=[5,10]) (by kernel_rfl) (by simp) (AllReadyH.cons rfl (λK9 N=>?_) (AllReadyH.cons rfl (λK9 N=>?_) AllReadyH.nil))
    .skip
     refine zj rfl 35 rfl 139 [.tmp 33,.tmp 34] #[44,61] rfl [.slice x.ta x.tab.length x.tc,.agg (hrow_ c)] rfl (eO_ func139) (λv w'=>(∃(z:Option Addr) (rc:Nat) (d:List Sl) (f:Option Addr) (r:Nat) (B C:Int) (ds:List Int) (V:Int),v=.tuple #[.slice z (List.length d) rc,.agg #[I_ B,I_ C,.slice f (List.length ds) r],I_ V]/\(vs d,(B,C,ds),V)=zaf x.v.k.tab c.v/\zg w' f r ds/\(∀t A,f=some ⟨t,A,none⟩->H.heap.size<=t/\(Value.slice z (List.length d) rc).ownBlock≠some t)/\w'.ownsRow H.heap.size 53 3 (.slice z (List.length d) rc) (List.length d) (slv d)/\z8 w' H.heap.size (.slice z (List.length d) rc) (ps d))/\B_ H w') ((zgh x.tab x.ta x.tc c.au c.rd c.ba c.bc c.bl c.pa c.pc c.pl H ((h1.below D).tabAt) ((bk.sub (zK U W1)).below D) ((h1.below D).tabs.sub (zK _ _))).mono (λe w' k=>by
     obtain⟨z,rc,d,f,r,B,C,ds,V,k1,k2,_,k4,_,k6,k7,k8,k9,bq⟩:=k;exact⟨_,k1,⟨z,rc,d,f,r,B,C,ds,V,rfl,by rw[k2,zgi];rfl,k4,λt A e=>⟨k6 t A e,bq t A e⟩,k8,k9⟩,k7⟩)) ?_
     rintro v E⟨⟨z,rc,d,f,r,B,C,ds,V,rfl,hR,ar,aD,hO,hP⟩,hbc⟩;have I:=zm D hbc;have aq:=zr hbc aH;have au:=zk hbc aS;refine N.out _ _ ⟨aq,au⟩ (λm=>?_);simp only[zf];refine tks_ 4 [(6,29,.tuple #[.slice z d.length rc,.agg #[I_ B,I_ C,.slice f ds.length r],I_ V]),(7,36,.slice z d.length rc),(8,37,.agg #[I_ B,I_ C,.slice f ds.length r]),(9,38,I_ V)] m ?_;simp only[tkf_,zf];refine zE 10 rfl (λK9 N=>?_);refine zy rfl 7 rfl (P_ E.heap.size 0) (E.alloc (.cells #[I_ 0,I_ 0,O_] 53)) (by go_simp) ?_;have aa:=zC E (.cells #[I_ 0,I_ 0,O_] 53);have N_:=hN_ E (.cells #[I_ 0,I_ 0,O_] 53);have an:=zm I aa;have ag:W1.heap.size<=E.heap.size:=I.size;have az:=zr aa aq;have aj:F≠E.heap.size:=Nat.ne_of_lt (bL_ aq);have aF:=zk aa au;have al:R≠E.heap.size:=Nat.ne_of_lt (ze au);have aE:∀q,(Value.slice z d.length rc).ownBlock=some q->q≠E.heap.size:=λq e=>Nat.ne_of_lt (hO.lt q e).2;have a7:∀t A,f=some ⟨t,A,none⟩->ds≠[]->t≠E.heap.size:=λt A e hn=>Nat.ne_of_lt (zhh ar hn e);have a6:∀p∈ps d,∀t A,p.sa=some ⟨t,A,none⟩->t≠E.heap.size:=λp Z t A e=>Nat.ne_of_lt ((hP p Z).2 t A e).2.1;have ar:=ar.below aa;have hO:=zw hO aa;have hP:=hP.same aa.size (λp Z b A e=>aa.block b ((hP p Z).2 b A e).2.1);refine N.out _ _ ⟨az,aF⟩ (λm=>?_);simp only[zf];have aA:E.heap.size<(E.alloc (.cells #[I_ 0,I_ 0,O_] 53)).heap.size:=by simp
     generalize E.alloc (.cells #[I_ 0,I_ 0,O_] 53)=X at aa N_ an aA az aF ar hO hP m|-;clear aa;generalize E.heap.size=l at N_ ag aA aj al aE a7 a6|-;have b4:=zb N_ 0 _ rfl;have b1:=zd N_ 0;have b5:=zb N_ 1 _ rfl;have b2:=zd N_ 1;have b6:=zb N_ 2 _ rfl;have b3:=zd N_ 2;refine zU 11 6 (.slice z d.length rc) rfl rfl m ?_;simp only[zf];refine zE 12 rfl (λK9 N=>?_);refine zX rfl rfl (((X.setCell ⟨l,0,none⟩ (I_ B)).setCell ⟨l,1,none⟩ (I_ C)).setCell ⟨l,2,none⟩ (.slice f ds.length r)) (by go_simp) ?_;have aR:(((X.setCell ⟨l,0,none⟩ (I_ B)).setCell ⟨l,1,none⟩ (I_ C)).setCell ⟨l,2,none⟩ (.slice f ds.length r)).heap[l]? = some (.cells #[I_ B,I_ C,.slice f ds.length r] 53 (0,0)):=by simpa using(hS_ _ _ 2 _ _ (.slice f ds.length r) (hS_ _ _ 1 _ _ (I_ C) (hS_ _ _ 0 _ _ (I_ B) N_)))
     have aP:=(((an.setCell (p:=⟨l,0,none⟩) ag (I_ B)).setCell (p:=⟨l,1,none⟩) ag (I_ C)).setCell (p:=⟨l,2,none⟩) ag (.slice f ds.length r));have aI:=(zar (k:=2) (v:=.slice f ds.length r) (zar (k:=1) (v:=I_ C) (zar (k:=0) (v:=I_ B) az aj) aj) aj);have aT:=(zh (j:=2) (v:=.slice f ds.length r) (zh (j:=1) (v:=I_ C) (zh (j:=0) (v:=I_ B) aF al) al) al);have XF:∀k,k≠l->(((X.setCell ⟨l,0,none⟩ (I_ B)).setCell ⟨l,1,none⟩ (I_ C)).setCell ⟨l,2,none⟩ (.slice f ds.length r)).heap[k]? = X.heap[k]?:=λk hk=>by rw[hO_ _ ⟨l,2,none⟩ k _ hk,hO_ _ ⟨l,1,none⟩ k _ hk,hO_ _ ⟨l,0,none⟩ k _ hk]
     have aN:zg (((X.setCell ⟨l,0,none⟩ (I_ B)).setCell ⟨l,1,none⟩ (I_ C)).setCell ⟨l,2,none⟩ (.slice f ds.length r)) f r ds:=zcp (G:=λk=>k≠l) XF ar a7;have aL:(((X.setCell ⟨l,0,none⟩ (I_ B)).setCell ⟨l,1,none⟩ (I_ C)).setCell ⟨l,2,none⟩ (.slice f ds.length r)).ownsRow W1.heap.size 53 3 (.slice z d.length rc) d.length (slv d):=zcf (zu hO (λq e=>XF q (aE q e))) (by have:=D.size;have:=I.size;omega);have aM:z8 (((X.setCell ⟨l,0,none⟩ (I_ B)).setCell ⟨l,1,none⟩ (I_ C)).setCell ⟨l,2,none⟩ (.slice f ds.length r)) W1.heap.size (.slice z d.length rc) (ps d):=λp Z=>⟨(hP.same (w':=(((X.setCell ⟨l,0,none⟩ (I_ B)).setCell ⟨l,1,none⟩ (I_ C)).setCell ⟨l,2,none⟩ (.slice f ds.length r))) (by simp) (λp Z b A e=>XF b (a6 p Z b A e)) p Z).1,λt A e=>⟨by have:=((hP p Z).2 t A e).1;have:=D.size;have:=I.size;omega,by have:=((hP p Z).2 t A e).2.1;simpa using this,((hP p Z).2 t A e).2.2⟩⟩;have bp:∀t A,f=some ⟨t,A,none⟩->W1.heap.size<=t/\(Value.slice z d.length rc).ownBlock≠some t:=λt A e=>⟨by have:=(aD t A e).1;have:=D.size;have:=I.size;omega,(aD t A e).2⟩;clear XF;refine N.out _ _ ⟨aI,aT⟩ (λm=>?_);generalize (((X.setCell ⟨l,0,none⟩ (I_ B)).setCell ⟨l,1,none⟩ (I_ C)).setCell ⟨l,2,none⟩ (.slice f ds.length r))=VE at aR aP aI aT aN aL aM m|-;refine zU 13 8 (I_ V) rfl rfl m ?_;simp only[zf];clear m;refine wD_ (by kernel_rfl) ?_ _;go_wp2_with fail
     go_meet
     case rel=>exact⟨z,rc,d,l,f,r,B,C,ds,V,rfl,rfl,rfl,aP,ag,aR,⟨hR,aN,bp,aL,aM,λe=>aE l e rfl⟩⟩
    .skip
     refine zy rfl 7 rfl (P_ H.heap.size 0) (H.alloc (.cells #[I_ 0,I_ 0,O_] 53)) (by go_simp) ?_;have aa:=zC H (.cells #[I_ 0,I_ 0,O_] 53);have N_:=hN_ H (.cells #[I_ 0,I_ 0,O_] 53);have I:=zm D aa;have ag:W1.heap.size<=H.heap.size:=D.size;have aq:=zr aa aH;have aj:F≠H.heap.size:=Nat.ne_of_lt (bL_ aH);have au:=zk aa aS;have al:R≠H.heap.size:=Nat.ne_of_lt (ze aS);refine N.out _ _ ⟨aq,au⟩ (λm=>?_);simp only[zf];have aA:H.heap.size<(H.alloc (.cells #[I_ 0,I_ 0,O_] 53)).heap.size:=by simp
     generalize H.alloc (.cells #[I_ 0,I_ 0,O_] 53)=E at aa N_ I aA aq au m|-;clear aa;generalize H.heap.size=l at N_ ag aA aj al|-;refine zE 5 rfl (λK9 N=>?_);have b9:=aA;refine zj rfl 35 rfl 139 [.tmp 33,.tmp 34] #[44,61] rfl [.slice x.ta x.tab.length x.tc,.agg (hrow_ c)] rfl (eO_ func139) (λv w'=>(∃(z:Option Addr) (rc:Nat) (d:List Sl) (f:Option Addr) (r:Nat) (B C:Int) (ds:List Int) (V:Int),v=.tuple #[.slice z (List.length d) rc,.agg #[I_ B,I_ C,.slice f (List.length ds) r],I_ V]/\(vs d,(B,C,ds),V)=zaf x.v.k.tab c.v/\zg w' f r ds/\(∀t A,f=some ⟨t,A,none⟩->E.heap.size<=t/\(Value.slice z (List.length d) rc).ownBlock≠some t)/\w'.ownsRow E.heap.size 53 3 (.slice z (List.length d) rc) (List.length d) (slv d)/\z8 w' E.heap.size (.slice z (List.length d) rc) (ps d))/\B_ E w') ((zgh x.tab x.ta x.tc c.au c.rd c.ba c.bc c.bl c.pa c.pc c.pl E ((h1.below I).tabAt) ((bk.sub (zK U W1)).below I) ((h1.below I).tabs.sub (zK _ _))).mono (λe w' k=>by
     obtain⟨z,rc,d,f,r,B,C,ds,V,k1,k2,_,k4,_,k6,k7,k8,k9,bq⟩:=k;exact⟨_,k1,⟨z,rc,d,f,r,B,C,ds,V,rfl,by rw[k2,zgi];rfl,k4,λt A e=>⟨k6 t A e,bq t A e⟩,k8,k9⟩,k7⟩)) ?_
     rintro v X⟨⟨z,rc,d,f,r,B,C,ds,V,rfl,hR,ar,aD,hO,hP⟩,hbc⟩;have an:=zm I hbc;have az:=zr hbc aq;have aF:=zk hbc au;have N_:=zk hbc N_;refine N.out _ _ ⟨az,aF⟩ (λm=>?_);simp only[zf];refine tks_ 4 [(6,29,.tuple #[.slice z d.length rc,.agg #[I_ B,I_ C,.slice f ds.length r],I_ V]),(7,36,.slice z d.length rc),(8,37,.agg #[I_ B,I_ C,.slice f ds.length r]),(9,38,I_ V)] m ?_;simp only[tkf_,zf];have aE:∀q,(Value.slice z d.length rc).ownBlock=some q->q≠l:=λq e=>by have:=(hO.lt q e).1;omega
     have a7:∀t A,f=some ⟨t,A,none⟩->ds≠[]->t≠l:=λt A e hn=>by have:=(aD t A e).1;omega
     have a6:∀p∈ps d,∀t A,p.sa=some ⟨t,A,none⟩->t≠l:=λp Z t A e=>by have:=((hP p Z).2 t A e).1;omega
     have b4:=zb N_ 0 _ rfl;have b1:=zd N_ 0;have b5:=zb N_ 1 _ rfl;have b2:=zd N_ 1;have b6:=zb N_ 2 _ rfl;have b3:=zd N_ 2;refine zU 11 6 (.slice z d.length rc) rfl rfl m ?_;simp only[zf];refine zE 12 rfl (λK9 N=>?_);refine zX rfl rfl (((X.setCell ⟨l,0,none⟩ (I_ B)).setCell ⟨l,1,none⟩ (I_ C)).setCell ⟨l,2,none⟩ (.slice f ds.length r)) (by go_simp) ?_;have aR:(((X.setCell ⟨l,0,none⟩ (I_ B)).setCell ⟨l,1,none⟩ (I_ C)).setCell ⟨l,2,none⟩ (.slice f ds.length r)).heap[l]? = some (.cells #[I_ B,I_ C,.slice f ds.length r] 53 (0,0)):=by simpa using(hS_ _ _ 2 _ _ (.slice f ds.length r) (hS_ _ _ 1 _ _ (I_ C) (hS_ _ _ 0 _ _ (I_ B) N_)))
     have aP:=(((an.setCell (p:=⟨l,0,none⟩) ag (I_ B)).setCell (p:=⟨l,1,none⟩) ag (I_ C)).setCell (p:=⟨l,2,none⟩) ag (.slice f ds.length r));have aI:=(zar (k:=2) (v:=.slice f ds.length r) (zar (k:=1) (v:=I_ C) (zar (k:=0) (v:=I_ B) az aj) aj) aj);have aT:=(zh (j:=2) (v:=.slice f ds.length r) (zh (j:=1) (v:=I_ C) (zh (j:=0) (v:=I_ B) aF al) al) al);have XF:∀k,k≠l->(((X.setCell ⟨l,0,none⟩ (I_ B)).setCell ⟨l,1,none⟩ (I_ C)).setCell ⟨l,2,none⟩ (.slice f ds.length r)).heap[k]? = X.heap[k]?:=λk hk=>by rw[hO_ _ ⟨l,2,none⟩ k _ hk,hO_ _ ⟨l,1,none⟩ k _ hk,hO_ _ ⟨l,0,none⟩ k _ hk]
     have aN:zg (((X.setCell ⟨l,0,none⟩ (I_ B)).setCell ⟨l,1,none⟩ (I_ C)).setCell ⟨l,2,none⟩ (.slice f ds.length r)) f r ds:=zcp (G:=λk=>k≠l) XF ar a7;have aL:(((X.setCell ⟨l,0,none⟩ (I_ B)).setCell ⟨l,1,none⟩ (I_ C)).setCell ⟨l,2,none⟩ (.slice f ds.length r)).ownsRow W1.heap.size 53 3 (.slice z d.length rc) d.length (slv d):=zcf (zu hO (λq e=>XF q (aE q e))) (by have:=D.size;have:=I.size;omega);have aM:z8 (((X.setCell ⟨l,0,none⟩ (I_ B)).setCell ⟨l,1,none⟩ (I_ C)).setCell ⟨l,2,none⟩ (.slice f ds.length r)) W1.heap.size (.slice z d.length rc) (ps d):=λp Z=>⟨(hP.same (w':=(((X.setCell ⟨l,0,none⟩ (I_ B)).setCell ⟨l,1,none⟩ (I_ C)).setCell ⟨l,2,none⟩ (.slice f ds.length r))) (by simp) (λp Z b A e=>XF b (a6 p Z b A e)) p Z).1,λt A e=>⟨by have:=((hP p Z).2 t A e).1;have:=D.size;have:=I.size;omega,by have:=((hP p Z).2 t A e).2.1;simpa using this,((hP p Z).2 t A e).2.2⟩⟩;have bp:∀t A,f=some ⟨t,A,none⟩->W1.heap.size<=t/\(Value.slice z d.length rc).ownBlock≠some t:=λt A e=>⟨by have:=(aD t A e).1;have:=D.size;have:=I.size;omega,(aD t A e).2⟩;clear XF;refine N.out _ _ ⟨aI,aT⟩ (λm=>?_);generalize (((X.setCell ⟨l,0,none⟩ (I_ B)).setCell ⟨l,1,none⟩ (I_ C)).setCell ⟨l,2,none⟩ (.slice f ds.length r))=VE at aR aP aI aT aN aL aM m|-;refine zU 13 8 (I_ V) rfl rfl m ?_;simp only[zf];clear m;refine wD_ (by kernel_rfl) ?_ _;go_wp2_with fail
     go_meet
     case rel=>exact⟨z,rc,d,l,f,r,B,C,ds,V,rfl,rfl,rfl,aP,ag,aR,⟨hR,aN,bp,aL,aM,λe=>aE l e rfl⟩⟩
   case rest=>
    obtain⟨z,rc,d,l,f,r,B,C,ds,V,rfl,rfl,rfl,ab,ag,qn,hX⟩:=hcut;apply_assumption;clear c5;obtain⟨W2,bB⟩:∃W,W=wc:=⟨_,rfl⟩;rw[<-bB]at ab qn hX|-;clear bB;obtain⟨x1,x2,x3,x4,x5,x6⟩:=hX.out;by_cases e0:V=0
    .subst e0;have c0:(zaf x.v.k.tab c.v).2.2=0:=by rw[<-x1]
     obtain⟨-,-,t3,t4⟩:=zlb c0;have aQ:Hid ((zaf x.v.k.tab c.v).1=vs d):=by show _=_;rw[<-x1]
     have a8:c.v.slot=(B,C,ds):=by rw[<-t3,<-x1]
     have e1:B=c.au:=(congrArg (λv=>v.1) a8).symm;have e2:C=c.rd:=(congrArg (λv=>v.2.1) a8).symm;have e3:ds=c.v.d:=(congrArg (λv=>v.2.2) a8).symm;subst e1 e2 e3;obtain⟨ad,bl⟩:=h1.hideRow ab x4 (λq e=>(x4.lt q (zaK _ _ e)).1);have aO:Hid (zaF U (ob z) l=false):=zbw (h1.bnd.new ag) (λe=>x6 (zaK _ _ e));have a3:Hid (zg (zq (zaF U (ob z)) W2) f r c.v.d):=zci x2 (λt A e _=>zbw (h1.bnd.new (x3 t A e).1) (λe2=>(x3 t A e).2 (zaK _ _ e2)));have ah:Hid (∀q,ob z=some q->W1.heap.size<=q/\zaF U (ob z) q=true/\q≠F/\q<W2.heap.size):=λq e=>⟨(x4.lt q (zaK _ _ e)).1,zeM e,λef=>by have:=(x4.lt q (zaK _ _ e)).1;have:=ze h1.blk;omega,(x4.lt q (zaK _ _ e)).2⟩;have bU:Hid (∀q,ob z=some q->¬x.S q):=λq e hs=>by have:=h1.bnd q (h1.su q hs).1;have:=(x4.lt q (zaK _ _ e)).1;omega
     have a2:Hid (∀s∈d,zg (zq (zaF U (ob z)) W2) s.p.sa s.p.cap s.p.bs):=λs hs=>by
      have Z:=x5 s.p (List.mem_map.2 ⟨s,hs,rfl⟩);exact zci Z.1 (λt A e _=>zbw (h1.bnd.new (Z.2 t A e).1) (λe2=>(Z.2 t A e).2.2 (zaK _ _ e2)))
     have bm:Hid (W2.ownsRow 0 53 3 (.slice z d.length rc) d.length (slv d)):=zcf x4 (nZ_ _);have bz:Hid (∀s∈vs d,zaN s.2.2):=by
      show ∀s,_;intro s hs;rw[<-aQ.out]at hs;rcases t4 with g|⟨g,_⟩
      .rw[g]at hs;exact h.inv.u8t s hs
      .rw[g]at hs;rcases List.mem_append.1 hs with g2|g2
       .exact h.inv.u8t s g2
       .obtain rfl:s=c.v.slot:=by simpa using g2
        exact zfy _
     have bW:Hid (U=U):=rfl;have HN:=n1.trans bl;have ba:=zk ab a9;have aK:Hid (zaF U (ob z) R=false):=zbw bn.out.1 (λe=>by have:=(ah.out R e).1;have:=ze a9;omega);have ao:Hid (c.v.d.length=32):=c.v.d_length;rw[ao.out]at qn;rw[if_neg (by rw[c0];decide),aQ.out]at HM;have bI:(vs d).length=d.length:=zay d;have bH:x.v.k.tab.length=x.tab.length:=zay x.tab;rw[bI,bH]at HM;have b8:zO c.au c.rd c.bl c.pl=0:=by rw[Ct.hf_v];exact hf
     generalize hU':zaF U (ob z)=U2 at ad bl aO a3 ah a2 HN aK;clear hX x1 x2 x3 x4 x5 x6 c0 t3 a8 hU' bI bH bW;rcases t4 with t4|⟨t4,t5⟩
     .have a5:d.length=x.tab.length:=by have:=congrArg List.length t4;rw[aQ.out,zay]at this;rw[this];exact zay _
      have bY:Hid (vs d=x.v.k.tab):=by show _=_;rw[<-aQ.out,t4]
      have c5:=ad.cell 5 _ rfl;have bV:¬((x.tab.length:Int)<d.length):=by omega
      have am:Hid (x.v.hearO ⟨M,gvs L⟩ c.v=x.v.send c.au (zcE c.v.slot)):=by show _=_;rw[HM.out,if_neg (by omega)];rfl
      have a0:Hid (U2 l=false/\U2 R=false):=⟨aO.out,aK.out⟩;have bP:∀q,ob z=some q->w.heap.size<=q/\U2 q=true/\q≠F:=λq e=>⟨nT_ n1.size (ah.out q e).1,(ah.out q e).2.1,(ah.out q e).2.2.1⟩;have bS:Hid (({ x with ta:=z,tc:=rc,tab:=d }:NM).v=x.v):=by show _=_;rw[NM.v_tab,bY.out]
      have bo:Hid (d.length<=400000):=by show _<=_;rw[a5];have:=h.inv.tab;simpa[NM.v,vs]using this
      clear t4 a5 HM;go_upto_region 6 with fail
      have f5:=ad.free (o+5);have bi:=ad.cell 5 _ rfl;obtain⟨ai,x5,h5,n5,v5⟩:=zo.late_tab (a':=z) (c':=rc) (l':=d) HN ad bP bm.out a2.out (by rw[NM.v_tab];exact ad.inv.tab_ (by rw[zay];exact bo.out) bz.out);rw[bS.out]at v5;have aW:=zh (b:=F) (j:=o+5) (v:=.slice z d.length rc) qn (λe=>by have:=a0.out.1;rw[e,ad.fu]at this;cases this);have aU:=zh (b:=F) (j:=o+5) (v:=.slice z d.length rc) ba (λe=>by have:=a0.out.2;rw[e,ad.fu]at this;cases this);have aG:Hid (zg (zq U2 (W2.setCell ⟨F,o+5,none⟩ (.slice z d.length rc))) f r c.v.d):=by show zg _ _ _ _;rw[zb3 ad.fu];exact a3.out
      go_upto_region 7 with fail
      generalize W2.setCell ⟨F,o+5,none⟩ (.slice z d.length rc)=W5 at h5 n5 aW aU aG|-;have bf:Hid _:=v5;clear v5 f5 bi;have bb:Hid (∀W:World,B_ W5 W->Calls prog 146 #[P_ F o,I_ c.au,.agg (mrow_ (z7 ⟨c.au,c.rd,⟨f,r,c.v.d⟩⟩).m)] W λe w'=>(∃v,e=.returned v)/\zal W U2 F o T ai x5 w' (x5.v.send c.au (zcE c.v.slot))):=by
       show ∀W,_;intro W Y;exact zeN x5 (z7 ⟨c.au,c.rd,⟨f,r,c.v.d⟩⟩) c.au W U2 F o T ai (h5.below Y) (ztW (aG.out.sub (h5.later Y)) (zoZ hf) (zfy c.v)) bC
      have D:=dB_ W5;have av:=dQ_ aU;have ay:=dQ_ aW;refine wR_ (S:=λw'=>R_ w' R (hrow_ c) 61/\R_ w' l #[I_ c.au,I_ c.rd,.slice f 32 r] 53) (by kernel_rfl) ⟨av,ay⟩ (λm=>?_);generalize W5.drew=H at D av ay m|-;refine tks_ 2 [(0,61,(P_ F o)),(1,62,(P_ R 0))] m ?_;simp only[tkf_,zf];refine tQ_ 2 63 (I_ c.au) rfl rfl (Or.inl ⟨by rfl,λw0 J=>by have k0:=zb J.1 0 _ rfl;go_simp⟩) m ?_;simp only[zf];refine tQ_ 3 64 (.agg #[I_ c.au,I_ c.rd,.slice f 32 r]) rfl rfl (Or.inl ⟨by rfl,λw0 J=>zL 53 _ rfl l rfl 53 #[I_ c.au,I_ c.rd,.slice f 32 r] (0,0) _ J.2 underlying53 rfl sSl⟩) m ?_;simp only[zf];have bg:Hid (∀W:World,Calls prog 165 #[.agg #[I_ c.au,I_ c.rd,.slice f 32 r]] W λe w'=>e=.returned (.agg #[I_ 0,I_ 0,I_ 3,I_ 0,I_ 0,O_,I_ 0,I_ 0,O_,O_,I_ c.au,I_ c.rd,.slice f 32 r,I_ 0,I_ 0,O_,O_,O_,I_ 0])/\B_ W w'):=by
       show ∀W,_;intro W;have k:=zmA ⟨c.au,c.rd,⟨f,r,c.v.d⟩⟩ W;dsimp only [z7]at k;rw[ao.out]at k;exact k
      have bc:Hid (∀W:World,B_ W5 W->Calls prog 146 #[P_ F o,I_ c.au,.agg #[I_ 0,I_ 0,I_ 3,I_ 0,I_ 0,O_,I_ 0,I_ 0,O_,O_,I_ c.au,I_ c.rd,.slice f 32 r,I_ 0,I_ 0,O_,O_,O_,I_ 0]] W λe w'=>(∃v,e=.returned v)/\zal W U2 F o T ai x5 w' (x5.v.send c.au (zcE c.v.slot))):=by
       show ∀W,_;intro W Y;have k:=bb.out W Y;dsimp only [z7]at k;rw[ao.out]at k;exact k
      refine zE 4 rfl (λK9 N=>?_);refine zj rfl 65 rfl 165 [.tmp 64] #[53] rfl [.agg #[I_ c.au,I_ c.rd,.slice f 32 r]] rfl (eO_ func165) (λv w'=>v=.agg #[I_ 0,I_ 0,I_ 3,I_ 0,I_ 0,O_,I_ 0,I_ 0,O_,O_,I_ c.au,I_ c.rd,.slice f 32 r,I_ 0,I_ 0,O_,O_,O_,I_ 0]/\B_ H w') ((bg.out H).mono (λe w' k=>⟨_,k.1,rfl,k.2⟩)) ?_;rintro v E⟨rfl,O⟩;have I:=zm D O;have aV:=zk O av;have aX:=zk O ay;refine N.out _ _ ⟨aV,aX⟩ (λm=>?_);simp only[zf];refine zE 5 rfl (λK9 N=>?_);refine zj rfl 66 rfl 146 [.tmp 61,.tmp 63,.tmp 65] #[127,3,66] rfl [P_ F o,I_ c.au,.agg #[I_ 0,I_ 0,I_ 3,I_ 0,I_ 0,O_,I_ 0,I_ 0,O_,O_,I_ c.au,I_ c.rd,.slice f 32 r,I_ 0,I_ 0,O_,O_,O_,I_ 0]] rfl (eO_ func146) (λv w'=>zal E U2 F o T ai x5 w' (x5.v.send c.au (zcE c.v.slot))) ((bc.out E I).mono (λe w' k=>by
       obtain⟨⟨v,k1⟩,k2⟩:=k;exact⟨v,k1,k2⟩)) ?_
      rintro v X⟨U6,bj,x6,h6,n6,v6⟩;have br:=n6.box (h5.below I) aV a0.out.2;have bu:=n6.box (h5.below I) aX a0.out.1;refine N.out _ _ ⟨br,bu⟩ (λm=>?_);simp only[zf];clear m;refine wD_ (by kernel_rfl) ?_ _;go_wp2_with fail
      go_end0;refine⟨⟨_,rfl⟩,?_⟩;rw[am.out];exact⟨U6,bj,x6,h6,(n5.trans (NTo.below (F:=F) (o:=o) U2 ai x5 I)).trans n6,by rw[v6,bf.out]⟩
     .have a5:d.length=x.tab.length+1:=by have:=congrArg List.length t4;rw[aQ.out,zay]at this;rw[this,lP_];simp[NM.v,vs]
      have c5:=ad.cell 5 _ rfl;have bV:((x.tab.length:Int)<d.length):=by omega
      have am:Hid (x.v.hearO ⟨M,gvs L⟩ c.v=if x.v.room (zcE c.v.slot)then(x.v.log (zcE c.v.slot) { x.v.k with tab:=vs d }).send c.au (zcE c.v.slot)else x.v):=by show _=_;rw[HM.out,if_pos (by omega)];rfl
      have bo:Hid (d.length<=400000):=by show _<=_;have e9:x.v.k.tab.length=x.tab.length:=zay x.tab;omega
      clear t4 t5 a5 HM;have s0:=zb qn 0 _ rfl;have s1:=zb qn 1 _ rfl;have s2:=zb qn 2 _ rfl;go_wp2_with fail
      have a1:=zmA ⟨c.au,c.rd,⟨f,r,c.v.d⟩⟩ W2;dsimp only [srow_]at a1;rw[ao.out]at a1;refine a1.mono ?_;rintro _ w3⟨rfl,ak⟩;clear a1 s0 s1 s2;dsimp only;have aC:=ad.below ak;have bd:=a3.out.sub (ad.later ak);have bG:zbf c.au c.rd c.v.d.length=0:=zoZ hf;have bX:∀y∈c.v.d,0<=y/\y<=255:=zfy c.v;have HW:=zgZ x (z7 ⟨c.au,c.rd,⟨f,r,c.v.d⟩⟩) w3 U2 F o T fc aC (ztO bd (by rw[ao.out];decide)) (zqX bG) (ztS bX);have bJ:(z7 ⟨c.au,c.rd,⟨f,r,c.v.d⟩⟩).c=zcE c.v.slot:=rfl;rw[bJ]at HW;dsimp only [z7]at HW;rw[ao.out]at HW;generalize bF:x.v.room (zcE c.v.slot)=rm at HW am;have bv:Hid _:=bF;clear bF bG bJ;go_wp2_with fail
      refine HW.mono ?_;rintro _ w4⟨rfl,U4,bT,x4,h4,n4,v4⟩;dsimp only;clear HW;have bw:Hid _:=v4;clear v4;cases rm with
      | false=>
       go_wp2_with fail
       refine bP_ (results_none rfl _ _ _) rfl ?_;refine⟨⟨_,rfl⟩,?_⟩;rw[am.out];exact⟨U4,bT,x4,h4,(HN.trans (NTo.below (F:=F) (o:=o) U2 fc x ak)).trans n4,by rw[bw.out,Nd.wrt,bv.out];rfl⟩
      | true=>
       have n3:=NTo.below (F:=F) (o:=o) U2 fc x ak;have bZ:=n4.box aC (zk ak ba) aK.out;have b0:=n4.box aC (zk ak qn) aO.out;have a4:W2.heap.size<=w3.heap.size:=ak.size;have aZ:Hid (U4 l=false/\U4 R=false):=⟨n4.hides (nL_ (ze qn) a4) aO.out,n4.hides (nL_ (ze ba) a4) aK.out⟩;have bQ:Hid (zg (zq U4 w4) f r c.v.d):=bd.sub (n4.sub aC);have bN:Hid (∀s∈d,zg (zq U4 w4) s.p.sa s.p.cap s.p.bs):=λs hs=>((a2.out s hs).sub (ad.later ak)).sub (n4.sub aC);have bM:Hid (w4.ownsRow 0 53 3 (.slice z d.length rc) d.length (slv d)):=zu (zw bm.out ak) (λq e=>n4.block q (nL_ (ah.out q (zp e)).2.2.2 a4) (bU.out q (zp e)) (ah.out q (zp e)).2.2.1);have bO:Hid (∀q,ob z=some q->w.heap.size<=q/\U4 q=true/\q≠F):=λq e=>⟨nT_ n1.size (ah.out q e).1,by rw[n4.us q (nL_ (ah.out q e).2.2.2 a4)];exact(ah.out q e).2.1,(ah.out q e).2.2.1⟩;have bL:=(HN.trans n3).trans n4;have bR:Hid (({ x4 with ta:=z,tc:=rc,tab:=d }:NM).v=x.v.log (zcE c.v.slot) { x.v.k with tab:=vs d }):=by
        show _=_;rw[NM.v_tab,bw.out,Nd.wrt,bv.out];rfl
       have bK:Hid (x.v.hearO ⟨M,gvs L⟩ c.v=(x.v.log (zcE c.v.slot) { x.v.k with tab:=vs d }).send c.au (zcE c.v.slot)):=am.out;clear ba qn aO aK a3 a2 bm ah HN ad bl bd aC n3 am;go_upto_region 6 with fail
       have f5:=h4.free (o+5);have bi:=h4.cell 5 _ rfl;obtain⟨ai,x5,h5,n5,v5⟩:=zo.late_tab (a':=z) (c':=rc) (l':=d) bL h4 bO.out bM.out bN.out (by rw[NM.v_tab];exact h4.inv.tab_ (by rw[zay];exact bo.out) bz.out);rw[bR.out]at v5;have aW:=zh (b:=F) (j:=o+5) (v:=.slice z d.length rc) b0 (λe=>by have:=aZ.out.1;rw[e,h4.fu]at this;cases this);have aU:=zh (b:=F) (j:=o+5) (v:=.slice z d.length rc) bZ (λe=>by have:=aZ.out.2;rw[e,h4.fu]at this;cases this);have aG:Hid (zg (zq U4 (w4.setCell ⟨F,o+5,none⟩ (.slice z d.length rc))) f r c.v.d):=by show zg _ _ _ _;rw[zb3 h4.fu];exact bQ.out
       go_upto_region 7 with fail
       generalize w4.setCell ⟨F,o+5,none⟩ (.slice z d.length rc)=W5 at h5 n5 aW aU aG|-;have bf:Hid _:=v5;clear v5 f5 bi;have bb:Hid (∀W:World,B_ W5 W->Calls prog 146 #[P_ F o,I_ c.au,.agg (mrow_ (z7 ⟨c.au,c.rd,⟨f,r,c.v.d⟩⟩).m)] W λe w'=>(∃v,e=.returned v)/\zal W U4 F o T ai x5 w' (x5.v.send c.au (zcE c.v.slot))):=by
        show ∀W,_;intro W Y;exact zeN x5 (z7 ⟨c.au,c.rd,⟨f,r,c.v.d⟩⟩) c.au W U4 F o T ai (h5.below Y) (ztW (aG.out.sub (h5.later Y)) (zoZ hf) (zfy c.v)) bC
       have D:=dB_ W5;have av:=dQ_ aU;have ay:=dQ_ aW;refine wR_ (S:=λw'=>R_ w' R (hrow_ c) 61/\R_ w' l #[I_ c.au,I_ c.rd,.slice f 32 r] 53) (by kernel_rfl) ⟨av,ay⟩ (λm=>?_);generalize W5.drew=H at D av ay m|-;refine tks_ 2 [(0,61,(P_ F o)),(1,62,(P_ R 0))] m ?_;simp only[tkf_,zf];refine tQ_ 2 63 (I_ c.au) rfl rfl (Or.inl ⟨by rfl,λw0 J=>by have k0:=zb J.1 0 _ rfl;go_simp⟩) m ?_;simp only[zf];refine tQ_ 3 64 (.agg #[I_ c.au,I_ c.rd,.slice f 32 r]) rfl rfl (Or.inl ⟨by rfl,λw0 J=>zL 53 _ rfl l rfl 53 #[I_ c.au,I_ c.rd,.slice f 32 r] (0,0) _ J.2 underlying53 rfl sSl⟩) m ?_;simp only[zf];have bg:Hid (∀W:World,Calls prog 165 #[.agg #[I_ c.au,I_ c.rd,.slice f 32 r]] W λe w'=>e=.returned (.agg #[I_ 0,I_ 0,I_ 3,I_ 0,I_ 0,O_,I_ 0,I_ 0,O_,O_,I_ c.au,I_ c.rd,.slice f 32 r,I_ 0,I_ 0,O_,O_,O_,I_ 0])/\B_ W w'):=by
        show ∀W,_;intro W;have k:=zmA ⟨c.au,c.rd,⟨f,r,c.v.d⟩⟩ W;dsimp only [z7]at k;rw[ao.out]at k;exact k
       have bc:Hid (∀W:World,B_ W5 W->Calls prog 146 #[P_ F o,I_ c.au,.agg #[I_ 0,I_ 0,I_ 3,I_ 0,I_ 0,O_,I_ 0,I_ 0,O_,O_,I_ c.au,I_ c.rd,.slice f 32 r,I_ 0,I_ 0,O_,O_,O_,I_ 0]] W λe w'=>(∃v,e=.returned v)/\zal W U4 F o T ai x5 w' (x5.v.send c.au (zcE c.v.slot))):=by
        show ∀W,_;intro W Y;have k:=bb.out W Y;dsimp only [z7]at k;rw[ao.out]at k;exact k
       refine zE 4 rfl (λK9 N=>?_);refine zj rfl 65 rfl 165 [.tmp 64] #[53] rfl [.agg #[I_ c.au,I_ c.rd,.slice f 32 r]] rfl (eO_ func165) (λv w'=>v=.agg #[I_ 0,I_ 0,I_ 3,I_ 0,I_ 0,O_,I_ 0,I_ 0,O_,O_,I_ c.au,I_ c.rd,.slice f 32 r,I_ 0,I_ 0,O_,O_,O_,I_ 0]/\B_ H w') ((bg.out H).mono (λe w' k=>⟨_,k.1,rfl,k.2⟩)) ?_;rintro v E⟨rfl,O⟩;have I:=zm D O;have aV:=zk O av;have aX:=zk O ay;refine N.out _ _ ⟨aV,aX⟩ (λm=>?_);simp only[zf];refine zE 5 rfl (λK9 N=>?_);refine zj rfl 66 rfl 146 [.tmp 61,.tmp 63,.tmp 65] #[127,3,66] rfl [P_ F o,I_ c.au,.agg #[I_ 0,I_ 0,I_ 3,I_ 0,I_ 0,O_,I_ 0,I_ 0,O_,O_,I_ c.au,I_ c.rd,.slice f 32 r,I_ 0,I_ 0,O_,O_,O_,I_ 0]] rfl (eO_ func146) (λv w'=>zal E U4 F o T ai x5 w' (x5.v.send c.au (zcE c.v.slot))) ((bc.out E I).mono (λe w' k=>by
        obtain⟨⟨v,k1⟩,k2⟩:=k;exact⟨v,k1,k2⟩)) ?_
       rintro v X⟨U6,bj,x6,h6,n6,v6⟩;have br:=n6.box (h5.below I) aV aZ.out.2;have bu:=n6.box (h5.below I) aX aZ.out.1;refine N.out _ _ ⟨br,bu⟩ (λm=>?_);simp only[zf];clear m;refine wD_ (by kernel_rfl) ?_ _;go_wp2_with fail
       go_end0;refine⟨⟨_,rfl⟩,?_⟩;rw[bK.out];exact⟨U6,bj,x6,h6,(n5.trans (NTo.below (F:=F) (o:=o) U4 ai x5 I)).trans n6,by rw[v6,bf.out]⟩
    .have bE:(zaf x.v.k.tab c.v).2.2≠0:=by rw[<-x1];exact e0
     have am:Hid (x.v.hearO ⟨M,gvs L⟩ c.v=x.v):=by show _=_;rw[HM.out,if_pos bE]
     have b7:(V != 0)=true:=by simpa using e0
     clear hX x1 x2 x3 x4 x5 x6 e0 bE HM;go_wp2_with fail
     refine bP_ (results_none rfl _ _ _) rfl ?_;exact⟨⟨_,rfl⟩,by rw[am.out];exact⟨U,fc,x,h1.below ab,n1.trans (NTo.below (F:=F) (o:=o) U fc x ab),rfl⟩⟩
variable {j q:Nat}
theorem zzD:(prog.info? 61).map (·.size)=some 4:=by kernel_rfl
theorem zzE:(prog.info? 53).map (·.size)=some 3:=by kernel_rfl
theorem zq4 {b:Nat}(h:ob (some ⟨b,0,none⟩)=some q):b=q:=by simpa[ob]using h
theorem zac {b i:Nat}{v u:Value}(h:w.cell? ⟨b,i,none⟩=some u)(c:i≠j):(w.setCell ⟨b,j,none⟩ v).cell? ⟨b,i,none⟩=some u:=(World.cell?_setCell_other w ⟨b,j,none⟩ ⟨b,i,none⟩ v (λe=>c (by cases e;rfl))).trans h
theorem zan {b i:Nat}{v:Value}(h:w.frozen? ⟨b,i,none⟩=false):(w.setCell ⟨b,j,none⟩ v).frozen? ⟨b,i,none⟩=false:=(by simpa using h)
theorem zcY {v:Value}{b:Obj}(h:F<w.heap.size):(w.setCell ⟨F,j,none⟩ v).alloc b=(w.alloc b).setCell ⟨F,j,none⟩ v:=by
 simp only[World.alloc,World.setCell]
 congr 1
 apply Array.ext
 .simp
 .intro i c d;simp only[Array.getElem_modify,Array.getElem_push,Array.size_modify]
  split<;>split<;>first|rfl|(simp_all;done)|(exfalso;omega)
theorem zvQ {b:Nat}{n:Int}(h:R_ w b #[I_ n] 3):w.ownsRow 0 3 1 (.slice (some ⟨b,0,none⟩) [n].length 1) [n].length (iv [n]):=
 ⟨rfl,.inr ⟨b,1,_,rfl,nZ_ _,h,nR_ _,by decide,rfl,rfl⟩⟩
theorem U8L.v {l:List zi}(h:U8L l):∀b∈bss l,∀x∈b,0<=x/\x<=255:=λb c=>by
 obtain⟨p,d,rfl⟩:=List.mem_map.1 c
 exact h p d
theorem za3.own_ {n:Nd}(h:za3 n){c:CV}{s:SV}(f:c.hf=0)(d:c.vl=[])(g:zaN s.2.2)(j:∀b∈c.bl++c.pl,∀x∈b,0<=x/\x<=255):za3 { n with k:={ n.k with own:=c,slot:=s },vot:=[n.nu] }:=
 ⟨h.nu,h.pool,h.sh,h.shf,h.dag,.inr f,d,⟨by simp,(λv d=>by
  have e:v=n.nu:=by simpa using d
  rw[e];exact h.nu),by simp⟩,h.tape,h.syn,h.wai,h.trn,h.tab,h.u8t,g,j,h.du8⟩
theorem zlV (x:NM)(c:Ct)(s:Sl)(w:World)(U:Nat->Bool)(F o:Nat)(T:TypeId)(fc:Array Value)(h:zo w U F o T fc x)(hH:HAt (zq U w) c.ba c.bc c.bl c.pa c.pc c.pl)(hS:zg (zq U w) s.p.sa s.p.cap s.p.bs)(hf:c.v.hf=0)(au:c.vl=[])(bW:zaN s.p.bs)(h1:U8L c.bl)(h2:U8L c.pl) :
  Calls prog 142 #[P_ F o,.agg (hrow_ c),.agg (srow_ s)] w λe w'=>(∃v,e=.returned v)/\zal w U F o T fc x w' { x.v with k:={ x.v.k with own:=c.v,slot:=s.v },vot:=[x.v.nu] }:=by
 refine kW_ ?G0 ?_;exact(w.alloc (.cells (hrow_ c) 61)).alloc (.cells (srow_ s) 53);have hA:B_ w ?G0:=((bR_ _ _).alloc (nR_ _) _).alloc (by simp) _;have q0:=hX_ w (.cells (hrow_ c) 61) (.cells (srow_ s) 53);have q1:=hY_ w (.cells (hrow_ c) 61) (.cells (srow_ s) 53);go_in;go_upto_region 1 with fail
 generalize ?G0=W0 at hA q0 q1|-;have h0:=h.below hA;have bT:F<w.heap.size:=h.bnd F h.fu;have d:Hid (w.heap.size≠F/\w.heap.size+1≠F):=⟨by omega,by omega⟩;generalize w.heap.size+1=B1 at q1 d|-;generalize w.heap.size=B0 at q0 d|-;clear bT;refine kV_ ?B0 ?_;exact Value.slice s.p.sa s.p.bs.length s.p.cap;refine kV_ ?E0 ?_;exact Value.slice c.ba c.bl.length c.bc;refine kV_ ?F0 ?_;exact Value.slice c.pa c.pl.length c.pc;have af:∀(u:World) (p:Nat),B_ w u->w.heap.size<=p->R_ u p #[I_ x.nu] 3->(∃v,Ending.returned (.tuple #[])=.returned v)/\zal w U F o T fc x ((((((((u.setCell ⟨F,o+7,none⟩ (I_ c.au)).setCell ⟨F,o+8,none⟩ (I_ c.rd)).setCell ⟨F,o+9,none⟩ ?E0).setCell ⟨F,o+10,none⟩ ?F0).setCell ⟨F,o+11,none⟩ (I_ s.au)).setCell ⟨F,o+12,none⟩ (I_ s.rd)).setCell ⟨F,o+13,none⟩ ?B0).setCell ⟨F,o+14,none⟩ (.slice (some ⟨p,0,none⟩) 1 1)) { x.v with k:={ x.v.k with own:=c.v,slot:=s.v },vot:=[x.v.nu] }:=by
  intro u p y E z;refine⟨⟨_,rfl⟩,?_⟩;have gx:zao U (zaF U (ob (some ⟨p,0,none⟩))) w u:=⟨y.os,y.tape,y.output,y.size,λb hl _=>y.block b hl,λb hl=>by
   cases hu:U b with
   | true=>exact zaB hu
   | false=>exact zbw hu (λe=>by have:=zq4 e;omega)⟩
  have bU:=hH.sub gx.sub;have bV:=hS.sub gx.sub;have bX:=h.put_own (w2:=u) (h':=c) (s':=s) (a':=some ⟨p,0,none⟩) (c':=1) (l':=[x.nu]) y (λq e=>by have:=zq4 e;omega) (zvQ z) ?_ ?_ ?_
  .exact bX
  .exact⟨bU,⟨.inl au⟩,by rw[au];exact nZ_ _⟩
  .exact bV
  .exact h.inv.own_ hf au bW (λb hb=>by
    rcases List.mem_append.1 hb with g|g
    .exact h1.v b g
    .exact h2.v b g)
 have D:B_ w W0.drew:=hA.drew;have M:=dQ_ q0;have O:=dQ_ q1;refine wR_ (S:=λw'=>R_ w' B0 (hrow_ c) 61/\R_ w' B1 (srow_ s) 53) (by kernel_rfl) ⟨M,O⟩ (λl=>?_);generalize W0.drew=m at D M O l|-;refine tks_ 3 [(0,6,(P_ F o)),(1,7,(P_ F o)),(2,8,(P_ F o))] l ?_;simp only[tkf_,zf];refine tQ_ 3 9 (.agg (hrow_ c)) rfl rfl (Or.inl ⟨by rfl,λw0 ah=>zL 61 _ rfl B0 rfl 61 (hrow_ c) (0,0) _ ah.1 underlying61 rfl zzD⟩) l ?_;simp only[zf];refine tQ_ 4 10 (.agg (srow_ s)) rfl rfl (Or.inl ⟨by rfl,λw0 ah=>zL 53 _ rfl B1 rfl 53 (srow_ s) (0,0) _ ah.2 underlying53 rfl zzE⟩) l ?_;simp only[zf];refine tks_ 3 [(5,11,(P_ F o)),(6,12,(P_ F o)),(7,13,(P_ F o))] l ?_;simp only[tkf_,zf];refine zE 8 rfl (λB r=>?_);have k0:m.cell? ⟨F,o,none⟩=some (I_ x.nu):=(h.below D).cell 0 _ rfl;refine zy rfl 14 rfl (I_ x.nu) m (by go_simp) ?_;refine r.out _ _ l (λl=>?_);simp only[zf];have t:=h.below D;have C:F<m.heap.size:=ze t.blk;clear k0;have aR:=t.cell 7 _ rfl;have bE:=t.free (o+7);have aS:=t.cell 8 _ rfl;have bG:=t.free (o+8);have aT:=t.cell 9 _ rfl;have bI:=t.free (o+9);have aJ:=t.cell 10 _ rfl;have br:=t.free (o+10);have V:=t.cell 11 _ rfl;have aU:=t.free (o+11);have Z:=t.cell 12 _ rfl;have aX:=t.free (o+12);have ab:=t.cell 13 _ rfl;have a0:=t.free (o+13);have ad:=t.cell 14 _ rfl;have a3:=t.free (o+14);clear t;refine tks_ 2 [(10,16,(P_ F o)),(11,17,(P_ F (o+7)))] l ?_;simp only[tkf_,zf];refine wpAnyH_ready (rs:=[9,12]) (by kernel_rfl) (by simp) (AllReadyH.cons rfl (λB r=>?_) (AllReadyH.cons rfl (λB r=>?_) AllReadyH.nil));refine kO_ ?A0 ?_;exact Obj.cells #[I_ x.nu] 3
 .skip
  refine zy rfl 15 rfl (.slice (some ⟨m.heap.size,0,none⟩) 1 1) (m.alloc ?A0) (by go_simp) ?_;have G:=zC m ?A0;have y:=zm D G;have z:=hN_ m ?A0;have E:w.heap.size<=m.heap.size:=D.size;clear G;have f:=zC m ?A0;have av:=zk f M;have aC:=zk f O;have bo:=zr f aR;have bF:(m.alloc ?A0).frozen? ⟨F,o+7,none⟩=false:=(World.frozen?_of_block (f.block F (bL_ aR))).trans bE;have bp:=zr f aS;have bH:(m.alloc ?A0).frozen? ⟨F,o+8,none⟩=false:=(World.frozen?_of_block (f.block F (bL_ aS))).trans bG;have bq:=zr f aT;have bJ:(m.alloc ?A0).frozen? ⟨F,o+9,none⟩=false:=(World.frozen?_of_block (f.block F (bL_ aT))).trans bI;have be:=zr f aJ;have bs:(m.alloc ?A0).frozen? ⟨F,o+10,none⟩=false:=(World.frozen?_of_block (f.block F (bL_ aJ))).trans br;have aK:=zr f V;have aV:(m.alloc ?A0).frozen? ⟨F,o+11,none⟩=false:=(World.frozen?_of_block (f.block F (bL_ V))).trans aU;have aL:=zr f Z;have aY:(m.alloc ?A0).frozen? ⟨F,o+12,none⟩=false:=(World.frozen?_of_block (f.block F (bL_ Z))).trans aX;have aM:=zr f ab;have a1:(m.alloc ?A0).frozen? ⟨F,o+13,none⟩=false:=(World.frozen?_of_block (f.block F (bL_ ab))).trans a0;have aN:=zr f ad;have a4:(m.alloc ?A0).frozen? ⟨F,o+14,none⟩=false:=(World.frozen?_of_block (f.block F (bL_ ad))).trans a3;refine r.out _ _ ⟨av,aC⟩ (λl=>?_);simp only[zf];generalize m.alloc ?A0=u at y z f av aC bo bF bp bH bq bJ be bs aK aV aL aY aM a1 aN a4 l|-;clear f;generalize m.heap.size=p at z E|-;refine zE 12 rfl (λB r=>?_);refine kW_ ?H0 ?_;exact(((u.setCell ⟨F,o+7,none⟩ (I_ c.au)).setCell ⟨F,o+8,none⟩ (I_ c.rd)).setCell ⟨F,o+9,none⟩ ?E0).setCell ⟨F,o+10,none⟩ ?F0;refine zX rfl rfl ?H0 (by go_simp) ?_;have ax:=(zh (b:=F) (j:=o+10) (v:=.slice c.pa c.pl.length c.pc) (zh (b:=F) (j:=o+9) (v:=.slice c.ba c.bl.length c.bc) (zh (b:=F) (j:=o+8) (v:=I_ c.rd) (zh (b:=F) (j:=o+7) (v:=I_ c.au) av d.out.1) d.out.1) d.out.1) d.out.1);have aE:=(zh (b:=F) (j:=o+10) (v:=.slice c.pa c.pl.length c.pc) (zh (b:=F) (j:=o+9) (v:=.slice c.ba c.bl.length c.bc) (zh (b:=F) (j:=o+8) (v:=I_ c.rd) (zh (b:=F) (j:=o+7) (v:=I_ c.au) aC d.out.2) d.out.2) d.out.2) d.out.2);have bf:=(zac (j:=o+10) (v:=.slice c.pa c.pl.length c.pc) (zac (j:=o+9) (v:=.slice c.ba c.bl.length c.bc) (zac (j:=o+8) (v:=I_ c.rd) (zac (j:=o+7) (v:=I_ c.au) aK (by omega)) (by omega)) (by omega)) (by omega));have bt:=(zan (b:=F) (j:=o+10) (v:=.slice c.pa c.pl.length c.pc) (zan (b:=F) (j:=o+9) (v:=.slice c.ba c.bl.length c.bc) (zan (b:=F) (j:=o+8) (v:=I_ c.rd) (zan (b:=F) (j:=o+7) (v:=I_ c.au) aV))));have bh:=(zac (j:=o+10) (v:=.slice c.pa c.pl.length c.pc) (zac (j:=o+9) (v:=.slice c.ba c.bl.length c.bc) (zac (j:=o+8) (v:=I_ c.rd) (zac (j:=o+7) (v:=I_ c.au) aL (by omega)) (by omega)) (by omega)) (by omega));have bv:=(zan (b:=F) (j:=o+10) (v:=.slice c.pa c.pl.length c.pc) (zan (b:=F) (j:=o+9) (v:=.slice c.ba c.bl.length c.bc) (zan (b:=F) (j:=o+8) (v:=I_ c.rd) (zan (b:=F) (j:=o+7) (v:=I_ c.au) aY))));have bj:=(zac (j:=o+10) (v:=.slice c.pa c.pl.length c.pc) (zac (j:=o+9) (v:=.slice c.ba c.bl.length c.bc) (zac (j:=o+8) (v:=I_ c.rd) (zac (j:=o+7) (v:=I_ c.au) aM (by omega)) (by omega)) (by omega)) (by omega));have bx:=(zan (b:=F) (j:=o+10) (v:=.slice c.pa c.pl.length c.pc) (zan (b:=F) (j:=o+9) (v:=.slice c.ba c.bl.length c.bc) (zan (b:=F) (j:=o+8) (v:=I_ c.rd) (zan (b:=F) (j:=o+7) (v:=I_ c.au) a1))));have aO:=(zac (j:=o+10) (v:=.slice c.pa c.pl.length c.pc) (zac (j:=o+9) (v:=.slice c.ba c.bl.length c.bc) (zac (j:=o+8) (v:=I_ c.rd) (zac (j:=o+7) (v:=I_ c.au) aN (by omega)) (by omega)) (by omega)) (by omega));have a5:=(zan (b:=F) (j:=o+10) (v:=.slice c.pa c.pl.length c.pc) (zan (b:=F) (j:=o+9) (v:=.slice c.ba c.bl.length c.bc) (zan (b:=F) (j:=o+8) (v:=I_ c.rd) (zan (b:=F) (j:=o+7) (v:=I_ c.au) a4))));refine r.out _ _ ⟨ax,aE⟩ (λl=>?_);obtain⟨X2,ak⟩:∃X,X=?H0:=⟨_,rfl⟩;rw[<-ak]at l ax aE bf bt bh bv bj bx aO a5|-;have bM:Hid _:=ak;clear ak bo bF bp bH bq bJ be bs aK aV aL aY aM a1 aN a4;refine tks_ 2 [(13,18,(P_ F o)),(14,19,(P_ F (o+11)))] l ?_;simp only[tkf_,zf];refine zE 15 rfl (λB r=>?_);refine kW_ ?I0 ?_;exact((X2.setCell ⟨F,o+11,none⟩ (I_ s.au)).setCell ⟨F,o+12,none⟩ (I_ s.rd)).setCell ⟨F,o+13,none⟩ ?B0;refine zX rfl rfl ?I0 (by go_simp) ?_;have ay:=(zh (b:=F) (j:=o+13) (v:=.slice s.p.sa s.p.bs.length s.p.cap) (zh (b:=F) (j:=o+12) (v:=I_ s.rd) (zh (b:=F) (j:=o+11) (v:=I_ s.au) ax d.out.1) d.out.1) d.out.1);have aF:=(zh (b:=F) (j:=o+13) (v:=.slice s.p.sa s.p.bs.length s.p.cap) (zh (b:=F) (j:=o+12) (v:=I_ s.rd) (zh (b:=F) (j:=o+11) (v:=I_ s.au) aE d.out.2) d.out.2) d.out.2);have bm:=(zac (j:=o+13) (v:=.slice s.p.sa s.p.bs.length s.p.cap) (zac (j:=o+12) (v:=I_ s.rd) (zac (j:=o+11) (v:=I_ s.au) aO (by omega)) (by omega)) (by omega));have bB:=(zan (b:=F) (j:=o+13) (v:=.slice s.p.sa s.p.bs.length s.p.cap) (zan (b:=F) (j:=o+12) (v:=I_ s.rd) (zan (b:=F) (j:=o+11) (v:=I_ s.au) a5)));refine r.out _ _ ⟨ay,aF⟩ (λl=>?_);obtain⟨X3,al⟩:∃X,X=?I0:=⟨_,rfl⟩;rw[<-al]at l ay aF bm bB|-;have bN:Hid _:=al;clear al bf bt bh bv bj bx aO a5;refine tks_ 2 [(16,20,(P_ F o)),(17,21,(P_ F (o+14)))] l ?_;simp only[tkf_,zf];refine zE 18 rfl (λB r=>?_);refine kW_ ?J0 ?_;exact X3.setCell ⟨F,o+14,none⟩ (.slice (some ⟨p,0,none⟩) 1 1);refine zX rfl rfl ?J0 (by go_simp) ?_;have a9:=(zh (b:=F) (j:=o+14) (v:=.slice (some ⟨p,0,none⟩) 1 1) ay d.out.1);have bc:=(zh (b:=F) (j:=o+14) (v:=.slice (some ⟨p,0,none⟩) 1 1) aF d.out.2);refine r.out _ _ ⟨a9,bc⟩ (λl=>?_);obtain⟨X4,am⟩:∃X,X=?J0:=⟨_,rfl⟩;rw[<-am]at l a9 bc  ⊢;have bO:Hid _:=am;clear am bm bB;clear l;refine wD_ (by kernel_rfl) ?_ _;go_wp2_with fail
  go_end0;rw[bO.out,bN.out,bM.out];exact af u p y E z
 refine kW_ ?C0 ?_;exact((((m.alloc ?A0).setCell ⟨F,o+7,none⟩ (I_ c.au)).setCell ⟨F,o+8,none⟩ (I_ c.rd)).setCell ⟨F,o+9,none⟩ (.slice c.ba c.bl.length c.bc)).setCell ⟨F,o+10,none⟩ (.slice c.pa c.pl.length c.pc);refine kW_ ?D0 ?_;exact(((m.setCell ⟨F,o+7,none⟩ (I_ c.au)).setCell ⟨F,o+8,none⟩ (I_ c.rd)).setCell ⟨F,o+9,none⟩ (.slice c.ba c.bl.length c.bc)).setCell ⟨F,o+10,none⟩ (.slice c.pa c.pl.length c.pc)
 .skip
  refine zX rfl rfl ?D0 (by go_simp) ?_;have N:=(zh (b:=F) (j:=o+10) (v:=.slice c.pa c.pl.length c.pc) (zh (b:=F) (j:=o+9) (v:=.slice c.ba c.bl.length c.bc) (zh (b:=F) (j:=o+8) (v:=I_ c.rd) (zh (b:=F) (j:=o+7) (v:=I_ c.au) M d.out.1) d.out.1) d.out.1) d.out.1);have R:=(zh (b:=F) (j:=o+10) (v:=.slice c.pa c.pl.length c.pc) (zh (b:=F) (j:=o+9) (v:=.slice c.ba c.bl.length c.bc) (zh (b:=F) (j:=o+8) (v:=I_ c.rd) (zh (b:=F) (j:=o+7) (v:=I_ c.au) O d.out.2) d.out.2) d.out.2) d.out.2);have Y:=(zac (j:=o+10) (v:=.slice c.pa c.pl.length c.pc) (zac (j:=o+9) (v:=.slice c.ba c.bl.length c.bc) (zac (j:=o+8) (v:=I_ c.rd) (zac (j:=o+7) (v:=I_ c.au) V (by omega)) (by omega)) (by omega)) (by omega));have aW:=(zan (b:=F) (j:=o+10) (v:=.slice c.pa c.pl.length c.pc) (zan (b:=F) (j:=o+9) (v:=.slice c.ba c.bl.length c.bc) (zan (b:=F) (j:=o+8) (v:=I_ c.rd) (zan (b:=F) (j:=o+7) (v:=I_ c.au) aU))));have aa:=(zac (j:=o+10) (v:=.slice c.pa c.pl.length c.pc) (zac (j:=o+9) (v:=.slice c.ba c.bl.length c.bc) (zac (j:=o+8) (v:=I_ c.rd) (zac (j:=o+7) (v:=I_ c.au) Z (by omega)) (by omega)) (by omega)) (by omega));have aZ:=(zan (b:=F) (j:=o+10) (v:=.slice c.pa c.pl.length c.pc) (zan (b:=F) (j:=o+9) (v:=.slice c.ba c.bl.length c.bc) (zan (b:=F) (j:=o+8) (v:=I_ c.rd) (zan (b:=F) (j:=o+7) (v:=I_ c.au) aX))));have ac:=(zac (j:=o+10) (v:=.slice c.pa c.pl.length c.pc) (zac (j:=o+9) (v:=.slice c.ba c.bl.length c.bc) (zac (j:=o+8) (v:=I_ c.rd) (zac (j:=o+7) (v:=I_ c.au) ab (by omega)) (by omega)) (by omega)) (by omega));have a2:=(zan (b:=F) (j:=o+10) (v:=.slice c.pa c.pl.length c.pc) (zan (b:=F) (j:=o+9) (v:=.slice c.ba c.bl.length c.bc) (zan (b:=F) (j:=o+8) (v:=I_ c.rd) (zan (b:=F) (j:=o+7) (v:=I_ c.au) a0))));have L:=(zac (j:=o+10) (v:=.slice c.pa c.pl.length c.pc) (zac (j:=o+9) (v:=.slice c.ba c.bl.length c.bc) (zac (j:=o+8) (v:=I_ c.rd) (zac (j:=o+7) (v:=I_ c.au) ad (by omega)) (by omega)) (by omega)) (by omega));have ae:=(zan (b:=F) (j:=o+10) (v:=.slice c.pa c.pl.length c.pc) (zan (b:=F) (j:=o+9) (v:=.slice c.ba c.bl.length c.bc) (zan (b:=F) (j:=o+8) (v:=I_ c.rd) (zan (b:=F) (j:=o+7) (v:=I_ c.au) a3))));refine r.out _ _ ⟨N,R⟩ (λl=>?_);obtain⟨A,an⟩:∃X,X=?D0:=⟨_,rfl⟩;rw[<-an]at l N R Y aW aa aZ ac a2 L ae|-;have a7:Hid _:=an;clear an aR bE aS bG aT bI aJ br V aU Z aX ab a0 ad a3;refine tks_ 2 [(13,18,(P_ F o)),(14,19,(P_ F (o+11)))] l ?_;simp only[tkf_,zf];refine wpAnyH_ready (rs:=[9,15]) (by kernel_rfl) (by simp) (AllReadyH.cons rfl (λB r=>?_) (AllReadyH.cons rfl (λB r=>?_) AllReadyH.nil))
  .skip
   refine zy rfl 15 rfl (.slice (some ⟨A.heap.size,0,none⟩) 1 1) (A.alloc ?A0) (by go_simp) ?_;have G:=zC m ?A0;have y:=zm D G;have z:=hN_ m ?A0;have E:w.heap.size<=m.heap.size:=D.size;clear G;have f:=zC A ?A0;have az:=zk f N;have aG:=zk f R;have bg:=zr f Y;have bu:(A.alloc ?A0).frozen? ⟨F,o+11,none⟩=false:=(World.frozen?_of_block (f.block F (bL_ Y))).trans aW;have bi:=zr f aa;have bw:(A.alloc ?A0).frozen? ⟨F,o+12,none⟩=false:=(World.frozen?_of_block (f.block F (bL_ aa))).trans aZ;have bk:=zr f ac;have bz:(A.alloc ?A0).frozen? ⟨F,o+13,none⟩=false:=(World.frozen?_of_block (f.block F (bL_ ac))).trans a2;have aP:=zr f L;have a6:(A.alloc ?A0).frozen? ⟨F,o+14,none⟩=false:=(World.frozen?_of_block (f.block F (bL_ L))).trans ae;refine r.out _ _ ⟨az,aG⟩ (λl=>?_);simp only[zf];have I:A.alloc ?A0=?C0/\A.heap.size=m.heap.size:=by
    rw[a7.out];exact⟨by rw[zcY (by simpa using C),zcY (by simpa using C),zcY (by simpa using C),zcY (by simpa using C)],by simp⟩
   rw[I.2];have J:=I.1;clear I;generalize m.alloc ?A0=u at y z J;generalize m.heap.size=p at z E|-;obtain⟨X6,ao⟩:∃X,X=A.alloc ?A0:=⟨_,rfl⟩;rw[<-ao]at l az aG bg bu bi bw bk bz aP a6|-;have bP:Hid (X6=((((u.setCell ⟨F,o+7,none⟩ (I_ c.au)).setCell ⟨F,o+8,none⟩ (I_ c.rd)).setCell ⟨F,o+9,none⟩ ?E0).setCell ⟨F,o+10,none⟩ ?F0)):=ao.trans J;clear ao J f;refine zE 15 rfl (λB r=>?_);refine kW_ ?L0 ?_;exact((X6.setCell ⟨F,o+11,none⟩ (I_ s.au)).setCell ⟨F,o+12,none⟩ (I_ s.rd)).setCell ⟨F,o+13,none⟩ ?B0;refine zX rfl rfl ?L0 (by go_simp) ?_;have aA:=(zh (b:=F) (j:=o+13) (v:=.slice s.p.sa s.p.bs.length s.p.cap) (zh (b:=F) (j:=o+12) (v:=I_ s.rd) (zh (b:=F) (j:=o+11) (v:=I_ s.au) az d.out.1) d.out.1) d.out.1);have aH:=(zh (b:=F) (j:=o+13) (v:=.slice s.p.sa s.p.bs.length s.p.cap) (zh (b:=F) (j:=o+12) (v:=I_ s.rd) (zh (b:=F) (j:=o+11) (v:=I_ s.au) aG d.out.2) d.out.2) d.out.2);have bn:=(zac (j:=o+13) (v:=.slice s.p.sa s.p.bs.length s.p.cap) (zac (j:=o+12) (v:=I_ s.rd) (zac (j:=o+11) (v:=I_ s.au) aP (by omega)) (by omega)) (by omega));have bC:=(zan (b:=F) (j:=o+13) (v:=.slice s.p.sa s.p.bs.length s.p.cap) (zan (b:=F) (j:=o+12) (v:=I_ s.rd) (zan (b:=F) (j:=o+11) (v:=I_ s.au) a6)));refine r.out _ _ ⟨aA,aH⟩ (λl=>?_);obtain⟨X7,ap⟩:∃X,X=?L0:=⟨_,rfl⟩;rw[<-ap]at l aA aH bn bC|-;have bQ:Hid _:=ap;clear ap bg bu bi bw bk bz aP a6;refine tks_ 2 [(16,20,(P_ F o)),(17,21,(P_ F (o+14)))] l ?_;simp only[tkf_,zf];refine zE 18 rfl (λB r=>?_);refine kW_ ?M0 ?_;exact X7.setCell ⟨F,o+14,none⟩ (.slice (some ⟨p,0,none⟩) 1 1);refine zX rfl rfl ?M0 (by go_simp) ?_;have ba:=(zh (b:=F) (j:=o+14) (v:=.slice (some ⟨p,0,none⟩) 1 1) aA d.out.1);have bd:=(zh (b:=F) (j:=o+14) (v:=.slice (some ⟨p,0,none⟩) 1 1) aH d.out.2);refine r.out _ _ ⟨ba,bd⟩ (λl=>?_);obtain⟨X8,aq⟩:∃X,X=?M0:=⟨_,rfl⟩;rw[<-aq]at l ba bd  ⊢;have bR:Hid _:=aq;clear aq bn bC;clear l;refine wD_ (by kernel_rfl) ?_ _;go_wp2_with fail
   go_end0;rw[bR.out,bQ.out,bP.out];exact af u p y E z
  refine kW_ ?K0 ?_;exact((A.setCell ⟨F,o+11,none⟩ (I_ s.au)).setCell ⟨F,o+12,none⟩ (I_ s.rd)).setCell ⟨F,o+13,none⟩ ?B0
  .skip
   refine zX rfl rfl ?K0 (by go_simp) ?_;have aB:=(zh (b:=F) (j:=o+13) (v:=.slice s.p.sa s.p.bs.length s.p.cap) (zh (b:=F) (j:=o+12) (v:=I_ s.rd) (zh (b:=F) (j:=o+11) (v:=I_ s.au) N d.out.1) d.out.1) d.out.1);have aI:=(zh (b:=F) (j:=o+13) (v:=.slice s.p.sa s.p.bs.length s.p.cap) (zh (b:=F) (j:=o+12) (v:=I_ s.rd) (zh (b:=F) (j:=o+11) (v:=I_ s.au) R d.out.2) d.out.2) d.out.2);have aQ:=(zac (j:=o+13) (v:=.slice s.p.sa s.p.bs.length s.p.cap) (zac (j:=o+12) (v:=I_ s.rd) (zac (j:=o+11) (v:=I_ s.au) L (by omega)) (by omega)) (by omega));have bD:=(zan (b:=F) (j:=o+13) (v:=.slice s.p.sa s.p.bs.length s.p.cap) (zan (b:=F) (j:=o+12) (v:=I_ s.rd) (zan (b:=F) (j:=o+11) (v:=I_ s.au) ae)));refine r.out _ _ ⟨aB,aI⟩ (λl=>?_);obtain⟨H,ar⟩:∃X,X=?K0:=⟨_,rfl⟩;rw[<-ar]at l aB aI aQ bD|-;have bS:Hid _:=ar;clear ar Y aW aa aZ ac a2 L ae;refine zE 9 rfl (λB r=>?_);refine zy rfl 15 rfl (.slice (some ⟨H.heap.size,0,none⟩) 1 1) (H.alloc ?A0) (by go_simp) ?_;have G:=zC m ?A0;have y:=zm D G;have z:=hN_ m ?A0;have E:w.heap.size<=m.heap.size:=D.size;clear G;have f:=zC H ?A0;have aw:=zk f aB;have aD:=zk f aI;have bl:=zr f aQ;have bA:(H.alloc ?A0).frozen? ⟨F,o+14,none⟩=false:=(World.frozen?_of_block (f.block F (bL_ aQ))).trans bD;refine r.out _ _ ⟨aw,aD⟩ (λl=>?_);simp only[zf];have I:H.alloc ?A0=((((?C0).setCell ⟨F,o+11,none⟩ (I_ s.au)).setCell ⟨F,o+12,none⟩ (I_ s.rd)).setCell ⟨F,o+13,none⟩ ?B0)/\H.heap.size=m.heap.size:=by
    rw[bS.out,a7.out];exact⟨by rw[zcY (by simpa using C),zcY (by simpa using C),zcY (by simpa using C),zcY (by simpa using C),zcY (by simpa using C),zcY (by simpa using C),zcY (by simpa using C)],by simp⟩
   rw[I.2];have J:=I.1;clear I;generalize m.alloc ?A0=u at y z J;generalize m.heap.size=p at z E|-;obtain⟨ag,ai⟩:∃X,X=H.alloc ?A0:=⟨_,rfl⟩;rw[<-ai]at l aw aD bl bA|-;have bK:Hid (ag=(((((((u.setCell ⟨F,o+7,none⟩ (I_ c.au)).setCell ⟨F,o+8,none⟩ (I_ c.rd)).setCell ⟨F,o+9,none⟩ ?E0).setCell ⟨F,o+10,none⟩ ?F0).setCell ⟨F,o+11,none⟩ (I_ s.au)).setCell ⟨F,o+12,none⟩ (I_ s.rd)).setCell ⟨F,o+13,none⟩ ?B0)):=ai.trans J;clear ai J f;refine tks_ 2 [(16,20,(P_ F o)),(17,21,(P_ F (o+14)))] l ?_;simp only[tkf_,zf];refine zE 18 rfl (λB r=>?_);refine kW_ ?N0 ?_;exact ag.setCell ⟨F,o+14,none⟩ (.slice (some ⟨p,0,none⟩) 1 1);refine zX rfl rfl ?N0 (by go_simp) ?_;have a8:=(zh (b:=F) (j:=o+14) (v:=.slice (some ⟨p,0,none⟩) 1 1) aw d.out.1);have bb:=(zh (b:=F) (j:=o+14) (v:=.slice (some ⟨p,0,none⟩) 1 1) aD d.out.2);refine r.out _ _ ⟨a8,bb⟩ (λl=>?_);obtain⟨bY,aj⟩:∃X,X=?N0:=⟨_,rfl⟩;rw[<-aj]at l a8 bb  ⊢;have bL:Hid _:=aj;clear aj bl bA;clear l;refine wD_ (by kernel_rfl) ?_ _;go_wp2_with fail
   go_end0;rw[bL.out,bK.out];exact af u p y E z
def Nd.recO (n:Nd)(h:CV):Nd:={ n with k:={ n.k with own:=h,slot:=h.slot,tab:=if(zaf n.k.tab h).2.2=0 then(zaf n.k.tab h).1 else n.k.tab },vot:=[n.nu] }
theorem zqe {n:Nd}{m:MC}(b:m.ki=2)(c:m.h.hf=0):n.recall m=n.recO m.h:=by
 have d:(if m.ki=2/\m.h.hf=0 then [n.nu]else n.vot)=[n.nu]:=if_pos ⟨b,c⟩;have f:n.k.rcl m=(n.recO m.h).k:=by
  unfold Kn.rcl;rw[if_neg (show ¬m.ki=1 by rw[b];decide),if_pos b,if_pos c]
  rfl
 rw[Nd.recall,d,f]
 rfl
theorem zqf (x:NM)(c:Ct)(w:World)(U:Nat->Bool)(F o:Nat)(T:TypeId)(fc:Array Value)(h:zo w U F o T fc x)(hH:HAt (zq U w) c.ba c.bc c.bl c.pa c.pc c.pl)(hf:c.v.hf=0)(a3:c.vl=[])(a1:U8L c.bl)(a2:U8L c.pl) :
  Calls prog 157 #[P_ F o,.agg (hrow_ c)] w λe w'=>(∃v,e=.returned v)/\zal w U F o T fc x w' (x.v.recO c.v):=by
 have aX:zO c.au c.rd c.bl c.pl=0:=by rw[Ct.hf_v];exact hf
 have hA:=zC w (.cells (hrow_ c) 61);have q0:=hN_ w (.cells (hrow_ c) 61);have aK:Hid (U w.heap.size=false):=h.bnd.new (nR_ _);go_in;go_upto_region 1 with fail
 generalize w.alloc (.cells (hrow_ c) 61)=W0 at hA q0|-;generalize w.heap.size=B0 at q0 aK|-;have h0:=h.below hA;have aI:=hH.sub (h.later hA);have s0:=zb q0 0 _ rfl;have s1:=zb q0 1 _ rfl;have s2:=zb q0 2 _ rfl;have s3:=zb q0 3 _ rfl;have HS:=zi1 c.au c.rd c.ba c.bc c.bl c.pa c.pc c.pl W0 (aI.sub (zK _ _)) aX (h0.tabs.sub (zK _ _));go_wp2_with fail
 refine HS.mono ?_;rintro e w1⟨b,he,aP,aZ,X,aO⟩;subst he;dsimp only;clear HS s0 s1 s2 s3;have aw:=zC w1 (.cells #[I_ c.au,I_ c.rd,.slice (some ⟨b,0,none⟩) 32 32] 53);have q2:=hN_ w1 (.cells #[I_ c.au,I_ c.rd,.slice (some ⟨b,0,none⟩) 32 32] 53);go_upto_region 3 with fail
 generalize w1.alloc (.cells #[I_ c.au,I_ c.rd,.slice (some ⟨b,0,none⟩) 32 32] 53)=W2 at aw q2|-;generalize w1.heap.size=NB at q2|-;have aB:=zm aO aw;have ax:=zm hA aB;have h2:=h.below ax;have n2:=NTo.below (F:=F) (o:=o) U fc x ax;have aD:=hH.sub (h.later ax);have a0:Hid (c.v.d.length=32):=c.v.d_length;have aQ:c.v.d=zaE c.au c.rd c.bl c.pl:=(Ct.d_v c).symm;have aJ:zg (zq U W2) (some ⟨b,0,none⟩) 32 c.v.d:=by
  rw[aQ];exact zci (X.below aw) (λl r e _=>by cases e;exact h0.bnd.new aP)
 have aj:=zk aB q0;have aG:Calls prog 142 #[P_ F o,.agg (hrow_ c),.agg #[I_ c.au,I_ c.rd,.slice (some ⟨b,0,none⟩) 32 32]] W2 λe w'=>(∃v,e=.returned v)/\zal W2 U F o T fc x w' { x.v with k:={ x.v.k with own:=c.v,slot:=c.v.slot },vot:=[x.v.nu] }:=by
  have k:=zlV x c ⟨c.au,c.rd,⟨some ⟨b,0,none⟩,32,c.v.d⟩⟩ W2 U F o T fc h2 aD aJ hf a3 (zfy c.v) a1 a2;dsimp only [srow_]at k;rw[a0.out]at k;exact k
 clear aQ aJ X aP aZ hA aO aw aB ax h0 aI q0;have s0:=zb aj 0 _ rfl;have s1:=zb aj 1 _ rfl;have s2:=zb aj 2 _ rfl;have s3:=zb aj 3 _ rfl;have r0:=zb q2 0 _ rfl;have r1:=zb q2 1 _ rfl;have r2:=zb q2 2 _ rfl;go_wp2_with fail
 refine aG.mono ?_;rintro e w3⟨⟨v,he⟩,U3,fc3,x3,h1,n3,v3⟩;subst he;dsimp only;clear aG s0 s1 s2 s3 r0 r1 r2;have aU:=n3.box h2 aj aK.out;have aC:HAt (zq U3 w3) c.ba c.bc c.bl c.pa c.pc c.pl:=aD.sub (n3.sub h2);have n1:=n2.trans n3;have aT:Hid (x3.v.k.tab=x.v.k.tab):=by show _=_;rw[v3]
 have aH:Hid _:=v3;clear v3 aj q2 h2 aD n2 n3;have c5:=h1.cell 5 _ rfl;go_upto_region 4 with fail
 obtain⟨I,aM⟩:∃W,W=w3:=⟨_,rfl⟩;rw[<-aM]at h1 n1 aU aC c5|-;clear aM;go_cut [6,7,8] (λu6 u7 u8 wx=>∃(z:Option Addr) (rc:Nat) (f:List Sl) (d:Nat) (m:Option Addr) (t:Nat) (u y:Int) (ds:List Int) (A:Int),u6=.slice z f.length rc/\u7=(P_ d 0)/\u8=I_ A/\B_ I wx/\I.heap.size<=d/\R_ wx d #[I_ u,I_ y,.slice m ds.length t] 53/\Hid ((vs f,(u,y,ds),A)=zaf x3.v.k.tab c.v/\zg wx m t ds/\(∀l r,m=some ⟨l,r,none⟩->I.heap.size<=l/\(Value.slice z f.length rc).ownBlock≠some l)/\wx.ownsRow I.heap.size 53 3 (.slice z f.length rc) f.length (slv f)/\z8 wx I.heap.size (.slice z f.length rc) (ps f)/\(Value.slice z f.length rc).ownBlock≠some d))
 case first=>
  have O:=dB_ I;have ak:=dC_ c5;have au:=dQ_ aU;refine wR_ (S:=λw'=>w'.cell? ⟨F,o+5,none⟩=some (.slice x3.ta x3.tab.length x3.tc)/\R_ w' B0 (hrow_ c) 61) (by kernel_rfl) ⟨ak,au⟩ (λD=>?_);generalize I.drew=J at O ak au D|-;refine tks_ 4 [(0,21,(P_ F o)),(1,22,(P_ F o)),(2,23,(P_ F (o+5))),(3,24,.slice x3.ta x3.tab.length x3.tc)] D ?_;simp only[tkf_,zf];refine tQ_ 4 25 (.agg (hrow_ c)) rfl rfl (Or.inl ⟨by rfl,λw0 aY=>zL 61 _ rfl B0 rfl 61 (hrow_ c) (0,0) _ aY.2 underlying61 rfl sHd⟩) D ?_;simp only[zf];refine wpAnyH_ready (rs:=[5,10]) (by kernel_rfl) (by simp) (AllReadyH.cons rfl (λK9 V=>?_) (AllReadyH.cons rfl (λK9 V=>?_) AllReadyH.nil));refine zj rfl 26 rfl 139 [.tmp 24,.tmp 25] #[44,61] rfl [.slice x3.ta x3.tab.length x3.tc,.agg (hrow_ c)] rfl (eO_ func139) (λv w'=>(∃(z:Option Addr) (rc:Nat) (f:List Sl) (m:Option Addr) (t:Nat) (u y:Int) (ds:List Int) (A:Int),v=.tuple #[.slice z (List.length f) rc,.agg #[I_ u,I_ y,.slice m (List.length ds) t],I_ A]/\(vs f,(u,y,ds),A)=zaf x3.v.k.tab c.v/\zg w' m t ds/\(∀l r,m=some ⟨l,r,none⟩->J.heap.size<=l/\(Value.slice z (List.length f) rc).ownBlock≠some l)/\w'.ownsRow J.heap.size 53 3 (.slice z (List.length f) rc) (List.length f) (slv f)/\z8 w' J.heap.size (.slice z (List.length f) rc) (ps f))/\B_ J w') ((zgh x3.tab x3.ta x3.tc c.au c.rd c.ba c.bc c.bl c.pa c.pc c.pl J ((h1.below O).tabAt) ((aC.sub (zK U3 I)).below O) ((h1.below O).tabs.sub (zK _ _))).mono (λe w' k=>by
    obtain⟨z,rc,f,m,t,u,y,ds,A,k1,k2,_,k4,_,k6,k7,k8,k9,aF⟩:=k;exact⟨_,k1,⟨z,rc,f,m,t,u,y,ds,A,rfl,by rw[k2,zgi];rfl,k4,λl r e=>⟨k6 l r e,aF l r e⟩,k8,k9⟩,k7⟩)) ?_
  rintro v E⟨⟨z,rc,f,m,t,u,y,ds,A,rfl,hR,X,ag,hO,M⟩,hbc⟩;have N:=zm O hbc;have ab:=zr hbc ak;have ac:=zk hbc au;refine V.out _ _ ⟨ab,ac⟩ (λD=>?_)
  rotate_left
  refine zy rfl 7 rfl (P_ J.heap.size 0) (J.alloc (.cells #[I_ 0,I_ 0,O_] 53)) (by go_simp) ?_;have L:=zC J (.cells #[I_ 0,I_ 0,O_] 53);have C:=hN_ J (.cells #[I_ 0,I_ 0,O_] 53);have N:=zm O L;have R:I.heap.size<=J.heap.size:=O.size;have ab:=zr L ak;have Z:F≠J.heap.size:=Nat.ne_of_lt (bL_ ak);have ac:=zk L au;have aa:B0≠J.heap.size:=Nat.ne_of_lt (ze au);refine V.out _ _ ⟨ab,ac⟩ (λD=>?_);simp only[zf];have ae:J.heap.size<(J.alloc (.cells #[I_ 0,I_ 0,O_] 53)).heap.size:=by simp
  generalize J.alloc (.cells #[I_ 0,I_ 0,O_] 53)=E at L C N ae ab ac D|-;clear L;generalize J.heap.size=d at C R ae Z aa|-;refine zE 5 rfl (λK9 V=>?_);have bd:=ae;refine zj rfl 26 rfl 139 [.tmp 24,.tmp 25] #[44,61] rfl [.slice x3.ta x3.tab.length x3.tc,.agg (hrow_ c)] rfl (eO_ func139) (λv w'=>(∃(z:Option Addr) (rc:Nat) (f:List Sl) (m:Option Addr) (t:Nat) (u y:Int) (ds:List Int) (A:Int),v=.tuple #[.slice z (List.length f) rc,.agg #[I_ u,I_ y,.slice m (List.length ds) t],I_ A]/\(vs f,(u,y,ds),A)=zaf x3.v.k.tab c.v/\zg w' m t ds/\(∀l r,m=some ⟨l,r,none⟩->E.heap.size<=l/\(Value.slice z (List.length f) rc).ownBlock≠some l)/\w'.ownsRow E.heap.size 53 3 (.slice z (List.length f) rc) (List.length f) (slv f)/\z8 w' E.heap.size (.slice z (List.length f) rc) (ps f))/\B_ E w') ((zgh x3.tab x3.ta x3.tc c.au c.rd c.ba c.bc c.bl c.pa c.pc c.pl E ((h1.below N).tabAt) ((aC.sub (zK U3 I)).below N) ((h1.below N).tabs.sub (zK _ _))).mono (λe w' k=>by
    obtain⟨z,rc,f,m,t,u,y,ds,A,k1,k2,_,k4,_,k6,k7,k8,k9,aF⟩:=k;exact⟨_,k1,⟨z,rc,f,m,t,u,y,ds,A,rfl,by rw[k2,zgi];rfl,k4,λl r e=>⟨k6 l r e,aF l r e⟩,k8,k9⟩,k7⟩)) ?_
  rintro v H⟨⟨z,rc,f,m,t,u,y,ds,A,rfl,hR,X,ag,hO,M⟩,hbc⟩;have ay:=zm N hbc;have ad:=zr hbc ab;have ai:=zk hbc ac;have C:=zk hbc C;refine V.out _ _ ⟨ad,ai⟩ (λD=>?_)
  rotate_left
  all_goals
   simp only[zf];refine tks_ 4 [(6,20,.tuple #[.slice z f.length rc,.agg #[I_ u,I_ y,.slice m ds.length t],I_ A]),(7,27,.slice z f.length rc),(8,28,.agg #[I_ u,I_ y,.slice m ds.length t]),(9,29,I_ A)] D ?_;simp only[tkf_,zf]
  refine zE 10 rfl (λK9 V=>?_);refine zy rfl 7 rfl (P_ E.heap.size 0) (E.alloc (.cells #[I_ 0,I_ 0,O_] 53)) (by go_simp) ?_;have L:=zC E (.cells #[I_ 0,I_ 0,O_] 53);have C:=hN_ E (.cells #[I_ 0,I_ 0,O_] 53);have ay:=zm N L;have R:I.heap.size<=E.heap.size:=N.size;have ad:=zr L ab;have Z:F≠E.heap.size:=Nat.ne_of_lt (bL_ ab);have ai:=zk L ac;have aa:B0≠E.heap.size:=Nat.ne_of_lt (ze ac);have ah:∀q,(Value.slice z f.length rc).ownBlock=some q->q≠E.heap.size:=λq e=>Nat.ne_of_lt (hO.lt q e).2;have aA:∀l r,m=some ⟨l,r,none⟩->ds≠[]->l≠E.heap.size:=λl r e hn=>Nat.ne_of_lt (zhh X hn e);have az:∀p∈ps f,∀l r,p.sa=some ⟨l,r,none⟩->l≠E.heap.size:=λp B l r e=>Nat.ne_of_lt ((M p B).2 l r e).2.1;have X:=X.below L;have hO:=zw hO L;have M:=M.same L.size (λp B b r e=>L.block b ((M p B).2 b r e).2.1);refine V.out _ _ ⟨ad,ai⟩ (λD=>?_);simp only[zf];have ae:E.heap.size<(E.alloc (.cells #[I_ 0,I_ 0,O_] 53)).heap.size:=by simp
  generalize E.alloc (.cells #[I_ 0,I_ 0,O_] 53)=H at L C ay ae ad ai X hO M D|-;clear L;generalize E.heap.size=d at C R ae Z aa ah aA az|-
  rotate_left
  have ah:∀q,(Value.slice z f.length rc).ownBlock=some q->q≠d:=λq e=>by have:=(hO.lt q e).1;omega
  have aA:∀l r,m=some ⟨l,r,none⟩->ds≠[]->l≠d:=λl r e hn=>by have:=(ag l r e).1;omega
  have az:∀p∈ps f,∀l r,p.sa=some ⟨l,r,none⟩->l≠d:=λp B l r e=>by have:=((M p B).2 l r e).1;omega
  rotate_left
  all_goals
   have a8:=zb C 0 _ rfl;have a5:=zd C 0;have a9:=zb C 1 _ rfl;have a6:=zd C 1;have ba:=zb C 2 _ rfl;have a7:=zd C 2;refine zU 11 6 (.slice z f.length rc) rfl rfl D ?_;simp only[zf];refine zE 12 rfl (λK9 V=>?_);refine zX rfl rfl (((H.setCell ⟨d,0,none⟩ (I_ u)).setCell ⟨d,1,none⟩ (I_ y)).setCell ⟨d,2,none⟩ (.slice m ds.length t)) (by go_simp) ?_;have ar:(((H.setCell ⟨d,0,none⟩ (I_ u)).setCell ⟨d,1,none⟩ (I_ y)).setCell ⟨d,2,none⟩ (.slice m ds.length t)).heap[d]? = some (.cells #[I_ u,I_ y,.slice m ds.length t] 53 (0,0)):=by simpa using(hS_ _ _ 2 _ _ (.slice m ds.length t) (hS_ _ _ 1 _ _ (I_ y) (hS_ _ _ 0 _ _ (I_ u) C)))
   have ap:=(((ay.setCell (p:=⟨d,0,none⟩) R (I_ u)).setCell (p:=⟨d,1,none⟩) R (I_ y)).setCell (p:=⟨d,2,none⟩) R (.slice m ds.length t));have al:=(zar (k:=2) (v:=.slice m ds.length t) (zar (k:=1) (v:=I_ y) (zar (k:=0) (v:=I_ u) ad Z) Z) Z);have av:=(zh (j:=2) (v:=.slice m ds.length t) (zh (j:=1) (v:=I_ y) (zh (j:=0) (v:=I_ u) ai aa) aa) aa);have Y:∀k,k≠d->(((H.setCell ⟨d,0,none⟩ (I_ u)).setCell ⟨d,1,none⟩ (I_ y)).setCell ⟨d,2,none⟩ (.slice m ds.length t)).heap[k]? = H.heap[k]?:=λk hk=>by rw[hO_ _ ⟨d,2,none⟩ k _ hk,hO_ _ ⟨d,1,none⟩ k _ hk,hO_ _ ⟨d,0,none⟩ k _ hk]
   have ao:zg (((H.setCell ⟨d,0,none⟩ (I_ u)).setCell ⟨d,1,none⟩ (I_ y)).setCell ⟨d,2,none⟩ (.slice m ds.length t)) m t ds:=zcp (G:=λk=>k≠d) Y X aA;have am:(((H.setCell ⟨d,0,none⟩ (I_ u)).setCell ⟨d,1,none⟩ (I_ y)).setCell ⟨d,2,none⟩ (.slice m ds.length t)).ownsRow I.heap.size 53 3 (.slice z f.length rc) f.length (slv f):=zcf (zu hO (λq e=>Y q (ah q e))) (by have:=O.size;have:=N.size;omega);have an:z8 (((H.setCell ⟨d,0,none⟩ (I_ u)).setCell ⟨d,1,none⟩ (I_ y)).setCell ⟨d,2,none⟩ (.slice m ds.length t)) I.heap.size (.slice z f.length rc) (ps f):=λp B=>⟨(M.same (w':=(((H.setCell ⟨d,0,none⟩ (I_ u)).setCell ⟨d,1,none⟩ (I_ y)).setCell ⟨d,2,none⟩ (.slice m ds.length t))) (by simp) (λp B b r e=>Y b (az p B b r e)) p B).1,λl r e=>⟨by have:=((M p B).2 l r e).1;have:=O.size;have:=N.size;omega,by have:=((M p B).2 l r e).2.1;simpa using this,((M p B).2 l r e).2.2⟩⟩;have aE:∀l r,m=some ⟨l,r,none⟩->I.heap.size<=l/\(Value.slice z f.length rc).ownBlock≠some l:=λl r e=>⟨by have:=(ag l r e).1;have:=O.size;have:=N.size;omega,(ag l r e).2⟩;clear Y;refine V.out _ _ ⟨al,av⟩ (λD=>?_);generalize (((H.setCell ⟨d,0,none⟩ (I_ u)).setCell ⟨d,1,none⟩ (I_ y)).setCell ⟨d,2,none⟩ (.slice m ds.length t))=VE at ar ap al av ao am an D|-;refine zU 13 8 (I_ A) rfl rfl D ?_;simp only[zf];clear D;refine wD_ (by kernel_rfl) ?_ _;go_wp2_with fail
   go_meet
   case rel=>exact⟨z,rc,f,d,m,t,u,y,ds,A,rfl,rfl,rfl,ap,R,ar,⟨hR,ao,aE,am,an,λe=>ah d e rfl⟩⟩
 case rest=>
  obtain⟨z,rc,f,d,m,t,u,y,ds,A,rfl,rfl,rfl,af,R,qn,hX⟩:=hcut;apply_assumption;clear c5 qn R;obtain⟨W2,aN⟩:∃W,W=wc:=⟨_,rfl⟩;rw[<-aN]at af hX|-;clear aN;obtain⟨x1,x2,aV,x4,x5,x6⟩:=hX.out;by_cases e0:A=0
  .subst e0;have c0:(zaf x3.v.k.tab c.v).2.2=0:=by rw[<-x1]
   obtain⟨-,-,-,t4⟩:=zlb c0;have aq:Hid ((zaf x3.v.k.tab c.v).1=vs f):=by show _=_;rw[<-x1]
   have aL:Hid (∀s∈vs f,zaN s.2.2):=by
    show ∀s,_;intro s hs;rw[<-aq.out]at hs;rcases t4 with g|⟨g,_⟩
    .rw[g]at hs;exact h1.inv.u8t s hs
    .rw[g]at hs;rcases List.mem_append.1 hs with g2|g2
     .exact h1.inv.u8t s g2
     .obtain rfl:s=c.v.slot:=by simpa using g2
      exact zfy _
   have aR:Hid (f.length<=400000):=by
    show _<=_;have e8:(vs f).length=f.length:=zay f;have e7:=h1.inv.tab;rw[<-e8,<-aq.out];rcases t4 with g|⟨g,g2⟩
    .rw[g];exact e7
    .rw[g,lP_];simp;omega
   obtain⟨U5,aW,y5,h5,n5,v5⟩:=h1.put_tab (a':=z) (c':=rc) (l':=f) af (λq e=>(x4.lt q (zaK _ _ e)).1) (zcf x4 (nZ_ _)) (λs hs=>by
    have B:=x5 s.p (List.mem_map.2 ⟨s,hs,rfl⟩);exact zci B.1 (λl r e _=>zbw (h1.bnd.new (B.2 l r e).1) (λe2=>(B.2 l r e).2.2 (zaK _ _ e2)))) (by rw[NM.v_tab];exact h1.inv.tab_ (by rw[zay];exact aR.out) aL.out)
   have HF:Hid (y5.v=(x.v.recO c.v)):=by
    show _=_;rw[aT.out]at c0 aq;rw[v5,NM.v_tab,Nd.recO,if_pos c0,aq.out,aH.out]
   have a4:=n1.trans n5;have f5:=(h1.below af).free (o+5);have bb:=(h1.below af).cell 5 _ rfl;clear hX x1 x2 aV x4 x5 x6 c0 t4 aq aL aR v5 n5;go_wp2_with fail
   go_end0;exact⟨⟨_,rfl⟩,U5,aW,y5,h5,a4,HF.out⟩
  .have aS:¬(zaf x.v.k.tab c.v).2.2=0:=by rw[<-aT.out,<-x1];exact e0
   have HF:Hid (x3.v=(x.v.recO c.v)):=by
    show _=_;rw[Nd.recO,if_neg aS,aH.out]
   have bc:(A == 0)=false:=by simpa using e0
   clear hX x1 x2 aV x4 x5 x6 e0 aS;go_wp2_with fail
   go_end0;exact⟨⟨_,rfl⟩,U3,fc3,x3,h1.below af,n1.trans (NTo.below (F:=F) (o:=o) U3 fc3 x3 af),HF.out⟩
theorem zvR {n:Nd}{m:MC}(k:m.ki=1):n.recall m=if zbG n.k.sh m.b then { n with k:={ n.k with sh:=n.k.sh++[m.b] } } else n:=by
 have b:(if m.ki=2/\m.h.hf=0 then [n.nu]else n.vot)=n.vot:=if_neg (λg=>by rw[k]at g;exact absurd g.1 (by decide));have c:n.k.rcl m=if zbG n.k.sh m.b then { n.k with sh:=n.k.sh++[m.b] } else n.k:=if_pos k;rw[Nd.recall,b,c];cases zbG n.k.sh m.b<;>rfl
theorem zvS {n:Nd}{m:MC}(k:m.ki=3):n.recall m={ n with k:={ n.k with tab:=n.k.tab++[m.s] } }:=by
 have b:(if m.ki=2/\m.h.hf=0 then [n.nu]else n.vot)=n.vot:=if_neg (λg=>by rw[k]at g;exact absurd g.1 (by decide));have c:n.k.rcl m={ n.k with tab:=n.k.tab++[m.s] }:=by
  unfold Kn.rcl;rw[if_neg (show ¬m.ki=1 by rw[k];decide),if_neg (show ¬m.ki=2 by rw[k];decide),if_pos k]
 rw[Nd.recall,b,c]
theorem zvT {n:Nd}{m:MC}(k:m.ki=4):n.recall m=if za8 n.k.dag m.ct=0 then { n with k:={ n.k with dag:=n.k.dag++[m.ct] } } else n:=by
 have b:(if m.ki=2/\m.h.hf=0 then [n.nu]else n.vot)=n.vot:=if_neg (λg=>by rw[k]at g;exact absurd g.1 (by decide));have c:n.k.rcl m=if za8 n.k.dag m.ct=0 then { n.k with dag:=n.k.dag++[m.ct] } else n.k:=by
  unfold Kn.rcl;rw[if_neg (show ¬m.ki=1 by rw[k];decide),if_neg (show ¬m.ki=2 by rw[k];decide),if_neg (show ¬m.ki=3 by rw[k];decide),if_pos k]
 rw[Nd.recall,b,c];by_cases g:za8 n.k.dag m.ct=0
 .rw[if_pos g,if_pos g]
 .rw[if_neg g,if_neg g]
theorem zub {m:MV}(h:zaT m):(m.m.ki=1/\zbk m.m.bau m.m.bnu m.ss=0)\/(m.m.ki=2/\zO m.m.hau m.m.hrd m.bl m.pl=0)\/(m.m.ki=3/\zbf m.m.sau m.m.srd m.m.sdn=0)\/(m.m.ki=4/\zap m.m.cau m.m.crd m.cbl m.cpl m.vl=0):=by
 have b:=h.car;unfold MV.car zD at b;by_cases k1:m.m.ki=1
 .rw[if_pos k1]at b;exact .inl ⟨k1,b⟩
 rw[if_neg k1]at b;by_cases k2:m.m.ki=2
 .rw[if_pos k2]at b;exact .inr (.inl ⟨k2,b⟩)
 rw[if_neg k2]at b;by_cases k3:m.m.ki=3
 .rw[if_pos k3]at b;exact .inr (.inr (.inl ⟨k3,b⟩))
 rw[if_neg k3]at b;by_cases k4:m.m.ki=4
 .rw[if_pos k4]at b;exact .inr (.inr (.inr ⟨k4,b⟩))
 rw[if_neg k4,if_neg h.ki]at b;cases b
theorem zqg (x:NM)(m:MV)(w:World)(U:Nat->Bool)(F o:Nat)(T:TypeId)(M:Array Value)(h:zo w U F o T M x)(hm:MAt (zq U w) m)(hs:MSh (zq U w) m)(hr:zaT m)(D:U8M m.bl m.pl m.cbl m.cpl m.ds)(ht:x.tab.length<400000) :
  Calls prog 117 #[P_ F o,.agg (mrow_ m.m)] w λe w'=>(∃v,e=.returned v)/\zal w U F o T M x w' (x.v.recall m.c):=by
 have hA:=zC w (.cells (mrow_ m.m) 66);have R:=hN_ w (.cells (mrow_ m.m) 66);have ao:Hid (U w.heap.size=false):=h.bnd.new (nR_ _);go_in;go_upto_region 1 with fail
 generalize w.alloc (.cells (mrow_ m.m) 66)=I at hA R|-;generalize aI:w.heap.size=B at R ao|-;have aZ:Hid _:=aI;clear aI;have X:=h.below hA;have ay:=hm.sub (h.later hA);have aA:=hs.sub (h.later hA);have c2:=zb R 2 _ rfl;have HT:Hid (x.tab.length<400000):=ht;have aS:=zub hr;clear ht hr;rcases aS with⟨k,hf⟩|⟨k,hf⟩|⟨k,hf⟩|⟨k,hf⟩
 .replace c2:I.cell? ⟨B,2,none⟩=some (I_ 1):=by rw[<-k];exact c2
  have HM:Hid (x.v.recall m.c=if zbG (shw x.sh) (⟨m.m.bau,m.m.bnu,m.ss⟩:BW)then { x.v with k:={ x.v.k with sh:=x.v.k.sh++[(⟨m.m.bau,m.m.bnu,m.ss⟩:BW)] } } else x.v):=zvR k;have a0:=zb R 3 _ rfl;have a1:=zb R 4 _ rfl;have a2:I.cell? ⟨B,5,none⟩=some (.slice m.m.bta m.ss.length m.m.btc):=by rw[<-hm.at'.e1];exact zb R 5 _ rfl
  have aq:=zlO x ⟨⟨m.m.bau,m.m.bnu,m.ss⟩,m.m.bta,m.m.btc⟩ I U F o T M X (aA.b.sub (zK _ _)) hf;dsimp only at aq;clear k R;go_wp2_with fail
  refine aq.mono ?_;rintro e w1⟨⟨⟨⟨v9,y,z⟩,d⟩,he,hsv,hSA,hs1,hs2⟩,hb1⟩
  simp only at hsv
  subst hsv;subst he;dsimp only at hs1 hs2|-;clear aq a0 a1 a2 c2;have aH:=zm hA hb1;have aY:=hA.size;have an:=zC w1 (.cells #[I_ m.m.bau,I_ m.m.bnu,.slice y m.ss.length z,.slice d.sa d.bs.length d.cap] 161);have q2:=hN_ w1 (.cells #[I_ m.m.bau,I_ m.m.bnu,.slice y m.ss.length z,.slice d.sa d.bs.length d.cap] 161);have HS:Hid (∀W:World,B_ w1 W->zd3 (zq U W) (⟨⟨⟨m.m.bau,m.m.bnu,m.ss⟩,y,z⟩,d⟩:Sh)):=λW hW=>(hSA.hid (U:=U) (λsb so e=>h.bnd.new (by have:=hs1 sb so e;omega)) (λsb so e=>h.bnd.new (by have:=hs2 sb so e;omega))).sub (zao.below U hW).sub;clear hSA hs1 hs2;go_upto_region 4 with fail
  generalize w1.alloc (.cells #[I_ m.m.bau,I_ m.m.bnu,.slice y m.ss.length z,.slice d.sa d.bs.length d.cap] 161)=W2 at an q2|-;have av:=zm aH an;have h2:=h.below av;have aT:Hid (zd3 (zq U W2) (⟨⟨⟨m.m.bau,m.m.bnu,m.ss⟩,y,z⟩,d⟩:Sh)):=HS.out W2 an;have aw:Hid (U w1.heap.size=false):=h.bnd.new aH.size;generalize w1.heap.size=V at q2 aw|-;clear HS an hb1 aY X;generalize aK:zbG (shw x.sh) (⟨m.m.bau,m.m.bnu,m.ss⟩:BW)=tb at HM|-;have aU:Hid _:=aK;clear aK;cases tb with
  | false=>
   go_wp2_with fail
   go_end0;exact⟨⟨_,rfl⟩,by rw[HM.out];exact zal.quiet h av⟩
  | true=>
   have aQ:∀P:Prop,¬(U V=true/\P):=λP k=>by have:=k.1;rw[aw.out]at this;cases this
   have aP:V≠F:=λe=>by have:=aw.out;rw[e,h.fu]at this;cases this
   have aV:x.sh.length<800:=by have e2:=zlQ aU.out;rw[zb6]at e2;exact e2
   have aF:∀(E A:World) (r:Option Addr) (t:Nat),B_ W2 E->A.ownsRow 0 161 4 (.slice r (x.sh++[(⟨⟨⟨m.m.bau,m.m.bnu,m.ss⟩,y,z⟩,d⟩:Sh)]).length t) (x.sh++[(⟨⟨⟨m.m.bau,m.m.bnu,m.ss⟩,y,z⟩,d⟩:Sh)]).length (shv (x.sh++[(⟨⟨⟨m.m.bau,m.m.bnu,m.ss⟩,y,z⟩,d⟩:Sh)]))->zV E (.slice x.sa x.sh.length x.sc) A (.slice r (x.sh++[(⟨⟨⟨m.m.bau,m.m.bnu,m.ss⟩,y,z⟩,d⟩:Sh)]).length t)->(∃v,Ending.returned (.tuple #[])=.returned v)/\zal w U F o T M x (A.setCell ⟨F,o+4,none⟩ (.slice r (x.sh.length+1) t)) (x.v.recall m.c):=by
    intro E A r t hb ho G;refine⟨⟨_,rfl⟩,?_⟩;rw[HM.out,if_pos rfl];have h1:=h2.below hb;have ax:(x.sh++[(⟨⟨⟨m.m.bau,m.m.bnu,m.ss⟩,y,z⟩,d⟩:Sh)]).length=x.sh.length+1:=by simp
    have ag:=h1.more_sh G ho (λs hs=>?_) ?_
    .rw[ax]at ag;refine zal.after ((NTo.below (F:=F) (o:=o) U M x av).trans (NTo.below U M x hb)) ?_;obtain⟨U',ar,x',k1,k2,k3⟩:=ag;exact⟨U',ar,x',k1,k2,by rw[k3,NM.v_sh]⟩
    .have k:=h1.grew_sub G (λq e=>.inr (.inr (.inr (.inl e))));rcases List.mem_append.1 hs with g|g
     .exact(h1.esh s g).sub k
     .obtain rfl:s=(⟨⟨⟨m.m.bau,m.m.bnu,m.ss⟩,y,z⟩,d⟩:Sh):=by simpa using g
      exact(aT.out.sub (zao.below U hb).sub).sub k
    .rw[NM.v_sh];exact h.inv.sh_ (b:=(⟨m.m.bau,m.m.bnu,m.ss⟩:BW)) (by show(shw x.sh).length<800;rw[zb6];exact aV) hf
   go_upto_region 5 with fail
   obtain⟨ti,aj,ak,al,am⟩:=info_parts zt6;have N:=dB_ W2;have ap:=dQ_ q2;refine wR_ (S:=λw'=>R_ w' V #[I_ m.m.bau,I_ m.m.bnu,.slice y m.ss.length z,.slice d.sa d.bs.length d.cap] 161) (by kernel_rfl) ap (λc=>?_);generalize W2.drew=l at N ap c|-;have az:=h2.below N;refine tks_ 4 [(0,18,(P_ F o)),(1,19,(P_ F o)),(2,20,(P_ F o)),(3,21,(P_ F (o+4)))] c ?_;simp only[tkf_,zf];refine tQ_ 5 23 (.agg #[I_ m.m.bau,I_ m.m.bnu,.slice y m.ss.length z,.slice d.sa d.bs.length d.cap]) rfl rfl (Or.inl ⟨by rfl,λw0 Z=>zL 161 _ rfl V rfl 161 #[I_ m.m.bau,I_ m.m.bnu,.slice y m.ss.length z,.slice d.sa d.bs.length d.cap] (0,0) _ Z underlying161 rfl sSh⟩) c ?_;simp only[zf];refine wpAnyH_ready (rs:=[4,6]) (by kernel_rfl) (by simp) (AllReadyH.cons rfl (λH f=>?_) (AllReadyH.cons rfl (λH f=>?_) AllReadyH.nil));have ae:=az.cell 4 _ rfl;refine zy rfl 22 rfl (.slice x.sa x.sh.length x.sc) l (by go_simp) ?_;refine f.out _ _ c (λc=>?_);simp only[zf];clear ae;refine zE 6 rfl (λH f=>?_)
   all_goals
    refine zy rfl 24 rfl (.slice (some ⟨l.heap.size,0,none⟩) 1 1) (l.alloc (.cells #[I_ m.m.bau,I_ m.m.bnu,.slice y m.ss.length z,.slice d.sa d.bs.length d.cap] 161)) (by go_simp) ?_;have C:=zC l (.cells #[I_ m.m.bau,I_ m.m.bnu,.slice y m.ss.length z,.slice d.sa d.bs.length d.cap] 161);have O:=zm N C;have L:=hN_ l (.cells #[I_ m.m.bau,I_ m.m.bnu,.slice y m.ss.length z,.slice d.sa d.bs.length d.cap] 161);have af:=zk C ap;refine f.out _ _ af (λc=>?_);simp only[zf];generalize l.alloc (.cells #[I_ m.m.bau,I_ m.m.bnu,.slice y m.ss.length z,.slice d.sa d.bs.length d.cap] 161)=E at C O L af c|-;clear C;generalize l.heap.size=V at L|-;have p:=h2.below O
   rotate_left
   refine zE 4 rfl (λH f=>?_);have ae:=p.cell 4 _ rfl;refine zy rfl 22 rfl (.slice x.sa x.sh.length x.sc) E (by go_simp) ?_;refine f.out _ _ c (λc=>?_);simp only[zf];clear ae
   rotate_left
   all_goals
    refine zE 7 rfl (λH f=>?_);refine zaz rfl 25 rfl (.tmp 22) (.tmp 24) 111 rfl 0 161 ti (.agg #[I_ 0,I_ 0,O_,O_]) 4 64 underlying111 aj ak al am rfl (by decide) (.slice x.sa x.sh.length x.sc) x.sh.length (shv x.sh) rfl p.rsh ⟨V,0,none⟩ 1 1 (Sh.cs (⟨⟨⟨m.m.bau,m.m.bnu,m.ss⟩,y,z⟩,d⟩:Sh)) rfl rfl (λj u D=>by rw[zaP,Nat.zero_add];exact zb L j u (by rw[<-Array.getElem?_toList];exact D)) (zlP _) (by unfold maxLen;omega) (by omega) (nZ_ _) ?_;intro v3 A aa J;obtain⟨r,t,ad⟩:=zH aa;subst ad;have ai:=J.row af (λe=>aQ _ (p.su _ (.inr (.inr (.inr (.inl (zp e)))))));have Y:=J.row p.blk (λe=>(p.su _ (.inr (.inr (.inr (.inl (zp e)))))).2 rfl);refine f.out _ _ ai (λc=>?_);simp only[zf];refine tks_ 2 [(8,26,(P_ F o)),(9,27,(P_ F (o+4)))] c ?_;simp only[tkf_,zf];refine zE 10 rfl (λH f=>?_);have aD:=zb Y (o+4) _ (p.cel 4 (by decide));have aE:=zd Y (o+4);refine zX rfl rfl (A.setCell ⟨F,o+4,none⟩ (.slice r (x.sh.length+1) t)) (by go_simp) ?_;have aC:=zh (b:=F) (j:=o+4) (v:=.slice r (x.sh.length+1) t) ai (λe=>aP e);refine f.out _ _ aC (λc=>?_);refine wD_ (by kernel_rfl) ?_ _;go_wp2_with fail
    go_end0;exact aF E A r t O (by rw[zi0];simpa using aa) (by simpa using J)
 .replace c2:I.cell? ⟨B,2,none⟩=some (I_ 2):=by rw[<-k];exact c2
  have aL:(⟨m.m.hau,m.m.hrd,m.m.hba,m.m.hbc,m.bl,m.m.hpa,m.m.hpc,m.pl,none,0,[]⟩:Ct).v.hf=0:=by rw[<-Ct.hf_v];exact hf
  have HM:Hid (x.v.recall m.c=x.v.recO (⟨m.m.hau,m.m.hrd,m.m.hba,m.m.hbc,m.bl,m.m.hpa,m.m.hpc,m.pl,none,0,[]⟩:Ct).v):=zqe (m:=m.c) k aL;have a0:=zb R 6 _ rfl;have a1:=zb R 7 _ rfl;have a2:I.cell? ⟨B,8,none⟩=some (.slice m.m.hba m.bl.length m.m.hbc):=by rw[<-hm.at'.e2];exact zb R 8 _ rfl
  have a3:I.cell? ⟨B,9,none⟩=some (.slice m.m.hpa m.pl.length m.m.hpc):=by rw[<-hm.at'.e3];exact zb R 9 _ rfl
  have HR:=zqf x (⟨m.m.hau,m.m.hrd,m.m.hba,m.m.hbc,m.bl,m.m.hpa,m.m.hpc,m.pl,none,0,[]⟩:Ct) I U F o T M X aA.h aL rfl D.hb D.hp;dsimp only [hrow_]at HR;clear k R;go_wp2_with fail
  refine HR.mono ?_;rintro e w1⟨⟨v,he⟩,U9,au,x9,h9,n9,v9⟩;subst he;dsimp only;clear HR;go_wp2_with fail
  go_end0;exact⟨⟨_,rfl⟩,U9,au,x9,h9,(NTo.below (F:=F) (o:=o) U M x hA).trans n9,by rw[HM.out,v9]⟩
 .replace c2:I.cell? ⟨B,2,none⟩=some (I_ 3):=by rw[<-k];exact c2
  have HM:Hid (x.v.recall m.c={ x.v with k:={ x.v.k with tab:=x.v.k.tab++[(⟨m.m.sau,m.m.srd,⟨m.m.sda,m.m.sdc,m.ds⟩⟩:Sl).v] } }):=zvS k;have aW:Hid (zg (zq U I) m.m.sda m.m.sdc m.ds):=ay.dig;have aJ:Hid (m.m.sdn=m.ds.length):=hm.dn;have a4:x.tab.length<400000:=HT.out;have aO:∀P:Prop,¬(U B=true/\P):=λP k=>by have:=k.1;rw[ao.out]at this;cases this
  have aN:B≠F:=λe=>by have:=ao.out;rw[e,h.fu]at this;cases this
  have aG:∀(E A:World) (r:Option Addr) (t:Nat),B_ I E->A.ownsRow 0 53 3 (.slice r (x.tab++[(⟨m.m.sau,m.m.srd,⟨m.m.sda,m.m.sdc,m.ds⟩⟩:Sl)]).length t) (x.tab++[(⟨m.m.sau,m.m.srd,⟨m.m.sda,m.m.sdc,m.ds⟩⟩:Sl)]).length (slv (x.tab++[(⟨m.m.sau,m.m.srd,⟨m.m.sda,m.m.sdc,m.ds⟩⟩:Sl)]))->zV E (.slice x.ta x.tab.length x.tc) A (.slice r (x.tab++[(⟨m.m.sau,m.m.srd,⟨m.m.sda,m.m.sdc,m.ds⟩⟩:Sl)]).length t)->(∃v,Ending.returned (.tuple #[])=.returned v)/\zal w U F o T M x (A.setCell ⟨F,o+5,none⟩ (.slice r (x.tab.length+1) t)) (x.v.recall m.c):=by
   intro E A r t hb ho G;refine⟨⟨_,rfl⟩,?_⟩;rw[HM.out];have h1:=X.below hb;have ax:(x.tab++[(⟨m.m.sau,m.m.srd,⟨m.m.sda,m.m.sdc,m.ds⟩⟩:Sl)]).length=x.tab.length+1:=by simp
   have aM:vs (x.tab++[(⟨m.m.sau,m.m.srd,⟨m.m.sda,m.m.sdc,m.ds⟩⟩:Sl)])=x.v.k.tab++[(⟨m.m.sau,m.m.srd,⟨m.m.sda,m.m.sdc,m.ds⟩⟩:Sl).v]:=by simp[vs,NM.v]
   have ag:=h1.more_tab G ho (λs hs=>?_) ?_
   .rw[ax]at ag;refine zal.after ((NTo.below (F:=F) (o:=o) U M x hA).trans (NTo.below U M x hb)) ?_;obtain⟨U',ar,x',k1,k2,k3⟩:=ag;exact⟨U',ar,x',k1,k2,by rw[k3,NM.v_tab,aM]⟩
   .have k:=h1.grew_sub G (λq e=>.inr (.inr (.inr (.inr (.inl e)))));rcases List.mem_append.1 hs with g|g
    .exact(h1.etb s g).sub k
    .obtain rfl:s=(⟨m.m.sau,m.m.srd,⟨m.m.sda,m.m.sdc,m.ds⟩⟩:Sl):=by simpa using g
     exact(aW.out.sub (zao.below U hb).sub).sub k
   .rw[NM.v_tab,aM];refine h.inv.tab_ (by rw[lP_];have e9:x.v.k.tab.length=x.tab.length:=zay x.tab;simp;omega) ?_;intro s hs;rcases List.mem_append.1 hs with g|g
    .exact h.inv.u8t s g
    .obtain rfl:s=(⟨m.m.sau,m.m.srd,⟨m.m.sda,m.m.sdc,m.ds⟩⟩:Sl).v:=by simpa using g
     exact D.sd
  clear k;go_upto_region 9 with fail
  obtain⟨ti,aj,ak,al,am⟩:=info_parts zk0;have N:=dB_ I;have ac:=dQ_ R;refine wR_ (S:=λw'=>R_ w' B (mrow_ m.m) 66) (by kernel_rfl) ac (λc=>?_);generalize I.drew=l at N ac c|-;have az:=X.below N;refine tks_ 5 [(0,36,(P_ F o)),(1,37,(P_ F o)),(2,38,(P_ F o)),(3,39,(P_ F (o+5))),(5,41,(P_ B 10))] c ?_;simp only[tkf_,zf];refine tQ_ 6 42 (.agg #[I_ m.m.sau,I_ m.m.srd,.slice m.m.sda m.m.sdn m.m.sdc]) rfl rfl (Or.inl ⟨by rfl,λw0 Z=>by have a5:=zb Z 10 _ rfl;have a6:=zb Z 11 _ rfl;have a7:=zb Z 12 _ rfl;go_simp⟩) c ?_;simp only[zf];refine wpAnyH_ready (rs:=[4,7]) (by kernel_rfl) (by simp) (AllReadyH.cons rfl (λH f=>?_) (AllReadyH.cons rfl (λH f=>?_) AllReadyH.nil));have ae:=az.cell 5 _ rfl;refine zy rfl 40 rfl (.slice x.ta x.tab.length x.tc) l (by go_simp) ?_;refine f.out _ _ c (λc=>?_);simp only[zf];clear ae;refine zE 7 rfl (λH f=>?_)
  all_goals
   refine zy rfl 43 rfl (.slice (some ⟨l.heap.size,0,none⟩) 1 1) (l.alloc (.cells #[I_ m.m.sau,I_ m.m.srd,.slice m.m.sda m.m.sdn m.m.sdc] 53)) (by go_simp) ?_;have C:=zC l (.cells #[I_ m.m.sau,I_ m.m.srd,.slice m.m.sda m.m.sdn m.m.sdc] 53);have O:=zm N C;have L:=hN_ l (.cells #[I_ m.m.sau,I_ m.m.srd,.slice m.m.sda m.m.sdn m.m.sdc] 53);have ab:=zk C ac;refine f.out _ _ ab (λc=>?_);simp only[zf];generalize l.alloc (.cells #[I_ m.m.sau,I_ m.m.srd,.slice m.m.sda m.m.sdn m.m.sdc] 53)=E at C O L ab c|-;clear C;generalize l.heap.size=V at L|-;have p:=X.below O
  rotate_left
  refine zE 4 rfl (λH f=>?_);have ae:=p.cell 5 _ rfl;refine zy rfl 40 rfl (.slice x.ta x.tab.length x.tc) E (by go_simp) ?_;refine f.out _ _ c (λc=>?_);simp only[zf];clear ae
  rotate_left
  all_goals
   refine zE 8 rfl (λH f=>?_);refine zaz rfl 44 rfl (.tmp 40) (.tmp 43) 44 rfl 0 53 ti (.agg #[I_ 0,I_ 0,O_]) 3 40 underlying44 aj ak al am rfl (by decide) (.slice x.ta x.tab.length x.tc) x.tab.length (slv x.tab) rfl p.rtb ⟨V,0,none⟩ 1 1 ([I_ m.m.sau,I_ m.m.srd,.slice m.m.sda m.m.sdn m.m.sdc]) rfl rfl (λj u D=>by rw[zaP,Nat.zero_add];exact zb L j u (by rw[<-Array.getElem?_toList];exact D)) (λu D=>by simp at D;rcases D with rfl|rfl|rfl<;>rfl) (by unfold maxLen;omega) (by omega) (nZ_ _) ?_;intro v3 A aa J;obtain⟨r,t,ad⟩:=zH aa;subst ad;have ah:=J.row ab (λe=>aO _ (p.su _ (.inr (.inr (.inr (.inr (.inl (zp e))))))));have Y:=J.row p.blk (λe=>(p.su _ (.inr (.inr (.inr (.inr (.inl (zp e))))))).2 rfl);refine f.out _ _ ah (λc=>?_);simp only[zf];refine tks_ 2 [(9,45,(P_ F o)),(10,46,(P_ F (o+5)))] c ?_;simp only[tkf_,zf];refine zE 11 rfl (λH f=>?_);have aD:=zb Y (o+5) _ (p.cel 5 (by decide));have aE:=zd Y (o+5);refine zX rfl rfl (A.setCell ⟨F,o+5,none⟩ (.slice r (x.tab.length+1) t)) (by go_simp) ?_;have aB:=zh (b:=F) (j:=o+5) (v:=.slice r (x.tab.length+1) t) ah (λe=>aN e);refine f.out _ _ aB (λc=>?_);refine wD_ (by kernel_rfl) ?_ _;go_wp2_with fail
   go_end0;exact aG E A r t O (by rw[zki];simpa[Sl.cs,aJ.out]using aa) (by simpa using J)
 .replace c2:I.cell? ⟨B,2,none⟩=some (I_ 4):=by rw[<-k];exact c2
  have HM:Hid (x.v.recall m.c=if za8 x.v.k.dag (⟨m.m.cau,m.m.crd,m.m.cba,m.m.cbc,m.cbl,m.m.cpa,m.m.cpc,m.cpl,m.m.cva,m.m.cvc,m.vl⟩:Ct).v=0 then { x.v with k:={ x.v.k with dag:=x.v.k.dag++[(⟨m.m.cau,m.m.crd,m.m.cba,m.m.cbc,m.cbl,m.m.cpa,m.m.cpc,m.cpl,m.m.cva,m.m.cvc,m.vl⟩:Ct).v] } } else x.v):=zvT k;have aX:za7 (zq U I) (⟨m.m.cau,m.m.crd,m.m.cba,m.m.cbc,m.cbl,m.m.cpa,m.m.cpc,m.cpl,m.m.cva,m.m.cvc,m.vl⟩:Ct):=⟨aA.c,ay.at'.vot,ay.at'.s6⟩;have aR:Hid (∀W:World,B_ I W->Calls prog 158 #[P_ x.s 0,.agg #[I_ m.m.cau,I_ m.m.crd,.slice m.m.cba m.m.cbn m.m.cbc,.slice m.m.cpa m.m.cpn m.m.cpc,.slice m.m.cva m.m.cvn m.m.cvc]] W λe w'=>∃v,e=.returned v/\zal W U F o T M x w' (x.v.recall m.c)):=by
   show ∀W,_;intro W hW;have h2:=X.below hW;have k:=zlS x.ls x.ds x.vc x.vd x.s (⟨m.m.cau,m.m.crd,m.m.cba,m.m.cbc,m.cbl,m.m.cpa,m.m.cpc,m.cpl,m.m.cva,m.m.cvc,m.vl⟩:Ct) W h2.stkIn h2.stk.same (zlE h2.inv.dag) ((aX.sub (X.later hW)).sub (zK _ _)) (h2.tabs.sub (zK _ _));dsimp only [crow_]at k;rw[<-hm.at'.e4,<-hm.at'.e5,<-hm.at'.e6]at k;refine k.mono (λe w' q=>⟨_,q.told,?_⟩);rw[HM.out];exact h2.inserts q (zt8 D.cb D.cp)
  clear k;go_upto_region 11 with fail
  have N:=dB_ I;have ac:=dQ_ R;refine wR_ (S:=λw'=>R_ w' B (mrow_ m.m) 66) (by kernel_rfl) ac (λc=>?_);generalize I.drew=l at N ac c|-;refine tks_ 4 [(0,49,(P_ F o)),(1,50,(P_ F o)),(2,51,(P_ F (o+6))),(4,53,(P_ B 13))] c ?_;simp only[tkf_,zf];refine tQ_ 5 54 (.agg #[I_ m.m.cau,I_ m.m.crd,.slice m.m.cba m.m.cbn m.m.cbc,.slice m.m.cpa m.m.cpn m.m.cpc,.slice m.m.cva m.m.cvn m.m.cvc]) rfl rfl (Or.inl ⟨by rfl,λw0 Z=>by have a8:=zb Z 13 _ rfl;have a9:=zb Z 14 _ rfl;have ba:=zb Z 15 _ rfl;have bb:=zb Z 16 _ rfl;have bc:=zb Z 17 _ rfl;go_simp⟩) c ?_;simp only[zf];refine zE 3 rfl (λH f=>?_);have k6:=(X.below N).cell 6 _ rfl;refine zy rfl 52 rfl (P_ x.s 0) l (by go_simp) ?_;refine f.out _ _ c (λc=>?_);simp only[zf];refine zE 6 rfl (λH f=>?_);refine zj rfl 55 rfl 158 [.tmp 52,.tmp 54] #[112,64] rfl [P_ x.s 0,.agg #[I_ m.m.cau,I_ m.m.crd,.slice m.m.cba m.m.cbn m.m.cbc,.slice m.m.cpa m.m.cpn m.m.cpc,.slice m.m.cva m.m.cvn m.m.cvc]] rfl (eO_ func158) (λv w'=>zal l U F o T M x w' (x.v.recall m.c)) ((aR.out l N).mono (λe w' k=>k)) ?_;rintro v E⟨U9,au,x9,h9,n9,v9⟩;have ab:=n9.box (X.below N) ac ao.out;refine f.out _ _ ab (λc=>?_);simp only[zf];clear c;refine wD_ (by kernel_rfl) ?_ _;go_wp2_with fail
  go_end0;exact⟨⟨_,rfl⟩,U9,au,x9,h9,((NTo.below (F:=F) (o:=o) U M x hA).trans (NTo.below (F:=F) (o:=o) U M x N)).trans n9,v9⟩
def zh6 (nu g:Int)(b:BW):Int:=if b.au=nu then max g b.nu else g
def zlW (nu:Int)(l:List BW):Int:=l.foldl (zh6 nu) 0
theorem zr3 (b:Int)(l:List BW):zd2 b l=zlW b l+1:=rfl
theorem zr4 (b:Int)(l:List BW)(i:Nat)(c:i<l.length):zlW b (l.take (i+1))=zh6 b (zlW b (l.take i)) l[i]:=by
 rw[tS_ c,zlW,List.foldl_append]
 rfl
theorem zqh (f:Int)(l:List BW)(h:∀b∈l,b.nu<=1048576):∀g:Int,0<=g/\g<=1048576->0<=l.foldl (zh6 f) g/\l.foldl (zh6 f) g<=1048576:=by
 induction l with
 | nil=>intro g d;exact d
 | cons b l ih=>
  intro g d;have m:=h b (List.mem_cons_self ..);refine ih (λc j=>h c (List.mem_cons_of_mem _ j)) (zh6 f g b) ?_;rw[zh6]
  split
  .omega
  .exact d
theorem zqi (x:NM)(w:World)(U:Nat->Bool)(F o:Nat)(T:TypeId)(fc:Array Value)(h:zo w U F o T fc x) :
  Calls prog 118 #[P_ F o] w λe w'=>e=.returned (I_ (zd2 x.nu x.v.k.sh))/\B_ w w':=by
 have Z:=h.cell 4 _ rfl;have ab:x.sh.length<=800:=by have:=h.inv.sh;simpa[NM.v,shw]using this
 have D:Hid (x.v.k.sh.length=x.sh.length):=zb6 _;go_in;go_wp2_with fail
 go_loopw [11,3] (λj v wr=>∃(k:Nat) (E:Int),k<=x.sh.length/\j=I_ k/\v=I_ E/\Hid (E=zlW x.nu (x.v.k.sh.take k))/\B_ w wr) (λj _ _=>x.sh.length-(intOf j).toNat)
 case atStart=>exact⟨0,0,nZ_ _,rfl,rfl,rfl,bR_ _ _⟩
 case round=>
  obtain⟨k,E,hk,rfl,rfl,C,l⟩:=hrel;clear Z;have ac:0<=E/\E<=1048576:=by
   rw[C.out];exact zqh x.nu _ (λb l=>(zh5 (h.inv.shf b (List.mem_of_mem_take l))).2.1.2) 0 (by decide)
  by_cases hlt:k<x.sh.length
  .have ad:(k:Int)<x.sh.length:=by omega
   have L:=h.below l;obtain⟨sb,so,aa,R,V,X,Y⟩:=L.shs.at k hlt;have I:k<x.v.k.sh.length:=by rw[D.out];exact hlt
   have J:x.v.k.sh[k]=(x.sh[k]).b.v:=by show(shw x.sh)[k]'_=_;simp[shw]
   have q:Hid _:=zr4 x.nu x.v.k.sh k I;rw[J,<-C.out]at q;rw[aa];clear I J;generalize x.sh[k]=s at*;refine kO_ ?A0 ?_;exact Obj.cells #[I_ s.b.v.au,I_ s.b.v.nu,.slice s.b.ta s.b.v.ss.length s.b.tc,.slice s.d.sa s.d.bs.length s.d.cap] 161;have z:=zC wr ?A0;have p:=hN_ wr ?A0;go_upto_region 5 with fail
   generalize wr.alloc ?A0=f at z p|-;generalize wr.heap.size=B at p|-;have A:=zm l z;have h0:=h.below A;have H:=zb p 0 _ rfl;have O:=zb p 1 _ rfl;have M:f.cell? ⟨F,o,none⟩=some (I_ x.nu):=h0.cell 0 _ rfl;clear R V X Y L p z;by_cases e:s.b.v.au=x.nu;have y:(s.b.v.au == x.nu)=true:=by simpa using e
   have r:Hid (zh6 x.nu E s.b.v=max E s.b.v.nu):=if_pos e
   rotate_left
   have y:(s.b.v.au == x.nu)=false:=by simpa using e
   have r:Hid (zh6 x.nu E s.b.v=E):=if_neg e
   rotate_left
   all_goals
    clear e;have d:=dB_ f;have g:=dC_ H;have m:=dC_ M;refine wR_ (S:=λw'=>w'.cell? ⟨B,0,none⟩=some (I_ s.b.v.au)/\w'.cell? ⟨F,o,none⟩=some (I_ x.nu)) (by kernel_rfl) ⟨g,m⟩ (λc=>?_);generalize f.drew=G at d g m c|-;refine tks_ 8 [(0,15,(P_ B 0)),(1,16,(P_ B 0)),(2,17,I_ s.b.v.au),(3,18,(P_ F o)),(4,19,(P_ F o)),(5,20,(P_ F o)),(6,21,I_ x.nu),(7,22,.bool (s.b.v.au == x.nu))] c ?_;simp only[tkf_,zf];rw[y];clear c;refine wD_ (by kernel_rfl) ?_ _;have t:=zm A d
   .have k1:G.cell? ⟨B,1,none⟩=some (I_ s.b.v.nu):=zr d O;by_cases hm:E<s.b.v.nu
    .have u:Hid (zh6 x.nu E s.b.v=s.b.v.nu):=by show _=_;rw[r.out];omega
     have ae:¬s.b.v.nu<E:=by omega
     go_wp2_with fail
     all_goals
      go_roundw
      case rel=>exact⟨k+1,s.b.v.nu,by omega,by go_num,rfl,by show _=_;rw[q.out,u.out],t⟩
      case measure=>simp[intOf];omega
    .have u:Hid (zh6 x.nu E s.b.v=E):=by show _=_;rw[r.out];omega
     go_wp2_with fail
     all_goals
      go_roundw
      case rel=>exact⟨k+1,E,by omega,by go_num,rfl,by show _=_;rw[q.out,u.out],t⟩
      case measure=>simp[intOf];omega
   .go_wp2_with fail
    go_roundw
    case rel=>exact⟨k+1,E,by omega,by go_num,rfl,by show _=_;rw[q.out,r.out],t⟩
    case measure=>simp[intOf];omega
  .obtain rfl:k=x.sh.length:=by omega
   have N:Hid (zd2 x.nu x.v.k.sh=E+1):=by
    show _=_;rw[zr3,C.out,tL_ (by rw[D.out];exact nR_ _)]
   have af:IntKind.i64.wrap (E+1)=E+1:=by rw[IntKind.wrap_i64];omega
   go_wp2_with fail
   go_ret;exact⟨by rw[N.out];rfl,l⟩
theorem zvU {e:TypeId}{s:Nat}{a:Option Addr}{c:Nat}(h:w.ownsRow base e s (.slice a n c) n xs):n<=c/\c<=maxLen/\(a=none->c=0):=by
 rcases h.2 with⟨e,l⟩|⟨g,f,j,e,_,_,b,d,_⟩
 .injection e with e1 e2 e3
  subst e3;exact⟨by omega,by decide,λ_=>rfl⟩
 .injection e with e1 e2 e3
  subst e1 e3;exact⟨b,d,λg=>by cases g⟩
structure zq5 (w w':World)(e:Ending)(R:Nat)(s:St):Prop where
 out:∃ta tc,e=.returned (.agg #[I_ (nB 1 s),I_ (nB 3 (nx 1 s)),.slice ta (bN s) tc])/\zas w' ta (bT (nx 1 (bS3 s)) (bN s))/\(∀sb so,ta=some ⟨sb,so,none⟩->w.heap.size<=sb)/\RdS w' R (bL (nx 1 (bS3 s)) (bN s))/\zaG R w w'/\bN s<=tc/\tc<=maxLen/\(ta=none->tc=0)
theorem zvV (R:Nat)(s:St)(w:World)(hR:RdS w R s)(hs:zbC s) :
  Calls prog 72 #[P_ R 0] w λe w'=>zq5 w w' e R s:=by
 obtain⟨i,hi,hz0,hz1,hz2⟩:=info_parts zkf;have hlt:R<w.heap.size:=hR.lt;refine kO_ ?B0 ?_;exact Obj.cells #[I_ 0,I_ 0,O_] 58;have hA:=zC w ?B0;have q0:=hN_ w ?B0;have hsz:w.heap.size<(w.alloc ?B0).heap.size:=ze q0;have hg3:zbC (bS3 s):=hs.nx.nx;obtain⟨hb0,hb1⟩:=zfE hg3;have hNI:Hid (((bN s:Nat):Int)=nB 1 (bS3 s)):=by show _=_;show((nB 1 (bS3 s)).toNat:Int)=_;omega
 have hN255:bN s<=255:=by show(nB 1 (bS3 s)).toNat<=255;omega
 clear hb0 hb1;go_in;go_wp2_with fail
 generalize w.alloc ?B0=W0 at hA q0 hsz|-;refine(zdn R 1 s W0 (zaw.below hR hA) hs (by omega)).mono ?_;rintro _ w0⟨rfl,hR0,ho0⟩;dsimp only;go_wp2_with fail
 refine(ziB R _ w0 hR0 hs.nx).mono ?_;rintro _ w1⟨rfl,hR1,ho1'⟩;dsimp only;have ho1:=ho0.trans ho1';have p0:=(ho1.block _ hsz (by omega)).trans q0;have hOw1:=(zbR (R:=R) hA).trans ho1;have hlt1:w.heap.size<w1.heap.size:=ze p0;generalize hAU':nB 1 s=AU at*;generalize hRD':nB 3 (nx 1 s)=RD at*;have hAU:Hid (nB 1 s=AU):=hAU';have hRD:Hid (nB 3 (nx 1 s)=RD):=hRD';clear hAU' hRD';go_upto_region 2 with fail
 refine kO_ ?A0 ?_;exact Obj.cells #[I_ AU,I_ RD,O_] 58;have hA1:=zC w1 ?A0;have qC:=hN_ w1 ?A0;have hszC:w1.heap.size<(w1.alloc ?A0).heap.size:=ze qC;generalize hCB:w1.heap.size=CB at qC hszC|-;generalize w1.alloc ?A0=W1 at hA1 qC hszC|-;have HCB:Hid (w1.heap.size=CB):=hCB;have hRCB:R<CB:=by omega
 have hwCB:w.heap.size<CB:=by omega
 clear hCB;have hN:=zdn R 1 (bS3 s) W1 (zaw.below hR1 hA1) hg3 (by omega);rw[<-hNI.out]at hN;go_wp2_with fail
 refine hN.mono ?_;rintro _ w2⟨rfl,hR2,ho2⟩;dsimp only;clear hN;have p2:=(ho2.block _ hszC (by omega)).trans qC;have hO12:zaG R w1 w2:=(zbR hA1).trans ho2;have hg5:zbC (nx 1 (bS3 s)):=hg3.nx;generalize hs5:nx 1 (bS3 s)=s5 at*;generalize hcn:bN s=N at*;have HS5:Hid (nx 1 (bS3 s)=s5):=hs5;have HK:Hid (bN s=N):=hcn;clear hs5 hcn;go_upto_region 3 with fail
 go_loopw [11] (λj wr=>∃(k:Nat) (tv:Value),k<=N/\j=I_ k/\wr.ownsRow W1.heap.size 9 1 tv k (sv (bT s5 k))/\R_ wr CB #[I_ AU,I_ RD,tv] 58/\RdS wr R (bL s5 k)/\zaG R w1 wr/\W1.heap.size<=wr.heap.size) (λj _=>N-(intOf j).toNat)
 case atStart=>exact⟨0,O_,nZ_ _,rfl,oN_ _ _ _ _,p2,hR2,hO12,ho2.size⟩
 case round=>
  obtain⟨k,tv,hk,rfl,ho,r0,hRk,hok,hszk⟩:=hrel;by_cases hltk:k<N;refine K_ (?C0:St) ?_;exact nx 1 (bL s5 k);refine K_ (?D0:Int) ?_;exact nB 1 (bL s5 k)
  .have hltI:(k:Int)<N:=by omega
   have hgk:=zqM hg5 k;have hNk:=zdn R 1 (bL s5 k) wr.drew (zaw.below hRk ((bR_ _ _).drew)) hgk (by omega);obtain⟨hx0,hx1⟩:=zfE hgk;have hst:Hid (bT s5 (k+1)=bT s5 k++[zai (tT (?D0).toNat ?C0)]):=rfl;have hst2:Hid (bL s5 (k+1)=nx (?D0).toNat ?C0):=rfl;have HTk:Hid (∀W:World,RdS W R ?C0->Calls prog 101 #[P_ R 0,I_ ?D0] W λe w'=>zhb W w' e R (tT (?D0).toNat ?C0) (nx (?D0).toNat ?C0).1 (nx (?D0).toNat ?C0).2):=by
    show ∀_,_;intro W hW;have h:=zjx R (?D0).toNat (?C0).1 (?C0).2 W hW hgk.nx.len (by omega);rw[show(((?D0).toNat:Nat):Int)=nB 1 (bL s5 k) by omega]at h;exact h
   have hE2:Hid (∀args w,(callFunc 71 args).run prog w=.ok (.enter 71 args) w):=eO_ func71;have hE3:Hid (∀args w,(callFunc 101 args).run prog w=.ok (.enter 101 args) w):=eO_ func101;have hCBlt:CB<wr.heap.size:=ze r0;have hneC:CB≠R:=by omega
   have c4:wr.cell? ⟨CB,2,none⟩=some tv:=zb r0 2 _ rfl;have c4d:wr.drew.cell? ⟨CB,2,none⟩=some tv:=c4;generalize tT (?D0).toNat ?C0=TX at*;generalize nx (?D0).toNat ?C0=s7 at*;generalize nB 1 (bL s5 k)=X at*;generalize nx 1 (bL s5 k)=s6 at*;have hvC:tv.ownBlock≠some CB:=λe=>by have:=(ho.lt _ e).1;omega
   go_wp2_with fail
   go_region_law (first
    | (refine zdF rfl 71 _ _ rfl [P_ R 0,I_ 1] rfl hE2.out (λu w9=>u=I_ X/\RdS w9 R s6/\zaG R wr w9) (hNk.mono (λe w9 ⟨he,h1,h2⟩=>⟨_,he,rfl,h1,zjA h2⟩)) ?_;rintro u w4⟨rfl,hR4,ho4⟩;have v4:=(ho4.block _ hCBlt hneC).trans r0;have b4:w4.cell? ⟨CB,2,none⟩=some tv:=zb v4 2 _ rfl)
    | (refine zdF rfl 101 _ _ rfl [P_ R 0,I_ X] rfl hE3.out (λu w9=>∃ta tc,u=.slice ta TX.length tc/\zg w9 ta tc TX/\RdS w9 R s7/\zaG R w4 w9) ((HTk.out w4 hR4).mono (λe w9 h=>by obtain⟨ta,tc,he,h1,_,h2,h3⟩:=h.out;exact⟨_,he,ta,tc,rfl,h1,h2,h3⟩)) ?_;rintro u w5⟨ta,tc,rfl,hs5',hR5,ho5'⟩;have ho5:=ho4.trans ho5';have v5:=(ho5.block _ hCBlt hneC).trans r0;have d4:w5.cell? ⟨CB,2,none⟩=some tv:=zb v5 2 _ rfl;have d4a:(w5.alloc (.cells #[.string (zai TX)] 9)).cell? ⟨CB,2,none⟩=some tv:=zb (zR v5) 2 _ rfl;have hob:=zjy ho ho5 (by omega);have hw5:W1.heap.size<=w5.heap.size:=nT_ hszk ho5.size;have htx:=zd8 w5 ta _ tc TX rfl hs5')
    | (refine zcc rfl _ _ 45 rfl W1.heap.size 9 i (.string ByteArray.empty) 1 16 underlying45 hi hz0 hz1 hz2 rfl (by decide) tv k (sv (bT s5 k)) rfl (oA_ hob _) ⟨w5.heap.size,0,none⟩ 1 1 [.string (zai TX)] rfl rfl (zag _ _ _) (by intro u hu;simp at hu;subst hu;rfl) (by unfold maxLen;omega) (by omega) (zB hw5 _) ?_;intro v6 w6 ho6 G6;have x5:=G6.row (zR v5) hvC;have xd4:=zb x5 2 _ rfl;have xf4:=zd x5 2;obtain⟨fa,fc,hvf⟩:=zH ho6;subst hvf))
   all_goals
    have hG:=G6.grown;have hb5:=zC w5 (.cells #[.string (zai TX)] 9);have hOw5:=hok.trans ho5;have hvlt:∀q,tv.ownBlock=some q->W1.heap.size<=q:=λq e=>(ho.lt q e).1;have hO6:zaG R w1 w6:=by
     refine⟨hG.os.trans hOw5.os,hG.tape.trans hOw5.tape,hG.output.trans hOw5.output,nT_ hOw5.size (nT_ hb5.size hG.size),λq hq hn=>?_⟩;have:=HCB.out;exact(hG.block q (by have:=hb5.size;have:=hOw5.size;omega) (λe=>by have:=hvlt q e.symm;omega)).trans ((hb5.block q (by have:=hOw5.size;omega)).trans (hOw5.block q hq hn))
    have hR6:RdS w6 R s7:=(zaw.below hR5 hb5).stays (λq hq=>hG.block q (by have:=hb5.size;have:=zaw.lt hR5;omega) (λe=>by have:=hvlt q e.symm;omega));go_wp2_with fail
    go_roundw
    case rel=>
     refine⟨k+1,.slice fa (k+1) fc,by omega,by go_num,?_,by simpa using hS_ _ _ 2 _ _ (.slice fa (k+1) fc) x5,?_,?_,?_⟩
     .rw[hst.out];have h:=zQ ho6 CB 2 (.slice fa (k+1) fc) hszC
      simpa[sv]using h
     .rw[hst2.out];exact zaw.far hR6 hRCB
     .have:=HCB.out;exact⟨hO6.os,hO6.tape,hO6.output,by simpa using hO6.size,λq hq hn=>(hO_ _ ⟨CB,2,none⟩ q _ (by show q≠CB;omega)).trans (hO6.block q hq hn)⟩
     .have:=hb5.size;have:=hG.size
      simp
      omega
    case measure=>simp[intOf];omega
  .obtain rfl:k=N:=by omega
   have hltI:¬(k:Int)<k:=by omega
   obtain⟨va,vc,hv,-,hI,hfv⟩:=zf6 ho (zwS hg5 k);subst hv;have z0:=(hok.block _ hlt1 (by omega)).trans p0;have hOw:=hOw1.trans hok;have c0:=zb r0 0 _ rfl;have c1:=zb r0 1 _ rfl;have c2:=zb r0 2 _ rfl;have d0:=zb z0 0 _ rfl;have d1:=zb z0 1 _ rfl;have d2:=zb z0 2 _ rfl;have f0:=zd z0 0;have f1:=zd z0 1;have f2:=zd z0 2;have HCP:Hid (bN s<=vc/\vc<=maxLen/\(va=none->vc=0)):=by
    rw[HK.out];exact zvU ho
   have HAU:Hid (nB 1 s=AU/\nB 3 (nx 1 s)=RD/\bN s=k/\nx 1 (bS3 s)=s5):=⟨hAU.out,hRD.out,HK.out,HS5.out⟩;have hX:Hid (zq5 w (((wr.setCell ⟨w.heap.size,0,none⟩ (I_ AU)).setCell ⟨w.heap.size,1,none⟩ (I_ RD)).setCell ⟨w.heap.size,2,none⟩ (.slice va k vc)) (.returned (.agg #[I_ AU,I_ RD,.slice va k vc])) R s):=by
    have farI:∀(W:World) (j:Nat) (v:Value),zas W va (bT s5 k)->zas (W.setCell ⟨w.heap.size,j,none⟩ v) va (bT s5 k):=λW j v h=>zs8 (R:=w.heap.size) h ((zaG.refl _ W).setCell) (λsb so e e2=>by have:=hfv sb so e;omega);refine⟨va,vc,?_,?_,(λsb so e=>by have:=hfv sb so e;omega),?_,?_,HCP.out.1,HCP.out.2.1,HCP.out.2.2⟩
    .rw[HAU.out.1,HAU.out.2.1,HAU.out.2.2.1]
    .rw[HAU.out.2.2.1,HAU.out.2.2.2];exact farI _ _ _ (farI _ _ _ (farI _ _ _ hI))
    .rw[HAU.out.2.2.1,HAU.out.2.2.2];exact zaw.far (zaw.far (zaw.far hRk hlt) hlt) hlt
    .exact⟨hOw.os,hOw.tape,hOw.output,by simpa using hOw.size,λq hq hn=>(hO_ _ ⟨w.heap.size,2,none⟩ q _ (by show q≠w.heap.size;omega)).trans ((hO_ _ ⟨w.heap.size,1,none⟩ q _ (by show q≠w.heap.size;omega)).trans ((hO_ _ ⟨w.heap.size,0,none⟩ q _ (by show q≠w.heap.size;omega)).trans (hOw.block q hq hn)))⟩
   clear hI hfv hRk hok hOw hOw1 ho z0 r0;go_wp2_with fail
   exact bP_ (v:=.agg #[I_ AU,I_ RD,.slice va k vc]) (by simp[results,results72,go_sem,d0,d1,d2]) rfl hX.out
end Go.Proofs.YtdnaljbnebnlhaaGreatDoor
