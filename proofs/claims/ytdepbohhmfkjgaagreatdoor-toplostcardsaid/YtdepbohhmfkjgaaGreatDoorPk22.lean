import Derived.Test.YtdepbohhmfkjgaaGreatDoorPk21
set_option maxRecDepth 100000
set_option maxHeartbeats 4000000
namespace Go.Proofs.YtdepbohhmfkjgaaGreatDoor
open Go.RowKit Tryz
theorem zfm (l:List SV)(b:Ct):zco l b.au b.rd b.bl b.pl=zak l b.v:=by
 have c:zK b.v.au b.v.rd (pz b.v.bl) (pz b.v.pl)=zK b.au b.rd b.bl b.pl:=zeA (zck b.bl) (zck b.pl);have d:zay b.v.au b.v.rd (pz b.v.bl) (pz b.v.pl)=zay b.au b.rd b.bl b.pl:=by rw[Ct.d_v];rfl
 rw[zak,zco,zco,c,d]
 rfl
theorem ztw {l:List SV}{s:SV}(h:(zaW l s).2=0):zaW l s=(l,0)∨(zaW l s=(l++[s],0)∧l.length<400):=by
 cases hm:zbq l s.1 s.2.1 l.length with
 | some m=>
  by_cases g:txL (zdA l m).2.2=txL s.2.2
  ·exact .inl (zhx hm g)
  ·rw[zgQ hm g] at h;cases h
 | none=>
  by_cases g:400≤l.length
  ·rw[zhy hm g] at h;cases h
  ·exact .inr ⟨ziv hm g,by omega⟩
theorem zjQ {l:List SV}{h:CV}(b:(zak l h).2.2=0):zcV l=0∧h.hf=0∧(zak l h).2.1=h.slot∧((zak l h).1=l∨((zak l h).1=l++[h.slot]∧l.length<400)):=by
 unfold zak zco at b ⊢;by_cases h1:zcV l≠0
 ·rw[if_pos h1] at b;cases b
 ·by_cases h2:zK h.au h.rd (pz h.bl) (pz h.pl)≠0
  ·rw[if_neg h1,if_pos h2] at b;exact absurd b h2
  ·rw[if_neg h1,if_neg h2] at b ⊢;by_cases h3:(zaW l (h.au,h.rd,zay h.au h.rd (pz h.bl) (pz h.pl))).2≠0
   ·rw[if_pos h3] at b;exact absurd b h3
   ·rw[if_neg h3];refine ⟨Decidable.of_not_not h1,Decidable.of_not_not h2,rfl,?_⟩;have d:(zaW l h.slot).2=0:=Decidable.of_not_not h3;rcases ztw d with g|⟨g,c⟩
    ·exact .inl (congrArg Prod.fst g)
    ·exact .inr ⟨congrArg Prod.fst g,c⟩
theorem NM.v_tab (x:NM)(a:Option Addr)(c:Nat)(l:List Sl):({ x with ta:=a,tc:=c,tab:=l }:NM).v={ x.v with k:={ x.v.k with tab:=vs l } }:=rfl
theorem zaT.tab_ {n:Nd}(h:zaT n){l:List SV}(b:l.length≤400000)(c:∀ s∈l,zaF s.2.2):zaT { n with k:={ n.k with tab:=l } }:=
 ⟨h.nu,h.pool,h.sh,h.shf,h.dag,h.own,h.ovl,h.vot,h.tape,h.syn,h.wai,h.trn,b,c,h.u8s,h.ou8,h.du8⟩
theorem zeM (h:CV):zaF h.slot.2.2:=zi0 _ _ _ _
theorem zng {h:CV}(f:h.hf=0):za4 h.slot.1 h.slot.2.1 h.slot.2.2.length=0:=by
 obtain ⟨b,c,_⟩:=za7 (show zK h.au h.rd (pz h.bl) (pz h.pl)=0 from f);have d:h.d.length=32:=h.d_length;show za4 h.au h.rd h.d.length=0;rw[d,za4];simp[b,c]
variable {w w2 w1:World}{U U1:Nat→Bool}{F n o base c':Nat}{fc:Array Value}{T:TypeId}{x:NM}{xs:List Value}{a':Option Addr}
theorem zae.hideRow {s:Nat}{e:TypeId}{a:Option Addr}{m c:Nat}(h:zae w U F o T fc x)(d:B_ w w2)(y:w2.ownsRow base e s (.slice a m c) n xs)(u:∀ q,ob a=some q→w.heap.size≤q) :
  zae w2 (zaz U (ob a)) F o T fc x∧NTo U (zaz U (ob a)) w w2 F o fc fc x x:=by
 have r:zah U (zaz U (ob a)) w w2:=⟨d.os,d.tape,d.output,d.size,fun b l _=>d.block b l,fun b l=>by
  cases hu:U b with
  | true=>exact zau hu
  | false=>exact zbj hu (fun e=>by have:=u b e;omega)⟩
 have f:=r.sub;have g:=h.below d;refine ⟨⟨g.blk,h.siz,h.cel,zau h.fu,fun b e=>⟨zau (h.su b e).1,(h.su b e).2⟩,?_,h.tabs.sub f,h.etx.sub f,g.rsh,fun s m=>(h.esh s m).sub f,g.rtb,fun s m=>(h.etb s m).sub f,⟨g.stk.box,g.stk.rc,g.stk.rd,fun c j=>(h.stk.ec c j).sub f,fun p z=>(h.stk.ed p z).sub f,h.stk.same,fun c j b d=>by rw[r.us b (by have:=(h.stk.ec c j).block_lt b d;rwa [zb2] at this)];exact h.stk.ic c j b d⟩,h.hdr.sub f,h.slt.sub f,g.rvo,h.tap.sub f,h.ems,g.rwa,fun m e=>(h.ewa m e).sub f,h.inv⟩,?_⟩
 ·intro b t;have:=(h.bnd.grew d.size y) b (by rw[zcL];exact t);exact this
 ·exact ⟨d.os,d.tape,d.output,d.size,fun b l _ _=>d.block b l,r.us,fun _ h=>.inl h,rfl,fun _ _=>rfl⟩
theorem zae.late_tab {l:Array Value}{d:NM}{l':List Sl}(n:NTo U U1 w w1 F o fc l x d)(h:zae w1 U1 F o T l d)(r:∀ q,ob a'=some q→w.heap.size≤q∧U1 q=true∧q≠F)
  (D:w1.ownsRow 0 66 3 (.slice a' l'.length c') l'.length (slv l')) (A:∀ s∈l',zf (zo U1 w1) s.p.sa s.p.cap s.p.bs) (B:zaT ({ d with ta:=a',tc:=c',tab:=l' }:NM).v) :
  ∃ u t,zae (w1.setCell ⟨F,o+5,none⟩ (.slice a' l'.length c')) U1 F o T u t∧NTo U U1 w (w1.setCell ⟨F,o+5,none⟩ (.slice a' l'.length c')) F o fc u x t∧t.v=({ d with ta:=a',tc:=c',tab:=l' }:NM).v:=by
 refine kW_ ?A0 ?_;exact w1.setCell ⟨F,o+5,none⟩ (.slice a' l'.length c');have C:zo U1 ?A0=zo U1 w1:=zbO h.fu _ _;have p:∀ b,b≠F→(?A0).heap[b]? = w1.heap[b]?:=fun b f=>hO_ w1 ⟨F,o+5,none⟩ b _ f;have g:∀ b,d.S b→(?A0).heap[b]? = w1.heap[b]?:=fun b e=>p b (h.su b e).2;have c:Sub (zo U1 w1) (zo U1 ?A0):=by rw[C];exact Sub.refl _
 refine ⟨l.setIfInBounds (o+5) (.slice a' l'.length c'),{ d with ta:=a',tc:=c',tab:=l' },⟨za0 h.blk _,by simpa using h.siz,h.cel.set h.siz 5 (by decide) _ rfl,h.fu,?_,fun b f=>by simpa using h.bnd b f,h.tabs.sub c,h.etx.sub c,
  zt h.rsh (fun q e=>g q (.inr (.inr (.inr (.inl (zm e)))))),fun s m=>(h.esh s m).sub c,zt D (fun q e=>p q (r q (zm e)).2.2),fun s m=>(A s m).sub c,h.stk.keep c (fun _ _=>rfl) (fun b e=>g b (by
   rcases e with e|e|e
   ·exact .inl e
   ·exact .inr (.inl e)
   ·exact .inr (.inr (.inl e)))),h.hdr.sub c,h.slt.sub c,zt h.rvo (fun q e=>g q (.inr (.inr (.inr (.inr (.inr (.inl (zm e)))))))),h.tap.sub c,h.ems,zt h.rwa (fun q e=>g q (.inr (.inr (.inr (.inr (.inr (.inr (zm e)))))))),fun s m=>(h.ewa s m).sub c,B⟩,⟨n.os,n.tape,n.output,by simpa using n.size,fun b f E y=>(p b y).trans (n.block b f E y),n.us,?_,by simpa using n.fsz,fun j z=>by rw[zhg _ o 5 _ (by decide) j z];exact n.far j z⟩,rfl⟩
 ·intro b e;rcases e with e|e|e|e|e|e|e
  ·exact h.su b (.inl e)
  ·exact h.su b (.inr (.inl e))
  ·exact h.su b (.inr (.inr (.inl e)))
  ·exact h.su b (.inr (.inr (.inr (.inl e))))
  ·exact (r b e).2
  ·exact h.su b (.inr (.inr (.inr (.inr (.inr (.inl e))))))
  ·exact h.su b (.inr (.inr (.inr (.inr (.inr (.inr e))))))
 ·intro b e;rcases e with e|e|e|e|e|e|e
  ·exact n.new b (.inl e)
  ·exact n.new b (.inr (.inl e))
  ·exact n.new b (.inr (.inr (.inl e)))
  ·exact n.new b (.inr (.inr (.inr (.inl e))))
  ·exact .inr (r b e).1
  ·exact n.new b (.inr (.inr (.inr (.inr (.inr (.inl e))))))
  ·exact n.new b (.inr (.inr (.inr (.inr (.inr (.inr e))))))
theorem sSl:(prog.info? 66).map (·.size)=some 3:=by kernel_rfl
theorem sNo:(prog.info? 92).map (·.size)=some 2:=by kernel_rfl
theorem zae.tabAt (h:zae w U F o T fc x):zdB w x.ta x.tc x.tab:=by
 have d:=h.rtb;have y:x.tab.length≤400000:=by have:=h.inv.tab;simpa[NM.v,vs] using this
 have k:=zH U w;rcases d.2 with ⟨e,m⟩|⟨g,t,u,e,r⟩
 all_goals
  simp only[Value.slice.injEq] at e;obtain ⟨b,_,c⟩:=e
 ·have q:x.tab=[]:=eN_ m;rw[b,c,q];exact ziZ w
 ·rw[b,c] at d ⊢;refine ⟨r.2.2.1,nT_ r.2.2.2.1 (by decide),by omega,.inr ⟨g,0,rfl⟩,⟨.inr ⟨g,0,rfl,fun j l=>?_⟩,fun s p=>(h.etb s p).sub k⟩⟩;have e:∀ i,i<3→w.cell? ⟨g,j*3+i,none⟩=(x.tab[j]).cs[i]?:=fun i f=>by rw[World.ownsRow.cellAt d (j*3+i) (by omega),zq7 x.tab j i l f]
  simp only[Nat.zero_add];exact ⟨e 0 (by omega),e 1 (by omega),e 2 (by omega)⟩
theorem ztx {n:Nd}{o:No}{h:CV}(b:(decide (h.au=n.nu)||!n.k.knows h||!o.signed h.au h.slot)=true):n.hearO o h=n:=by
 refine if_pos ?_;simp only[Bool.or_eq_true,decide_eq_true_eq,Bool.not_eq_true'] at b;rcases b with (g|g)|g
 ·exact .inl g
 ·exact .inr (.inl g)
 ·exact .inr (.inr (.inr g))
theorem zrY {n:Nd}{o:No}{h:CV}(c:h.hf=0)(b:(decide (h.au=n.nu)||!n.k.knows h||!o.signed h.au h.slot)=false):n.hearO o h=if (zak n.k.tab h).2.2≠0 then n
 else if n.k.tab.length<(zak n.k.tab h).1.length then
  (if n.room (zcx h.slot) then (n.log (zcx h.slot) { n.k with tab:=(zak n.k.tab h).1 }).send h.au (zcx h.slot) else n)
 else n.send h.au (zcx h.slot):=by
 refine if_neg ?_;simp only[Bool.or_eq_false_iff,decide_eq_false_iff_not,Bool.not_eq_false'] at b;intro g;rcases g with g|g|g|g
 ·exact b.1.1 g
 ·rw[b.1.2] at g;cases g
 ·exact g c
 ·rw[b.2] at g;cases g
theorem zp0 (x:NM)(c:Ct)(M:Int)(L:List Sg)(ga:Option Addr)(gc:Nat)(w:World)(U:Nat→Bool)(F o:Nat)(T:TypeId)(fc:Array Value)(h:zae w U F o T fc x)(hH:HAt (zo U w) c.ba c.bc c.bl c.pa c.pc c.pl)(hf:c.v.hf=0)(hg:zcN (zo U w) ga gc L) :
  Calls prog 102 #[P_ F o,.agg (hrow_ c),.agg #[I_ M,.slice ga L.length gc]] w fun e w'=>(∃ v,e=.returned v)∧zac w U F o T fc x w' (x.v.hearO ⟨M,zA L⟩ c.v):=by
 refine kA_ ?A0 ?_;exact #[I_ M,.slice ga L.length gc];refine kW_ ?D0 ?_;exact (w.alloc (.cells (hrow_ c) 56)).alloc (.cells ?A0 92);have hA:B_ w ?D0:=((bR_ _ _).alloc (nR_ _) _).alloc (by simp) _;have q0:=hX_ w (.cells (hrow_ c) 56) (.cells ?A0 92);have q1:=hY_ w (.cells (hrow_ c) 56) (.cells ?A0 92);have bC:0≤c.au∧c.au<4:=(za7 (by rw[←Ct.hf_v] at hf;exact hf)).1;go_in;go_upto_region 1 with fail
 generalize ?D0=W0 at hA q0 q1 ⊢;have h0:=h.below hA;have aB:=hH.sub (h.later hA);have bD:=hg.sub (h.later hA);have bn:Hid (U w.heap.size=false∧U (w.heap.size+1)=false):=⟨h.bnd.new (nR_ _),h.bnd.new (Nat.le_succ _)⟩;have bx:=NTo.below (F:=F) (o:=o) U fc x hA;have c0:C_ W0 F o (I_ x.nu):=h0.cell 0 _ rfl;generalize w.heap.size+1=B1 at q1 bn ⊢;generalize w.heap.size=R at q0 bn ⊢;clear hA;go_cut [28] (fun u wx=>u=.bool (decide (c.v.au=x.v.nu)||!x.v.k.knows c.v||!No.signed ⟨M,zA L⟩ c.v.au c.v.slot)∧B_ W0 wx)
 refine kV_ ?C0 ?_;exact Value.agg (hrow_ c)
 case first=>
  by_cases e1:c.au=x.nu
  ·have HV:Hid ((decide (c.v.au=x.v.nu)||!x.v.k.knows c.v||!No.signed ⟨M,zA L⟩ c.v.au c.v.slot)=true):=by show _=_;rw[dT_ (show c.v.au=x.v.nu from e1)];rfl
   have aJ:(c.au == x.nu)=true:=by simpa using e1
   clear e1;have D:=dB_ W0;have ac:=dC_ c0;have ae:=dQ_ q0;have af:=dQ_ q1;refine wR_ (S:=fun w'=>C_ w' F o (I_ x.nu)∧R_ w' R (hrow_ c) 56∧R_ w' B1 ?A0 92) (by kernel_rfl) ⟨ac,ae,af⟩ (fun m=>?_);generalize W0.drew=H at D ac ae af m ⊢;refine tK_ 0 10 (P_ R 0) rfl rfl m ?_;simp only[zg];refine tQ_ 1 11 (I_ c.au) rfl rfl (Or.inl ⟨by rfl,fun w0 J=>by have k0:=zb J.2.1 0 _ rfl;go_simp⟩) m ?_;simp only[zg];refine tks_ 6 [(2,12,(P_ F o)),(3,13,(P_ F o)),(4,14,(P_ F o)),(5,15,I_ x.nu),(6,16,.bool (c.au == x.nu)),(7,17,.bool (c.au == x.nu))] m ?_;simp only[tkf_,zg];rw[aJ];refine tks_ 11 [(8,18,undef),(9,19,undef),(10,20,undef),(11,21,undef),(12,22,.bool true),(13,23,.bool true),(14,24,undef),(15,25,undef),(16,26,undef),(17,27,undef),(18,28,.bool true)] m ?_;simp only[tkf_,zg];clear m;refine wD_ (by kernel_rfl) ?_ _;go_wp2_with fail
   go_meet
   case rel=>exact ⟨by rw[HV.out],D⟩
  ·have HE:Hid (decide (c.v.au=x.v.nu)=false):=dF_ e1;have aJ:(c.au == x.nu)=false:=by simpa using e1
   clear e1;cases hk:x.v.k.knows c.v with
   | false=>
    have HK:Hid _:=hk;clear hk;have aY:Hid (∀ W:World,B_ W0 W→Calls prog 139 #[P_ F o,?C0] W fun e w'=>e=.returned (.bool false)∧B_ W w'):=by
     show ∀ W,_;intro W Y;rw[←HK.out];exact zkt x c W U F o T fc (h0.below Y) ((aB.sub (zH U W0)).below Y) hf
    have D:=dB_ W0;have ac:=dC_ c0;have ae:=dQ_ q0;have af:=dQ_ q1;refine wR_ (S:=fun w'=>C_ w' F o (I_ x.nu)∧R_ w' R (hrow_ c) 56∧R_ w' B1 ?A0 92) (by kernel_rfl) ⟨ac,ae,af⟩ (fun m=>?_);generalize W0.drew=H at D ac ae af m ⊢;refine tK_ 0 10 (P_ R 0) rfl rfl m ?_;simp only[zg];refine tQ_ 1 11 (I_ c.au) rfl rfl (Or.inl ⟨by rfl,fun w0 J=>by have k0:=zb J.2.1 0 _ rfl;go_simp⟩) m ?_;simp only[zg];refine tks_ 6 [(2,12,(P_ F o)),(3,13,(P_ F o)),(4,14,(P_ F o)),(5,15,I_ x.nu),(6,16,.bool (c.au == x.nu)),(7,17,.bool (c.au == x.nu))] m ?_;simp only[tkf_,zg];rw[aJ];refine tK_ 8 18 (P_ F o) rfl rfl m ?_;simp only[zg];refine tQ_ 9 19 ?C0 rfl rfl (Or.inl ⟨by rfl,fun w0 J=>zJ 56 _ rfl R rfl 56 (hrow_ c) (0,0) _ J.2.1 underlying56 rfl sHd⟩) m ?_;simp only[zg];refine zE 10 rfl (fun K9 N=>?_);refine zaR (by rfl) 20 rfl 139 [.tmp 18,.tmp 19] #[112,56] rfl [P_ F o,?C0] rfl (eO_ func139) (fun v w'=>v=.bool false∧B_ H w') ((aY.out H D).mono (fun e w' k=>⟨_,k.1,rfl,k.2⟩)) ?_;rintro v E ⟨rfl,O⟩;have I:=zq D O;have ap:=zr O ac;have aw:=zn O ae;have ax:=zn O af;refine N.out _ _ ⟨ap,aw,ax⟩ (fun m=>?_);simp only[zg];refine tks_ 8 [(11,21,.bool (!false)),(12,22,.bool (!false)),(13,23,.bool (!false)),(14,24,undef),(15,25,undef),(16,26,undef),(17,27,undef),(18,28,.bool true)] m ?_;simp only[tkf_,zg];clear m;refine wD_ (by kernel_rfl) ?_ _;go_wp2_with fail
    go_meet
    case rel=>exact ⟨by rw[HE.out,HK.out];rfl,I⟩
   | true=>
    have HK:Hid _:=hk;clear hk;have aY:Hid (∀ W:World,B_ W0 W→Calls prog 139 #[P_ F o,?C0] W fun e w'=>e=.returned (.bool true)∧B_ W w'):=by
     show ∀ W,_;intro W Y;rw[←HK.out];exact zkt x c W U F o T fc (h0.below Y) ((aB.sub (zH U W0)).below Y) hf
    cases hs:No.signed ⟨M,zA L⟩ c.v.au c.v.slot with
    | false=>
     have HS:Hid _:=hs;clear hs;have be:Hid (∀ W:World,B_ W0 W→Calls prog 140 #[?C0,.agg ?A0] W fun e w'=>e=.returned (.bool false)∧B_ W w'):=by
      show ∀ W,_;intro W Y;rw[←HS.out];exact ziH M L ga gc c W ((bD.sub (zH U W0)).below Y) ((aB.sub (zH U W0)).below Y) hf ((h0.below Y).tabs.sub (zH _ _))
     have D:=dB_ W0;have ac:=dC_ c0;have ae:=dQ_ q0;have af:=dQ_ q1;refine wR_ (S:=fun w'=>C_ w' F o (I_ x.nu)∧R_ w' R (hrow_ c) 56∧R_ w' B1 ?A0 92) (by kernel_rfl) ⟨ac,ae,af⟩ (fun m=>?_);generalize W0.drew=H at D ac ae af m ⊢;refine tK_ 0 10 (P_ R 0) rfl rfl m ?_;simp only[zg];refine tQ_ 1 11 (I_ c.au) rfl rfl (Or.inl ⟨by rfl,fun w0 J=>by have k0:=zb J.2.1 0 _ rfl;go_simp⟩) m ?_;simp only[zg];refine tks_ 6 [(2,12,(P_ F o)),(3,13,(P_ F o)),(4,14,(P_ F o)),(5,15,I_ x.nu),(6,16,.bool (c.au == x.nu)),(7,17,.bool (c.au == x.nu))] m ?_;simp only[tkf_,zg];rw[aJ];refine tK_ 8 18 (P_ F o) rfl rfl m ?_;simp only[zg];refine tQ_ 9 19 ?C0 rfl rfl (Or.inl ⟨by rfl,fun w0 J=>zJ 56 _ rfl R rfl 56 (hrow_ c) (0,0) _ J.2.1 underlying56 rfl sHd⟩) m ?_;simp only[zg];refine zE 10 rfl (fun K9 N=>?_);refine zaR (by rfl) 20 rfl 139 [.tmp 18,.tmp 19] #[112,56] rfl [P_ F o,?C0] rfl (eO_ func139) (fun v w'=>v=.bool true∧B_ H w') ((aY.out H D).mono (fun e w' k=>⟨_,k.1,rfl,k.2⟩)) ?_;rintro v E ⟨rfl,O⟩;have I:=zq D O;have ap:=zr O ac;have aw:=zn O ae;have ax:=zn O af;refine N.out _ _ ⟨ap,aw,ax⟩ (fun m=>?_);simp only[zg];refine tks_ 3 [(11,21,.bool (!true)),(12,22,.bool (!true)),(13,23,.bool (!true))] m ?_;simp only[tkf_,zg];refine tQ_ 14 24 ?C0 rfl rfl (Or.inl ⟨by rfl,fun w0 J=>zJ 56 _ rfl R rfl 56 (hrow_ c) (0,0) _ J.2.1 underlying56 rfl sHd⟩) m ?_;simp only[zg];refine tQ_ 15 25 (.agg ?A0) rfl rfl (Or.inl ⟨by rfl,fun w0 J=>zJ 92 _ rfl B1 rfl 92 ?A0 (0,0) _ J.2.2 underlying92 rfl sNo⟩) m ?_;simp only[zg];refine zE 16 rfl (fun K9 N=>?_);refine zaR (by rfl) 26 rfl 140 [.tmp 24,.tmp 25] #[56,92] rfl [?C0,.agg ?A0] rfl (eO_ func140) (fun v w'=>v=.bool false∧B_ E w') ((be.out E I).mono (fun e w' k=>⟨_,k.1,rfl,k.2⟩)) ?_;rintro v X ⟨rfl,ab⟩;have an:=zq I ab;have bh:=zr ab ap;have bs:=zn ab aw;have bt:=zn ab ax;refine N.out _ _ ⟨bh,bs,bt⟩ (fun m=>?_);simp only[zg];refine tks_ 2 [(17,27,.bool (!false)),(18,28,.bool (!false))] m ?_;simp only[tkf_,zg];clear m;refine wD_ (by kernel_rfl) ?_ _;go_wp2_with fail
     go_meet
     case rel=>exact ⟨by rw[HE.out,HK.out,HS.out];rfl,an⟩
    | true=>
     have HS:Hid _:=hs;clear hs;have be:Hid (∀ W:World,B_ W0 W→Calls prog 140 #[?C0,.agg ?A0] W fun e w'=>e=.returned (.bool true)∧B_ W w'):=by
      show ∀ W,_;intro W Y;rw[←HS.out];exact ziH M L ga gc c W ((bD.sub (zH U W0)).below Y) ((aB.sub (zH U W0)).below Y) hf ((h0.below Y).tabs.sub (zH _ _))
     have D:=dB_ W0;have ac:=dC_ c0;have ae:=dQ_ q0;have af:=dQ_ q1;refine wR_ (S:=fun w'=>C_ w' F o (I_ x.nu)∧R_ w' R (hrow_ c) 56∧R_ w' B1 ?A0 92) (by kernel_rfl) ⟨ac,ae,af⟩ (fun m=>?_);generalize W0.drew=H at D ac ae af m ⊢;refine tK_ 0 10 (P_ R 0) rfl rfl m ?_;simp only[zg];refine tQ_ 1 11 (I_ c.au) rfl rfl (Or.inl ⟨by rfl,fun w0 J=>by have k0:=zb J.2.1 0 _ rfl;go_simp⟩) m ?_;simp only[zg];refine tks_ 6 [(2,12,(P_ F o)),(3,13,(P_ F o)),(4,14,(P_ F o)),(5,15,I_ x.nu),(6,16,.bool (c.au == x.nu)),(7,17,.bool (c.au == x.nu))] m ?_;simp only[tkf_,zg];rw[aJ];refine tK_ 8 18 (P_ F o) rfl rfl m ?_;simp only[zg];refine tQ_ 9 19 ?C0 rfl rfl (Or.inl ⟨by rfl,fun w0 J=>zJ 56 _ rfl R rfl 56 (hrow_ c) (0,0) _ J.2.1 underlying56 rfl sHd⟩) m ?_;simp only[zg];refine zE 10 rfl (fun K9 N=>?_);refine zaR (by rfl) 20 rfl 139 [.tmp 18,.tmp 19] #[112,56] rfl [P_ F o,?C0] rfl (eO_ func139) (fun v w'=>v=.bool true∧B_ H w') ((aY.out H D).mono (fun e w' k=>⟨_,k.1,rfl,k.2⟩)) ?_;rintro v E ⟨rfl,O⟩;have I:=zq D O;have ap:=zr O ac;have aw:=zn O ae;have ax:=zn O af;refine N.out _ _ ⟨ap,aw,ax⟩ (fun m=>?_);simp only[zg];refine tks_ 3 [(11,21,.bool (!true)),(12,22,.bool (!true)),(13,23,.bool (!true))] m ?_;simp only[tkf_,zg];refine tQ_ 14 24 ?C0 rfl rfl (Or.inl ⟨by rfl,fun w0 J=>zJ 56 _ rfl R rfl 56 (hrow_ c) (0,0) _ J.2.1 underlying56 rfl sHd⟩) m ?_;simp only[zg];refine tQ_ 15 25 (.agg ?A0) rfl rfl (Or.inl ⟨by rfl,fun w0 J=>zJ 92 _ rfl B1 rfl 92 ?A0 (0,0) _ J.2.2 underlying92 rfl sNo⟩) m ?_;simp only[zg];refine zE 16 rfl (fun K9 N=>?_);refine zaR (by rfl) 26 rfl 140 [.tmp 24,.tmp 25] #[56,92] rfl [?C0,.agg ?A0] rfl (eO_ func140) (fun v w'=>v=.bool true∧B_ E w') ((be.out E I).mono (fun e w' k=>⟨_,k.1,rfl,k.2⟩)) ?_;rintro v X ⟨rfl,ab⟩;have an:=zq I ab;have bh:=zr ab ap;have bs:=zn ab aw;have bt:=zn ab ax;refine N.out _ _ ⟨bh,bs,bt⟩ (fun m=>?_);simp only[zg];refine tks_ 2 [(17,27,.bool (!true)),(18,28,.bool (!true))] m ?_;simp only[tkf_,zg];clear m;refine wD_ (by kernel_rfl) ?_ _;go_wp2_with fail
     go_meet
     case rel=>exact ⟨by rw[HE.out,HK.out,HS.out];rfl,an⟩
 refine kO_ ?B0 ?_;exact Obj.cells #[I_ 0,I_ 0,O_] 66;refine kV_ ?E0 ?_;exact Value.slice x.ta x.tab.length x.tc
 case rest=>
  obtain ⟨rfl,O⟩:=hcut;apply_assumption;generalize hC:(decide (c.v.au=x.v.nu)||!x.v.k.knows c.v||!No.signed ⟨M,zA L⟩ c.v.au c.v.slot)=cc;have HC:Hid _:=hC;clear hC c0;have n1:=bx.trans (NTo.below (F:=F) (o:=o) U fc x O);have h1:=h0.below O;have a9:=zn O q0;have bk:=aB.sub (h0.later O);cases cc with
  | true=>
   go_wp2_with fail
   refine bP_ (results_none rfl _ _ _) rfl ?_;exact ⟨⟨_,rfl⟩,by rw[ztx HC.out];exact ⟨U,fc,x,h1,n1,rfl⟩⟩
  | false=>
   have HM:Hid _:=zrY (o:=⟨M,zA L⟩) hf HC.out;clear HC O q0 h0 aB bx;have c5:=h1.cell 5 _ rfl;go_upto_region 2 with fail
   obtain ⟨W1,bA⟩:∃ W,W=wc:=⟨_,rfl⟩;rw[←bA] at h1 n1 a9 bk c5 ⊢;clear bA;go_cut [6,7,8] (fun u6 u7 u8 wx=>∃ (z:Option Addr) (rc:Nat) (d:List Sl) (l:Nat) (f:Option Addr) (r:Nat) (B C:Int) (ds:List Int) (V:Int),u6=.slice z d.length rc∧u7=(P_ l 0)∧u8=I_ V∧B_ W1 wx∧W1.heap.size≤l∧R_ wx l #[I_ B,I_ C,.slice f ds.length r] 66∧Hid ((vs d,(B,C,ds),V)=zak x.v.k.tab c.v∧zf wx f r ds∧(∀ t A,f=some ⟨t,A,none⟩→W1.heap.size≤t∧(Value.slice z d.length rc).ownBlock≠some t)∧wx.ownsRow W1.heap.size 66 3 (.slice z d.length rc) d.length (slv d)∧zX wx W1.heap.size (.slice z d.length rc) (ps d)∧(Value.slice z d.length rc).ownBlock≠some l))
   case first=>
    have D:=dB_ W1;have aH:=dC_ c5;have aS:=dQ_ a9;refine wR_ (S:=fun w'=>C_ w' F (o+5) ?E0∧R_ w' R (hrow_ c) 56) (by kernel_rfl) ⟨aH,aS⟩ (fun m=>?_);generalize W1.drew=H at D aH aS m ⊢;refine tks_ 4 [(0,30,(P_ F o)),(1,31,(P_ F o)),(2,32,(P_ F (o+5))),(3,33,.slice x.ta x.tab.length x.tc)] m ?_;simp only[tkf_,zg];refine tQ_ 4 34 ?C0 rfl rfl (Or.inl ⟨by rfl,fun w0 J=>zJ 56 _ rfl R rfl 56 (hrow_ c) (0,0) _ J.2 underlying56 rfl sHd⟩) m ?_;simp only[zg];refine wpAnyH_ready (rs:=[5,10]) (by kernel_rfl) (by simp) (AllReadyH.cons rfl (fun K9 N=>?_) (AllReadyH.cons rfl (fun K9 N=>?_) AllReadyH.nil));refine zj rfl 35 rfl 116 [.tmp 33,.tmp 34] #[39,56] rfl [?E0,?C0] rfl (eO_ func116) (fun v w'=>(∃ (z:Option Addr) (rc:Nat) (d:List Sl) (f:Option Addr) (r:Nat) (B C:Int) (ds:List Int) (V:Int),v=.tuple #[.slice z (List.length d) rc,.agg #[I_ B,I_ C,.slice f (List.length ds) r],I_ V]∧(vs d,(B,C,ds),V)=zak x.v.k.tab c.v∧zf w' f r ds∧(∀ t A,f=some ⟨t,A,none⟩→H.heap.size≤t∧(Value.slice z (List.length d) rc).ownBlock≠some t)∧w'.ownsRow H.heap.size 66 3 (.slice z (List.length d) rc) (List.length d) (slv d)∧zX w' H.heap.size (.slice z (List.length d) rc) (ps d))∧B_ H w') ((zfl x.tab x.ta x.tc c.au c.rd c.ba c.bc c.bl c.pa c.pc c.pl H ((h1.below D).tabAt) ((bk.sub (zH U W1)).below D) ((h1.below D).tabs.sub (zH _ _))).mono (fun e w' k=>by
    rotate_left
    refine zw rfl 7 rfl (P_ H.heap.size 0) (H.alloc ?B0) (by go_simp) ?_;have aa:=zO H ?B0;have N_:=hN_ H ?B0;have I:=zq D aa;have ag:W1.heap.size≤H.heap.size:=D.size;have aq:=zr aa aH;have aj:F≠H.heap.size:=Nat.ne_of_lt (bL_ aH);have au:=zn aa aS;have al:R≠H.heap.size:=Nat.ne_of_lt (ze aS);refine N.out _ _ ⟨aq,au⟩ (fun m=>?_);simp only[zg];have aA:H.heap.size<(H.alloc ?B0).heap.size:=by simp
    generalize H.alloc ?B0=E at aa N_ I aA aq au m ⊢;clear aa;generalize H.heap.size=l at N_ ag aA aj al ⊢;refine zE 5 rfl (fun K9 N=>?_);have b9:=aA;refine zj rfl 35 rfl 116 [.tmp 33,.tmp 34] #[39,56] rfl [?E0,?C0] rfl (eO_ func116) (fun v w'=>(∃ (z:Option Addr) (rc:Nat) (d:List Sl) (f:Option Addr) (r:Nat) (B C:Int) (ds:List Int) (V:Int),v=.tuple #[.slice z (List.length d) rc,.agg #[I_ B,I_ C,.slice f (List.length ds) r],I_ V]∧(vs d,(B,C,ds),V)=zak x.v.k.tab c.v∧zf w' f r ds∧(∀ t A,f=some ⟨t,A,none⟩→E.heap.size≤t∧(Value.slice z (List.length d) rc).ownBlock≠some t)∧w'.ownsRow E.heap.size 66 3 (.slice z (List.length d) rc) (List.length d) (slv d)∧zX w' E.heap.size (.slice z (List.length d) rc) (ps d))∧B_ E w') ((zfl x.tab x.ta x.tc c.au c.rd c.ba c.bc c.bl c.pa c.pc c.pl E ((h1.below I).tabAt) ((bk.sub (zH U W1)).below I) ((h1.below I).tabs.sub (zH _ _))).mono (fun e w' k=>by
    rotate_left
    all_goals
     obtain ⟨z,rc,d,f,r,B,C,ds,V,k1,k2,_,k4,_,k6,k7,k8,k9,bq⟩:=k;exact ⟨_,k1,⟨z,rc,d,f,r,B,C,ds,V,rfl,by rw[k2,zfm];rfl,k4,fun t A e=>⟨k6 t A e,bq t A e⟩,k8,k9⟩,k7⟩)) ?_
    rintro v E ⟨⟨z,rc,d,f,r,B,C,ds,V,rfl,hR,ar,aD,hO,hP⟩,hbc⟩;have I:=zq D hbc;have aq:=zr hbc aH;have au:=zn hbc aS;refine N.out _ _ ⟨aq,au⟩ (fun m=>?_)
    rotate_left
    rintro v X ⟨⟨z,rc,d,f,r,B,C,ds,V,rfl,hR,ar,aD,hO,hP⟩,hbc⟩;have an:=zq I hbc;have az:=zr hbc aq;have aF:=zn hbc au;have N_:=zn hbc N_;refine N.out _ _ ⟨az,aF⟩ (fun m=>?_)
    rotate_left
    refine kV_ ?G0 ?_;exact Value.slice f ds.length r;refine kV_ ?H0 ?_;exact Value.slice z d.length rc
    all_goals
     simp only[zg];refine tks_ 4 [(6,29,.tuple #[?H0,.agg #[I_ B,I_ C,?G0],I_ V]),(7,36,.slice z d.length rc),(8,37,.agg #[I_ B,I_ C,?G0]),(9,38,I_ V)] m ?_;simp only[tkf_,zg]
    refine zE 10 rfl (fun K9 N=>?_);refine zw rfl 7 rfl (P_ E.heap.size 0) (E.alloc ?B0) (by go_simp) ?_;have aa:=zO E ?B0;have N_:=hN_ E ?B0;have an:=zq I aa;have ag:W1.heap.size≤E.heap.size:=I.size;have az:=zr aa aq;have aj:F≠E.heap.size:=Nat.ne_of_lt (bL_ aq);have aF:=zn aa au;have al:R≠E.heap.size:=Nat.ne_of_lt (ze au);have aE:∀ q,(Value.slice z d.length rc).ownBlock=some q→q≠E.heap.size:=fun q e=>Nat.ne_of_lt (hO.lt q e).2;have a7:∀ t A,f=some ⟨t,A,none⟩→ds≠[]→t≠E.heap.size:=fun t A e hn=>Nat.ne_of_lt (zgb ar hn e);have a6:∀ p∈ps d,∀ t A,p.sa=some ⟨t,A,none⟩→t≠E.heap.size:=fun p Z t A e=>Nat.ne_of_lt ((hP p Z).2 t A e).2.1;have ar:=ar.below aa;have hO:=zv hO aa;have hP:=hP.same aa.size (fun p Z b A e=>aa.block b ((hP p Z).2 b A e).2.1);refine N.out _ _ ⟨az,aF⟩ (fun m=>?_);simp only[zg];have aA:E.heap.size<(E.alloc ?B0).heap.size:=by simp
    generalize E.alloc ?B0=X at aa N_ an aA az aF ar hO hP m ⊢;clear aa;generalize E.heap.size=l at N_ ag aA aj al aE a7 a6 ⊢
    rotate_left
    have aE:∀ q,(Value.slice z d.length rc).ownBlock=some q→q≠l:=fun q e=>by have:=(hO.lt q e).1;omega
    have a7:∀ t A,f=some ⟨t,A,none⟩→ds≠[]→t≠l:=fun t A e hn=>by have:=(aD t A e).1;omega
    have a6:∀ p∈ps d,∀ t A,p.sa=some ⟨t,A,none⟩→t≠l:=fun p Z t A e=>by have:=((hP p Z).2 t A e).1;omega
    rotate_left
    refine kW_ ?F0 ?_;exact ((X.setCell ⟨l,0,none⟩ (I_ B)).setCell ⟨l,1,none⟩ (I_ C)).setCell ⟨l,2,none⟩ (.slice f ds.length r)
    all_goals
     have b4:=zb N_ 0 _ rfl;have b1:=zd N_ 0;have b5:=zb N_ 1 _ rfl;have b2:=zd N_ 1;have b6:=zb N_ 2 _ rfl;have b3:=zd N_ 2;refine tK_ 11 6 ?H0 rfl rfl m ?_;simp only[zg];refine zE 12 rfl (fun K9 N=>?_);refine zT rfl rfl ?F0 (by go_simp) ?_;have aR:(?F0).heap[l]? = some (.cells #[I_ B,I_ C,?G0] 66 (0,0)):=by simpa using (hS_ _ _ 2 _ _ ?G0 (hS_ _ _ 1 _ _ (I_ C) (hS_ _ _ 0 _ _ (I_ B) N_)))
     have aP:=(((an.setCell (p:=⟨l,0,none⟩) ag (I_ B)).setCell (p:=⟨l,1,none⟩) ag (I_ C)).setCell (p:=⟨l,2,none⟩) ag ?G0);have aI:=(zal (k:=2) (v:=.slice f ds.length r) (zal (k:=1) (v:=I_ C) (zal (k:=0) (v:=I_ B) az aj) aj) aj);have aT:=(zh (j:=2) (v:=.slice f ds.length r) (zh (j:=1) (v:=I_ C) (zh (j:=0) (v:=I_ B) aF al) al) al);have XF:∀ k,k≠l→(?F0).heap[k]? = X.heap[k]?:=fun k hk=>by rw[hO_ _ ⟨l,2,none⟩ k _ hk,hO_ _ ⟨l,1,none⟩ k _ hk,hO_ _ ⟨l,0,none⟩ k _ hk]
     have aN:zf ?F0 f r ds:=zb9 (G:=fun k=>k≠l) XF ar a7;have aL:(?F0).ownsRow W1.heap.size 66 3 ?H0 d.length (slv d):=zb5 (zt hO (fun q e=>XF q (aE q e))) (by have:=D.size;have:=I.size;omega);have aM:zX ?F0 W1.heap.size ?H0 (ps d):=fun p Z=>⟨(hP.same (w':=?F0) (by simp) (fun p Z b A e=>XF b (a6 p Z b A e)) p Z).1,fun t A e=>⟨by have:=((hP p Z).2 t A e).1;have:=D.size;have:=I.size;omega,by have:=((hP p Z).2 t A e).2.1;simpa using this,((hP p Z).2 t A e).2.2⟩⟩;have bp:∀ t A,f=some ⟨t,A,none⟩→W1.heap.size≤t∧(Value.slice z d.length rc).ownBlock≠some t:=fun t A e=>⟨by have:=(aD t A e).1;have:=D.size;have:=I.size;omega,(aD t A e).2⟩;clear XF;refine N.out _ _ ⟨aI,aT⟩ (fun m=>?_);generalize ?F0=VE at aR aP aI aT aN aL aM m ⊢;refine tK_ 13 8 (I_ V) rfl rfl m ?_;simp only[zg];clear m;refine wD_ (by kernel_rfl) ?_ _;go_wp2_with fail
     go_meet
     case rel=>exact ⟨z,rc,d,l,f,r,B,C,ds,V,rfl,rfl,rfl,aP,ag,aR,⟨hR,aN,bp,aL,aM,fun e=>aE l e rfl⟩⟩
   case rest=>
    obtain ⟨z,rc,d,l,f,r,B,C,ds,V,rfl,rfl,rfl,ab,ag,qn,hX⟩:=hcut;apply_assumption;clear c5;obtain ⟨W2,bB⟩:∃ W,W=wc:=⟨_,rfl⟩;rw[←bB] at ab qn hX ⊢;clear bB;obtain ⟨x1,x2,x3,x4,x5,x6⟩:=hX.out;by_cases e0:V=0;refine kA_ ?I0 ?_;exact #[I_ 0,I_ 0,I_ 3,I_ 0,I_ 0,O_,I_ 0,I_ 0,O_,O_,I_ c.au,I_ c.rd,.slice f 32 r,I_ 0,I_ 0,O_,O_,O_,I_ 0];refine kA_ ?J0 ?_;exact #[I_ c.au,I_ c.rd,.slice f 32 r];refine kV_ ?K0 ?_;exact Value.slice z d.length rc;refine kA_ ?L0 ?_;exact #[P_ F o,I_ c.au,.agg (mrow_ (zc2 ⟨c.au,c.rd,⟨f,r,c.v.d⟩⟩).m)]
    ·subst e0;have c0:(zak x.v.k.tab c.v).2.2=0:=by rw[←x1]
     obtain ⟨-,-,t3,t4⟩:=zjQ c0;have aQ:Hid ((zak x.v.k.tab c.v).1=vs d):=by show _=_;rw[←x1]
     have a8:c.v.slot=(B,C,ds):=by rw[←t3,←x1]
     have e1:B=c.au:=(congrArg (fun v=>v.1) a8).symm;have e2:C=c.rd:=(congrArg (fun v=>v.2.1) a8).symm;have e3:ds=c.v.d:=(congrArg (fun v=>v.2.2) a8).symm;subst e1 e2 e3;obtain ⟨ad,bl⟩:=h1.hideRow ab x4 (fun q e=>(x4.lt q (zaC _ _ e)).1);have aO:Hid (zaz U (ob z) l=false):=zbj (h1.bnd.new ag) (fun e=>x6 (zaC _ _ e));have a3:Hid (zf (zo (zaz U (ob z)) W2) f r c.v.d):=zb3 x2 (fun t A e _=>zbj (h1.bnd.new (x3 t A e).1) (fun e2=>(x3 t A e).2 (zaC _ _ e2)));have ah:Hid (∀ q,ob z=some q→W1.heap.size≤q∧zaz U (ob z) q=true∧q≠F∧q<W2.heap.size):=fun q e=>⟨(x4.lt q (zaC _ _ e)).1,zd3 e,fun ef=>by have:=(x4.lt q (zaC _ _ e)).1;have:=ze h1.blk;omega,(x4.lt q (zaC _ _ e)).2⟩;have bU:Hid (∀ q,ob z=some q→¬x.S q):=fun q e hs=>by have:=h1.bnd q (h1.su q hs).1;have:=(x4.lt q (zaC _ _ e)).1;omega
     have a2:Hid (∀ s∈d,zf (zo (zaz U (ob z)) W2) s.p.sa s.p.cap s.p.bs):=fun s hs=>by
      have Z:=x5 s.p (List.mem_map.2 ⟨s,hs,rfl⟩);exact zb3 Z.1 (fun t A e _=>zbj (h1.bnd.new (Z.2 t A e).1) (fun e2=>(Z.2 t A e).2.2 (zaC _ _ e2)))
     have bm:Hid (W2.ownsRow 0 66 3 ?K0 d.length (slv d)):=zb5 x4 (nZ_ _);have bz:Hid (∀ s∈vs d,zaF s.2.2):=by
      show ∀ s,_;intro s hs;rw[←aQ.out] at hs;rcases t4 with g|⟨g,_⟩
      ·rw[g] at hs;exact h.inv.u8t s hs
      ·rw[g] at hs;rcases List.mem_append.1 hs with g2|g2
       ·exact h.inv.u8t s g2
       ·obtain rfl:s=c.v.slot:=by simpa using g2
        exact zeM _
     have bW:Hid (U=U):=rfl;have HN:=n1.trans bl;have ba:=zn ab a9;have aK:Hid (zaz U (ob z) R=false):=zbj bn.out.1 (fun e=>by have:=(ah.out R e).1;have:=ze a9;omega);have ao:Hid (c.v.d.length=32):=c.v.d_length;rw[ao.out] at qn;rw[if_neg (by rw[c0];decide),aQ.out] at HM;have bI:(vs d).length=d.length:=zap d;have bH:x.v.k.tab.length=x.tab.length:=zap x.tab;rw[bI,bH] at HM;have b8:zK c.au c.rd c.bl c.pl=0:=by rw[Ct.hf_v];exact hf
     generalize hU':zaz U (ob z)=U2 at ad bl aO a3 ah a2 HN aK;clear hX x1 x2 x3 x4 x5 x6 c0 t3 a8 hU' bI bH bW;rcases t4 with t4|⟨t4,t5⟩
     ·have a5:d.length=x.tab.length:=by have:=congrArg List.length t4;rw[aQ.out,zap] at this;rw[this];exact zap _
      have bY:Hid (vs d=x.v.k.tab):=by show _=_;rw[←aQ.out,t4]
      have c5:=ad.cell 5 _ rfl;have bV:¬((x.tab.length:Int)<d.length):=by omega
      have am:Hid (x.v.hearO ⟨M,zA L⟩ c.v=x.v.send c.au (zcx c.v.slot)):=by show _=_;rw[HM.out,if_neg (by omega)];rfl
      have a0:Hid (U2 l=false∧U2 R=false):=⟨aO.out,aK.out⟩;have bP:∀ q,ob z=some q→w.heap.size≤q∧U2 q=true∧q≠F:=fun q e=>⟨nT_ n1.size (ah.out q e).1,(ah.out q e).2.1,(ah.out q e).2.2.1⟩;have bS:Hid (({ x with ta:=z,tc:=rc,tab:=d }:NM).v=x.v):=by show _=_;rw[NM.v_tab,bY.out]
      have bo:Hid (d.length≤400000):=by show _≤_;rw[a5];have:=h.inv.tab;simpa[NM.v,vs] using this
      clear t4 a5 HM;go_upto_region 6 with fail
      have f5:=ad.free (o+5);have bi:=ad.cell 5 _ rfl;obtain ⟨ai,x5,h5,n5,v5⟩:=zae.late_tab (a':=z) (c':=rc) (l':=d) HN ad bP bm.out a2.out (by rw[NM.v_tab];exact ad.inv.tab_ (by rw[zap];exact bo.out) bz.out);rw[bS.out] at v5;have aW:=zh (b:=F) (j:=o+5) (v:=.slice z d.length rc) qn (fun e=>by have:=a0.out.1;rw[e,ad.fu] at this;cases this);have aU:=zh (b:=F) (j:=o+5) (v:=.slice z d.length rc) ba (fun e=>by have:=a0.out.2;rw[e,ad.fu] at this;cases this);have aG:Hid (zf (zo U2 (W2.setCell ⟨F,o+5,none⟩ ?K0)) f r c.v.d):=by show zf _ _ _ _;rw[zbO ad.fu];exact a3.out
      go_upto_region 7 with fail
      generalize W2.setCell ⟨F,o+5,none⟩ ?K0=W5 at h5 n5 aW aU aG ⊢;have bf:Hid _:=v5;clear v5 f5 bi;have bb:Hid (∀ W:World,B_ W5 W→Calls prog 123 ?L0 W fun e w'=>(∃ v,e=.returned v)∧zac W U2 F o T ai x5 w' (x5.v.send c.au (zcx c.v.slot))):=by
       show ∀ W,_;intro W Y;exact zd6 x5 (zc2 ⟨c.au,c.rd,⟨f,r,c.v.d⟩⟩) c.au W U2 F o T ai (h5.below Y) (zrC (aG.out.sub (h5.later Y)) (zng hf) (zeM c.v)) bC
      have D:=dB_ W5;have av:=dQ_ aU;have ay:=dQ_ aW;refine wR_ (S:=fun w'=>R_ w' R (hrow_ c) 56∧R_ w' l ?J0 66) (by kernel_rfl) ⟨av,ay⟩ (fun m=>?_);generalize W5.drew=H at D av ay m ⊢;refine tks_ 2 [(0,61,(P_ F o)),(1,62,(P_ R 0))] m ?_;simp only[tkf_,zg];refine tQ_ 2 63 (I_ c.au) rfl rfl (Or.inl ⟨by rfl,fun w0 J=>by have k0:=zb J.1 0 _ rfl;go_simp⟩) m ?_;simp only[zg];refine tQ_ 3 64 (.agg ?J0) rfl rfl (Or.inl ⟨by rfl,fun w0 J=>zJ 66 _ rfl l rfl 66 ?J0 (0,0) _ J.2 underlying66 rfl sSl⟩) m ?_;simp only[zg];have bg:Hid (∀ W:World,Calls prog 141 #[.agg ?J0] W fun e w'=>e=.returned (.agg ?I0)∧B_ W w'):=by
       show ∀ W,_;intro W;have k:=zk6 ⟨c.au,c.rd,⟨f,r,c.v.d⟩⟩ W;dsimp only [zc2] at k;rw[ao.out] at k;exact k
      have bc:Hid (∀ W:World,B_ W5 W→Calls prog 123 #[P_ F o,I_ c.au,.agg ?I0] W fun e w'=>(∃ v,e=.returned v)∧zac W U2 F o T ai x5 w' (x5.v.send c.au (zcx c.v.slot))):=by
       show ∀ W,_;intro W Y;have k:=bb.out W Y;dsimp only [zc2] at k;rw[ao.out] at k;exact k
      refine zE 4 rfl (fun K9 N=>?_);refine zj rfl 65 rfl 141 [.tmp 64] #[66] rfl [.agg ?J0] rfl (eO_ func141) (fun v w'=>v=.agg ?I0∧B_ H w') ((bg.out H).mono (fun e w' k=>⟨_,k.1,rfl,k.2⟩)) ?_;rintro v E ⟨rfl,O⟩;have I:=zq D O;have aV:=zn O av;have aX:=zn O ay;refine N.out _ _ ⟨aV,aX⟩ (fun m=>?_);simp only[zg];refine zE 5 rfl (fun K9 N=>?_);refine zj rfl 66 rfl 123 [.tmp 61,.tmp 63,.tmp 65] #[112,3,71] rfl [P_ F o,I_ c.au,.agg ?I0] rfl (eO_ func123) (fun v w'=>zac E U2 F o T ai x5 w' (x5.v.send c.au (zcx c.v.slot))) ((bc.out E I).mono (fun e w' k=>by
       obtain ⟨⟨v,k1⟩,k2⟩:=k;exact ⟨v,k1,k2⟩)) ?_
      rintro v X ⟨U6,bj,x6,h6,n6,v6⟩;have br:=n6.box (h5.below I) aV a0.out.2;have bu:=n6.box (h5.below I) aX a0.out.1;refine N.out _ _ ⟨br,bu⟩ (fun m=>?_);simp only[zg];clear m;refine wD_ (by kernel_rfl) ?_ _;go_wp2_with fail
      go_end0;refine ⟨⟨_,rfl⟩,?_⟩;rw[am.out];exact ⟨U6,bj,x6,h6,(n5.trans (NTo.below (F:=F) (o:=o) U2 ai x5 I)).trans n6,by rw[v6,bf.out]⟩
     ·have a5:d.length=x.tab.length+1:=by have:=congrArg List.length t4;rw[aQ.out,zap] at this;rw[this,lP_];simp[NM.v,vs]
      have c5:=ad.cell 5 _ rfl;have bV:((x.tab.length:Int)<d.length):=by omega
      have am:Hid (x.v.hearO ⟨M,zA L⟩ c.v=if x.v.room (zcx c.v.slot) then (x.v.log (zcx c.v.slot) { x.v.k with tab:=vs d }).send c.au (zcx c.v.slot) else x.v):=by show _=_;rw[HM.out,if_pos (by omega)];rfl
      have bo:Hid (d.length≤400000):=by show _≤_;have e9:x.v.k.tab.length=x.tab.length:=zap x.tab;omega
      clear t4 t5 a5 HM;have s0:=zb qn 0 _ rfl;have s1:=zb qn 1 _ rfl;have s2:=zb qn 2 _ rfl;go_wp2_with fail
      have a1:=zk6 ⟨c.au,c.rd,⟨f,r,c.v.d⟩⟩ W2;dsimp only at a1;rw[ao.out] at a1;refine a1.mono ?_;rintro _ w3 ⟨rfl,ak⟩;clear a1 s0 s1 s2;dsimp only;have aC:=ad.below ak;have bd:=a3.out.sub (ad.later ak);have bG:za4 c.au c.rd c.v.d.length=0:=zng hf;have bX:∀ y∈c.v.d,0≤y∧y≤255:=zeM c.v;have HW:=zf0 x (zc2 ⟨c.au,c.rd,⟨f,r,c.v.d⟩⟩) w3 U2 F o T fc aC (zru bd (by rw[ao.out];decide)) (zoV bG) (zry bX);have bJ:(zc2 ⟨c.au,c.rd,⟨f,r,c.v.d⟩⟩).c=zcx c.v.slot:=rfl;rw[bJ] at HW;dsimp only [zc2] at HW;rw[ao.out] at HW;generalize bF:x.v.room (zcx c.v.slot)=rm at HW am;have bv:Hid _:=bF;clear bF bG bJ;go_wp2_with fail
      refine HW.mono ?_;rintro _ w4 ⟨rfl,U4,bT,x4,h4,n4,v4⟩;dsimp only;clear HW;have bw:Hid _:=v4;clear v4;cases rm with
      | false=>
       go_wp2_with fail
       refine bP_ (results_none rfl _ _ _) rfl ?_;refine ⟨⟨_,rfl⟩,?_⟩;rw[am.out];exact ⟨U4,bT,x4,h4,(HN.trans (NTo.below (F:=F) (o:=o) U2 fc x ak)).trans n4,by rw[bw.out,Nd.wrt,bv.out];rfl⟩
      | true=>
       have n3:=NTo.below (F:=F) (o:=o) U2 fc x ak;have bZ:=n4.box aC (zn ak ba) aK.out;have b0:=n4.box aC (zn ak qn) aO.out;have a4:W2.heap.size≤w3.heap.size:=ak.size;have aZ:Hid (U4 l=false∧U4 R=false):=⟨n4.hides (nL_ (ze qn) a4) aO.out,n4.hides (nL_ (ze ba) a4) aK.out⟩;have bQ:Hid (zf (zo U4 w4) f r c.v.d):=bd.sub (n4.sub aC);have bN:Hid (∀ s∈d,zf (zo U4 w4) s.p.sa s.p.cap s.p.bs):=fun s hs=>((a2.out s hs).sub (ad.later ak)).sub (n4.sub aC);have bM:Hid (w4.ownsRow 0 66 3 ?K0 d.length (slv d)):=zt (zv bm.out ak) (fun q e=>n4.block q (nL_ (ah.out q (zm e)).2.2.2 a4) (bU.out q (zm e)) (ah.out q (zm e)).2.2.1);have bO:Hid (∀ q,ob z=some q→w.heap.size≤q∧U4 q=true∧q≠F):=fun q e=>⟨nT_ n1.size (ah.out q e).1,by rw[n4.us q (nL_ (ah.out q e).2.2.2 a4)];exact (ah.out q e).2.1,(ah.out q e).2.2.1⟩;have bL:=(HN.trans n3).trans n4;have bR:Hid (({ x4 with ta:=z,tc:=rc,tab:=d }:NM).v=x.v.log (zcx c.v.slot) { x.v.k with tab:=vs d }):=by
        show _=_;rw[NM.v_tab,bw.out,Nd.wrt,bv.out];rfl
       have bK:Hid (x.v.hearO ⟨M,zA L⟩ c.v=(x.v.log (zcx c.v.slot) { x.v.k with tab:=vs d }).send c.au (zcx c.v.slot)):=am.out;clear ba qn aO aK a3 a2 bm ah HN ad bl bd aC n3 am;go_upto_region 6 with fail
       have f5:=h4.free (o+5);have bi:=h4.cell 5 _ rfl;obtain ⟨ai,x5,h5,n5,v5⟩:=zae.late_tab (a':=z) (c':=rc) (l':=d) bL h4 bO.out bM.out bN.out (by rw[NM.v_tab];exact h4.inv.tab_ (by rw[zap];exact bo.out) bz.out);rw[bR.out] at v5;have aW:=zh (b:=F) (j:=o+5) (v:=.slice z d.length rc) b0 (fun e=>by have:=aZ.out.1;rw[e,h4.fu] at this;cases this);have aU:=zh (b:=F) (j:=o+5) (v:=.slice z d.length rc) bZ (fun e=>by have:=aZ.out.2;rw[e,h4.fu] at this;cases this);have aG:Hid (zf (zo U4 (w4.setCell ⟨F,o+5,none⟩ ?K0)) f r c.v.d):=by show zf _ _ _ _;rw[zbO h4.fu];exact bQ.out
       go_upto_region 7 with fail
       generalize w4.setCell ⟨F,o+5,none⟩ ?K0=W5 at h5 n5 aW aU aG ⊢;have bf:Hid _:=v5;clear v5 f5 bi;have bb:Hid (∀ W:World,B_ W5 W→Calls prog 123 ?L0 W fun e w'=>(∃ v,e=.returned v)∧zac W U4 F o T ai x5 w' (x5.v.send c.au (zcx c.v.slot))):=by
        show ∀ W,_;intro W Y;exact zd6 x5 (zc2 ⟨c.au,c.rd,⟨f,r,c.v.d⟩⟩) c.au W U4 F o T ai (h5.below Y) (zrC (aG.out.sub (h5.later Y)) (zng hf) (zeM c.v)) bC
       have D:=dB_ W5;have av:=dQ_ aU;have ay:=dQ_ aW;refine wR_ (S:=fun w'=>R_ w' R (hrow_ c) 56∧R_ w' l ?J0 66) (by kernel_rfl) ⟨av,ay⟩ (fun m=>?_);generalize W5.drew=H at D av ay m ⊢;refine tks_ 2 [(0,61,(P_ F o)),(1,62,(P_ R 0))] m ?_;simp only[tkf_,zg];refine tQ_ 2 63 (I_ c.au) rfl rfl (Or.inl ⟨by rfl,fun w0 J=>by have k0:=zb J.1 0 _ rfl;go_simp⟩) m ?_;simp only[zg];refine tQ_ 3 64 (.agg ?J0) rfl rfl (Or.inl ⟨by rfl,fun w0 J=>zJ 66 _ rfl l rfl 66 ?J0 (0,0) _ J.2 underlying66 rfl sSl⟩) m ?_;simp only[zg];have bg:Hid (∀ W:World,Calls prog 141 #[.agg ?J0] W fun e w'=>e=.returned (.agg ?I0)∧B_ W w'):=by
        show ∀ W,_;intro W;have k:=zk6 ⟨c.au,c.rd,⟨f,r,c.v.d⟩⟩ W;dsimp only [zc2] at k;rw[ao.out] at k;exact k
       have bc:Hid (∀ W:World,B_ W5 W→Calls prog 123 #[P_ F o,I_ c.au,.agg ?I0] W fun e w'=>(∃ v,e=.returned v)∧zac W U4 F o T ai x5 w' (x5.v.send c.au (zcx c.v.slot))):=by
        show ∀ W,_;intro W Y;have k:=bb.out W Y;dsimp only [zc2] at k;rw[ao.out] at k;exact k
       refine zE 4 rfl (fun K9 N=>?_);refine zj rfl 65 rfl 141 [.tmp 64] #[66] rfl [.agg ?J0] rfl (eO_ func141) (fun v w'=>v=.agg ?I0∧B_ H w') ((bg.out H).mono (fun e w' k=>⟨_,k.1,rfl,k.2⟩)) ?_;rintro v E ⟨rfl,O⟩;have I:=zq D O;have aV:=zn O av;have aX:=zn O ay;refine N.out _ _ ⟨aV,aX⟩ (fun m=>?_);simp only[zg];refine zE 5 rfl (fun K9 N=>?_);refine zj rfl 66 rfl 123 [.tmp 61,.tmp 63,.tmp 65] #[112,3,71] rfl [P_ F o,I_ c.au,.agg ?I0] rfl (eO_ func123) (fun v w'=>zac E U4 F o T ai x5 w' (x5.v.send c.au (zcx c.v.slot))) ((bc.out E I).mono (fun e w' k=>by
        obtain ⟨⟨v,k1⟩,k2⟩:=k;exact ⟨v,k1,k2⟩)) ?_
       rintro v X ⟨U6,bj,x6,h6,n6,v6⟩;have br:=n6.box (h5.below I) aV aZ.out.2;have bu:=n6.box (h5.below I) aX aZ.out.1;refine N.out _ _ ⟨br,bu⟩ (fun m=>?_);simp only[zg];clear m;refine wD_ (by kernel_rfl) ?_ _;go_wp2_with fail
       go_end0;refine ⟨⟨_,rfl⟩,?_⟩;rw[bK.out];exact ⟨U6,bj,x6,h6,(n5.trans (NTo.below (F:=F) (o:=o) U4 ai x5 I)).trans n6,by rw[v6,bf.out]⟩
    ·have bE:(zak x.v.k.tab c.v).2.2≠0:=by rw[←x1];exact e0
     have am:Hid (x.v.hearO ⟨M,zA L⟩ c.v=x.v):=by show _=_;rw[HM.out,if_pos bE]
     have b7:(V != 0)=true:=by simpa using e0
     clear hX x1 x2 x3 x4 x5 x6 e0 bE HM;go_wp2_with fail
     refine bP_ (results_none rfl _ _ _) rfl ?_;exact ⟨⟨_,rfl⟩,by rw[am.out];exact ⟨U,fc,x,h1.below ab,n1.trans (NTo.below (F:=F) (o:=o) U fc x ab),rfl⟩⟩
variable {j q:Nat}
theorem zwQ:(prog.info? 56).map (·.size)=some 4:=by kernel_rfl
theorem zwR:(prog.info? 66).map (·.size)=some 3:=by kernel_rfl
theorem zo2 {b:Nat}(h:ob (some ⟨b,0,none⟩)=some q):b=q:=by simpa[ob] using h
theorem z7 {b i:Nat}{v u:Value}(h:C_ w b i u)(c:i≠j):(w.setCell ⟨b,j,none⟩ v).cell? ⟨b,i,none⟩=some u:=(World.cell?_setCell_other w ⟨b,j,none⟩ ⟨b,i,none⟩ v (fun e=>c (by cases e;rfl))).trans h
theorem zag {b i:Nat}{v:Value}(h:w.frozen? ⟨b,i,none⟩=false):(w.setCell ⟨b,j,none⟩ v).frozen? ⟨b,i,none⟩=false:=(by simpa using h)
theorem zcB {v:Value}{b:Obj}(h:F<w.heap.size):(w.setCell ⟨F,j,none⟩ v).alloc b=(w.alloc b).setCell ⟨F,j,none⟩ v:=by
 simp only[World.alloc,World.setCell]
 congr 1
 apply Array.ext
 ·simp
 ·intro i c d;simp only[Array.getElem_modify,Array.getElem_push,Array.size_modify]
  split<;>split<;>first|rfl|(simp_all;done)|(exfalso;omega)
theorem zty {b:Nat}{n:Int}(h:R_ w b #[I_ n] 3):w.ownsRow 0 3 1 (.slice (some ⟨b,0,none⟩) [n].length 1) [n].length (iv [n]):=
 ⟨rfl,.inr ⟨b,1,_,rfl,nZ_ _,h,nR_ _,by decide,rfl,rfl⟩⟩
theorem U8L.v {l:List zi}(h:U8L l):∀ b∈zQ l,∀ x∈b,0≤x∧x≤255:=fun b c=>by
 obtain ⟨p,d,rfl⟩:=List.mem_map.1 c
 exact h p d
theorem zaT.own_ {n:Nd}(h:zaT n){c:CV}{s:SV}(f:c.hf=0)(d:c.vl=[])(g:zaF s.2.2)(j:∀ b∈c.bl++c.pl,∀ x∈b,0≤x∧x≤255):zaT { n with k:={ n.k with own:=c,slot:=s },vot:=[n.nu] }:=
 ⟨h.nu,h.pool,h.sh,h.shf,h.dag,.inr f,d,⟨by simp,(fun v d=>by
  have e:v=n.nu:=by simpa using d
  rw[e];exact h.nu),by simp⟩,h.tape,h.syn,h.wai,h.trn,h.tab,h.u8t,g,j,h.du8⟩
theorem zkv (x:NM)(c:Ct)(s:Sl)(w:World)(U:Nat→Bool)(F o:Nat)(T:TypeId)(fc:Array Value)(h:zae w U F o T fc x)(hH:HAt (zo U w) c.ba c.bc c.bl c.pa c.pc c.pl)(hS:zf (zo U w) s.p.sa s.p.cap s.p.bs)(hf:c.v.hf=0)(au:c.vl=[])(bW:zaF s.p.bs)(h1:U8L c.bl)(h2:U8L c.pl) :
  Calls prog 119 #[P_ F o,.agg (hrow_ c),.agg (srow_ s)] w fun e w'=>(∃ v,e=.returned v)∧zac w U F o T fc x w' { x.v with k:={ x.v.k with own:=c.v,slot:=s.v },vot:=[x.v.nu] }:=by
 refine kW_ ?I0 ?_;exact (w.alloc (.cells (hrow_ c) 56)).alloc (.cells (srow_ s) 66);have hA:B_ w ?I0:=((bR_ _ _).alloc (nR_ _) _).alloc (by simp) _;have q0:=hX_ w (.cells (hrow_ c) 56) (.cells (srow_ s) 66);have q1:=hY_ w (.cells (hrow_ c) 56) (.cells (srow_ s) 66);go_in;go_upto_region 1 with fail
 generalize ?I0=W0 at hA q0 q1 ⊢;have h0:=h.below hA;have bT:F<w.heap.size:=h.bnd F h.fu;have d:Hid (w.heap.size≠F∧w.heap.size+1≠F):=⟨by omega,by omega⟩;generalize w.heap.size+1=B1 at q1 d ⊢;generalize w.heap.size=B0 at q0 d ⊢;clear bT;refine kV_ ?B0 ?_;exact Value.slice s.p.sa s.p.bs.length s.p.cap;refine kV_ ?G0 ?_;exact Value.slice c.ba c.bl.length c.bc;refine kV_ ?H0 ?_;exact Value.slice c.pa c.pl.length c.pc;have af:∀ (u:World) (p:Nat),B_ w u→w.heap.size≤p→R_ u p #[I_ x.nu] 3→(∃ v,Ending.returned (.tuple #[])=.returned v)∧zac w U F o T fc x ((((((((u.setCell ⟨F,o+7,none⟩ (I_ c.au)).setCell ⟨F,o+8,none⟩ (I_ c.rd)).setCell ⟨F,o+9,none⟩ ?G0).setCell ⟨F,o+10,none⟩ ?H0).setCell ⟨F,o+11,none⟩ (I_ s.au)).setCell ⟨F,o+12,none⟩ (I_ s.rd)).setCell ⟨F,o+13,none⟩ ?B0).setCell ⟨F,o+14,none⟩ (.slice (some ⟨p,0,none⟩) 1 1)) { x.v with k:={ x.v.k with own:=c.v,slot:=s.v },vot:=[x.v.nu] }:=by
  intro u p y E z;refine ⟨⟨_,rfl⟩,?_⟩;have gx:zah U (zaz U (ob (some ⟨p,0,none⟩))) w u:=⟨y.os,y.tape,y.output,y.size,fun b hl _=>y.block b hl,fun b hl=>by
   cases hu:U b with
   | true=>exact zau hu
   | false=>exact zbj hu (fun e=>by have:=zo2 e;omega)⟩
  have bU:=hH.sub gx.sub;have bV:=hS.sub gx.sub;have bX:=h.put_own (w2:=u) (h':=c) (s':=s) (a':=some ⟨p,0,none⟩) (c':=1) (l':=[x.nu]) y (fun q e=>by have:=zo2 e;omega) (zty z) ?_ ?_ ?_
  ·exact bX
  ·exact ⟨bU,⟨.inl au⟩,by rw[au];exact nZ_ _⟩
  ·exact bV
  ·exact h.inv.own_ hf au bW (fun b hb=>by
    rcases List.mem_append.1 hb with g|g
    ·exact h1.v b g
    ·exact h2.v b g)
 have D:B_ w W0.drew:=hA.drew;have M:=dQ_ q0;have O:=dQ_ q1;refine wR_ (S:=fun w'=>R_ w' B0 (hrow_ c) 56∧R_ w' B1 (srow_ s) 66) (by kernel_rfl) ⟨M,O⟩ (fun l=>?_);generalize W0.drew=m at D M O l ⊢;refine tks_ 3 [(0,6,(P_ F o)),(1,7,(P_ F o)),(2,8,(P_ F o))] l ?_;simp only[tkf_,zg];refine tQ_ 3 9 (.agg (hrow_ c)) rfl rfl (Or.inl ⟨by rfl,fun w0 ah=>zJ 56 _ rfl B0 rfl 56 (hrow_ c) (0,0) _ ah.1 underlying56 rfl zwQ⟩) l ?_;simp only[zg];refine tQ_ 4 10 (.agg (srow_ s)) rfl rfl (Or.inl ⟨by rfl,fun w0 ah=>zJ 66 _ rfl B1 rfl 66 (srow_ s) (0,0) _ ah.2 underlying66 rfl zwR⟩) l ?_;simp only[zg];refine tks_ 3 [(5,11,(P_ F o)),(6,12,(P_ F o)),(7,13,(P_ F o))] l ?_;simp only[tkf_,zg];refine zE 8 rfl (fun B r=>?_);have k0:C_ m F o (I_ x.nu):=(h.below D).cell 0 _ rfl;refine zw rfl 14 rfl (I_ x.nu) m (by go_simp) ?_;refine r.out _ _ l (fun l=>?_);simp only[zg];have t:=h.below D;have C:F<m.heap.size:=ze t.blk;clear k0;have aR:=t.cell 7 _ rfl;have bE:=t.free (o+7);have aS:=t.cell 8 _ rfl;have bG:=t.free (o+8);have aT:=t.cell 9 _ rfl;have bI:=t.free (o+9);have aJ:=t.cell 10 _ rfl;have br:=t.free (o+10);have V:=t.cell 11 _ rfl;have aU:=t.free (o+11);have Z:=t.cell 12 _ rfl;have aX:=t.free (o+12);have ab:=t.cell 13 _ rfl;have a0:=t.free (o+13);have ad:=t.cell 14 _ rfl;have a3:=t.free (o+14);clear t;refine tks_ 2 [(10,16,(P_ F o)),(11,17,(P_ F (o+7)))] l ?_;simp only[tkf_,zg];refine wpAnyH_ready (rs:=[9,12]) (by kernel_rfl) (by simp) (AllReadyH.cons rfl (fun B r=>?_) (AllReadyH.cons rfl (fun B r=>?_) AllReadyH.nil));refine kO_ ?A0 ?_;exact Obj.cells #[I_ x.nu] 3;refine zw rfl 15 rfl (.slice (some ⟨m.heap.size,0,none⟩) 1 1) (m.alloc ?A0) (by go_simp) ?_;have G:=zO m ?A0;have y:=zq D G;have z:=hN_ m ?A0;have E:w.heap.size≤m.heap.size:=D.size;clear G;have f:=zO m ?A0;have av:=zn f M;have aC:=zn f O;have bo:=zr f aR;have bF:(m.alloc ?A0).frozen? ⟨F,o+7,none⟩=false:=(World.frozen?_of_block (f.block F (bL_ aR))).trans bE;have bp:=zr f aS;have bH:(m.alloc ?A0).frozen? ⟨F,o+8,none⟩=false:=(World.frozen?_of_block (f.block F (bL_ aS))).trans bG;have bq:=zr f aT;have bJ:(m.alloc ?A0).frozen? ⟨F,o+9,none⟩=false:=(World.frozen?_of_block (f.block F (bL_ aT))).trans bI;have be:=zr f aJ;have bs:(m.alloc ?A0).frozen? ⟨F,o+10,none⟩=false:=(World.frozen?_of_block (f.block F (bL_ aJ))).trans br;have aK:=zr f V;have aV:(m.alloc ?A0).frozen? ⟨F,o+11,none⟩=false:=(World.frozen?_of_block (f.block F (bL_ V))).trans aU;have aL:=zr f Z;have aY:(m.alloc ?A0).frozen? ⟨F,o+12,none⟩=false:=(World.frozen?_of_block (f.block F (bL_ Z))).trans aX;have aM:=zr f ab;have a1:(m.alloc ?A0).frozen? ⟨F,o+13,none⟩=false:=(World.frozen?_of_block (f.block F (bL_ ab))).trans a0;have aN:=zr f ad;have a4:(m.alloc ?A0).frozen? ⟨F,o+14,none⟩=false:=(World.frozen?_of_block (f.block F (bL_ ad))).trans a3;refine r.out _ _ ⟨av,aC⟩ (fun l=>?_);simp only[zg];generalize m.alloc ?A0=u at y z f av aC bo bF bp bH bq bJ be bs aK aV aL aY aM a1 aN a4 l ⊢;clear f;generalize m.heap.size=p at z E ⊢;refine zE 12 rfl (fun B r=>?_);refine zT rfl rfl ((((u.setCell ⟨F,o+7,none⟩ (I_ c.au)).setCell ⟨F,o+8,none⟩ (I_ c.rd)).setCell ⟨F,o+9,none⟩ ?G0).setCell ⟨F,o+10,none⟩ ?H0) (by go_simp) ?_;have ax:=(zh (b:=F) (j:=o+10) (v:=.slice c.pa c.pl.length c.pc) (zh (b:=F) (j:=o+9) (v:=.slice c.ba c.bl.length c.bc) (zh (b:=F) (j:=o+8) (v:=I_ c.rd) (zh (b:=F) (j:=o+7) (v:=I_ c.au) av d.out.1) d.out.1) d.out.1) d.out.1);have aE:=(zh (b:=F) (j:=o+10) (v:=.slice c.pa c.pl.length c.pc) (zh (b:=F) (j:=o+9) (v:=.slice c.ba c.bl.length c.bc) (zh (b:=F) (j:=o+8) (v:=I_ c.rd) (zh (b:=F) (j:=o+7) (v:=I_ c.au) aC d.out.2) d.out.2) d.out.2) d.out.2);have bf:=(z7 (j:=o+10) (v:=.slice c.pa c.pl.length c.pc) (z7 (j:=o+9) (v:=.slice c.ba c.bl.length c.bc) (z7 (j:=o+8) (v:=I_ c.rd) (z7 (j:=o+7) (v:=I_ c.au) aK (by omega)) (by omega)) (by omega)) (by omega));have bt:=(zag (b:=F) (j:=o+10) (v:=.slice c.pa c.pl.length c.pc) (zag (b:=F) (j:=o+9) (v:=.slice c.ba c.bl.length c.bc) (zag (b:=F) (j:=o+8) (v:=I_ c.rd) (zag (b:=F) (j:=o+7) (v:=I_ c.au) aV))));have bh:=(z7 (j:=o+10) (v:=.slice c.pa c.pl.length c.pc) (z7 (j:=o+9) (v:=.slice c.ba c.bl.length c.bc) (z7 (j:=o+8) (v:=I_ c.rd) (z7 (j:=o+7) (v:=I_ c.au) aL (by omega)) (by omega)) (by omega)) (by omega));have bv:=(zag (b:=F) (j:=o+10) (v:=.slice c.pa c.pl.length c.pc) (zag (b:=F) (j:=o+9) (v:=.slice c.ba c.bl.length c.bc) (zag (b:=F) (j:=o+8) (v:=I_ c.rd) (zag (b:=F) (j:=o+7) (v:=I_ c.au) aY))));have bj:=(z7 (j:=o+10) (v:=.slice c.pa c.pl.length c.pc) (z7 (j:=o+9) (v:=.slice c.ba c.bl.length c.bc) (z7 (j:=o+8) (v:=I_ c.rd) (z7 (j:=o+7) (v:=I_ c.au) aM (by omega)) (by omega)) (by omega)) (by omega));have bx:=(zag (b:=F) (j:=o+10) (v:=.slice c.pa c.pl.length c.pc) (zag (b:=F) (j:=o+9) (v:=.slice c.ba c.bl.length c.bc) (zag (b:=F) (j:=o+8) (v:=I_ c.rd) (zag (b:=F) (j:=o+7) (v:=I_ c.au) a1))));have aO:=(z7 (j:=o+10) (v:=.slice c.pa c.pl.length c.pc) (z7 (j:=o+9) (v:=.slice c.ba c.bl.length c.bc) (z7 (j:=o+8) (v:=I_ c.rd) (z7 (j:=o+7) (v:=I_ c.au) aN (by omega)) (by omega)) (by omega)) (by omega));have a5:=(zag (b:=F) (j:=o+10) (v:=.slice c.pa c.pl.length c.pc) (zag (b:=F) (j:=o+9) (v:=.slice c.ba c.bl.length c.bc) (zag (b:=F) (j:=o+8) (v:=I_ c.rd) (zag (b:=F) (j:=o+7) (v:=I_ c.au) a4))));refine r.out _ _ ⟨ax,aE⟩ (fun l=>?_);obtain ⟨X2,ak⟩:∃ X,X=((((u.setCell ⟨F,o+7,none⟩ (I_ c.au)).setCell ⟨F,o+8,none⟩ (I_ c.rd)).setCell ⟨F,o+9,none⟩ ?G0).setCell ⟨F,o+10,none⟩ ?H0):=⟨_,rfl⟩;rw[←ak] at l ax aE bf bt bh bv bj bx aO a5 ⊢;have bM:Hid _:=ak;clear ak bo bF bp bH bq bJ be bs aK aV aL aY aM a1 aN a4
 rotate_left
 refine kW_ ?D0 ?_;exact (((m.setCell ⟨F,o+7,none⟩ (I_ c.au)).setCell ⟨F,o+8,none⟩ (I_ c.rd)).setCell ⟨F,o+9,none⟩ (.slice c.ba c.bl.length c.bc)).setCell ⟨F,o+10,none⟩ (.slice c.pa c.pl.length c.pc);refine zT rfl rfl ?D0 (by go_simp) ?_;have N:=(zh (b:=F) (j:=o+10) (v:=.slice c.pa c.pl.length c.pc) (zh (b:=F) (j:=o+9) (v:=.slice c.ba c.bl.length c.bc) (zh (b:=F) (j:=o+8) (v:=I_ c.rd) (zh (b:=F) (j:=o+7) (v:=I_ c.au) M d.out.1) d.out.1) d.out.1) d.out.1);have R:=(zh (b:=F) (j:=o+10) (v:=.slice c.pa c.pl.length c.pc) (zh (b:=F) (j:=o+9) (v:=.slice c.ba c.bl.length c.bc) (zh (b:=F) (j:=o+8) (v:=I_ c.rd) (zh (b:=F) (j:=o+7) (v:=I_ c.au) O d.out.2) d.out.2) d.out.2) d.out.2);have Y:=(z7 (j:=o+10) (v:=.slice c.pa c.pl.length c.pc) (z7 (j:=o+9) (v:=.slice c.ba c.bl.length c.bc) (z7 (j:=o+8) (v:=I_ c.rd) (z7 (j:=o+7) (v:=I_ c.au) V (by omega)) (by omega)) (by omega)) (by omega));have aW:=(zag (b:=F) (j:=o+10) (v:=.slice c.pa c.pl.length c.pc) (zag (b:=F) (j:=o+9) (v:=.slice c.ba c.bl.length c.bc) (zag (b:=F) (j:=o+8) (v:=I_ c.rd) (zag (b:=F) (j:=o+7) (v:=I_ c.au) aU))));have aa:=(z7 (j:=o+10) (v:=.slice c.pa c.pl.length c.pc) (z7 (j:=o+9) (v:=.slice c.ba c.bl.length c.bc) (z7 (j:=o+8) (v:=I_ c.rd) (z7 (j:=o+7) (v:=I_ c.au) Z (by omega)) (by omega)) (by omega)) (by omega));have aZ:=(zag (b:=F) (j:=o+10) (v:=.slice c.pa c.pl.length c.pc) (zag (b:=F) (j:=o+9) (v:=.slice c.ba c.bl.length c.bc) (zag (b:=F) (j:=o+8) (v:=I_ c.rd) (zag (b:=F) (j:=o+7) (v:=I_ c.au) aX))));have ac:=(z7 (j:=o+10) (v:=.slice c.pa c.pl.length c.pc) (z7 (j:=o+9) (v:=.slice c.ba c.bl.length c.bc) (z7 (j:=o+8) (v:=I_ c.rd) (z7 (j:=o+7) (v:=I_ c.au) ab (by omega)) (by omega)) (by omega)) (by omega));have a2:=(zag (b:=F) (j:=o+10) (v:=.slice c.pa c.pl.length c.pc) (zag (b:=F) (j:=o+9) (v:=.slice c.ba c.bl.length c.bc) (zag (b:=F) (j:=o+8) (v:=I_ c.rd) (zag (b:=F) (j:=o+7) (v:=I_ c.au) a0))));have L:=(z7 (j:=o+10) (v:=.slice c.pa c.pl.length c.pc) (z7 (j:=o+9) (v:=.slice c.ba c.bl.length c.bc) (z7 (j:=o+8) (v:=I_ c.rd) (z7 (j:=o+7) (v:=I_ c.au) ad (by omega)) (by omega)) (by omega)) (by omega));have ae:=(zag (b:=F) (j:=o+10) (v:=.slice c.pa c.pl.length c.pc) (zag (b:=F) (j:=o+9) (v:=.slice c.ba c.bl.length c.bc) (zag (b:=F) (j:=o+8) (v:=I_ c.rd) (zag (b:=F) (j:=o+7) (v:=I_ c.au) a3))));refine r.out _ _ ⟨N,R⟩ (fun l=>?_);obtain ⟨A,an⟩:∃ X,X=?D0:=⟨_,rfl⟩;rw[←an] at l N R Y aW aa aZ ac a2 L ae ⊢;have a7:Hid _:=an;clear an aR bE aS bG aT bI aJ br V aU Z aX ab a0 ad a3
 rotate_left
 all_goals
  refine tks_ 2 [(13,18,(P_ F o)),(14,19,(P_ F (o+11)))] l ?_;simp only[tkf_,zg]
 refine kW_ ?E0 ?_;exact ((X2.setCell ⟨F,o+11,none⟩ (I_ s.au)).setCell ⟨F,o+12,none⟩ (I_ s.rd)).setCell ⟨F,o+13,none⟩ ?B0
 ·refine zE 15 rfl (fun B r=>?_);refine zT rfl rfl ?E0 (by go_simp) ?_;have ay:=(zh (b:=F) (j:=o+13) (v:=.slice s.p.sa s.p.bs.length s.p.cap) (zh (b:=F) (j:=o+12) (v:=I_ s.rd) (zh (b:=F) (j:=o+11) (v:=I_ s.au) ax d.out.1) d.out.1) d.out.1);have aF:=(zh (b:=F) (j:=o+13) (v:=.slice s.p.sa s.p.bs.length s.p.cap) (zh (b:=F) (j:=o+12) (v:=I_ s.rd) (zh (b:=F) (j:=o+11) (v:=I_ s.au) aE d.out.2) d.out.2) d.out.2);have bm:=(z7 (j:=o+13) (v:=.slice s.p.sa s.p.bs.length s.p.cap) (z7 (j:=o+12) (v:=I_ s.rd) (z7 (j:=o+11) (v:=I_ s.au) aO (by omega)) (by omega)) (by omega));have bB:=(zag (b:=F) (j:=o+13) (v:=.slice s.p.sa s.p.bs.length s.p.cap) (zag (b:=F) (j:=o+12) (v:=I_ s.rd) (zag (b:=F) (j:=o+11) (v:=I_ s.au) a5)));refine r.out _ _ ⟨ay,aF⟩ (fun l=>?_);obtain ⟨X3,al⟩:∃ X,X=?E0:=⟨_,rfl⟩;rw[←al] at l ay aF bm bB ⊢;have bN:Hid _:=al;clear al bf bt bh bv bj bx aO a5;refine tks_ 2 [(16,20,(P_ F o)),(17,21,(P_ F (o+14)))] l ?_;simp only[tkf_,zg];refine zE 18 rfl (fun B r=>?_);refine kW_ ?J0 ?_;exact X3.setCell ⟨F,o+14,none⟩ (.slice (some ⟨p,0,none⟩) 1 1);refine zT rfl rfl ?J0 (by go_simp) ?_;have a9:=(zh (b:=F) (j:=o+14) (v:=.slice (some ⟨p,0,none⟩) 1 1) ay d.out.1);have bc:=(zh (b:=F) (j:=o+14) (v:=.slice (some ⟨p,0,none⟩) 1 1) aF d.out.2);refine r.out _ _ ⟨a9,bc⟩ (fun l=>?_);obtain ⟨X4,am⟩:∃ X,X=?J0:=⟨_,rfl⟩;rw[←am] at l a9 bc  ⊢;have bO:Hid _:=am;clear am bm bB;clear l;refine wD_ (by kernel_rfl) ?_ _;go_wp2_with fail
  go_end0;rw[bO.out,bN.out,bM.out];exact af u p y E z
 refine kW_ ?C0 ?_;exact ((((m.alloc ?A0).setCell ⟨F,o+7,none⟩ (I_ c.au)).setCell ⟨F,o+8,none⟩ (I_ c.rd)).setCell ⟨F,o+9,none⟩ (.slice c.ba c.bl.length c.bc)).setCell ⟨F,o+10,none⟩ (.slice c.pa c.pl.length c.pc);refine kW_ ?F0 ?_;exact ((A.setCell ⟨F,o+11,none⟩ (I_ s.au)).setCell ⟨F,o+12,none⟩ (I_ s.rd)).setCell ⟨F,o+13,none⟩ ?B0
 ·refine wpAnyH_ready (rs:=[9,15]) (by kernel_rfl) (by simp) (AllReadyH.cons rfl (fun B r=>?_) (AllReadyH.cons rfl (fun B r=>?_) AllReadyH.nil));refine zw rfl 15 rfl (.slice (some ⟨A.heap.size,0,none⟩) 1 1) (A.alloc ?A0) (by go_simp) ?_
  rotate_left
  refine zT rfl rfl ?F0 (by go_simp) ?_;have aB:=(zh (b:=F) (j:=o+13) (v:=.slice s.p.sa s.p.bs.length s.p.cap) (zh (b:=F) (j:=o+12) (v:=I_ s.rd) (zh (b:=F) (j:=o+11) (v:=I_ s.au) N d.out.1) d.out.1) d.out.1);have aI:=(zh (b:=F) (j:=o+13) (v:=.slice s.p.sa s.p.bs.length s.p.cap) (zh (b:=F) (j:=o+12) (v:=I_ s.rd) (zh (b:=F) (j:=o+11) (v:=I_ s.au) R d.out.2) d.out.2) d.out.2);have aQ:=(z7 (j:=o+13) (v:=.slice s.p.sa s.p.bs.length s.p.cap) (z7 (j:=o+12) (v:=I_ s.rd) (z7 (j:=o+11) (v:=I_ s.au) L (by omega)) (by omega)) (by omega));have bD:=(zag (b:=F) (j:=o+13) (v:=.slice s.p.sa s.p.bs.length s.p.cap) (zag (b:=F) (j:=o+12) (v:=I_ s.rd) (zag (b:=F) (j:=o+11) (v:=I_ s.au) ae)));refine r.out _ _ ⟨aB,aI⟩ (fun l=>?_);obtain ⟨H,ar⟩:∃ X,X=?F0:=⟨_,rfl⟩;rw[←ar] at l aB aI aQ bD ⊢;have bS:Hid _:=ar;clear ar Y aW aa aZ ac a2 L ae;refine zE 9 rfl (fun B r=>?_);refine zw rfl 15 rfl (.slice (some ⟨H.heap.size,0,none⟩) 1 1) (H.alloc ?A0) (by go_simp) ?_
  rotate_left
  all_goals
   have G:=zO m ?A0;have y:=zq D G;have z:=hN_ m ?A0;have E:w.heap.size≤m.heap.size:=D.size;clear G
  have f:=zO A ?A0;have az:=zn f N;have aG:=zn f R;have bg:=zr f Y;have bu:(A.alloc ?A0).frozen? ⟨F,o+11,none⟩=false:=(World.frozen?_of_block (f.block F (bL_ Y))).trans aW;have bi:=zr f aa;have bw:(A.alloc ?A0).frozen? ⟨F,o+12,none⟩=false:=(World.frozen?_of_block (f.block F (bL_ aa))).trans aZ;have bk:=zr f ac;have bz:(A.alloc ?A0).frozen? ⟨F,o+13,none⟩=false:=(World.frozen?_of_block (f.block F (bL_ ac))).trans a2;have aP:=zr f L;have a6:(A.alloc ?A0).frozen? ⟨F,o+14,none⟩=false:=(World.frozen?_of_block (f.block F (bL_ L))).trans ae;refine r.out _ _ ⟨az,aG⟩ (fun l=>?_);simp only[zg];have I:A.alloc ?A0=?C0∧A.heap.size=m.heap.size:=by
   rw[a7.out];exact ⟨by rw[zcB (by simpa using C),zcB (by simpa using C),zcB (by simpa using C),zcB (by simpa using C)],by simp⟩
  rotate_left
  have f:=zO H ?A0;have aw:=zn f aB;have aD:=zn f aI;have bl:=zr f aQ;have bA:(H.alloc ?A0).frozen? ⟨F,o+14,none⟩=false:=(World.frozen?_of_block (f.block F (bL_ aQ))).trans bD;refine r.out _ _ ⟨aw,aD⟩ (fun l=>?_);simp only[zg];have I:H.alloc ?A0=((((?C0).setCell ⟨F,o+11,none⟩ (I_ s.au)).setCell ⟨F,o+12,none⟩ (I_ s.rd)).setCell ⟨F,o+13,none⟩ ?B0)∧H.heap.size=m.heap.size:=by
   rw[bS.out,a7.out];exact ⟨by rw[zcB (by simpa using C),zcB (by simpa using C),zcB (by simpa using C),zcB (by simpa using C),zcB (by simpa using C),zcB (by simpa using C),zcB (by simpa using C)],by simp⟩
  rotate_left
  all_goals
   rw[I.2];have J:=I.1;clear I;generalize m.alloc ?A0=u at y z J;generalize m.heap.size=p at z E ⊢
  obtain ⟨X6,ao⟩:∃ X,X=A.alloc ?A0:=⟨_,rfl⟩;rw[←ao] at l az aG bg bu bi bw bk bz aP a6 ⊢;refine kW_ ?K0 ?_;exact (((u.setCell ⟨F,o+7,none⟩ (I_ c.au)).setCell ⟨F,o+8,none⟩ (I_ c.rd)).setCell ⟨F,o+9,none⟩ ?G0).setCell ⟨F,o+10,none⟩ ?H0;have bP:Hid (X6=?K0):=ao.trans J;clear ao J f;refine zE 15 rfl (fun B r=>?_);refine kW_ ?L0 ?_;exact ((X6.setCell ⟨F,o+11,none⟩ (I_ s.au)).setCell ⟨F,o+12,none⟩ (I_ s.rd)).setCell ⟨F,o+13,none⟩ ?B0;refine zT rfl rfl ?L0 (by go_simp) ?_;have aA:=(zh (b:=F) (j:=o+13) (v:=.slice s.p.sa s.p.bs.length s.p.cap) (zh (b:=F) (j:=o+12) (v:=I_ s.rd) (zh (b:=F) (j:=o+11) (v:=I_ s.au) az d.out.1) d.out.1) d.out.1);have aH:=(zh (b:=F) (j:=o+13) (v:=.slice s.p.sa s.p.bs.length s.p.cap) (zh (b:=F) (j:=o+12) (v:=I_ s.rd) (zh (b:=F) (j:=o+11) (v:=I_ s.au) aG d.out.2) d.out.2) d.out.2);have bn:=(z7 (j:=o+13) (v:=.slice s.p.sa s.p.bs.length s.p.cap) (z7 (j:=o+12) (v:=I_ s.rd) (z7 (j:=o+11) (v:=I_ s.au) aP (by omega)) (by omega)) (by omega));have bC:=(zag (b:=F) (j:=o+13) (v:=.slice s.p.sa s.p.bs.length s.p.cap) (zag (b:=F) (j:=o+12) (v:=I_ s.rd) (zag (b:=F) (j:=o+11) (v:=I_ s.au) a6)));refine r.out _ _ ⟨aA,aH⟩ (fun l=>?_);obtain ⟨X7,ap⟩:∃ X,X=?L0:=⟨_,rfl⟩;rw[←ap] at l aA aH bn bC ⊢;have bQ:Hid _:=ap;clear ap bg bu bi bw bk bz aP a6
  rotate_left
  obtain ⟨ag,ai⟩:∃ X,X=H.alloc ?A0:=⟨_,rfl⟩;rw[←ai] at l aw aD bl bA ⊢;have bK:Hid (ag=((((?K0).setCell ⟨F,o+11,none⟩ (I_ s.au)).setCell ⟨F,o+12,none⟩ (I_ s.rd)).setCell ⟨F,o+13,none⟩ ?B0)):=ai.trans J;clear ai J f
  rotate_left
  all_goals
   refine tks_ 2 [(16,20,(P_ F o)),(17,21,(P_ F (o+14)))] l ?_;simp only[tkf_,zg];refine zE 18 rfl (fun B r=>?_)
  refine kV_ ?M0 ?_;exact Value.slice (some ⟨p,0,none⟩) 1 1;refine zT rfl rfl (X7.setCell ⟨F,o+14,none⟩ ?M0) (by go_simp) ?_;have ba:=(zh (b:=F) (j:=o+14) (v:=.slice (some ⟨p,0,none⟩) 1 1) aA d.out.1);have bd:=(zh (b:=F) (j:=o+14) (v:=.slice (some ⟨p,0,none⟩) 1 1) aH d.out.2);refine r.out _ _ ⟨ba,bd⟩ (fun l=>?_);obtain ⟨X8,aq⟩:∃ X,X=(X7.setCell ⟨F,o+14,none⟩ ?M0):=⟨_,rfl⟩;rw[←aq] at l ba bd  ⊢;have bR:Hid _:=aq;clear aq bn bC
  rotate_left
  refine zT rfl rfl (ag.setCell ⟨F,o+14,none⟩ ?M0) (by go_simp) ?_;have a8:=(zh (b:=F) (j:=o+14) (v:=.slice (some ⟨p,0,none⟩) 1 1) aw d.out.1);have bb:=(zh (b:=F) (j:=o+14) (v:=.slice (some ⟨p,0,none⟩) 1 1) aD d.out.2);refine r.out _ _ ⟨a8,bb⟩ (fun l=>?_);obtain ⟨bY,aj⟩:∃ X,X=(ag.setCell ⟨F,o+14,none⟩ ?M0):=⟨_,rfl⟩;rw[←aj] at l a8 bb  ⊢;have bL:Hid _:=aj;clear aj bl bA
  rotate_left
  all_goals
   clear l;refine wD_ (by kernel_rfl) ?_ _;go_wp2_with fail
   go_end0
  ·rw[bR.out,bQ.out,bP.out];exact af u p y E z
  ·rw[bL.out,bK.out];exact af u p y E z
def Nd.recO (n:Nd)(h:CV):Nd:={ n with k:={ n.k with own:=h,slot:=h.slot,tab:=if (zak n.k.tab h).2.2=0 then (zak n.k.tab h).1 else n.k.tab },vot:=[n.nu] }
theorem zoi {n:Nd}{m:MC}(b:m.ki=2)(c:m.h.hf=0):n.recall m=n.recO m.h:=by
 have d:(if m.ki=2∧m.h.hf=0 then [n.nu] else n.vot)=[n.nu]:=if_pos ⟨b,c⟩;have f:n.k.rcl m=(n.recO m.h).k:=by
  unfold Kn.rcl;rw[if_neg (show ¬m.ki=1 by rw[b];decide),if_pos b,if_pos c]
  rfl
 rw[Nd.recall,d,f]
 rfl
theorem zoj (x:NM)(c:Ct)(w:World)(U:Nat→Bool)(F o:Nat)(T:TypeId)(fc:Array Value)(h:zae w U F o T fc x)(hH:HAt (zo U w) c.ba c.bc c.bl c.pa c.pc c.pl)(hf:c.v.hf=0)(a3:c.vl=[])(a1:U8L c.bl)(a2:U8L c.pl) :
  Calls prog 134 #[P_ F o,.agg (hrow_ c)] w fun e w'=>(∃ v,e=.returned v)∧zac w U F o T fc x w' (x.v.recO c.v):=by
 have aX:zK c.au c.rd c.bl c.pl=0:=by rw[Ct.hf_v];exact hf
 have hA:=zO w (.cells (hrow_ c) 56);have q0:=hN_ w (.cells (hrow_ c) 56);have aK:Hid (U w.heap.size=false):=h.bnd.new (nR_ _);go_in;go_upto_region 1 with fail
 generalize w.alloc (.cells (hrow_ c) 56)=W0 at hA q0 ⊢;generalize w.heap.size=B0 at q0 aK ⊢;have h0:=h.below hA;have aI:=hH.sub (h.later hA);have s0:=zb q0 0 _ rfl;have s1:=zb q0 1 _ rfl;have s2:=zb q0 2 _ rfl;have s3:=zb q0 3 _ rfl;have HS:=zhP c.au c.rd c.ba c.bc c.bl c.pa c.pc c.pl W0 (aI.sub (zH _ _)) aX (h0.tabs.sub (zH _ _));go_wp2_with fail
 refine HS.mono ?_;rintro e w1 ⟨b,he,aP,aZ,X,aO⟩;subst he;dsimp only;clear HS s0 s1 s2 s3;refine kA_ ?B0 ?_;exact #[I_ c.au,I_ c.rd,.slice (some ⟨b,0,none⟩) 32 32];have aw:=zO w1 (.cells ?B0 66);have q2:=hN_ w1 (.cells ?B0 66);go_upto_region 3 with fail
 generalize w1.alloc (.cells ?B0 66)=W2 at aw q2 ⊢;generalize w1.heap.size=NB at q2 ⊢;have aB:=zq aO aw;have ax:=zq hA aB;have h2:=h.below ax;have n2:=NTo.below (F:=F) (o:=o) U fc x ax;have aD:=hH.sub (h.later ax);have a0:Hid (c.v.d.length=32):=c.v.d_length;have aQ:c.v.d=zay c.au c.rd c.bl c.pl:=(Ct.d_v c).symm;have aJ:zf (zo U W2) (some ⟨b,0,none⟩) 32 c.v.d:=by
  rw[aQ];exact zb3 (X.below aw) (fun l r e _=>by cases e;exact h0.bnd.new aP)
 have aj:=zn aB q0;have aG:Calls prog 119 #[P_ F o,.agg (hrow_ c),.agg ?B0] W2 fun e w'=>(∃ v,e=.returned v)∧zac W2 U F o T fc x w' { x.v with k:={ x.v.k with own:=c.v,slot:=c.v.slot },vot:=[x.v.nu] }:=by
  have k:=zkv x c ⟨c.au,c.rd,⟨some ⟨b,0,none⟩,32,c.v.d⟩⟩ W2 U F o T fc h2 aD aJ hf a3 (zeM c.v) a1 a2;dsimp only at k;rw[a0.out] at k;exact k
 clear aQ aJ X aP aZ hA aO aw aB ax h0 aI q0;have s0:=zb aj 0 _ rfl;have s1:=zb aj 1 _ rfl;have s2:=zb aj 2 _ rfl;have s3:=zb aj 3 _ rfl;have r0:=zb q2 0 _ rfl;have r1:=zb q2 1 _ rfl;have r2:=zb q2 2 _ rfl;go_wp2_with fail
 refine aG.mono ?_;rintro e w3 ⟨⟨v,he⟩,U3,fc3,x3,h1,n3,v3⟩;subst he;dsimp only;clear aG s0 s1 s2 s3 r0 r1 r2;have aU:=n3.box h2 aj aK.out;have aC:HAt (zo U3 w3) c.ba c.bc c.bl c.pa c.pc c.pl:=aD.sub (n3.sub h2);have n1:=n2.trans n3;have aT:Hid (x3.v.k.tab=x.v.k.tab):=by show _=_;rw[v3]
 have aH:Hid _:=v3;clear v3 aj q2 h2 aD n2 n3;have c5:=h1.cell 5 _ rfl;go_upto_region 4 with fail
 obtain ⟨I,aM⟩:∃ W,W=w3:=⟨_,rfl⟩;rw[←aM] at h1 n1 aU aC c5 ⊢;clear aM;go_cut [6,7,8] (fun u6 u7 u8 wx=>∃ (z:Option Addr) (rc:Nat) (f:List Sl) (d:Nat) (m:Option Addr) (t:Nat) (u y:Int) (ds:List Int) (A:Int),u6=.slice z f.length rc∧u7=(P_ d 0)∧u8=I_ A∧B_ I wx∧I.heap.size≤d∧R_ wx d #[I_ u,I_ y,.slice m ds.length t] 66∧Hid ((vs f,(u,y,ds),A)=zak x3.v.k.tab c.v∧zf wx m t ds∧(∀ l r,m=some ⟨l,r,none⟩→I.heap.size≤l∧(Value.slice z f.length rc).ownBlock≠some l)∧wx.ownsRow I.heap.size 66 3 (.slice z f.length rc) f.length (slv f)∧zX wx I.heap.size (.slice z f.length rc) (ps f)∧(Value.slice z f.length rc).ownBlock≠some d))
 refine kO_ ?A0 ?_;exact Obj.cells #[I_ 0,I_ 0,O_] 66;refine kV_ ?C0 ?_;exact Value.slice x3.ta x3.tab.length x3.tc
 case first=>
  have O:=dB_ I;have ak:=dC_ c5;have au:=dQ_ aU;refine wR_ (S:=fun w'=>C_ w' F (o+5) ?C0∧R_ w' B0 (hrow_ c) 56) (by kernel_rfl) ⟨ak,au⟩ (fun D=>?_);generalize I.drew=J at O ak au D ⊢;refine tks_ 4 [(0,21,(P_ F o)),(1,22,(P_ F o)),(2,23,(P_ F (o+5))),(3,24,.slice x3.ta x3.tab.length x3.tc)] D ?_;simp only[tkf_,zg];refine tQ_ 4 25 (.agg (hrow_ c)) rfl rfl (Or.inl ⟨by rfl,fun w0 aY=>zJ 56 _ rfl B0 rfl 56 (hrow_ c) (0,0) _ aY.2 underlying56 rfl sHd⟩) D ?_;simp only[zg];refine wpAnyH_ready (rs:=[5,10]) (by kernel_rfl) (by simp) (AllReadyH.cons rfl (fun K9 V=>?_) (AllReadyH.cons rfl (fun K9 V=>?_) AllReadyH.nil));refine zj rfl 26 rfl 116 [.tmp 24,.tmp 25] #[39,56] rfl [?C0,.agg (hrow_ c)] rfl (eO_ func116) (fun v w'=>(∃ (z:Option Addr) (rc:Nat) (f:List Sl) (m:Option Addr) (t:Nat) (u y:Int) (ds:List Int) (A:Int),v=.tuple #[.slice z (List.length f) rc,.agg #[I_ u,I_ y,.slice m (List.length ds) t],I_ A]∧(vs f,(u,y,ds),A)=zak x3.v.k.tab c.v∧zf w' m t ds∧(∀ l r,m=some ⟨l,r,none⟩→J.heap.size≤l∧(Value.slice z (List.length f) rc).ownBlock≠some l)∧w'.ownsRow J.heap.size 66 3 (.slice z (List.length f) rc) (List.length f) (slv f)∧zX w' J.heap.size (.slice z (List.length f) rc) (ps f))∧B_ J w') ((zfl x3.tab x3.ta x3.tc c.au c.rd c.ba c.bc c.bl c.pa c.pc c.pl J ((h1.below O).tabAt) ((aC.sub (zH U3 I)).below O) ((h1.below O).tabs.sub (zH _ _))).mono (fun e w' k=>by
    obtain ⟨z,rc,f,m,t,u,y,ds,A,k1,k2,_,k4,_,k6,k7,k8,k9,aF⟩:=k;exact ⟨_,k1,⟨z,rc,f,m,t,u,y,ds,A,rfl,by rw[k2,zfm];rfl,k4,fun l r e=>⟨k6 l r e,aF l r e⟩,k8,k9⟩,k7⟩)) ?_
  rintro v E ⟨⟨z,rc,f,m,t,u,y,ds,A,rfl,hR,X,ag,hO,M⟩,hbc⟩;have N:=zq O hbc;have ab:=zr hbc ak;have ac:=zn hbc au;refine V.out _ _ ⟨ab,ac⟩ (fun D=>?_)
  rotate_left
  refine zw rfl 7 rfl (P_ J.heap.size 0) (J.alloc ?A0) (by go_simp) ?_;have L:=zO J ?A0;have C:=hN_ J ?A0;have N:=zq O L;have R:I.heap.size≤J.heap.size:=O.size;have ab:=zr L ak;have Z:F≠J.heap.size:=Nat.ne_of_lt (bL_ ak);have ac:=zn L au;have aa:B0≠J.heap.size:=Nat.ne_of_lt (ze au);refine V.out _ _ ⟨ab,ac⟩ (fun D=>?_);simp only[zg];have ae:J.heap.size<(J.alloc ?A0).heap.size:=by simp
  generalize J.alloc ?A0=E at L C N ae ab ac D ⊢;clear L;generalize J.heap.size=d at C R ae Z aa ⊢;refine zE 5 rfl (fun K9 V=>?_);have bd:=ae;refine zj rfl 26 rfl 116 [.tmp 24,.tmp 25] #[39,56] rfl [?C0,.agg (hrow_ c)] rfl (eO_ func116) (fun v w'=>(∃ (z:Option Addr) (rc:Nat) (f:List Sl) (m:Option Addr) (t:Nat) (u y:Int) (ds:List Int) (A:Int),v=.tuple #[.slice z (List.length f) rc,.agg #[I_ u,I_ y,.slice m (List.length ds) t],I_ A]∧(vs f,(u,y,ds),A)=zak x3.v.k.tab c.v∧zf w' m t ds∧(∀ l r,m=some ⟨l,r,none⟩→E.heap.size≤l∧(Value.slice z (List.length f) rc).ownBlock≠some l)∧w'.ownsRow E.heap.size 66 3 (.slice z (List.length f) rc) (List.length f) (slv f)∧zX w' E.heap.size (.slice z (List.length f) rc) (ps f))∧B_ E w') ((zfl x3.tab x3.ta x3.tc c.au c.rd c.ba c.bc c.bl c.pa c.pc c.pl E ((h1.below N).tabAt) ((aC.sub (zH U3 I)).below N) ((h1.below N).tabs.sub (zH _ _))).mono (fun e w' k=>by
    obtain ⟨z,rc,f,m,t,u,y,ds,A,k1,k2,_,k4,_,k6,k7,k8,k9,aF⟩:=k;exact ⟨_,k1,⟨z,rc,f,m,t,u,y,ds,A,rfl,by rw[k2,zfm];rfl,k4,fun l r e=>⟨k6 l r e,aF l r e⟩,k8,k9⟩,k7⟩)) ?_
  rintro v H ⟨⟨z,rc,f,m,t,u,y,ds,A,rfl,hR,X,ag,hO,M⟩,hbc⟩;have ay:=zq N hbc;have ad:=zr hbc ab;have ai:=zn hbc ac;have C:=zn hbc C;refine V.out _ _ ⟨ad,ai⟩ (fun D=>?_)
  rotate_left
  refine kV_ ?E0 ?_;exact Value.slice m ds.length t;refine kV_ ?F0 ?_;exact Value.slice z f.length rc
  all_goals
   simp only[zg];refine tks_ 4 [(6,20,.tuple #[?F0,.agg #[I_ u,I_ y,?E0],I_ A]),(7,27,.slice z f.length rc),(8,28,.agg #[I_ u,I_ y,?E0]),(9,29,I_ A)] D ?_;simp only[tkf_,zg]
  refine zE 10 rfl (fun K9 V=>?_);refine zw rfl 7 rfl (P_ E.heap.size 0) (E.alloc ?A0) (by go_simp) ?_;have L:=zO E ?A0;have C:=hN_ E ?A0;have ay:=zq N L;have R:I.heap.size≤E.heap.size:=N.size;have ad:=zr L ab;have Z:F≠E.heap.size:=Nat.ne_of_lt (bL_ ab);have ai:=zn L ac;have aa:B0≠E.heap.size:=Nat.ne_of_lt (ze ac);have ah:∀ q,(Value.slice z f.length rc).ownBlock=some q→q≠E.heap.size:=fun q e=>Nat.ne_of_lt (hO.lt q e).2;have aA:∀ l r,m=some ⟨l,r,none⟩→ds≠[]→l≠E.heap.size:=fun l r e hn=>Nat.ne_of_lt (zgb X hn e);have az:∀ p∈ps f,∀ l r,p.sa=some ⟨l,r,none⟩→l≠E.heap.size:=fun p B l r e=>Nat.ne_of_lt ((M p B).2 l r e).2.1;have X:=X.below L;have hO:=zv hO L;have M:=M.same L.size (fun p B b r e=>L.block b ((M p B).2 b r e).2.1);refine V.out _ _ ⟨ad,ai⟩ (fun D=>?_);simp only[zg];have ae:E.heap.size<(E.alloc ?A0).heap.size:=by simp
  generalize E.alloc ?A0=H at L C ay ae ad ai X hO M D ⊢;clear L;generalize E.heap.size=d at C R ae Z aa ah aA az ⊢
  rotate_left
  have ah:∀ q,(Value.slice z f.length rc).ownBlock=some q→q≠d:=fun q e=>by have:=(hO.lt q e).1;omega
  have aA:∀ l r,m=some ⟨l,r,none⟩→ds≠[]→l≠d:=fun l r e hn=>by have:=(ag l r e).1;omega
  have az:∀ p∈ps f,∀ l r,p.sa=some ⟨l,r,none⟩→l≠d:=fun p B l r e=>by have:=((M p B).2 l r e).1;omega
  rotate_left
  refine kW_ ?D0 ?_;exact ((H.setCell ⟨d,0,none⟩ (I_ u)).setCell ⟨d,1,none⟩ (I_ y)).setCell ⟨d,2,none⟩ (.slice m ds.length t)
  all_goals
   have a8:=zb C 0 _ rfl;have a5:=zd C 0;have a9:=zb C 1 _ rfl;have a6:=zd C 1;have ba:=zb C 2 _ rfl;have a7:=zd C 2;refine tK_ 11 6 ?F0 rfl rfl D ?_;simp only[zg];refine zE 12 rfl (fun K9 V=>?_);refine zT rfl rfl ?D0 (by go_simp) ?_;have ar:(?D0).heap[d]? = some (.cells #[I_ u,I_ y,?E0] 66 (0,0)):=by simpa using (hS_ _ _ 2 _ _ ?E0 (hS_ _ _ 1 _ _ (I_ y) (hS_ _ _ 0 _ _ (I_ u) C)))
   have ap:=(((ay.setCell (p:=⟨d,0,none⟩) R (I_ u)).setCell (p:=⟨d,1,none⟩) R (I_ y)).setCell (p:=⟨d,2,none⟩) R ?E0);have al:=(zal (k:=2) (v:=.slice m ds.length t) (zal (k:=1) (v:=I_ y) (zal (k:=0) (v:=I_ u) ad Z) Z) Z);have av:=(zh (j:=2) (v:=.slice m ds.length t) (zh (j:=1) (v:=I_ y) (zh (j:=0) (v:=I_ u) ai aa) aa) aa);have Y:∀ k,k≠d→(?D0).heap[k]? = H.heap[k]?:=fun k hk=>by rw[hO_ _ ⟨d,2,none⟩ k _ hk,hO_ _ ⟨d,1,none⟩ k _ hk,hO_ _ ⟨d,0,none⟩ k _ hk]
   have ao:zf ?D0 m t ds:=zb9 (G:=fun k=>k≠d) Y X aA;have am:(?D0).ownsRow I.heap.size 66 3 ?F0 f.length (slv f):=zb5 (zt hO (fun q e=>Y q (ah q e))) (by have:=O.size;have:=N.size;omega);have an:zX ?D0 I.heap.size ?F0 (ps f):=fun p B=>⟨(M.same (w':=?D0) (by simp) (fun p B b r e=>Y b (az p B b r e)) p B).1,fun l r e=>⟨by have:=((M p B).2 l r e).1;have:=O.size;have:=N.size;omega,by have:=((M p B).2 l r e).2.1;simpa using this,((M p B).2 l r e).2.2⟩⟩;have aE:∀ l r,m=some ⟨l,r,none⟩→I.heap.size≤l∧(Value.slice z f.length rc).ownBlock≠some l:=fun l r e=>⟨by have:=(ag l r e).1;have:=O.size;have:=N.size;omega,(ag l r e).2⟩;clear Y;refine V.out _ _ ⟨al,av⟩ (fun D=>?_);generalize ?D0=VE at ar ap al av ao am an D ⊢;refine tK_ 13 8 (I_ A) rfl rfl D ?_;simp only[zg];clear D;refine wD_ (by kernel_rfl) ?_ _;go_wp2_with fail
   go_meet
   case rel=>exact ⟨z,rc,f,d,m,t,u,y,ds,A,rfl,rfl,rfl,ap,R,ar,⟨hR,ao,aE,am,an,fun e=>ah d e rfl⟩⟩
 case rest=>
  obtain ⟨z,rc,f,d,m,t,u,y,ds,A,rfl,rfl,rfl,af,R,qn,hX⟩:=hcut;apply_assumption;clear c5 qn R;obtain ⟨W2,aN⟩:∃ W,W=wc:=⟨_,rfl⟩;rw[←aN] at af hX ⊢;clear aN;obtain ⟨x1,x2,aV,x4,x5,x6⟩:=hX.out;by_cases e0:A=0
  ·subst e0;have c0:(zak x3.v.k.tab c.v).2.2=0:=by rw[←x1]
   obtain ⟨-,-,-,t4⟩:=zjQ c0;have aq:Hid ((zak x3.v.k.tab c.v).1=vs f):=by show _=_;rw[←x1]
   have aL:Hid (∀ s∈vs f,zaF s.2.2):=by
    show ∀ s,_;intro s hs;rw[←aq.out] at hs;rcases t4 with g|⟨g,_⟩
    ·rw[g] at hs;exact h1.inv.u8t s hs
    ·rw[g] at hs;rcases List.mem_append.1 hs with g2|g2
     ·exact h1.inv.u8t s g2
     ·obtain rfl:s=c.v.slot:=by simpa using g2
      exact zeM _
   have aR:Hid (f.length≤400000):=by
    show _≤_;have e8:(vs f).length=f.length:=zap f;have e7:=h1.inv.tab;rw[←e8,←aq.out];rcases t4 with g|⟨g,g2⟩
    ·rw[g];exact e7
    ·rw[g,lP_];simp;omega
   obtain ⟨U5,aW,y5,h5,n5,v5⟩:=h1.put_tab (a':=z) (c':=rc) (l':=f) af (fun q e=>(x4.lt q (zaC _ _ e)).1) (zb5 x4 (nZ_ _)) (fun s hs=>by
    have B:=x5 s.p (List.mem_map.2 ⟨s,hs,rfl⟩);exact zb3 B.1 (fun l r e _=>zbj (h1.bnd.new (B.2 l r e).1) (fun e2=>(B.2 l r e).2.2 (zaC _ _ e2)))) (by rw[NM.v_tab];exact h1.inv.tab_ (by rw[zap];exact aR.out) aL.out)
   have HF:Hid (y5.v=(x.v.recO c.v)):=by
    show _=_;rw[aT.out] at c0 aq;rw[v5,NM.v_tab,Nd.recO,if_pos c0,aq.out,aH.out]
   have a4:=n1.trans n5;have f5:=(h1.below af).free (o+5);have bb:=(h1.below af).cell 5 _ rfl;clear hX x1 x2 aV x4 x5 x6 c0 t4 aq aL aR v5 n5;go_wp2_with fail
   go_end0;exact ⟨⟨_,rfl⟩,U5,aW,y5,h5,a4,HF.out⟩
  ·have aS:¬(zak x.v.k.tab c.v).2.2=0:=by rw[←aT.out,←x1];exact e0
   have HF:Hid (x3.v=(x.v.recO c.v)):=by
    show _=_;rw[Nd.recO,if_neg aS,aH.out]
   have bc:(A == 0)=false:=by simpa using e0
   clear hX x1 x2 aV x4 x5 x6 e0 aS;go_wp2_with fail
   go_end0;exact ⟨⟨_,rfl⟩,U3,fc3,x3,h1.below af,n1.trans (NTo.below (F:=F) (o:=o) U3 fc3 x3 af),HF.out⟩
theorem ztz {n:Nd}{m:MC}(k:m.ki=1):n.recall m=if zcy n.k.sh m.b then { n with k:={ n.k with sh:=n.k.sh++[m.b] } } else n:=by
 have b:(if m.ki=2∧m.h.hf=0 then [n.nu] else n.vot)=n.vot:=if_neg (fun g=>by rw[k] at g;exact absurd g.1 (by decide));have c:n.k.rcl m=if zcy n.k.sh m.b then { n.k with sh:=n.k.sh++[m.b] } else n.k:=if_pos k;rw[Nd.recall,b,c];cases zcy n.k.sh m.b<;>rfl
theorem ztA {n:Nd}{m:MC}(k:m.ki=3):n.recall m={ n with k:={ n.k with tab:=n.k.tab++[m.s] } }:=by
 have b:(if m.ki=2∧m.h.hf=0 then [n.nu] else n.vot)=n.vot:=if_neg (fun g=>by rw[k] at g;exact absurd g.1 (by decide));have c:n.k.rcl m={ n.k with tab:=n.k.tab++[m.s] }:=by
  unfold Kn.rcl;rw[if_neg (show ¬m.ki=1 by rw[k];decide),if_neg (show ¬m.ki=2 by rw[k];decide),if_pos k]
 rw[Nd.recall,b,c]
theorem ztB {n:Nd}{m:MC}(k:m.ki=4):n.recall m=if zbl n.k.dag m.ct=0 then { n with k:={ n.k with dag:=n.k.dag++[m.ct] } } else n:=by
 have b:(if m.ki=2∧m.h.hf=0 then [n.nu] else n.vot)=n.vot:=if_neg (fun g=>by rw[k] at g;exact absurd g.1 (by decide));have c:n.k.rcl m=if zbl n.k.dag m.ct=0 then { n.k with dag:=n.k.dag++[m.ct] } else n.k:=by
  unfold Kn.rcl;rw[if_neg (show ¬m.ki=1 by rw[k];decide),if_neg (show ¬m.ki=2 by rw[k];decide),if_neg (show ¬m.ki=3 by rw[k];decide),if_pos k]
 rw[Nd.recall,b,c];by_cases g:zbl n.k.dag m.ct=0
 ·rw[if_pos g,if_pos g]
 ·rw[if_neg g,if_neg g]
theorem zrZ {m:MV}(h:zaK m):(m.m.ki=1∧zba m.m.bau m.m.bnu m.ss=0)∨(m.m.ki=2∧zK m.m.hau m.m.hrd m.bl m.pl=0)∨(m.m.ki=3∧za4 m.m.sau m.m.srd m.m.sdn=0)∨(m.m.ki=4∧zai m.m.cau m.m.crd m.cbl m.cpl m.vl=0):=by
 have b:=h.car;unfold MV.car zB at b;by_cases k1:m.m.ki=1
 ·rw[if_pos k1] at b;exact .inl ⟨k1,b⟩
 rw[if_neg k1] at b;by_cases k2:m.m.ki=2
 ·rw[if_pos k2] at b;exact .inr (.inl ⟨k2,b⟩)
 rw[if_neg k2] at b;by_cases k3:m.m.ki=3
 ·rw[if_pos k3] at b;exact .inr (.inr (.inl ⟨k3,b⟩))
 rw[if_neg k3] at b;by_cases k4:m.m.ki=4
 ·rw[if_pos k4] at b;exact .inr (.inr (.inr ⟨k4,b⟩))
 rw[if_neg k4,if_neg h.ki] at b;cases b
theorem zok (x:NM)(m:MV)(w:World)(U:Nat→Bool)(F o:Nat)(T:TypeId)(M:Array Value)(h:zae w U F o T M x)(hm:MAt (zo U w) m)(hs:MSh (zo U w) m)(hr:zaK m)(D:U8M m.bl m.pl m.cbl m.cpl m.ds)(ht:x.tab.length<400000) :
  Calls prog 97 #[P_ F o,.agg (mrow_ m.m)] w fun e w'=>(∃ v,e=.returned v)∧zac w U F o T M x w' (x.v.recall m.c):=by
 have hA:=zO w (.cells (mrow_ m.m) 71);have R:=hN_ w (.cells (mrow_ m.m) 71);have ao:Hid (U w.heap.size=false):=h.bnd.new (nR_ _);go_in;go_upto_region 1 with fail
 generalize w.alloc (.cells (mrow_ m.m) 71)=I at hA R ⊢;generalize aI:w.heap.size=B at R ao ⊢;have aZ:Hid _:=aI;clear aI;have X:=h.below hA;have ay:=hm.sub (h.later hA);have aA:=hs.sub (h.later hA);have c2:=zb R 2 _ rfl;have HT:Hid (x.tab.length<400000):=ht;have aS:=zrZ hr;clear ht hr;rcases aS with ⟨k,hf⟩|⟨k,hf⟩|⟨k,hf⟩|⟨k,hf⟩;refine kV_ ?B0 ?_;exact Value.slice d.sa d.bs.length d.cap;refine kV_ ?E0 ?_;exact Value.slice x.sa x.sh.length x.sc
 ·replace c2:C_ I B 2 (I_ 1):=by rw[←k];exact c2
  have HM:Hid (x.v.recall m.c=if zcy (shw x.sh) (⟨m.m.bau,m.m.bnu,m.ss⟩:BW) then { x.v with k:={ x.v.k with sh:=x.v.k.sh++[(⟨m.m.bau,m.m.bnu,m.ss⟩:BW)] } } else x.v):=ztz k;have a0:=zb R 3 _ rfl;have a1:=zb R 4 _ rfl;have a2:C_ I B 5 (.slice m.m.bta m.ss.length m.m.btc):=by rw[←hm.at'.e1];exact zb R 5 _ rfl
  have aq:=zko x ⟨⟨m.m.bau,m.m.bnu,m.ss⟩,m.m.bta,m.m.btc⟩ I U F o T M X (aA.b.sub (zH _ _)) hf;dsimp only at aq;clear k R;go_wp2_with fail
  refine aq.mono ?_;rintro e w1 ⟨⟨⟨⟨v9,y,z⟩,d⟩,he,hsv,hSA,hs1,hs2⟩,hb1⟩
  simp only at hsv
  subst hsv;subst he;dsimp only at hs1 hs2 ⊢;clear aq a0 a1 a2 c2;have aH:=zq hA hb1;have aY:=hA.size;refine kA_ ?F0 ?_;exact #[I_ m.m.bau,I_ m.m.bnu,.slice y m.ss.length z,?B0];refine kO_ ?G0 ?_;exact Obj.cells ?F0 137;have an:=zO w1 ?G0;have q2:=hN_ w1 ?G0;have HS:Hid (∀ W:World,B_ w1 W→zdt (zo U W) (⟨⟨⟨m.m.bau,m.m.bnu,m.ss⟩,y,z⟩,d⟩:Sh)):=fun W hW=>(hSA.hid (U:=U) (fun sb so e=>h.bnd.new (by have:=hs1 sb so e;omega)) (fun sb so e=>h.bnd.new (by have:=hs2 sb so e;omega))).sub (zah.below U hW).sub;clear hSA hs1 hs2;go_upto_region 4 with fail
  generalize w1.alloc ?G0=W2 at an q2 ⊢;have av:=zq aH an;have h2:=h.below av;have aT:Hid (zdt (zo U W2) (⟨⟨⟨m.m.bau,m.m.bnu,m.ss⟩,y,z⟩,d⟩:Sh)):=HS.out W2 an;have aw:Hid (U w1.heap.size=false):=h.bnd.new aH.size;generalize w1.heap.size=V at q2 aw ⊢;clear HS an hb1 aY X;generalize aK:zcy (shw x.sh) (⟨m.m.bau,m.m.bnu,m.ss⟩:BW)=tb at HM ⊢;have aU:Hid _:=aK;clear aK;cases tb with
  | false=>
   go_wp2_with fail
   go_end0;exact ⟨⟨_,rfl⟩,by rw[HM.out];exact zac.quiet h av⟩
  | true=>
   have aQ:∀ P:Prop,¬(U V=true∧P):=fun P k=>by have:=k.1;rw[aw.out] at this;cases this
   have aP:V≠F:=fun e=>by have:=aw.out;rw[e,h.fu] at this;cases this
   have aV:x.sh.length<800:=by have e2:=zkq aU.out;rw[zbS] at e2;exact e2
   have aF:∀ (E A:World) (r:Option Addr) (t:Nat),B_ W2 E→A.ownsRow 0 137 4 (.slice r (x.sh++[(⟨⟨⟨m.m.bau,m.m.bnu,m.ss⟩,y,z⟩,d⟩:Sh)]).length t) (x.sh++[(⟨⟨⟨m.m.bau,m.m.bnu,m.ss⟩,y,z⟩,d⟩:Sh)]).length (shv (x.sh++[(⟨⟨⟨m.m.bau,m.m.bnu,m.ss⟩,y,z⟩,d⟩:Sh)]))→zR E ?E0 A (.slice r (x.sh++[(⟨⟨⟨m.m.bau,m.m.bnu,m.ss⟩,y,z⟩,d⟩:Sh)]).length t)→(∃ v,Ending.returned (.tuple #[])=.returned v)∧zac w U F o T M x (A.setCell ⟨F,o+4,none⟩ (.slice r (x.sh.length+1) t)) (x.v.recall m.c):=by
    intro E A r t hb ho G;refine ⟨⟨_,rfl⟩,?_⟩;rw[HM.out,if_pos rfl];have h1:=h2.below hb;have ax:(x.sh++[(⟨⟨⟨m.m.bau,m.m.bnu,m.ss⟩,y,z⟩,d⟩:Sh)]).length=x.sh.length+1:=by simp
    have ag:=h1.more_sh G ho (fun s hs=>?_) ?_
    ·rw[ax] at ag;refine zac.after ((NTo.below (F:=F) (o:=o) U M x av).trans (NTo.below U M x hb)) ?_;obtain ⟨U',ar,x',k1,k2,k3⟩:=ag;exact ⟨U',ar,x',k1,k2,by rw[k3,NM.v_sh]⟩
    ·have k:=h1.grew_sub G (fun q e=>.inr (.inr (.inr (.inl e))));rcases List.mem_append.1 hs with g|g
     ·exact (h1.esh s g).sub k
     ·obtain rfl:s=(⟨⟨⟨m.m.bau,m.m.bnu,m.ss⟩,y,z⟩,d⟩:Sh):=by simpa using g
      exact (aT.out.sub (zah.below U hb).sub).sub k
    ·rw[NM.v_sh];exact h.inv.sh_ (b:=(⟨m.m.bau,m.m.bnu,m.ss⟩:BW)) (by show (shw x.sh).length<800;rw[zbS];exact aV) hf
   go_upto_region 5 with fail
   obtain ⟨ti,aj,ak,al,am⟩:=info_parts zrU;have N:=dB_ W2;have ap:=dQ_ q2;refine wR_ (S:=fun w'=>R_ w' V ?F0 137) (by kernel_rfl) ap (fun c=>?_);generalize W2.drew=l at N ap c ⊢;have az:=h2.below N;refine tks_ 4 [(0,18,(P_ F o)),(1,19,(P_ F o)),(2,20,(P_ F o)),(3,21,(P_ F (o+4)))] c ?_;simp only[tkf_,zg];refine tQ_ 5 23 (.agg ?F0) rfl rfl (Or.inl ⟨by rfl,fun w0 Z=>zJ 137 _ rfl V rfl 137 ?F0 (0,0) _ Z underlying137 rfl sSh⟩) c ?_;simp only[zg];refine wpAnyH_ready (rs:=[4,6]) (by kernel_rfl) (by simp) (AllReadyH.cons rfl (fun H f=>?_) (AllReadyH.cons rfl (fun H f=>?_) AllReadyH.nil));have ae:=az.cell 4 _ rfl;refine zw rfl 22 rfl ?E0 l (by go_simp) ?_;refine f.out _ _ c (fun c=>?_);simp only[zg];clear ae;refine zE 6 rfl (fun H f=>?_)
   all_goals
    refine zw rfl 24 rfl (.slice (some ⟨l.heap.size,0,none⟩) 1 1) (l.alloc ?G0) (by go_simp) ?_;have C:=zO l ?G0;have O:=zq N C;have L:=hN_ l ?G0;have af:=zn C ap;refine f.out _ _ af (fun c=>?_);simp only[zg];generalize l.alloc ?G0=E at C O L af c ⊢;clear C;generalize l.heap.size=V at L ⊢;have p:=h2.below O
   rotate_left
   refine zE 4 rfl (fun H f=>?_);have ae:=p.cell 4 _ rfl;refine zw rfl 22 rfl ?E0 E (by go_simp) ?_;refine f.out _ _ c (fun c=>?_);simp only[zg];clear ae
   rotate_left
   all_goals
    refine zE 7 rfl (fun H f=>?_);refine zar rfl 25 rfl (.tmp 22) (.tmp 24) 95 rfl 0 137 ti (.agg #[I_ 0,I_ 0,O_,O_]) 4 64 underlying95 aj ak al am rfl (by decide) ?E0 x.sh.length (shv x.sh) rfl p.rsh ⟨V,0,none⟩ 1 1 (Sh.cs (⟨⟨⟨m.m.bau,m.m.bnu,m.ss⟩,y,z⟩,d⟩:Sh)) rfl rfl (fun j u D=>by rw[zaN,Nat.zero_add];exact zb L j u (by rw[←Array.getElem?_toList];exact D)) (zkp _) (by unfold maxLen;omega) (by omega) (nZ_ _) ?_;intro v3 A aa J;obtain ⟨r,t,ad⟩:=zC aa;subst ad;have ai:=J.row af (fun e=>aQ _ (p.su _ (.inr (.inr (.inr (.inl (zm e)))))));have Y:=J.row p.blk (fun e=>(p.su _ (.inr (.inr (.inr (.inl (zm e)))))).2 rfl);refine f.out _ _ ai (fun c=>?_);simp only[zg];refine tks_ 2 [(8,26,(P_ F o)),(9,27,(P_ F (o+4)))] c ?_;simp only[tkf_,zg];refine zE 10 rfl (fun H f=>?_);have aD:=zb Y (o+4) _ (p.cel 4 (by decide));have aE:=zd Y (o+4);refine zT rfl rfl (A.setCell ⟨F,o+4,none⟩ (.slice r (x.sh.length+1) t)) (by go_simp) ?_;have aC:=zh (b:=F) (j:=o+4) (v:=.slice r (x.sh.length+1) t) ai (fun e=>aP e);refine f.out _ _ aC (fun c=>?_);refine wD_ (by kernel_rfl) ?_ _;go_wp2_with fail
    go_end0;exact aF E A r t O (by rw[zhO];simpa using aa) (by simpa using J)
 ·replace c2:C_ I B 2 (I_ 2):=by rw[←k];exact c2
  have aL:(⟨m.m.hau,m.m.hrd,m.m.hba,m.m.hbc,m.bl,m.m.hpa,m.m.hpc,m.pl,none,0,[]⟩:Ct).v.hf=0:=by rw[←Ct.hf_v];exact hf
  have HM:Hid (x.v.recall m.c=x.v.recO (⟨m.m.hau,m.m.hrd,m.m.hba,m.m.hbc,m.bl,m.m.hpa,m.m.hpc,m.pl,none,0,[]⟩:Ct).v):=zoi (m:=m.c) k aL;have a0:=zb R 6 _ rfl;have a1:=zb R 7 _ rfl;have a2:C_ I B 8 (.slice m.m.hba m.bl.length m.m.hbc):=by rw[←hm.at'.e2];exact zb R 8 _ rfl
  have a3:C_ I B 9 (.slice m.m.hpa m.pl.length m.m.hpc):=by rw[←hm.at'.e3];exact zb R 9 _ rfl
  have HR:=zoj x (⟨m.m.hau,m.m.hrd,m.m.hba,m.m.hbc,m.bl,m.m.hpa,m.m.hpc,m.pl,none,0,[]⟩:Ct) I U F o T M X aA.h aL rfl D.hb D.hp;dsimp only at HR;clear k R;go_wp2_with fail
  refine HR.mono ?_;rintro e w1 ⟨⟨v,he⟩,U9,au,x9,h9,n9,v9⟩;subst he;dsimp only;clear HR;go_wp2_with fail
  go_end0;exact ⟨⟨_,rfl⟩,U9,au,x9,h9,(NTo.below (F:=F) (o:=o) U M x hA).trans n9,by rw[HM.out,v9]⟩
 refine kA_ ?C0 ?_;exact #[I_ m.m.sau,I_ m.m.srd,.slice m.m.sda m.m.sdn m.m.sdc];refine kV_ ?D0 ?_;exact Value.slice x.ta x.tab.length x.tc
 ·replace c2:C_ I B 2 (I_ 3):=by rw[←k];exact c2
  have HM:Hid (x.v.recall m.c={ x.v with k:={ x.v.k with tab:=x.v.k.tab++[(⟨m.m.sau,m.m.srd,⟨m.m.sda,m.m.sdc,m.ds⟩⟩:Sl).v] } }):=ztA k;have aW:Hid (zf (zo U I) m.m.sda m.m.sdc m.ds):=ay.dig;have aJ:Hid (m.m.sdn=m.ds.length):=hm.dn;have a4:x.tab.length<400000:=HT.out;have aO:∀ P:Prop,¬(U B=true∧P):=fun P k=>by have:=k.1;rw[ao.out] at this;cases this
  have aN:B≠F:=fun e=>by have:=ao.out;rw[e,h.fu] at this;cases this
  have aG:∀ (E A:World) (r:Option Addr) (t:Nat),B_ I E→A.ownsRow 0 66 3 (.slice r (x.tab++[(⟨m.m.sau,m.m.srd,⟨m.m.sda,m.m.sdc,m.ds⟩⟩:Sl)]).length t) (x.tab++[(⟨m.m.sau,m.m.srd,⟨m.m.sda,m.m.sdc,m.ds⟩⟩:Sl)]).length (slv (x.tab++[(⟨m.m.sau,m.m.srd,⟨m.m.sda,m.m.sdc,m.ds⟩⟩:Sl)]))→zR E ?D0 A (.slice r (x.tab++[(⟨m.m.sau,m.m.srd,⟨m.m.sda,m.m.sdc,m.ds⟩⟩:Sl)]).length t)→(∃ v,Ending.returned (.tuple #[])=.returned v)∧zac w U F o T M x (A.setCell ⟨F,o+5,none⟩ (.slice r (x.tab.length+1) t)) (x.v.recall m.c):=by
   intro E A r t hb ho G;refine ⟨⟨_,rfl⟩,?_⟩;rw[HM.out];have h1:=X.below hb;have ax:(x.tab++[(⟨m.m.sau,m.m.srd,⟨m.m.sda,m.m.sdc,m.ds⟩⟩:Sl)]).length=x.tab.length+1:=by simp
   have aM:vs (x.tab++[(⟨m.m.sau,m.m.srd,⟨m.m.sda,m.m.sdc,m.ds⟩⟩:Sl)])=x.v.k.tab++[(⟨m.m.sau,m.m.srd,⟨m.m.sda,m.m.sdc,m.ds⟩⟩:Sl).v]:=by simp[vs,NM.v]
   have ag:=h1.more_tab G ho (fun s hs=>?_) ?_
   ·rw[ax] at ag;refine zac.after ((NTo.below (F:=F) (o:=o) U M x hA).trans (NTo.below U M x hb)) ?_;obtain ⟨U',ar,x',k1,k2,k3⟩:=ag;exact ⟨U',ar,x',k1,k2,by rw[k3,NM.v_tab,aM]⟩
   ·have k:=h1.grew_sub G (fun q e=>.inr (.inr (.inr (.inr (.inl e)))));rcases List.mem_append.1 hs with g|g
    ·exact (h1.etb s g).sub k
    ·obtain rfl:s=(⟨m.m.sau,m.m.srd,⟨m.m.sda,m.m.sdc,m.ds⟩⟩:Sl):=by simpa using g
     exact (aW.out.sub (zah.below U hb).sub).sub k
   ·rw[NM.v_tab,aM];refine h.inv.tab_ (by rw[lP_];have e9:x.v.k.tab.length=x.tab.length:=zap x.tab;simp;omega) ?_;intro s hs;rcases List.mem_append.1 hs with g|g
    ·exact h.inv.u8t s g
    ·obtain rfl:s=(⟨m.m.sau,m.m.srd,⟨m.m.sda,m.m.sdc,m.ds⟩⟩:Sl).v:=by simpa using g
     exact D.sd
  clear k;go_upto_region 9 with fail
  obtain ⟨ti,aj,ak,al,am⟩:=info_parts zjI;have N:=dB_ I;have ac:=dQ_ R;refine wR_ (S:=fun w'=>R_ w' B (mrow_ m.m) 71) (by kernel_rfl) ac (fun c=>?_);generalize I.drew=l at N ac c ⊢;have az:=X.below N;refine tks_ 5 [(0,36,(P_ F o)),(1,37,(P_ F o)),(2,38,(P_ F o)),(3,39,(P_ F (o+5))),(5,41,(P_ B 10))] c ?_;simp only[tkf_,zg];refine tQ_ 6 42 (.agg ?C0) rfl rfl (Or.inl ⟨by rfl,fun w0 Z=>by have a5:=zb Z 10 _ rfl;have a6:=zb Z 11 _ rfl;have a7:=zb Z 12 _ rfl;go_simp⟩) c ?_;simp only[zg];refine wpAnyH_ready (rs:=[4,7]) (by kernel_rfl) (by simp) (AllReadyH.cons rfl (fun H f=>?_) (AllReadyH.cons rfl (fun H f=>?_) AllReadyH.nil));have ae:=az.cell 5 _ rfl;refine zw rfl 40 rfl ?D0 l (by go_simp) ?_;refine f.out _ _ c (fun c=>?_);simp only[zg];clear ae;refine zE 7 rfl (fun H f=>?_)
  all_goals
   refine zw rfl 43 rfl (.slice (some ⟨l.heap.size,0,none⟩) 1 1) (l.alloc (.cells ?C0 66)) (by go_simp) ?_;have C:=zO l (.cells ?C0 66);have O:=zq N C;have L:=hN_ l (.cells ?C0 66);have ab:=zn C ac;refine f.out _ _ ab (fun c=>?_);simp only[zg];generalize l.alloc (.cells ?C0 66)=E at C O L ab c ⊢;clear C;generalize l.heap.size=V at L ⊢;have p:=X.below O
  rotate_left
  refine zE 4 rfl (fun H f=>?_);have ae:=p.cell 5 _ rfl;refine zw rfl 40 rfl ?D0 E (by go_simp) ?_;refine f.out _ _ c (fun c=>?_);simp only[zg];clear ae
  rotate_left
  all_goals
   refine zE 8 rfl (fun H f=>?_);refine zar rfl 44 rfl (.tmp 40) (.tmp 43) 39 rfl 0 66 ti (.agg #[I_ 0,I_ 0,O_]) 3 40 underlying39 aj ak al am rfl (by decide) ?D0 x.tab.length (slv x.tab) rfl p.rtb ⟨V,0,none⟩ 1 1 ([I_ m.m.sau,I_ m.m.srd,.slice m.m.sda m.m.sdn m.m.sdc]) rfl rfl (fun j u D=>by rw[zaN,Nat.zero_add];exact zb L j u (by rw[←Array.getElem?_toList];exact D)) (fun u D=>by simp at D;rcases D with rfl|rfl|rfl<;>rfl) (by unfold maxLen;omega) (by omega) (nZ_ _) ?_;intro v3 A aa J;obtain ⟨r,t,ad⟩:=zC aa;subst ad;have ah:=J.row ab (fun e=>aO _ (p.su _ (.inr (.inr (.inr (.inr (.inl (zm e))))))));have Y:=J.row p.blk (fun e=>(p.su _ (.inr (.inr (.inr (.inr (.inl (zm e))))))).2 rfl);refine f.out _ _ ah (fun c=>?_);simp only[zg];refine tks_ 2 [(9,45,(P_ F o)),(10,46,(P_ F (o+5)))] c ?_;simp only[tkf_,zg];refine zE 11 rfl (fun H f=>?_);have aD:=zb Y (o+5) _ (p.cel 5 (by decide));have aE:=zd Y (o+5);refine zT rfl rfl (A.setCell ⟨F,o+5,none⟩ (.slice r (x.tab.length+1) t)) (by go_simp) ?_;have aB:=zh (b:=F) (j:=o+5) (v:=.slice r (x.tab.length+1) t) ah (fun e=>aN e);refine f.out _ _ aB (fun c=>?_);refine wD_ (by kernel_rfl) ?_ _;go_wp2_with fail
   go_end0;exact aG E A r t O (by rw[ziY];simpa[Sl.cs,aJ.out] using aa) (by simpa using J)
 refine kV_ ?A0 ?_;exact Value.agg #[I_ m.m.cau,I_ m.m.crd,.slice m.m.cba m.m.cbn m.m.cbc,.slice m.m.cpa m.m.cpn m.m.cpc,.slice m.m.cva m.m.cvn m.m.cvc]
 ·replace c2:C_ I B 2 (I_ 4):=by rw[←k];exact c2
  have HM:Hid (x.v.recall m.c=if zbl x.v.k.dag (⟨m.m.cau,m.m.crd,m.m.cba,m.m.cbc,m.cbl,m.m.cpa,m.m.cpc,m.cpl,m.m.cva,m.m.cvc,m.vl⟩:Ct).v=0 then { x.v with k:={ x.v.k with dag:=x.v.k.dag++[(⟨m.m.cau,m.m.crd,m.m.cba,m.m.cbc,m.cbl,m.m.cpa,m.m.cpc,m.cpl,m.m.cva,m.m.cvc,m.vl⟩:Ct).v] } } else x.v):=ztB k;have aX:za2 (zo U I) (⟨m.m.cau,m.m.crd,m.m.cba,m.m.cbc,m.cbl,m.m.cpa,m.m.cpc,m.cpl,m.m.cva,m.m.cvc,m.vl⟩:Ct):=⟨aA.c,ay.at'.vot,ay.at'.s6⟩;have aR:Hid (∀ W:World,B_ I W→Calls prog 135 #[P_ x.s 0,?A0] W fun e w'=>∃ v,e=.returned v∧zac W U F o T M x w' (x.v.recall m.c)):=by
   show ∀ W,_;intro W hW;have h2:=X.below hW;have k:=zks x.ls x.ds x.vc x.vd x.s (⟨m.m.cau,m.m.crd,m.m.cba,m.m.cbc,m.cbl,m.m.cpa,m.m.cpc,m.cpl,m.m.cva,m.m.cvc,m.vl⟩:Ct) W h2.stkIn h2.stk.same (zmH h2.inv.dag) ((aX.sub (X.later hW)).sub (zH _ _)) (h2.tabs.sub (zH _ _));dsimp only at k;rw[←hm.at'.e4,←hm.at'.e5,←hm.at'.e6] at k;refine k.mono (fun e w' q=>⟨_,q.told,?_⟩);rw[HM.out];exact h2.inserts q (zrW D.cb D.cp)
  clear k;go_upto_region 11 with fail
  have N:=dB_ I;have ac:=dQ_ R;refine wR_ (S:=fun w'=>R_ w' B (mrow_ m.m) 71) (by kernel_rfl) ac (fun c=>?_);generalize I.drew=l at N ac c ⊢;refine tks_ 4 [(0,49,(P_ F o)),(1,50,(P_ F o)),(2,51,(P_ F (o+6))),(4,53,(P_ B 13))] c ?_;simp only[tkf_,zg];refine tQ_ 5 54 ?A0 rfl rfl (Or.inl ⟨by rfl,fun w0 Z=>by have a8:=zb Z 13 _ rfl;have a9:=zb Z 14 _ rfl;have ba:=zb Z 15 _ rfl;have bb:=zb Z 16 _ rfl;have bc:=zb Z 17 _ rfl;go_simp⟩) c ?_;simp only[zg];refine zE 3 rfl (fun H f=>?_);have k6:=(X.below N).cell 6 _ rfl;refine zw rfl 52 rfl (P_ x.s 0) l (by go_simp) ?_;refine f.out _ _ c (fun c=>?_);simp only[zg];refine zE 6 rfl (fun H f=>?_);refine zj rfl 55 rfl 135 [.tmp 52,.tmp 54] #[96,59] rfl [P_ x.s 0,?A0] rfl (eO_ func135) (fun v w'=>zac l U F o T M x w' (x.v.recall m.c)) ((aR.out l N).mono (fun e w' k=>k)) ?_;rintro v E ⟨U9,au,x9,h9,n9,v9⟩;have ab:=n9.box (X.below N) ac ao.out;refine f.out _ _ ab (fun c=>?_);simp only[zg];clear c;refine wD_ (by kernel_rfl) ?_ _;go_wp2_with fail
  go_end0;exact ⟨⟨_,rfl⟩,U9,au,x9,h9,((NTo.below (F:=F) (o:=o) U M x hA).trans (NTo.below (F:=F) (o:=o) U M x N)).trans n9,v9⟩
def zgW (nu g:Int)(b:BW):Int:=if b.au=nu then max g b.nu else g
def zkw (nu:Int)(l:List BW):Int:=l.foldl (zgW nu) 0
theorem zp1 (b:Int)(l:List BW):zds b l=zkw b l+1:=rfl
theorem zp2 (b:Int)(l:List BW)(i:Nat)(c:i<l.length):zkw b (l.take (i+1))=zgW b (zkw b (l.take i)) l[i]:=by
 rw[tS_ c,zkw,List.foldl_append]
 rfl
theorem zol (f:Int)(l:List BW)(h:∀ b∈l,b.nu≤1048576):∀ g:Int,0≤g∧g≤1048576→0≤l.foldl (zgW f) g∧l.foldl (zgW f) g≤1048576:=by
 induction l with
 | nil=>intro g d;exact d
 | cons b l ih=>
  intro g d;have m:=h b (List.mem_cons_self ..);refine ih (fun c j=>h c (List.mem_cons_of_mem _ j)) (zgW f g b) ?_;rw[zgW]
  split
  ·omega
  ·exact d
theorem zom (x:NM)(w:World)(U:Nat→Bool)(F o:Nat)(T:TypeId)(fc:Array Value)(h:zae w U F o T fc x) :
  Calls prog 98 #[P_ F o] w fun e w'=>e=.returned (I_ (zds x.nu x.v.k.sh))∧B_ w w':=by
 have Z:=h.cell 4 _ rfl;have ab:x.sh.length≤800:=by have:=h.inv.sh;simpa[NM.v,shw] using this
 have D:Hid (x.v.k.sh.length=x.sh.length):=zbS _;go_in;go_wp2_with fail
 go_loopw [11,3] (fun j v wr=>∃ (k:Nat) (E:Int),k≤x.sh.length∧j=I_ k∧v=I_ E∧Hid (E=zkw x.nu (x.v.k.sh.take k))∧B_ w wr) (fun j _ _=>x.sh.length-(intOf j).toNat)
 case atStart=>exact ⟨0,0,nZ_ _,rfl,rfl,rfl,bR_ _ _⟩
 case round=>
  obtain ⟨k,E,hk,rfl,rfl,C,l⟩:=hrel;clear Z;have ac:0≤E∧E≤1048576:=by
   rw[C.out];exact zol x.nu _ (fun b l=>(zgV (h.inv.shf b (List.mem_of_mem_take l))).2.1.2) 0 (by decide)
  by_cases hlt:k<x.sh.length
  ·have ad:(k:Int)<x.sh.length:=by omega
   have L:=h.below l;obtain ⟨sb,so,aa,R,V,X,Y⟩:=L.shs.at k hlt;have I:k<x.v.k.sh.length:=by rw[D.out];exact hlt
   have J:x.v.k.sh[k]=(x.sh[k]).b.v:=by show (shw x.sh)[k]'_=_;simp[shw]
   have q:Hid _:=zp2 x.nu x.v.k.sh k I;rw[J,←C.out] at q;rw[aa];clear I J;generalize x.sh[k]=s at *;refine kO_ ?A0 ?_;exact Obj.cells #[I_ s.b.v.au,I_ s.b.v.nu,.slice s.b.ta s.b.v.ss.length s.b.tc,.slice s.d.sa s.d.bs.length s.d.cap] 137;have z:=zO wr ?A0;have p:=hN_ wr ?A0;go_upto_region 5 with fail
   generalize wr.alloc ?A0=f at z p ⊢;generalize wr.heap.size=B at p ⊢;have A:=zq l z;have h0:=h.below A;have H:=zb p 0 _ rfl;have O:=zb p 1 _ rfl;have M:C_ f F o (I_ x.nu):=h0.cell 0 _ rfl;clear R V X Y L p z;by_cases e:s.b.v.au=x.nu;have y:(s.b.v.au == x.nu)=true:=by simpa using e
   have r:Hid (zgW x.nu E s.b.v=max E s.b.v.nu):=if_pos e
   rotate_left
   have y:(s.b.v.au == x.nu)=false:=by simpa using e
   have r:Hid (zgW x.nu E s.b.v=E):=if_neg e
   rotate_left
   all_goals
    clear e;have d:=dB_ f;have g:=dC_ H;have m:=dC_ M;refine wR_ (S:=fun w'=>C_ w' B 0 (I_ s.b.v.au)∧C_ w' F o (I_ x.nu)) (by kernel_rfl) ⟨g,m⟩ (fun c=>?_);generalize f.drew=G at d g m c ⊢;refine tks_ 8 [(0,15,(P_ B 0)),(1,16,(P_ B 0)),(2,17,I_ s.b.v.au),(3,18,(P_ F o)),(4,19,(P_ F o)),(5,20,(P_ F o)),(6,21,I_ x.nu),(7,22,.bool (s.b.v.au == x.nu))] c ?_;simp only[tkf_,zg];rw[y];clear c;refine wD_ (by kernel_rfl) ?_ _;have t:=zq A d
   ·have k1:C_ G B 1 (I_ s.b.v.nu):=zr d O;by_cases hm:E<s.b.v.nu
    ·have u:Hid (zgW x.nu E s.b.v=s.b.v.nu):=by show _=_;rw[r.out];omega
     have ae:¬s.b.v.nu<E:=by omega
     go_wp2_with fail
     all_goals
      go_roundw
      case rel=>exact ⟨k+1,s.b.v.nu,by omega,by go_num,rfl,by show _=_;rw[q.out,u.out],t⟩
      case measure=>simp[intOf];omega
    ·have u:Hid (zgW x.nu E s.b.v=E):=by show _=_;rw[r.out];omega
     go_wp2_with fail
     all_goals
      go_roundw
      case rel=>exact ⟨k+1,E,by omega,by go_num,rfl,by show _=_;rw[q.out,u.out],t⟩
      case measure=>simp[intOf];omega
   ·go_wp2_with fail
    go_roundw
    case rel=>exact ⟨k+1,E,by omega,by go_num,rfl,by show _=_;rw[q.out,r.out],t⟩
    case measure=>simp[intOf];omega
  ·obtain rfl:k=x.sh.length:=by omega
   have N:Hid (zds x.nu x.v.k.sh=E+1):=by
    show _=_;rw[zp1,C.out,tL_ (by rw[D.out];exact nR_ _)]
   have af:IntKind.i64.wrap (E+1)=E+1:=by rw[IntKind.wrap_i64];omega
   go_wp2_with fail
   go_ret;exact ⟨by rw[N.out];rfl,l⟩
theorem ztC {e:TypeId}{s:Nat}{a:Option Addr}{c:Nat}(h:w.ownsRow base e s (.slice a n c) n xs):n≤c∧c≤maxLen∧(a=none→c=0):=by
 rcases h.2 with ⟨e,l⟩|⟨g,f,j,e,_,_,b,d,_⟩
 ·injection e with e1 e2 e3
  subst e3;exact ⟨by omega,by decide,fun _=>rfl⟩
 ·injection e with e1 e2 e3
  subst e1 e3;exact ⟨b,d,fun g=>by cases g⟩
structure zo3 (w w':World)(e:Ending)(R:Nat)(s:St):Prop where
 out:∃ ta tc,e=.returned (.agg #[I_ (nB 1 s),I_ (nB 3 (nx 1 s)),.slice ta (bN s) tc])∧zas w' ta (bT (nx 1 (bS3 s)) (bN s))∧(∀ sb so,ta=some ⟨sb,so,none⟩→w.heap.size≤sb)∧RdS w' R (bL (nx 1 (bS3 s)) (bN s))∧zaA R w w'∧bN s≤tc∧tc≤maxLen∧(ta=none→tc=0)
theorem ztD (R:Nat)(s:St)(w:World)(hR:RdS w R s)(hs:zbr s) :
  Calls prog 152 #[P_ R 0] w fun e w'=>zo3 w w' e R s:=by
 obtain ⟨i,hi,a3,a4,a5⟩:=info_parts ziW;have ah:R<w.heap.size:=hR.lt;refine kO_ ?A0 ?_;exact Obj.cells #[I_ 0,I_ 0,O_] 62;have hA:=zO w ?A0;have q0:=hN_ w ?A0;have ax:w.heap.size<(w.alloc ?A0).heap.size:=ze q0;have af:zbr (bS3 s):=hs.nx.nx;obtain ⟨aO,aP⟩:=ze0 af;have aE:Hid (((O s:Nat):Int)=nB 1 (bS3 s)):=by show _=_;show ((nB 1 (bS3 s)).toNat:Int)=_;omega
 have a8:O s≤255:=by show (nB 1 (bS3 s)).toNat≤255;omega
 clear aO aP;go_in;go_wp2_with fail
 generalize w.alloc ?A0=W0 at hA q0 ax ⊢;refine (zcQ R 1 s W0 (zao.below hR hA) hs (by omega)).mono ?_;rintro _ w0 ⟨rfl,aH,aS⟩;dsimp only;go_wp2_with fail
 refine (zhw R _ w0 aH hs.nx).mono ?_;rintro _ f ⟨rfl,aI,aT⟩;dsimp only;have ar:=aS.trans aT;have p0:=(ar.block _ ax (by omega)).trans q0;have am:=(zbE (R:=R) hA).trans ar;have aQ:w.heap.size<f.heap.size:=ze p0;generalize hAU':nB 1 s=g at *;generalize hRD':nB 3 (nx 1 s)=l at *;have aB:Hid (nB 1 s=g):=hAU';have aN:Hid (nB 3 (nx 1 s)=l):=hRD';clear hAU' hRD';go_upto_region 2 with fail
 refine kO_ ?B0 ?_;exact Obj.cells #[I_ g,I_ l,O_] 62;have ac:=zO f ?B0;have qC:=hN_ f ?B0;have Z:f.heap.size<(f.alloc ?B0).heap.size:=ze qC;generalize ak:f.heap.size=c at qC Z ⊢;generalize f.alloc ?B0=D at ac qC Z ⊢;have aj:Hid (f.heap.size=c):=ak;have aM:R<c:=by omega
 have ba:w.heap.size<c:=by omega
 clear ak;have hN:=zcQ R 1 (bS3 s) D (zao.below aI ac) af (by omega);rw[←aE.out] at hN;go_wp2_with fail
 refine hN.mono ?_;rintro _ w2 ⟨rfl,aJ,ai⟩;dsimp only;clear hN;have p2:=(ai.block _ Z (by omega)).trans qC;have aG:zaA R f w2:=(zbE ac).trans ai;have ap:zbr (nx 1 (bS3 s)):=af.nx;generalize aw:nx 1 (bS3 s)=b at *;generalize ao:O s=N at *;have az:Hid (nx 1 (bS3 s)=b):=aw;have HK:Hid (O s=N):=ao;clear aw ao;go_upto_region 3 with fail
 go_loopw [11] (fun j wr=>∃ (k:Nat) (d:Value),k≤N∧j=I_ k∧wr.ownsRow D.heap.size 9 1 d k (sv (bT b k))∧R_ wr c #[I_ g,I_ l,d] 62∧RdS wr R (bL b k)∧zaA R f wr∧D.heap.size≤wr.heap.size) (fun j _=>N-(intOf j).toNat)
 case atStart=>exact ⟨0,O_,nZ_ _,rfl,oN_ _ _ _ _,p2,aJ,aG,ai.size⟩
 case round=>
  obtain ⟨k,d,hk,rfl,G,o,ad,Y,aZ⟩:=hrel;by_cases hltk:k<N;refine K_ (?C0:St) ?_;exact nx 1 (bL b k);refine K_ (?D0:Int) ?_;exact nB 1 (bL b k)
  ·have aR:(k:Int)<N:=by omega
   have ag:=zoM ap k;have aF:=zcQ R 1 (bL b k) wr.drew (zao.below ad ((bR_ _ _).drew)) ag (by omega);obtain ⟨bb,bc⟩:=ze0 ag;have aX:Hid (bT b (k+1)=bT b k++[zaf (tT (?D0).toNat ?C0)]):=rfl;have aY:Hid (bL b (k+1)=nx (?D0).toNat ?C0):=rfl;have aA:Hid (∀ W:World,RdS W R ?C0→Calls prog 192 #[P_ R 0,I_ ?D0] W fun e w'=>zgg W w' e R (tT (?D0).toNat ?C0) (nx (?D0).toNat ?C0).1 (nx (?D0).toNat ?C0).2):=by
    show ∀ _,_;intro W hW;have h:=ziq R (?D0).toNat (?C0).1 (?C0).2 W hW ag.nx.len (by omega);rw[show (((?D0).toNat:Nat):Int)=nB 1 (bL b k) by omega] at h;exact h
   have aC:Hid (∀ M w,(callFunc 151 M).run prog w=.ok (.enter 151 M) w):=eO_ func151;have aD:Hid (∀ M w,(callFunc 192 M).run prog w=.ok (.enter 192 M) w):=eO_ func192;have al:c<wr.heap.size:=ze o;have aq:c≠R:=by omega
   have c4:C_ wr c 2 d:=zb o 2 _ rfl;have a6:C_ wr.drew c 2 d:=c4;generalize tT (?D0).toNat ?C0=C at *;generalize nx (?D0).toNat ?C0=s7 at *;generalize nB 1 (bL b k)=X at *;generalize nx 1 (bL b k)=s6 at *;have a0:d.ownBlock≠some c:=fun e=>by have:=(G.lt _ e).1;omega
   go_wp2_with fail
   go_region_law (first
    | (refine zc5 rfl 151 _ _ rfl [P_ R 0,I_ 1] rfl aC.out (fun u p=>u=I_ X∧RdS p R s6∧zaA R wr p) (aF.mono (fun e p ⟨m,h1,h2⟩=>⟨_,m,rfl,h1,zit h2⟩)) ?_;rintro u w4 ⟨rfl,aK,au⟩;have v4:=(au.block _ al aq).trans o;have b4:C_ w4 c 2 d:=zb v4 2 _ rfl)
    | (refine zc5 rfl 192 _ _ rfl [P_ R 0,I_ X] rfl aD.out (fun u p=>∃ I J,u=.slice I C.length J∧zf p I J C∧RdS p R s7∧zaA R w4 p) ((aA.out w4 aK).mono (fun e p h=>by obtain ⟨I,J,m,h1,_,h2,h3⟩:=h.out;exact ⟨_,m,I,J,rfl,h1,h2,h3⟩)) ?_;rintro u L ⟨I,J,rfl,aW,an,aU⟩;have V:=au.trans aU;have v5:=(V.block _ al aq).trans o;have d4:C_ L c 2 d:=zb v5 2 _ rfl;have a7:(L.alloc (.cells #[.string (zaf C)] 9)).cell? ⟨c,2,none⟩=some d:=zb (zP v5) 2 _ rfl;have aV:=zir G V (by omega);have a2:D.heap.size≤L.heap.size:=nT_ aZ V.size;have a9:=zf9 L I _ J C rfl aW)
    | (refine zbZ rfl _ _ 40 rfl D.heap.size 9 i (.string ByteArray.empty) 1 16 underlying40 hi a3 a4 a5 rfl (by decide) d k (sv (bT b k)) rfl (oA_ aV _) ⟨L.heap.size,0,none⟩ 1 1 [.string (zaf C)] rfl rfl (z8 _ _ _) (by intro u hu;simp at hu;subst hu;rfl) (by unfold maxLen;omega) (by omega) (zz a2 _) ?_;intro v6 w6 av G6;have x5:=G6.row (zP v5) a0;have bd:=zb x5 2 _ rfl;have be:=zd x5 2;obtain ⟨fa,fc,a1⟩:=zC av;subst a1))
   all_goals
    have t:=G6.grown;have F:=zO L (.cells #[.string (zaf C)] 9);have y:=Y.trans V;have ay:∀ q,d.ownBlock=some q→D.heap.size≤q:=fun q e=>(G.lt q e).1;have T:zaA R f w6:=by
     refine ⟨t.os.trans y.os,t.tape.trans y.tape,t.output.trans y.output,nT_ y.size (nT_ F.size t.size),fun q H U=>?_⟩;have:=aj.out;exact (t.block q (by have:=F.size;have:=y.size;omega) (fun e=>by have:=ay q e.symm;omega)).trans ((F.block q (by have:=y.size;omega)).trans (y.block q H U))
    have aL:RdS w6 R s7:=(zao.below an F).stays (fun q H=>t.block q (by have:=F.size;have:=zao.lt an;omega) (fun e=>by have:=ay q e.symm;omega));go_wp2_with fail
    go_roundw
    case rel=>
     refine ⟨k+1,.slice fa (k+1) fc,by omega,by go_num,?_,by simpa using hS_ _ _ 2 _ _ (.slice fa (k+1) fc) x5,?_,?_,?_⟩
     ·rw[aX.out];have h:=zN av c 2 (.slice fa (k+1) fc) Z
      simpa[sv] using h
     ·rw[aY.out];exact zao.far aL aM
     ·have:=aj.out;exact ⟨T.os,T.tape,T.output,by simpa using T.size,fun q H U=>(hO_ _ ⟨c,2,none⟩ q _ (by show q≠c;omega)).trans (T.block q H U)⟩
     ·have:=F.size;have:=t.size
      simp
      omega
    case measure=>simp[intOf];omega
  ·obtain rfl:k=N:=by omega
   have aR:¬(k:Int)<k:=by omega
   obtain ⟨z,A,hv,-,hI,ae⟩:=zfk G (zuC ap k);subst hv;have B:=(Y.block _ aQ (by omega)).trans p0;have E:=am.trans Y;have c0:=zb o 0 _ rfl;have c1:=zb o 1 _ rfl;have c2:=zb o 2 _ rfl;have d0:=zb B 0 _ rfl;have d1:=zb B 1 _ rfl;have d2:=zb B 2 _ rfl;have f0:=zd B 0;have f1:=zd B 1;have f2:=zd B 2;have aa:Hid (O s≤A∧A≤maxLen∧(z=none→A=0)):=by
    rw[HK.out];exact ztC G
   have r:Hid (nB 1 s=g∧nB 3 (nx 1 s)=l∧O s=k∧nx 1 (bS3 s)=b):=⟨aB.out,aN.out,HK.out,az.out⟩;have hX:Hid (zo3 w (((wr.setCell ⟨w.heap.size,0,none⟩ (I_ g)).setCell ⟨w.heap.size,1,none⟩ (I_ l)).setCell ⟨w.heap.size,2,none⟩ (.slice z k A)) (.returned (.agg #[I_ g,I_ l,.slice z k A])) R s):=by
    have ab:∀ (W:World) (j:Nat) (v:Value),zas W z (bT b k)→zas (W.setCell ⟨w.heap.size,j,none⟩ v) z (bT b k):=fun W j v h=>zq5 (R:=w.heap.size) h ((zaA.refl _ W).setCell) (fun sb so e e2=>by have:=ae sb so e;omega);refine ⟨z,A,?_,?_,(fun sb so e=>by have:=ae sb so e;omega),?_,?_,aa.out.1,aa.out.2.1,aa.out.2.2⟩
    ·rw[r.out.1,r.out.2.1,r.out.2.2.1]
    ·rw[r.out.2.2.1,r.out.2.2.2];exact ab _ _ _ (ab _ _ _ (ab _ _ _ hI))
    ·rw[r.out.2.2.1,r.out.2.2.2];exact zao.far (zao.far (zao.far ad ah) ah) ah
    ·exact ⟨E.os,E.tape,E.output,by simpa using E.size,fun q H U=>(hO_ _ ⟨w.heap.size,2,none⟩ q _ (by show q≠w.heap.size;omega)).trans ((hO_ _ ⟨w.heap.size,1,none⟩ q _ (by show q≠w.heap.size;omega)).trans ((hO_ _ ⟨w.heap.size,0,none⟩ q _ (by show q≠w.heap.size;omega)).trans (E.block q H U)))⟩
   clear hI ae ad Y E am G B o;go_wp2_with fail
   exact bP_ (v:=.agg #[I_ g,I_ l,.slice z k A]) (by simp[results,results152,go_sem,d0,d1,d2]) rfl hX.out
end Go.Proofs.YtdepbohhmfkjgaaGreatDoor
