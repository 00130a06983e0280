import Derived.Test.YtdepbohhmfkjgaaGreatDoorPk13
set_option maxRecDepth 100000
set_option maxHeartbeats 4000000
namespace Go.Proofs.YtdepbohhmfkjgaaGreatDoor
open Go.RowKit Tryz
theorem zl4 (m:Msg)(ss:List ByteArray)(w:World)(p:m.ki=1)(A:0≤m.fr∧m.fr<4)(H:0≤m.tt∧m.tt<4)(y:0≤m.bau∧m.bau<4)(E:0≤m.bnu∧m.bnu≤1048576)(r:m.btn=ss.length)(B:ss.length≤4)(I:∀ s∈ss,s.size≤20)(F:zas w m.bta ss)(G:∀ f g,m.bta=some ⟨f,g,none⟩→f<w.heap.size)
  (o:∀ b,B_ w b→Calls prog 31 #[.agg #[I_ m.fr,I_ m.tt,I_ m.ki,I_ m.bau,I_ m.bnu,.slice m.bta m.btn m.btc,I_ m.hau,I_ m.hrd,.slice m.hba m.hbn m.hbc,.slice m.hpa m.hpn m.hpc,I_ m.sau,I_ m.srd,.slice m.sda m.sdn m.sdc,I_ m.cau,I_ m.crd,.slice m.cba m.cbn m.cbc,.slice m.cpa m.cpn m.cpc,.slice m.cva m.cvn m.cvc,I_ m.ro]] b fun e w'=>e=.returned (I_ 0)∧B_ b w') :
  Calls prog 22 #[.agg #[I_ m.fr,I_ m.tt,I_ m.ki,I_ m.bau,I_ m.bnu,.slice m.bta m.btn m.btc,I_ m.hau,I_ m.hrd,.slice m.hba m.hbn m.hbc,.slice m.hpa m.hpn m.hpc,I_ m.sau,I_ m.srd,.slice m.sda m.sdn m.sdc,I_ m.cau,I_ m.crd,.slice m.cba m.cbn m.cbc,.slice m.cpa m.cpn m.cpc,.slice m.cva m.cvn m.cvc,I_ m.ro]] w fun e w'=>∃ v,e=.returned (.tuple #[v,I_ 0])∧w'.ownsRow w.heap.size 5 1 v (3+(zbK m.bau m.bnu ss).length) (ub ([1,m.fr,m.tt]++zbK m.bau m.bnu ss))∧B_ w w':=by
 refine kO_ ?A0 ?_;exact Obj.cells #[I_ m.fr,I_ m.tt,I_ m.ki,I_ m.bau,I_ m.bnu,.slice m.bta m.btn m.btc,I_ m.hau,I_ m.hrd,.slice m.hba m.hbn m.hbc,.slice m.hpa m.hpn m.hpc,I_ m.sau,I_ m.srd,.slice m.sda m.sdn m.sdc,I_ m.cau,I_ m.crd,.slice m.cba m.cbn m.cbc,.slice m.cpa m.cpn m.cpc,.slice m.cva m.cvn m.cvc,I_ m.ro] 71;have t:=hN_ w ?A0;have j:=zO w ?A0;rw[p] at o t j ⊢;obtain ⟨U,V⟩:=A;obtain ⟨Y,Z⟩:=H;have u:Hid (m.btn=ss.length):=r;clear r p;go_in;go_wp2_with (refine wpList_load_row rfl 71 _ rfl w.heap.size rfl 71 _ (0,0) _ t underlying71 rfl zch ?_)
 refine (o _ j).mono ?_;rintro e b ⟨rfl,c⟩;have d:=zbN c;replace c:=zV c;have L:=zb d 0 (I_ m.fr) rfl;have M:=zb d 1 (I_ m.tt) rfl;have N:=zb d 2 (I_ 1) rfl;have O:=zb d 3 (I_ m.bau) rfl;have R:=zb d 4 (I_ m.bnu) rfl;have T:=zb d 5 (.slice m.bta m.btn m.btc) rfl;have X:w.heap.size<b.heap.size:=ze d;have C:=World.ownsRow_lit (base:=b.heap.size) (e:=5) (size:=1) b (ub [1,m.fr,m.tt]).toArray 3 (nR_ _) (by decide) rfl;go_wp2_with fail
 refine (zgy b.heap.size _ 3 [1,m.fr,m.tt] m.bau m.bnu m.bta m.btn m.btc ss _ y E u.out B I ?_ ?_ ?_ (zz (nR_ _) _) (by decide)).mono ?_
 ·exact (F.below c).below ((bR_ _ _).alloc (nR_ _) _)
 ·intro f g e;have:=G f g e;refine ⟨by rw[zI];omega,fun h=>?_⟩;simp[Value.ownBlock] at h;omega
 ·exact C
 rintro e w2 ⟨J,rfl,D,l⟩;have z:=l.below (base:=b.heap.size) (zz (nR_ _) _) (fun q e=>by cases e;exact nR_ _);clear l;go_wp2_with fail
 go_ret2;refine ⟨J,rfl,ownsRow_base' D c.size,?_⟩;exact (c.alloc c.size _).trans (z.mono c.size)
theorem zkV (m:Msg)(bl pl:List zi)(w:World)(A:m.ki=2)(J:0≤m.fr∧m.fr<4)(T:0≤m.tt∧m.tt<4)(F:0≤m.hau∧m.hau<4)(R:0≤m.hrd∧m.hrd≤1048576)(y:m.hbn=bl.length)(B:m.hpn=pl.length)(I:bl.length≤4)(O:pl.length≤4)(H:∀ p∈bl,p.bs.length=32)(N:∀ p∈pl,p.bs.length=32)(t:zy w m.hba m.hbc bl)(u:zy w m.hpa m.hpc pl)
  (z:∀ b,B_ w b→Calls prog 31 #[.agg #[I_ m.fr,I_ m.tt,I_ m.ki,I_ m.bau,I_ m.bnu,.slice m.bta m.btn m.btc,I_ m.hau,I_ m.hrd,.slice m.hba m.hbn m.hbc,.slice m.hpa m.hpn m.hpc,I_ m.sau,I_ m.srd,.slice m.sda m.sdn m.sdc,I_ m.cau,I_ m.crd,.slice m.cba m.cbn m.cbc,.slice m.cpa m.cpn m.cpc,.slice m.cva m.cvn m.cvc,I_ m.ro]] b fun e w'=>e=.returned (I_ 0)∧B_ b w') :
  Calls prog 22 #[.agg #[I_ m.fr,I_ m.tt,I_ m.ki,I_ m.bau,I_ m.bnu,.slice m.bta m.btn m.btc,I_ m.hau,I_ m.hrd,.slice m.hba m.hbn m.hbc,.slice m.hpa m.hpn m.hpc,I_ m.sau,I_ m.srd,.slice m.sda m.sdn m.sdc,I_ m.cau,I_ m.crd,.slice m.cba m.cbn m.cbc,.slice m.cpa m.cpn m.cpc,.slice m.cva m.cvn m.cvc,I_ m.ro]] w fun e w'=>∃ v,e=.returned (.tuple #[v,I_ 0])∧w'.ownsRow w.heap.size 5 1 v (3+(zaQ m.hau m.hrd bl pl).length) (ub ([2,m.fr,m.tt]++zaQ m.hau m.hrd bl pl))∧B_ w w':=by
 refine kO_ ?A0 ?_;exact Obj.cells #[I_ m.fr,I_ m.tt,I_ m.ki,I_ m.bau,I_ m.bnu,.slice m.bta m.btn m.btc,I_ m.hau,I_ m.hrd,.slice m.hba m.hbn m.hbc,.slice m.hpa m.hpn m.hpc,I_ m.sau,I_ m.srd,.slice m.sda m.sdn m.sdc,I_ m.cau,I_ m.crd,.slice m.cba m.cbn m.cbc,.slice m.cpa m.cpn m.cpc,.slice m.cva m.cvn m.cvc,I_ m.ro] 71;have C:=hN_ w ?A0;have o:=zO w ?A0;rw[A] at z C o ⊢;obtain ⟨aa,ab⟩:=J;obtain ⟨ad,ae⟩:=T;have D:Hid (m.hbn=bl.length):=y;have E:Hid (m.hpn=pl.length):=B;clear y B A;go_in;go_wp2_with (refine wpList_load_row rfl 71 _ rfl w.heap.size rfl 71 _ (0,0) _ C underlying71 rfl zch ?_)
 refine (z _ o).mono ?_;rintro e b ⟨rfl,c⟩;have d:=zbN c;replace c:=zV c;have X:=zb d 0 (I_ m.fr) rfl;have Y:=zb d 1 (I_ m.tt) rfl;have Z:=zb d 2 (I_ 2) rfl;have c6:=zb d 6 (I_ m.hau) rfl;have c7:=zb d 7 (I_ m.hrd) rfl;have c8:=zb d 8 (.slice m.hba m.hbn m.hbc) rfl;have c9:=zb d 9 (.slice m.hpa m.hpn m.hpc) rfl;have ac:w.heap.size<b.heap.size:=ze d;have L:=World.ownsRow_lit (base:=b.heap.size) (e:=5) (size:=1) b (ub [2,m.fr,m.tt]).toArray 3 (nR_ _) (by decide) rfl;have l:=zO b (.cells (ub [2,m.fr,m.tt]).toArray 5);have f:∀ (j:Option Addr) (rc:Nat) (g:List zi),zy w j rc g→zeE (b.alloc (.cells (ub [2,m.fr,m.tt]).toArray 5)) (.slice (some ⟨b.heap.size,0,none⟩) 3 3) j g:=fun j rc g h=>
  zih (h.below c) (zz (nR_ _) _) (fun U hl e=>by have e':b.heap.size=U:=(by simpa[Value.ownBlock] using e);omega)
 have s:=zfe b.heap.size (.slice (some ⟨b.heap.size,0,none⟩) 3 3) 3 [2,m.fr,m.tt] m.hau m.hrd m.hba m.hbn m.hbc bl m.hpa m.hpn m.hpc pl _ F R D.out E.out I O H N ((t.below c).below l) (f _ _ _ t) ((u.below c).below l) (f _ _ _ u) L (zz (nR_ _) _) (by decide);clear f;go_wp2_with fail
 refine s.mono ?_;rintro e w2 ⟨V,rfl,M,r⟩;have G:=r.below (base:=b.heap.size) (zz (nR_ _) _) (fun q e=>by cases e;exact nR_ _);clear r s;go_wp2_with fail
 go_ret2;refine ⟨V,rfl,ownsRow_base' M c.size,?_⟩;exact (c.alloc c.size _).trans (G.mono c.size)
theorem zkW (base:Nat)(v:Value)(k:Nat)(bs:List Int)(au rd:Int)(c:Option Addr)(n j:Nat)(ds:List Int)(w:World)(F:0≤au∧au<4)(M:0≤rd∧rd≤1048576)(H:n=ds.length)(N:zf w c j ds)(r:∀ b d,c=some ⟨b,d,none⟩→b<w.heap.size∧v.ownBlock≠some b)
  (A:w.ownsRow base 5 1 v k (ub bs)) (q:base≤w.heap.size) (hk:k≤90000) (ac:n≤4000) :
  Calls prog 34 #[v,.agg #[I_ au,I_ rd,.slice c n j]] w fun e w'=>∃ s,e=.returned s∧w'.ownsRow base 5 1 s (k+1+3+n) (ub (bs++[au]++rd3 rd++ds))∧zR w v w' s:=by
 subst H;obtain ⟨i,G,V,X,Y⟩:=info_parts zdI;obtain ⟨aa,ab⟩:=F;have C:v.ownBlock≠some w.heap.size:=fun e=>by have:=(A.lt _ e).2;omega
 go_in;go_wp2_with (at_builtin;refine wpList_append_own_at _ rfl _ _ 64 rfl base 5 i (.int .u8 0) 1 1 underlying64 G V X Y rfl (by decide) _ k _ rfl (oA_ (oA_ A _) _) ⟨w.heap.size+1,0,none⟩ 1 1 [.int .u8 au] rfl rfl (by have:=z8 (w.alloc (.cells #[I_ au,I_ rd,.slice c ds.length j] 66)) [.int .u8 au] 5;rw[zI] at this;exact this) (zcU [_]) (by unfold maxLen;omega) (by omega) (zz (zz q _) _) ?_;intro m o B z _ y;have f:=zR.of z y;have l:=f.row (hX_ w _ _) C;have E:C_ o w.heap.size 1 (I_ rd):=zb l 1 _ rfl)
 have I:o.ownsRow base 5 1 m (k+1) (ub (bs++[au])):=by simpa[ub] using B
 have ad:w.heap.size<o.heap.size:=ze l;have U:m.ownBlock≠some w.heap.size:=fun e=>by
  rcases f.fresh _ e with g|g
  ·exact C g
  ·rw[zI,zI] at g;omega
 have O:zf o c j ds:=f.slice (N.below (((bR_ _ _).alloc (nR_ _) _).alloc (by simp) _)) (fun b d e=>(r b d e).2);have T:∀ b d,c=some ⟨b,d,none⟩→m.ownBlock≠some b:=fun b d e h=>by
  rcases f.fresh _ h with g|g
  ·exact (r b d e).2 g
  ·have:=(r b d e).1;rw[zI,zI] at g;omega
 have t:=f.alloc.alloc;clear B z y f;refine (zdS base m (k+1) _ rd _ M I (nT_ q t.grown.size) (by omega)).mono ?_;rintro e w2 ⟨v2,rfl,J,p⟩;have Z:=p.row l U;have c2:=zb Z 2 (.slice c ds.length j) rfl;have R:=p.slice O T;have u:=t.trans p;clear l E;go_wp2_with (at_builtin;refine zeJ rfl _ _ rfl base v2 (k+1+3) _ rfl J c ds.length j ds rfl rfl R (by omega) (nT_ q u.grown.size) ?_;intro v3 w3 L D)
 go_ret;exact ⟨v3,rfl,L,u.trans D⟩
theorem zn4 (m:Msg)(ds:List Int)(w:World)(y:m.ki=3)(u:0≤m.fr∧m.fr<4)(G:0≤m.tt∧m.tt<4)(s:0≤m.sau∧m.sau<4)(D:0≤m.srd∧m.srd≤1048576)(o:m.sdn=ds.length)(A:m.sdn≤4000)(E:zf w m.sda m.sdc ds)(F:∀ f g,m.sda=some ⟨f,g,none⟩→f<w.heap.size)
  (l:∀ b,B_ w b→Calls prog 31 #[.agg #[I_ m.fr,I_ m.tt,I_ m.ki,I_ m.bau,I_ m.bnu,.slice m.bta m.btn m.btc,I_ m.hau,I_ m.hrd,.slice m.hba m.hbn m.hbc,.slice m.hpa m.hpn m.hpc,I_ m.sau,I_ m.srd,.slice m.sda m.sdn m.sdc,I_ m.cau,I_ m.crd,.slice m.cba m.cbn m.cbc,.slice m.cpa m.cpn m.cpc,.slice m.cva m.cvn m.cvc,I_ m.ro]] b fun e w'=>e=.returned (I_ 0)∧B_ b w') :
  Calls prog 22 #[.agg #[I_ m.fr,I_ m.tt,I_ m.ki,I_ m.bau,I_ m.bnu,.slice m.bta m.btn m.btc,I_ m.hau,I_ m.hrd,.slice m.hba m.hbn m.hbc,.slice m.hpa m.hpn m.hpc,I_ m.sau,I_ m.srd,.slice m.sda m.sdn m.sdc,I_ m.cau,I_ m.crd,.slice m.cba m.cbn m.cbc,.slice m.cpa m.cpn m.cpc,.slice m.cva m.cvn m.cvc,I_ m.ro]] w fun e w'=>∃ v,e=.returned (.tuple #[v,I_ 0])∧w'.ownsRow w.heap.size 5 1 v (3+1+3+m.sdn) (ub ([3,m.fr,m.tt]++[m.sau]++rd3 m.srd++ds))∧B_ w w':=by
 rw[y] at l ⊢;obtain ⟨R,T⟩:=u;obtain ⟨V,X⟩:=G;refine kA_ ?A0 ?_;exact #[I_ m.fr,I_ m.tt,I_ 3,I_ m.bau,I_ m.bnu,.slice m.bta m.btn m.btc,I_ m.hau,I_ m.hrd,.slice m.hba m.hbn m.hbc,.slice m.hpa m.hpn m.hpc,I_ m.sau,I_ m.srd,.slice m.sda m.sdn m.sdc,I_ m.cau,I_ m.crd,.slice m.cba m.cbn m.cbc,.slice m.cpa m.cpn m.cpc,.slice m.cva m.cvn m.cvc,I_ m.ro];have C:=hN_ w (.cells ?A0 71);have r:=zO w (.cells ?A0 71);have p:Hid (m.sdn=ds.length):=o;clear o;go_in;go_wp2_with (refine wpList_load_row rfl 71 _ rfl w.heap.size rfl 71 ?A0 (0,0) _ C underlying71 rfl zch ?_)
 refine (l _ r).mono ?_;rintro e b ⟨rfl,c⟩;have d:=zbN c;replace c:=zV c;have I:=zb d 0 (I_ m.fr) rfl;have J:=zb d 1 (I_ m.tt) rfl;have O:=zb d 2 (I_ 3) rfl;have L:=zb d 10 (I_ m.sau) rfl;have M:=zb d 11 (I_ m.srd) rfl;have N:=zb d 12 (.slice m.sda m.sdn m.sdc) rfl;have U:w.heap.size<b.heap.size:=ze d;have z:=World.ownsRow_lit (base:=b.heap.size) (e:=5) (size:=1) b (ub [3,m.fr,m.tt]).toArray 3 (nR_ _) (by decide) rfl;go_wp2_with fail
 refine (zkW b.heap.size _ 3 [3,m.fr,m.tt] m.sau m.srd m.sda m.sdn m.sdc ds _ s D p.out ?_ ?_ ?_ (zz (nR_ _) _) (by decide) A).mono ?_
 ·exact (E.below c).below ((bR_ _ _).alloc (nR_ _) _)
 ·intro f g e;have:=F f g e;refine ⟨by rw[zI];omega,fun h=>?_⟩;simp[Value.ownBlock] at h;omega
 ·exact z
 rintro e w2 ⟨H,rfl,B,j⟩;have t:=j.below (base:=b.heap.size) (zz (nR_ _) _) (fun q e=>by cases e;exact nR_ _);clear j;go_wp2_with fail
 go_ret2;refine ⟨H,rfl,ownsRow_base' B c.size,?_⟩;exact (c.alloc c.size _).trans (t.mono c.size)
theorem zkX (m:Msg)(bl pl:List zi)(vl:List Int)(w:World)(D:m.ki=4)(T:0≤m.fr∧m.fr<4)(ht:0≤m.tt∧m.tt<4)(M:0≤m.cau∧m.cau<4)(Z:0≤m.crd∧m.crd≤1048576)(B:m.cbn=bl.length)(E:m.cpn=pl.length)(R:bl.length≤4)(Y:pl.length≤4)(O:∀ p∈bl,p.bs.length=32)(X:∀ p∈pl,p.bs.length=32)(z:zy w m.cba m.cbc bl)(A:zy w m.cpa m.cpc pl)(G:m.cvn=vl.length)(ac:vl.length≤4)(aa:∀ x∈vl,0≤x∧x<4)(L:zav w m.cva vl)(ab:∀ f s,m.cva=some ⟨f,s,none⟩→f<w.heap.size)
  (C:∀ b,B_ w b→Calls prog 31 #[.agg #[I_ m.fr,I_ m.tt,I_ m.ki,I_ m.bau,I_ m.bnu,.slice m.bta m.btn m.btc,I_ m.hau,I_ m.hrd,.slice m.hba m.hbn m.hbc,.slice m.hpa m.hpn m.hpc,I_ m.sau,I_ m.srd,.slice m.sda m.sdn m.sdc,I_ m.cau,I_ m.crd,.slice m.cba m.cbn m.cbc,.slice m.cpa m.cpn m.cpc,.slice m.cva m.cvn m.cvc,I_ m.ro]] b fun e w'=>e=.returned (I_ 0)∧B_ b w') :
  Calls prog 22 #[.agg #[I_ m.fr,I_ m.tt,I_ m.ki,I_ m.bau,I_ m.bnu,.slice m.bta m.btn m.btc,I_ m.hau,I_ m.hrd,.slice m.hba m.hbn m.hbc,.slice m.hpa m.hpn m.hpc,I_ m.sau,I_ m.srd,.slice m.sda m.sdn m.sdc,I_ m.cau,I_ m.crd,.slice m.cba m.cbn m.cbc,.slice m.cpa m.cpn m.cpc,.slice m.cva m.cvn m.cvc,I_ m.ro]] w fun e w'=>∃ v,e=.returned (.tuple #[v,I_ 0])∧w'.ownsRow w.heap.size 5 1 v (3+(zdW m.cau m.crd bl pl vl).length) (ub ([4,m.fr,m.tt]++zdW m.cau m.crd bl pl vl))∧B_ w w':=by
 refine kO_ ?A0 ?_;exact Obj.cells #[I_ m.fr,I_ m.tt,I_ m.ki,I_ m.bau,I_ m.bnu,.slice m.bta m.btn m.btc,I_ m.hau,I_ m.hrd,.slice m.hba m.hbn m.hbc,.slice m.hpa m.hpn m.hpc,I_ m.sau,I_ m.srd,.slice m.sda m.sdn m.sdc,I_ m.cau,I_ m.crd,.slice m.cba m.cbn m.cbc,.slice m.cpa m.cpn m.cpc,.slice m.cva m.cvn m.cvc,I_ m.ro] 71;have F:=hN_ w ?A0;have t:=zO w ?A0;rw[D] at C F t ⊢;obtain ⟨ai,aj⟩:=T;obtain ⟨al,am⟩:=ht;have H:Hid (m.cbn=bl.length):=B;have I:Hid (m.cpn=pl.length):=E;have J:Hid (m.cvn=vl.length):=G;clear B E G D;go_in;go_wp2_with (refine wpList_load_row rfl 71 _ rfl w.heap.size rfl 71 _ (0,0) _ F underlying71 rfl zch ?_)
 refine (C _ t).mono ?_;rintro e b ⟨rfl,c⟩;have d:=zbN c;replace c:=zV c;have c0:=zb d 0 (I_ m.fr) rfl;have c1:=zb d 1 (I_ m.tt) rfl;have c2:=zb d 2 (I_ 4) rfl;have ad:=zb d 13 (I_ m.cau) rfl;have ae:=zb d 14 (I_ m.crd) rfl;have af:=zb d 15 (.slice m.cba m.cbn m.cbc) rfl;have ag:=zb d 16 (.slice m.cpa m.cpn m.cpc) rfl;have ah:=zb d 17 (.slice m.cva m.cvn m.cvc) rfl;have ak:w.heap.size<b.heap.size:=ze d;have U:=World.ownsRow_lit (base:=b.heap.size) (e:=5) (size:=1) b (ub [4,m.fr,m.tt]).toArray 3 (nR_ _) (by decide) rfl;have j:=zO b (.cells (ub [4,m.fr,m.tt]).toArray 5);have l:∀ (r:Option Addr) (rc:Nat) (o:List zi),zy w r rc o→zeE (b.alloc (.cells (ub [4,m.fr,m.tt]).toArray 5)) (.slice (some ⟨b.heap.size,0,none⟩) 3 3) r o:=fun r rc o h=>
  zih (h.below c) (zz (nR_ _) _) (fun f hl e=>by have e':b.heap.size=f:=(by simpa[Value.ownBlock] using e);omega)
 have y:=zmQ b.heap.size (.slice (some ⟨b.heap.size,0,none⟩) 3 3) 3 [4,m.fr,m.tt] m.cau m.crd m.cba m.cbn m.cbc bl m.cpa m.cpn m.cpc pl m.cva m.cvn m.cvc vl _ M Z H.out I.out J.out R Y ac O X aa ((z.below c).below j) (l _ _ _ z) ((A.below c).below j) (l _ _ _ A) ((L.below c).below j) (fun f s e=>by have g:=ab f s e;refine ⟨by rw[zI];omega,fun h=>?_⟩;have h':b.heap.size=f:=(by simpa[Value.ownBlock] using h);omega) U (zz (nR_ _) _) (by decide);clear l;go_wp2_with fail
 refine y.mono ?_;rintro e w2 ⟨v2,rfl,V,u⟩;have N:=u.below (base:=b.heap.size) (zz (nR_ _) _) (fun q e=>by cases e;exact nR_ _);clear u y;go_wp2_with fail
 go_ret2;refine ⟨v2,rfl,ownsRow_base' V c.size,?_⟩;exact (c.alloc c.size _).trans (N.mono c.size)
theorem zn5 (m:Msg)(w:World)(p:m.ki=5)(o:0≤m.fr∧m.fr<4)(y:0≤m.tt∧m.tt<4)(u:0≤m.ro∧m.ro≤1048576)
  (g:∀ b,B_ w b→Calls prog 31 #[.agg #[I_ m.fr,I_ m.tt,I_ m.ki,I_ m.bau,I_ m.bnu,.slice m.bta m.btn m.btc,I_ m.hau,I_ m.hrd,.slice m.hba m.hbn m.hbc,.slice m.hpa m.hpn m.hpc,I_ m.sau,I_ m.srd,.slice m.sda m.sdn m.sdc,I_ m.cau,I_ m.crd,.slice m.cba m.cbn m.cbc,.slice m.cpa m.cpn m.cpc,.slice m.cva m.cvn m.cvc,I_ m.ro]] b fun e w'=>e=.returned (I_ 0)∧B_ b w') :
  Calls prog 22 #[.agg #[I_ m.fr,I_ m.tt,I_ m.ki,I_ m.bau,I_ m.bnu,.slice m.bta m.btn m.btc,I_ m.hau,I_ m.hrd,.slice m.hba m.hbn m.hbc,.slice m.hpa m.hpn m.hpc,I_ m.sau,I_ m.srd,.slice m.sda m.sdn m.sdc,I_ m.cau,I_ m.crd,.slice m.cba m.cbn m.cbc,.slice m.cpa m.cpn m.cpc,.slice m.cva m.cvn m.cvc,I_ m.ro]] w fun e w'=>∃ v,e=.returned (.tuple #[v,I_ 0])∧w'.ownsRow w.heap.size 5 1 v 6 (ub ([5,m.fr,m.tt]++rd3 m.ro))∧B_ w w':=by
 rw[p] at g ⊢;obtain ⟨E,F⟩:=o;obtain ⟨H,I⟩:=y;refine kA_ ?A0 ?_;exact #[I_ m.fr,I_ m.tt,I_ 5,I_ m.bau,I_ m.bnu,.slice m.bta m.btn m.btc,I_ m.hau,I_ m.hrd,.slice m.hba m.hbn m.hbc,.slice m.hpa m.hpn m.hpc,I_ m.sau,I_ m.srd,.slice m.sda m.sdn m.sdc,I_ m.cau,I_ m.crd,.slice m.cba m.cbn m.cbc,.slice m.cpa m.cpn m.cpc,.slice m.cva m.cvn m.cvc,I_ m.ro];have t:=hN_ w (.cells ?A0 71);have j:=zO w (.cells ?A0 71);go_in;go_wp2_with (refine wpList_load_row rfl 71 _ rfl w.heap.size rfl 71 ?A0 (0,0) _ t underlying71 rfl zch ?_)
 refine (g _ j).mono ?_;rintro e b ⟨rfl,c⟩;have d:=zbN c;replace c:=zV c;have A:=zb d 0 _ rfl;have B:=zb d 1 _ rfl;have D:=zb d 2 _ rfl;have C:=zb d 18 _ rfl;have G:w.heap.size<b.heap.size:=ze d;have r:=World.ownsRow_lit (base:=b.heap.size) (e:=5) (size:=1) b (ub [5,m.fr,m.tt]).toArray 3 (nR_ _) (by decide) rfl;go_wp2_with fail
 refine (zdS b.heap.size _ 3 [5,m.fr,m.tt] m.ro _ u ?_ (zz (nR_ _) _) (by decide)).mono ?_
 ·exact r
 rintro e w2 ⟨z,rfl,s,f⟩;have l:=f.below (base:=b.heap.size) (zz (nR_ _) _) (fun q e=>by cases e;exact nR_ _);clear f;go_wp2_with fail
 go_ret2;refine ⟨z,rfl,ownsRow_base' s c.size,?_⟩;exact (c.alloc c.size _).trans (l.mono c.size)
def zpC (m:Msg)(R:Int)(ss:List ByteArray)(bl pl cbl cpl:List zi)(ds vl:List Int):List Int:=if R=0 then zd5 m ss bl pl cbl cpl ds vl else []
theorem zke (m:Msg)(ss:List ByteArray)(bl pl cbl cpl:List zi)(ds vl:List Int)(w:World)(H:zed w m ss bl pl cbl cpl vl)(F:zf w m.sda m.sdc ds)(B:m.sdn=ds.length) :
  Calls prog 22 #[.agg (mrow_ m)] w fun e w'=>∃ v,e=.returned (.tuple #[v,I_ (zL m (zB m ss bl pl cbl cpl vl))])∧w'.ownsRow w.heap.size 5 1 v (zpC m (zL m (zB m ss bl pl cbl cpl vl)) ss bl pl cbl cpl ds vl).length (ub (zpC m (zL m (zB m ss bl pl cbl cpl vl)) ss bl pl cbl cpl ds vl))∧B_ w w':=by
 have r:∀ A,B_ w A→Calls prog 31 #[.agg (mrow_ m)] A fun e w'=>e=.returned (I_ (zL m (zB m ss bl pl cbl cpl vl)))∧B_ A w':=fun A c=>ziB m ss bl pl cbl cpl vl A (H.below c);by_cases hR:zL m (zB m ss bl pl cbl cpl vl)=0
 ·rw[hR] at r ⊢;obtain ⟨y,z,d,_⟩:=zcg hR;have N:zpC m 0 ss bl pl cbl cpl ds vl=[m.ki,m.fr,m.tt]++zcj m ss bl pl cbl cpl ds vl:=rfl;rw[N];rcases zcJ d with k|k|k|k|k
  ·rw[zg7 k];rw[zhD k] at d;obtain ⟨p,q,t,u⟩:=zim d;refine (zl4 m ss w k y z p ⟨by omega,q.2⟩ H.e1 t.2 (fun s R=>(u s R).2) H.txs (fun G I e=>?_) r).mono ?_
   ·rcases H.txs.cells with h|⟨b,o,f,h⟩
    ·rw[h] at t;simp at t
    ·rw[e] at f
     simp at f
     rw[f.1];exact bL_ (h 0 (by omega))
   ·rintro e w' ⟨v,j,l,c⟩;refine ⟨v,j,?_,c⟩;rw[k,lP_];exact l
  ·rw[zg8 k];rw[zhE k] at d;obtain ⟨p,q,t,u,C,D⟩:=za7 d;refine (zkV m bl pl w k y z p ⟨by omega,q.2⟩ H.e2 H.e3 (by omega) u C D H.bat H.par r).mono ?_;rintro e w' ⟨v,j,l,c⟩;refine ⟨v,j,?_,c⟩;rw[k,lP_];exact l
  ·rw[zg9 k];rw[zhF k] at d;obtain ⟨p,q,t⟩:=zgl d;refine (zn4 m ds w k y z p ⟨by omega,q.2⟩ B (by omega) F (fun G I e=>?_) r).mono ?_
   ·rcases F.bytes with h|⟨b,o,f,h⟩
    ·rw[h] at B;simp at B;omega
    ·rw[e] at f
     simp at f
     rw[f.1];exact bL_ (h 0 (by omega))
   ·rintro e w' ⟨v,j,l,c⟩;refine ⟨v,j,?_,c⟩;rw[k,show ([3,m.fr,m.tt]++([m.sau]++rd3 m.srd++ds)).length=3+1+3+m.sdn by simp[rd3,B];omega,←List.append_assoc,←List.append_assoc];exact l
  ·rw[zha k];rw[zhG k] at d;obtain ⟨J,L,E,M⟩:=zhC d;obtain ⟨p,q,t,u,C,D⟩:=za7 J;refine (zkX m cbl cpl vl w k y z p ⟨by omega,q.2⟩ H.e4 H.e5 (by omega) u C D H.cbat H.cpar H.e6 L M H.vot (fun G I e=>?_) r).mono ?_
   ·rcases H.vot.cells with h|⟨b,o,f,h⟩
    ·rw[h] at E;simp at E
    ·rw[e] at f
     simp at f
     rw[f.1];exact bL_ (h 0 (by omega))
   ·rintro e w' ⟨v,j,l,c⟩;refine ⟨v,j,?_,c⟩;rw[k,lP_];exact l
  ·rw[zhb k];rw[zmR k] at d;have O:1≤m.ro∧m.ro≤1048576:=by
    rcases Decidable.em (1≤m.ro∧m.ro≤1048576) with g|g
    ·exact g
    ·rw[if_neg g] at d;cases d
   refine (zn5 m w k y z ⟨by omega,O.2⟩ r).mono ?_;rintro e w' ⟨v,j,l,c⟩;refine ⟨v,j,?_,c⟩;rw[k];exact l
 ·refine (zpB m _ w hR r).mono ?_;rintro e w' ⟨j,c⟩;refine ⟨_,j,?_,c⟩;rw[zpC,if_neg hR];exact oN_ _ _ _ _
def zkY (m:Msg)(X:Int)(ss:List ByteArray)(bl pl cbl cpl:List zi)(ds vl:List Int):List Int:=if X=0 then zd5 m ss bl pl cbl cpl ds vl else []
theorem zmT (m:Msg)(ss:List ByteArray)(bl pl cbl cpl:List zi)(ds vl:List Int)(w:World)(H:zed w m ss bl pl cbl cpl vl)(t:zf w m.sda m.sdc ds)(p:m.sdn=ds.length) :
  Calls prog 203 #[.agg (mrow_ m)] w fun e w'=>∃ v,e=.returned (.tuple #[v,I_ (zcq m (zL m (zB m ss bl pl cbl cpl vl)))])∧w'.ownsRow w.heap.size 5 1 v (zkY m (zcq m (zL m (zB m ss bl pl cbl cpl vl))) ss bl pl cbl cpl ds vl).length (ub (zkY m (zcq m (zL m (zB m ss bl pl cbl cpl vl))) ss bl pl cbl cpl ds vl))∧B_ w w':=by
 have d:=zO w (.cells (mrow_ m) 71);have f:=hN_ w (.cells (mrow_ m) 71);have c:=zfL m ss bl pl cbl cpl vl _ (H.below d);have g:Hid (∀ W:World,B_ w W→zL m (zB m ss bl pl cbl cpl vl)=0→Calls prog 22 #[.agg (mrow_ m)] W fun e w'=>∃ v,e=.returned (.tuple #[v,I_ 0])∧w'.ownsRow W.heap.size 5 1 v (zd5 m ss bl pl cbl cpl ds vl).length (ub (zd5 m ss bl pl cbl cpl ds vl))∧B_ W w'):=by
  show ∀ _,_;intro W r j;have:=zke m ss bl pl cbl cpl ds vl W (H.below r) (t.below r) p;rw[j] at this;exact this
 clear H t p;generalize y:zL m (zB m ss bl pl cbl cpl vl)=R at c g ⊢;have u:Hid (∀ X,X≠0→zkY m X ss bl pl cbl cpl ds vl=[]):=by show ∀ _,_;intro X h;rw[zkY,if_neg h]
 have q:Hid (zkY m 0 ss bl pl cbl cpl ds vl=zd5 m ss bl pl cbl cpl ds vl):=by show _=_;rw[zkY,if_pos rfl]
 have s:Hid (zcq m R=0→R=0):=by
  show _→_;intro h;by_cases hr:R=0
  ·exact hr
  ·rw[zcq,if_pos hr] at h;exact absurd h hr
 clear y;generalize zcq m R=X at c s ⊢;generalize zd5 m ss bl pl cbl cpl ds vl=D at g q;go_in;go_wp2_with (refine wpList_load_row rfl 71 _ rfl w.heap.size rfl 71 _ (0,0) _ f underlying71 rfl zch ?_)
 generalize w.alloc (.cells (mrow_ m) 71)=E at d f c ⊢;refine c.mono ?_;rintro _ C ⟨rfl,l⟩;dsimp only;have B:=zn l f;have b:=zq d l;clear f l c d;by_cases hX:X=0
 ·subst hX;have j:Hid (R=0):=s.out rfl;go_wp2_with (refine wpList_load_row rfl 71 _ rfl w.heap.size rfl 71 _ (0,0) _ B underlying71 rfl zch ?_)
  refine (g.out C b j.out).mono ?_;rintro e w2 ⟨v,o,A,z⟩;subst o;dsimp only;go_wp2_with fail
  go_ret2;refine ⟨v,rfl,?_,b.trans (z.mono b.size)⟩;rw[q.out];exact ownsRow_base' A b.size
 ·go_wp2_with fail
  go_ret2;refine ⟨_,rfl,?_,b⟩;rw[u.out X hX];exact oN_ _ _ _ _
end Go.Proofs.YtdepbohhmfkjgaaGreatDoor
