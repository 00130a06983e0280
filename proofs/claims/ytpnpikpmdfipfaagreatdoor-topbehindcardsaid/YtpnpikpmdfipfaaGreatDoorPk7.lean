import Derived.Test.YtpnpikpmdfipfaaGreatDoorPk6
import Derived.Deep.RegionHeld2
set_option maxRecDepth 100000
set_option maxHeartbeats 4000000
namespace Go.Proofs.YtpnpikpmdfipfaaGreatDoor
open Go.RowKit Tryz
theorem znI (m:Msg)(ss:Z_)(w:World)(p:m.ki=1)(A:0<=m.fr/\m.fr<4)(H:0<=m.tt/\m.tt<4)(y:0<=m.bau/\m.bau<4)(E:0<=m.bnu/\m.bnu<=1048576)(r:m.btn=ss.length)(B:ss.length<=4)(I:∀s∈ss,s.size<=20)(F:zas w m.bta ss)(G:∀f g,m.bta=some (p_ f g)->f<w.heap.size)
  (o:∀b,B_ w b->Calls prog 42 #[.agg #[I_ m.fr,I_ m.tt,I_ m.ki,I_ m.bau,I_ m.bnu,.slice m.bta m.btn m.btc,I_ m.hau,I_ m.hrd,.slice m.hba m.hbn m.hbc,.slice m.hpa m.hpn m.hpc,I_ m.sau,I_ m.srd,.slice m.sda m.sdn m.sdc,I_ m.cau,I_ m.crd,.slice m.cba m.cbn m.cbc,.slice m.cpa m.cpn m.cpc,.slice m.cva m.cvn m.cvc,I_ m.ro]] b λe w'=>e=.returned (I_ 0)/\B_ b w') :
  Calls prog 199 #[.agg #[I_ m.fr,I_ m.tt,I_ m.ki,I_ m.bau,I_ m.bnu,.slice m.bta m.btn m.btc,I_ m.hau,I_ m.hrd,.slice m.hba m.hbn m.hbc,.slice m.hpa m.hpn m.hpc,I_ m.sau,I_ m.srd,.slice m.sda m.sdn m.sdc,I_ m.cau,I_ m.crd,.slice m.cba m.cbn m.cbc,.slice m.cpa m.cpn m.cpc,.slice m.cva m.cvn m.cvc,I_ m.ro]] w λe w'=>∃v,e=.returned (.tuple #[v,I_ 0])/\w'.ownsRow w.heap.size 5 1 v (3+(zbY m.bau m.bnu ss).length) (ub ([1,m.fr,m.tt]++zbY m.bau m.bnu ss))/\B_ w w':=by
 refine kO_ ?A0 ?_;exact Obj.cells #[I_ m.fr,I_ m.tt,I_ m.ki,I_ m.bau,I_ m.bnu,.slice m.bta m.btn m.btc,I_ m.hau,I_ m.hrd,.slice m.hba m.hbn m.hbc,.slice m.hpa m.hpn m.hpc,I_ m.sau,I_ m.srd,.slice m.sda m.sdn m.sdc,I_ m.cau,I_ m.crd,.slice m.cba m.cbn m.cbc,.slice m.cpa m.cpn m.cpc,.slice m.cva m.cvn m.cvc,I_ m.ro] 90;have t:=hN_ w ?A0;have j:=zC w ?A0;rw[p]at o t j|-;obtain⟨U,V⟩:=A;obtain⟨Y,Z⟩:=H;have u:Hid (m.btn=ss.length):=r;clear r p;go_in;go_wp2_with (refine wL_ rfl 90 _ rfl w.heap.size rfl 90 _ (0,0) _ t underlying90 rfl zcC ?_)
 refine(o _ j).mono ?_;rintro e b⟨rfl,c⟩;have d:=zbK c;replace c:=zS c;have L:=zb d 0 (I_ m.fr) rfl;have M:=zb d 1 (I_ m.tt) rfl;have N:=zb d 2 (I_ 1) rfl;have O:=zb d 3 (I_ m.bau) rfl;have R:=zb d 4 (I_ m.bnu) rfl;have T:=zb d 5 (.slice m.bta m.btn m.btc) rfl;have X:=ze d;have C:=World.ownsRow_lit (base:=b.heap.size) (e:=5) (size:=1) b (ub [1,m.fr,m.tt]).toArray 3 (nR_ _) (by decide) rfl;go_wp2_with fail
 refine(zhE b.heap.size _ 3 [1,m.fr,m.tt] m.bau m.bnu m.bta m.btn m.btc ss _ y E u.out B I ?_ ?_ ?_ (zB (nR_ _) _) (by decide)).mono ?_;exact(F.below c).below ((bR_ _ _).alloc (nR_ _) _);intro f g e;have:=G f g e;refine⟨by rw[zG];omega,λh=>?_⟩;simp[Value.ownBlock]at h;omega;exact C;rintro e w2⟨J,rfl,D,l⟩;have z:=l.below (base:=b.heap.size) (zB (nR_ _) _) (λq e=>by cases e;exact nR_ _);clear l;go_wp2_with fail
 go_ret2;refine⟨J,rfl,ownsRow_base' D c.size,?_⟩;exact(c.alloc c.size _).trans (z.mono c.size)
theorem zmn (m:Msg)(bl pl:List zi)(w:World)(A:m.ki=2)(J:0<=m.fr/\m.fr<4)(T:0<=m.tt/\m.tt<4)(F:0<=m.hau/\m.hau<4)(R:0<=m.hrd/\m.hrd<=1048576)(y:m.hbn=bl.length)(B:m.hpn=pl.length)(I:bl.length<=4)(O:pl.length<=4)(H:∀p∈bl,p.bs.length=32)(N:∀p∈pl,p.bs.length=32)(t:zx w m.hba m.hbc bl)(u:zx w m.hpa m.hpc pl)
  (z:∀b,B_ w b->Calls prog 42 #[.agg #[I_ m.fr,I_ m.tt,I_ m.ki,I_ m.bau,I_ m.bnu,.slice m.bta m.btn m.btc,I_ m.hau,I_ m.hrd,.slice m.hba m.hbn m.hbc,.slice m.hpa m.hpn m.hpc,I_ m.sau,I_ m.srd,.slice m.sda m.sdn m.sdc,I_ m.cau,I_ m.crd,.slice m.cba m.cbn m.cbc,.slice m.cpa m.cpn m.cpc,.slice m.cva m.cvn m.cvc,I_ m.ro]] b λe w'=>e=.returned (I_ 0)/\B_ b w') :
  Calls prog 199 #[.agg #[I_ m.fr,I_ m.tt,I_ m.ki,I_ m.bau,I_ m.bnu,.slice m.bta m.btn m.btc,I_ m.hau,I_ m.hrd,.slice m.hba m.hbn m.hbc,.slice m.hpa m.hpn m.hpc,I_ m.sau,I_ m.srd,.slice m.sda m.sdn m.sdc,I_ m.cau,I_ m.crd,.slice m.cba m.cbn m.cbc,.slice m.cpa m.cpn m.cpc,.slice m.cva m.cvn m.cvc,I_ m.ro]] w λe w'=>∃v,e=.returned (.tuple #[v,I_ 0])/\w'.ownsRow w.heap.size 5 1 v (3+(zaZ m.hau m.hrd bl pl).length) (ub ([2,m.fr,m.tt]++zaZ m.hau m.hrd bl pl))/\B_ w w':=by
 refine kO_ ?A0 ?_;exact Obj.cells #[I_ m.fr,I_ m.tt,I_ m.ki,I_ m.bau,I_ m.bnu,.slice m.bta m.btn m.btc,I_ m.hau,I_ m.hrd,.slice m.hba m.hbn m.hbc,.slice m.hpa m.hpn m.hpc,I_ m.sau,I_ m.srd,.slice m.sda m.sdn m.sdc,I_ m.cau,I_ m.crd,.slice m.cba m.cbn m.cbc,.slice m.cpa m.cpn m.cpc,.slice m.cva m.cvn m.cvc,I_ m.ro] 90;have C:=hN_ w ?A0;have o:=zC w ?A0;rw[A]at z C o|-;obtain⟨aa,ab⟩:=J;obtain⟨ad,ae⟩:=T;have D:Hid (m.hbn=bl.length):=y;have E:Hid (m.hpn=pl.length):=B;clear y B A;go_in;go_wp2_with (refine wL_ rfl 90 _ rfl w.heap.size rfl 90 _ (0,0) _ C underlying90 rfl zcC ?_)
 refine(z _ o).mono ?_;rintro e b⟨rfl,c⟩;have d:=zbK c;replace c:=zS c;have X:=zb d 0 (I_ m.fr) rfl;have Y:=zb d 1 (I_ m.tt) rfl;have Z:=zb d 2 (I_ 2) rfl;have c6:=zb d 6 (I_ m.hau) rfl;have c7:=zb d 7 (I_ m.hrd) rfl;have c8:=zb d 8 (.slice m.hba m.hbn m.hbc) rfl;have c9:=zb d 9 (.slice m.hpa m.hpn m.hpc) rfl;have ac:=ze d;have L:=World.ownsRow_lit (base:=b.heap.size) (e:=5) (size:=1) b (ub [2,m.fr,m.tt]).toArray 3 (nR_ _) (by decide) rfl;have l:=zC b (.cells (ub [2,m.fr,m.tt]).toArray 5);have f:∀(j:Q_) (rc:Nat) (g:List zi),zx w j rc g->zfo (b.alloc (.cells (ub [2,m.fr,m.tt]).toArray 5)) (.slice (some (p_ b.heap.size 0)) 3 3) j g:=λj rc g h=>
  zjG (h.below c) (zB (nR_ _) _) (λU hl e=>by have e':b.heap.size=U:=(by simpa[Value.ownBlock]using e);omega)
 have s:=zf8 b.heap.size (.slice (some (p_ b.heap.size 0)) 3 3) 3 [2,m.fr,m.tt] m.hau m.hrd m.hba m.hbn m.hbc bl m.hpa m.hpn m.hpc pl _ F R D.out E.out I O H N ((t.below c).below l) (f _ _ _ t) ((u.below c).below l) (f _ _ _ u) L (zB (nR_ _) _) (by decide);clear f;go_wp2_with fail
 refine s.mono ?_;rintro e w2⟨V,rfl,M,r⟩;have G:=r.below (base:=b.heap.size) (zB (nR_ _) _) (λq e=>by cases e;exact nR_ _);clear r s;go_wp2_with fail
 go_ret2;refine⟨V,rfl,ownsRow_base' M c.size,?_⟩;exact(c.alloc c.size _).trans (G.mono c.size)
theorem zmo (base:Nat)(v:Value)(k:Nat)(bs:L_)(au rd:Int)(c:Q_)(n j:Nat)(ds:L_)(w:World)(F:0<=au/\au<4)(M:0<=rd/\rd<=1048576)(H:n=ds.length)(N:zg w c j ds)(r:∀b d,c=some (p_ b d)->b<w.heap.size/\v.ownBlock≠some b)
  (A:w.ownsRow base 5 1 v k (ub bs)) (q:base<=w.heap.size) (hk:k<=90000) (ac:n<=4000) :
  Calls prog 228 #[v,.agg #[I_ au,I_ rd,.slice c n j]] w λe w'=>∃s,e=.returned s/\w'.ownsRow base 5 1 s (k+1+3+n) (ub (bs++[au]++rd3 rd++ds))/\zV w v w' s:=by
 subst H;obtain⟨i,G,V,X,Y⟩:=info_parts zek;obtain⟨aa,ab⟩:=F;have C:v.ownBlock≠some w.heap.size:=λe=>by have:=(A.lt _ e).2;omega
 go_in;go_wp2_with (at_builtin;refine wpList_append_own_at _ rfl _ _ 61 rfl base 5 i (.int .u8 0) 1 1 underlying61 G V X Y rfl (by decide) _ k _ rfl (oA_ (oA_ A _) _) (p_ (w.heap.size+1) 0) 1 1 [.int .u8 au] rfl rfl (by have:=zag (w.alloc (.cells #[I_ au,I_ rd,.slice c ds.length j] 63)) [.int .u8 au] 5;rw[zG]at this;exact this) (zds [_]) (by unfold maxLen;omega) (by omega) (zB (zB q _) _) ?_;intro m o B z _ y;have f:=zV.of z y;have l:=f.row (hX_ w _ _) C;have E:C_ o w.heap.size 1 (I_ rd):=zb l 1 _ rfl)
 have I:o.ownsRow base 5 1 m (k+1) (ub (bs++[au])):=by simpa[ub]using B
 have ad:=ze l;have U:m.ownBlock≠some w.heap.size:=λe=>by
  rcases f.fresh _ e with g|g;exact C g;rw[zG,zG]at g;omega
 have O:=f.slice (N.below (((bR_ _ _).alloc (nR_ _) _).alloc (by simp) _)) (λb d e=>(r b d e).2);have T:∀b d,c=some (p_ b d)->m.ownBlock≠some b:=λb d e h=>by
  rcases f.fresh _ h with g|g;exact(r b d e).2 g;have:=(r b d e).1;rw[zG,zG]at g;omega
 have t:=f.alloc.alloc;clear B z y f;refine(zeA base m (k+1) _ rd _ M I (nT_ q t.grown.size) (by omega)).mono ?_;rintro e w2⟨v2,rfl,J,p⟩;have Z:=p.row l U;have c2:=zb Z 2 (.slice c ds.length j) rfl;have R:=p.slice O T;have u:=t.trans p;clear l E;go_wp2_with (at_builtin;refine zft rfl _ _ rfl base v2 (k+1+3) _ rfl J c ds.length j ds rfl rfl R (by omega) (nT_ q u.grown.size) ?_;intro v3 w3 L D)
 go_ret;exact⟨v3,rfl,L,u.trans D⟩
theorem zp1 (m:Msg)(ds:L_)(w:World)(y:m.ki=3)(u:0<=m.fr/\m.fr<4)(G:0<=m.tt/\m.tt<4)(s:0<=m.sau/\m.sau<4)(D:0<=m.srd/\m.srd<=1048576)(o:m.sdn=ds.length)(A:m.sdn<=4000)(E:zg w m.sda m.sdc ds)(F:∀f g,m.sda=some (p_ f g)->f<w.heap.size)
  (l:∀b,B_ w b->Calls prog 42 #[.agg #[I_ m.fr,I_ m.tt,I_ m.ki,I_ m.bau,I_ m.bnu,.slice m.bta m.btn m.btc,I_ m.hau,I_ m.hrd,.slice m.hba m.hbn m.hbc,.slice m.hpa m.hpn m.hpc,I_ m.sau,I_ m.srd,.slice m.sda m.sdn m.sdc,I_ m.cau,I_ m.crd,.slice m.cba m.cbn m.cbc,.slice m.cpa m.cpn m.cpc,.slice m.cva m.cvn m.cvc,I_ m.ro]] b λe w'=>e=.returned (I_ 0)/\B_ b w') :
  Calls prog 199 #[.agg #[I_ m.fr,I_ m.tt,I_ m.ki,I_ m.bau,I_ m.bnu,.slice m.bta m.btn m.btc,I_ m.hau,I_ m.hrd,.slice m.hba m.hbn m.hbc,.slice m.hpa m.hpn m.hpc,I_ m.sau,I_ m.srd,.slice m.sda m.sdn m.sdc,I_ m.cau,I_ m.crd,.slice m.cba m.cbn m.cbc,.slice m.cpa m.cpn m.cpc,.slice m.cva m.cvn m.cvc,I_ m.ro]] w λe w'=>∃v,e=.returned (.tuple #[v,I_ 0])/\w'.ownsRow w.heap.size 5 1 v (3+1+3+m.sdn) (ub ([3,m.fr,m.tt]++[m.sau]++rd3 m.srd++ds))/\B_ w w':=by
 rw[y]at l|-;obtain⟨R,T⟩:=u;obtain⟨V,X⟩:=G;refine kA_ ?A0 ?_;exact #[I_ m.fr,I_ m.tt,I_ 3,I_ m.bau,I_ m.bnu,.slice m.bta m.btn m.btc,I_ m.hau,I_ m.hrd,.slice m.hba m.hbn m.hbc,.slice m.hpa m.hpn m.hpc,I_ m.sau,I_ m.srd,.slice m.sda m.sdn m.sdc,I_ m.cau,I_ m.crd,.slice m.cba m.cbn m.cbc,.slice m.cpa m.cpn m.cpc,.slice m.cva m.cvn m.cvc,I_ m.ro];have C:=hN_ w (.cells ?A0 90);have r:=zC w (.cells ?A0 90);have p:Hid (m.sdn=ds.length):=o;clear o;go_in;go_wp2_with (refine wL_ rfl 90 _ rfl w.heap.size rfl 90 ?A0 (0,0) _ C underlying90 rfl zcC ?_)
 refine(l _ r).mono ?_;rintro e b⟨rfl,c⟩;have d:=zbK c;replace c:=zS c;have I:=zb d 0 (I_ m.fr) rfl;have J:=zb d 1 (I_ m.tt) rfl;have O:=zb d 2 (I_ 3) rfl;have L:=zb d 10 (I_ m.sau) rfl;have M:=zb d 11 (I_ m.srd) rfl;have N:=zb d 12 (.slice m.sda m.sdn m.sdc) rfl;have U:=ze d;have z:=World.ownsRow_lit (base:=b.heap.size) (e:=5) (size:=1) b (ub [3,m.fr,m.tt]).toArray 3 (nR_ _) (by decide) rfl;go_wp2_with fail
 refine(zmo b.heap.size _ 3 [3,m.fr,m.tt] m.sau m.srd m.sda m.sdn m.sdc ds _ s D p.out ?_ ?_ ?_ (zB (nR_ _) _) (by decide) A).mono ?_;exact(E.below c).below ((bR_ _ _).alloc (nR_ _) _);intro f g e;have:=F f g e;refine⟨by rw[zG];omega,λh=>?_⟩;simp[Value.ownBlock]at h;omega;exact z;rintro e w2⟨H,rfl,B,j⟩;have t:=j.below (base:=b.heap.size) (zB (nR_ _) _) (λq e=>by cases e;exact nR_ _);clear j;go_wp2_with fail
 go_ret2;refine⟨H,rfl,ownsRow_base' B c.size,?_⟩;exact(c.alloc c.size _).trans (t.mono c.size)
theorem zmp (m:Msg)(bl pl:List zi)(vl:L_)(w:World)(D:m.ki=4)(T:0<=m.fr/\m.fr<4)(ht:0<=m.tt/\m.tt<4)(M:0<=m.cau/\m.cau<4)(Z:0<=m.crd/\m.crd<=1048576)(B:m.cbn=bl.length)(E:m.cpn=pl.length)(R:bl.length<=4)(Y:pl.length<=4)(O:∀p∈bl,p.bs.length=32)(X:∀p∈pl,p.bs.length=32)(z:zx w m.cba m.cbc bl)(A:zx w m.cpa m.cpc pl)(G:m.cvn=vl.length)(ac:vl.length<=4)(aa:∀x∈vl,0<=x/\x<4)(L:zax w m.cva vl)(ab:∀f s,m.cva=some (p_ f s)->f<w.heap.size)
  (C:∀b,B_ w b->Calls prog 42 #[.agg #[I_ m.fr,I_ m.tt,I_ m.ki,I_ m.bau,I_ m.bnu,.slice m.bta m.btn m.btc,I_ m.hau,I_ m.hrd,.slice m.hba m.hbn m.hbc,.slice m.hpa m.hpn m.hpc,I_ m.sau,I_ m.srd,.slice m.sda m.sdn m.sdc,I_ m.cau,I_ m.crd,.slice m.cba m.cbn m.cbc,.slice m.cpa m.cpn m.cpc,.slice m.cva m.cvn m.cvc,I_ m.ro]] b λe w'=>e=.returned (I_ 0)/\B_ b w') :
  Calls prog 199 #[.agg #[I_ m.fr,I_ m.tt,I_ m.ki,I_ m.bau,I_ m.bnu,.slice m.bta m.btn m.btc,I_ m.hau,I_ m.hrd,.slice m.hba m.hbn m.hbc,.slice m.hpa m.hpn m.hpc,I_ m.sau,I_ m.srd,.slice m.sda m.sdn m.sdc,I_ m.cau,I_ m.crd,.slice m.cba m.cbn m.cbc,.slice m.cpa m.cpn m.cpc,.slice m.cva m.cvn m.cvc,I_ m.ro]] w λe w'=>∃v,e=.returned (.tuple #[v,I_ 0])/\w'.ownsRow w.heap.size 5 1 v (3+(zeE m.cau m.crd bl pl vl).length) (ub ([4,m.fr,m.tt]++zeE m.cau m.crd bl pl vl))/\B_ w w':=by
 refine kO_ ?A0 ?_;exact Obj.cells #[I_ m.fr,I_ m.tt,I_ m.ki,I_ m.bau,I_ m.bnu,.slice m.bta m.btn m.btc,I_ m.hau,I_ m.hrd,.slice m.hba m.hbn m.hbc,.slice m.hpa m.hpn m.hpc,I_ m.sau,I_ m.srd,.slice m.sda m.sdn m.sdc,I_ m.cau,I_ m.crd,.slice m.cba m.cbn m.cbc,.slice m.cpa m.cpn m.cpc,.slice m.cva m.cvn m.cvc,I_ m.ro] 90;have F:=hN_ w ?A0;have t:=zC w ?A0;rw[D]at C F t|-;obtain⟨ai,aj⟩:=T;obtain⟨al,am⟩:=ht;have H:Hid (m.cbn=bl.length):=B;have I:Hid (m.cpn=pl.length):=E;have J:Hid (m.cvn=vl.length):=G;clear B E G D;go_in;go_wp2_with (refine wL_ rfl 90 _ rfl w.heap.size rfl 90 _ (0,0) _ F underlying90 rfl zcC ?_)
 refine(C _ t).mono ?_;rintro e b⟨rfl,c⟩;have d:=zbK c;replace c:=zS c;have c0:=zb d 0 (I_ m.fr) rfl;have c1:=zb d 1 (I_ m.tt) rfl;have c2:=zb d 2 (I_ 4) rfl;have ad:=zb d 13 (I_ m.cau) rfl;have ae:=zb d 14 (I_ m.crd) rfl;have af:=zb d 15 (.slice m.cba m.cbn m.cbc) rfl;have ag:=zb d 16 (.slice m.cpa m.cpn m.cpc) rfl;have ah:=zb d 17 (.slice m.cva m.cvn m.cvc) rfl;have ak:=ze d;have U:=World.ownsRow_lit (base:=b.heap.size) (e:=5) (size:=1) b (ub [4,m.fr,m.tt]).toArray 3 (nR_ _) (by decide) rfl;have j:=zC b (.cells (ub [4,m.fr,m.tt]).toArray 5);have l:∀(r:Q_) (rc:Nat) (o:List zi),zx w r rc o->zfo (b.alloc (.cells (ub [4,m.fr,m.tt]).toArray 5)) (.slice (some (p_ b.heap.size 0)) 3 3) r o:=λr rc o h=>
  zjG (h.below c) (zB (nR_ _) _) (λf hl e=>by have e':b.heap.size=f:=(by simpa[Value.ownBlock]using e);omega)
 have y:=zoA b.heap.size (.slice (some (p_ b.heap.size 0)) 3 3) 3 [4,m.fr,m.tt] m.cau m.crd m.cba m.cbn m.cbc bl m.cpa m.cpn m.cpc pl m.cva m.cvn m.cvc vl _ M Z H.out I.out J.out R Y ac O X aa ((z.below c).below j) (l _ _ _ z) ((A.below c).below j) (l _ _ _ A) ((L.below c).below j) (λf s e=>by have g:=ab f s e;refine⟨by rw[zG];omega,λh=>?_⟩;have h':b.heap.size=f:=(by simpa[Value.ownBlock]using h);omega) U (zB (nR_ _) _) (by decide);clear l;go_wp2_with fail
 refine y.mono ?_;rintro e w2⟨v2,rfl,V,u⟩;have N:=u.below (base:=b.heap.size) (zB (nR_ _) _) (λq e=>by cases e;exact nR_ _);clear u y;go_wp2_with fail
 go_ret2;refine⟨v2,rfl,ownsRow_base' V c.size,?_⟩;exact(c.alloc c.size _).trans (N.mono c.size)
theorem zp2 (m:Msg)(w:World)(p:m.ki=5)(o:0<=m.fr/\m.fr<4)(y:0<=m.tt/\m.tt<4)(u:0<=m.ro/\m.ro<=1048576)
  (g:∀b,B_ w b->Calls prog 42 #[.agg #[I_ m.fr,I_ m.tt,I_ m.ki,I_ m.bau,I_ m.bnu,.slice m.bta m.btn m.btc,I_ m.hau,I_ m.hrd,.slice m.hba m.hbn m.hbc,.slice m.hpa m.hpn m.hpc,I_ m.sau,I_ m.srd,.slice m.sda m.sdn m.sdc,I_ m.cau,I_ m.crd,.slice m.cba m.cbn m.cbc,.slice m.cpa m.cpn m.cpc,.slice m.cva m.cvn m.cvc,I_ m.ro]] b λe w'=>e=.returned (I_ 0)/\B_ b w') :
  Calls prog 199 #[.agg #[I_ m.fr,I_ m.tt,I_ m.ki,I_ m.bau,I_ m.bnu,.slice m.bta m.btn m.btc,I_ m.hau,I_ m.hrd,.slice m.hba m.hbn m.hbc,.slice m.hpa m.hpn m.hpc,I_ m.sau,I_ m.srd,.slice m.sda m.sdn m.sdc,I_ m.cau,I_ m.crd,.slice m.cba m.cbn m.cbc,.slice m.cpa m.cpn m.cpc,.slice m.cva m.cvn m.cvc,I_ m.ro]] w λe w'=>∃v,e=.returned (.tuple #[v,I_ 0])/\w'.ownsRow w.heap.size 5 1 v 6 (ub ([5,m.fr,m.tt]++rd3 m.ro))/\B_ w w':=by
 rw[p]at g|-;obtain⟨E,F⟩:=o;obtain⟨H,I⟩:=y;refine kA_ ?A0 ?_;exact #[I_ m.fr,I_ m.tt,I_ 5,I_ m.bau,I_ m.bnu,.slice m.bta m.btn m.btc,I_ m.hau,I_ m.hrd,.slice m.hba m.hbn m.hbc,.slice m.hpa m.hpn m.hpc,I_ m.sau,I_ m.srd,.slice m.sda m.sdn m.sdc,I_ m.cau,I_ m.crd,.slice m.cba m.cbn m.cbc,.slice m.cpa m.cpn m.cpc,.slice m.cva m.cvn m.cvc,I_ m.ro];have t:=hN_ w (.cells ?A0 90);have j:=zC w (.cells ?A0 90);go_in;go_wp2_with (refine wL_ rfl 90 _ rfl w.heap.size rfl 90 ?A0 (0,0) _ t underlying90 rfl zcC ?_)
 refine(g _ j).mono ?_;rintro e b⟨rfl,c⟩;have d:=zbK c;replace c:=zS c;have A:=zb d 0 _ rfl;have B:=zb d 1 _ rfl;have D:=zb d 2 _ rfl;have C:=zb d 18 _ rfl;have G:=ze d;have r:=World.ownsRow_lit (base:=b.heap.size) (e:=5) (size:=1) b (ub [5,m.fr,m.tt]).toArray 3 (nR_ _) (by decide) rfl;go_wp2_with fail
 refine(zeA b.heap.size _ 3 [5,m.fr,m.tt] m.ro _ u ?_ (zB (nR_ _) _) (by decide)).mono ?_;exact r;rintro e w2⟨z,rfl,s,f⟩;have l:=f.below (base:=b.heap.size) (zB (nR_ _) _) (λq e=>by cases e;exact nR_ _);clear f;go_wp2_with fail
 go_ret2;refine⟨z,rfl,ownsRow_base' s c.size,?_⟩;exact(c.alloc c.size _).trans (l.mono c.size)
def zrH (m:Msg)(R:Int)(ss:Z_)(bl pl cbl cpl:List zi)(ds vl:L_):L_:=if R=0 then zeL m ss bl pl cbl cpl ds vl else []
theorem zlF (m:Msg)(ss:Z_)(bl pl cbl cpl:List zi)(ds vl:L_)(w:World)(H:zeX w m ss bl pl cbl cpl vl)(F:zg w m.sda m.sdc ds)(B:m.sdn=ds.length) :
  Calls prog 199 #[.agg (mrow_ m)] w λe w'=>∃v,e=.returned (.tuple #[v,I_ (zP m (zD m ss bl pl cbl cpl vl))])/\w'.ownsRow w.heap.size 5 1 v (zrH m (zP m (zD m ss bl pl cbl cpl vl)) ss bl pl cbl cpl ds vl).length (ub (zrH m (zP m (zD m ss bl pl cbl cpl vl)) ss bl pl cbl cpl ds vl))/\B_ w w':=by
 have r:=λA c=>zjT m ss bl pl cbl cpl vl A (H.below c);by_cases hR:zP m (zD m ss bl pl cbl cpl vl)=0;rw[hR]at r|-;obtain⟨y,z,d,_⟩:=zcB hR;have N:zrH m 0 ss bl pl cbl cpl ds vl=[m.ki,m.fr,m.tt]++zcG m ss bl pl cbl cpl ds vl:=rfl;rw[N];rcases zc7 d with k|k|k|k|k;rw[zig k];rw[ziO k]at d;obtain⟨p,q,t,u⟩:=zjR d;refine(znI m ss w k y z p ⟨by omega,q.2⟩ H.e1 t.2 (λs R=>(u s R).2) H.txs (λG I e=>?_) r).mono ?_;rcases H.txs.cells with h|⟨b,o,f,h⟩;rw[h]at t;simp at t;rw[e]at f
 simp at f
 rw[f.1];exact bL_ (h 0 (by omega));rintro e w'⟨v,j,l,c⟩;refine⟨v,j,?_,c⟩;rw[k,lP_];exact l;rw[zih k];rw[ziP k]at d;obtain⟨p,q,t,u,C,D⟩:=zbi d;refine(zmn m bl pl w k y z p ⟨by omega,q.2⟩ H.e2 H.e3 (by omega) u C D H.bat H.par r).mono ?_;rintro e w'⟨v,j,l,c⟩;refine⟨v,j,?_,c⟩;rw[k,lP_];exact l;rw[zii k];rw[ziQ k]at d;obtain⟨p,q,t⟩:=zho d;refine(zp1 m ds w k y z p ⟨by omega,q.2⟩ B (by omega) F (λG I e=>?_) r).mono ?_;rcases F.bytes with h|⟨b,o,f,h⟩;rw[h]at B;simp at B;omega;rw[e]at f
 simp at f
 rw[f.1];exact bL_ (h 0 (by omega));rintro e w'⟨v,j,l,c⟩;refine⟨v,j,?_,c⟩;rw[k,show([3,m.fr,m.tt]++([m.sau]++rd3 m.srd++ds)).length=3+1+3+m.sdn by simp[rd3,B];omega,<-List.append_assoc,<-List.append_assoc];exact l;rw[zij k];rw[ziR k]at d;obtain⟨J,L,E,M⟩:=ziN d;obtain⟨p,q,t,u,C,D⟩:=zbi J;refine(zmp m cbl cpl vl w k y z p ⟨by omega,q.2⟩ H.e4 H.e5 (by omega) u C D H.cbat H.cpar H.e6 L M H.vot (λG I e=>?_) r).mono ?_;rcases H.vot.cells with h|⟨b,o,f,h⟩;rw[h]at E;simp at E;rw[e]at f
 simp at f
 rw[f.1];exact bL_ (h 0 (by omega));rintro e w'⟨v,j,l,c⟩;refine⟨v,j,?_,c⟩;rw[k,lP_];exact l;rw[zik k];rw[zoB k]at d;have O:1<=m.ro/\m.ro<=1048576:=by
  rcases Decidable.em (1<=m.ro/\m.ro<=1048576)with g|g;exact g;rw[iN_ g]at d;cases d
 refine(zp2 m w k y z ⟨by omega,O.2⟩ r).mono ?_;rintro e w'⟨v,j,l,c⟩;refine⟨v,j,?_,c⟩;rw[k];exact l;refine(zrG m _ w hR r).mono ?_;rintro e w'⟨j,c⟩;refine⟨_,j,?_,c⟩;rw[zrH,iN_ hR];exact oN_ _ _ _ _
def zmq (m:Msg)(X:Int)(ss:Z_)(bl pl cbl cpl:List zi)(ds vl:L_):L_:=if X=0 then zeL m ss bl pl cbl cpl ds vl else []
theorem zoD (m:Msg)(ss:Z_)(bl pl cbl cpl:List zi)(ds vl:L_)(w:World)(H:zeX w m ss bl pl cbl cpl vl)(t:zg w m.sda m.sdc ds)(p:m.sdn=ds.length) :
  Calls prog 170 #[.agg (mrow_ m)] w λe w'=>∃v,e=.returned (.tuple #[v,I_ (zcO m (zP m (zD m ss bl pl cbl cpl vl)))])/\w'.ownsRow w.heap.size 5 1 v (zmq m (zcO m (zP m (zD m ss bl pl cbl cpl vl))) ss bl pl cbl cpl ds vl).length (ub (zmq m (zcO m (zP m (zD m ss bl pl cbl cpl vl))) ss bl pl cbl cpl ds vl))/\B_ w w':=by
 have d:=zC w (.cells (mrow_ m) 90);have f:=hN_ w (.cells (mrow_ m) 90);have c:=zgI m ss bl pl cbl cpl vl _ (H.below d);have g:Hid (∀W:World,B_ w W->zP m (zD m ss bl pl cbl cpl vl)=0->Calls prog 199 #[.agg (mrow_ m)] W λe w'=>∃v,e=.returned (.tuple #[v,I_ 0])/\w'.ownsRow W.heap.size 5 1 v (zeL m ss bl pl cbl cpl ds vl).length (ub (zeL m ss bl pl cbl cpl ds vl))/\B_ W w'):=by
  show ∀_,_;intro W r j;have:=zlF m ss bl pl cbl cpl ds vl W (H.below r) (t.below r) p;rw[j]at this;exact this
 clear H t p;generalize y:zP m (zD m ss bl pl cbl cpl vl)=R at c g|-;have u:Hid (∀X,X≠0->zmq m X ss bl pl cbl cpl ds vl=[]):=by show ∀_,_;intro X h;rw[zmq,iN_ h]
 have q:Hid (zmq m 0 ss bl pl cbl cpl ds vl=zeL m ss bl pl cbl cpl ds vl):=by show _=_;rw[zmq,iP_ rfl]
 have s:Hid (zcO m R=0->R=0):=by
  show _->_;intro h;by_cases hr:R=0;exact hr;rw[zcO,iP_ hr]at h;exact absurd h hr
 clear y;generalize zcO m R=X at c s|-;generalize zeL m ss bl pl cbl cpl ds vl=D at g q;go_in;go_wp2_with (refine wL_ rfl 90 _ rfl w.heap.size rfl 90 _ (0,0) _ f underlying90 rfl zcC ?_)
 generalize w.alloc (.cells (mrow_ m) 90)=E at d f c|-;refine c.mono ?_;rintro _ C⟨rfl,l⟩;dsimp only;have B:=zk l f;have b:=zm d l;clear f l c d;by_cases hX:X=0
 .subst hX;have j:Hid (R=0):=s.out rfl;go_wp2_with (refine wL_ rfl 90 _ rfl w.heap.size rfl 90 _ (0,0) _ B underlying90 rfl zcC ?_)
  refine(g.out C b j.out).mono ?_;rintro e w2⟨v,o,A,z⟩;subst o;dsimp only;go_wp2_with fail
  go_ret2;refine⟨v,rfl,?_,b.trans (z.mono b.size)⟩;rw[q.out];exact ownsRow_base' A b.size
 go_wp2_with fail
 go_ret2;refine⟨_,rfl,?_,b⟩;rw[u.out X hX];exact oN_ _ _ _ _
variable {w w':World}{n cap:Nat}{sa:Q_}{bs:L_}
def zbO (n:Nat)(sy:Int):Bool:=decide (n<=400000/\0<=sy/\sy<=n)
def zdT (n:Nat)(sy keep:Int):Nat:=if keep<n-sy then(sy+keep).toNat else n
def zfP (n:Nat)(sy keep:Int):Int:=if zbO n sy then(if keep<0 then 2 else 0)else 12
def zfh (n:Nat)(sy keep:Int):Nat:=if zbO n sy/\0<=keep then zdT n sy keep else 0
def ziS (n:Nat)(sy:Int):Int:=if zbO n sy then 0 else 12
def zhF (n:Nat)(sy:Int):Nat:=if zbO n sy then n else 0
theorem zcr {sy:Int}:zbO n sy=true↔n<=400000/\0<=sy/\sy<=n:=by simp[zbO]
theorem ziT {sy:Int}(h:¬(n<=400000/\0<=sy/\sy<=n)):zbO n sy=false:=dF_ h
theorem zoE {sy keep:Int}(h:0<=sy):zdT n sy keep<=n:=by
 unfold zdT
 split
 have:=h;omega;exact nR_ _
theorem zg.takeT (h:zg w sa cap bs)(m c:Nat)(q:m<=bs.length)(o:m<=c)(p:c<=cap)(f:sa=Option.none->c=0):zg w sa c (bs.take m):=by
 refine⟨by simp;omega,by have:=h.max;omega,?_,f,?_⟩;rcases h.some with e|e;exact .inl (by omega);exact .inr e;rcases h.bytes with b|⟨g,l,rfl,b⟩;exact .inl (by rw[b];simp);refine .inr ⟨g,l,rfl,λj d=>?_⟩;rw[lT9_]at d;rw[b j (by omega)];simp[List.getD,show j<m by omega]
structure zdM (w w':World)(e:Ending)(bs:L_)(sy er:Int):Prop where
 out:∃ra rc,e=.returned (.tuple #[.agg #[.slice ra bs.length rc,I_ sy],I_ er])/\zg w' ra rc bs/\(∀sb so,ra=some (p_ sb so)->w.heap.size<=sb/\sb<w'.heap.size)/\B_ w w'
theorem zgx (w:World):zg w none 0 []:=⟨nR_ _,by decide,.inl rfl,λ_=>rfl,.inl rfl⟩
theorem zdM.bad (b:Int)(c:B_ w w'):zdM w w' (.returned (.tuple #[.agg #[O_,I_ 0],I_ b])) [] 0 b:=
 ⟨none,0,rfl,zgx _,(λ_ _ e=>by cases e),c⟩
theorem zg.setCellT (h:zg w sa cap bs)(b j:Nat)(v:Value)(m:∀c d,sa=Option.some ⟨c,d,Option.none⟩->b≠c):zg (w.setCell ⟨b,j,Option.none⟩ v) sa cap bs:=by
 refine⟨h.le,h.max,h.some,h.nil,?_⟩;rcases h.bytes with f|⟨c,d,rfl,g⟩;exact .inl f;exact .inr ⟨c,d,rfl,λk l=>(World.cell?_setCell_far _ _ _ _ (m c d rfl)).trans (g k l)⟩
theorem zhG (f:Q_)(n d:Nat)(sy:Int)(w:World)(g:n<=140737488355328) :
  Calls prog 87 #[.agg #[.slice f n d,I_ sy]] w λe w'=>e=.returned (.bool (zbO n sy))/\B_ w w':=by
 have c:=zC w (.cells #[.slice f n d,I_ sy] 66);by_cases h1:(n:Int)<=400000;by_cases h2:0<=sy;by_cases h3:sy<=n;have b:Hid (zbO n sy=true):=zcr.2 ⟨by omega,h2,h3⟩
 rotate_left
 have b:Hid (zbO n sy=false):=ziT (by omega)
 rotate_left
 have b:Hid (zbO n sy=false):=ziT (by omega)
 rotate_left
 have b:Hid (zbO n sy=false):=ziT (by omega)
 rotate_left
 all_goals
  go_in;go_wp2_with fail
  go_ret;exact⟨by rw[b.out];rfl,c⟩
theorem zh1 (bs:L_)(c:Q_)(n d k:Nat)(j sy:Int)(w:World)(D:n=bs.length)(m:zg w c d bs)(C:k<=bs.length)(N:bs.length<=140737488355328) :
  Calls prog 88 #[.agg #[.slice c n d,I_ j],I_ k,I_ sy] w λe w'=>∃g rc,e=.returned (.agg #[.slice g k rc,I_ sy])/\zg w' g rc (bs.take k)/\(∀b f,g=some (p_ b f)->w.heap.size<=b/\b<w'.heap.size)/\B_ w w':=by
 subst D;have O:=m.le;refine kO_ ?A0 ?_;exact Obj.cells #[.slice c bs.length d,I_ j] 66;refine kO_ ?B0 ?_;exact Obj.cells #[O_,I_ 0] 66;have l:B_ w ((w.alloc ?A0).alloc ?B0):=((bR_ _ _).alloc (nR_ _) _).alloc (by simp) _;have F:=hX_ w ?A0 ?B0;have r:=hY_ w ?A0 ?B0;have t:c=none->k=0:=λh=>by have:=m.nil h;omega
 have p:=zeH (bs.take k) c k k _ (by simp;omega) ((m.below l).takeT k k C (nR_ _) (by omega) t) (by rw[lT9_];omega);have A:Hid ((bs.take k).length=k):=by show _=_;rw[lT9_];omega
 rw[A.out]at p;have M:(k:Int)<=d:=by omega
 have L:(0:Int)<=k:=by omega
 clear t m;go_in;go_wp2_with fail
 generalize (w.alloc ?A0).alloc ?B0=G at l F r p|-;refine p.mono ?_;rintro e T⟨g,rc,B,E,q,s⟩;subst B;dsimp only;have o:=zk s r;have u:=zb o 0 (O_) rfl;have y:=zb o 1 (I_ 0) rfl;have H:=zd o 0;have I:=zd o 1;have R:=ze r;go_wp2_with fail
 refine bodyPost_ret (v:=.agg #[.slice g k rc,I_ sy]) (by simp[results,results88,go_sem,u,y]) rfl ⟨g,rc,rfl,?_,?_,?_⟩;exact(E.setCellT _ _ _ (λb f e=>by have:=(q b f e).1;omega)).setCellT _ _ _ (λb f e=>by have:=(q b f e).1;omega);intro b f e;obtain⟨J,z⟩:=q b f e;exact⟨by omega,by simpa using z⟩;exact((l.trans (s.mono l.size)).setCell (by simp) _).setCell (by simp) _
variable {base:Nat}{xs:List Value}
def zgJ (n:Nat)(sy X:Int)(L:Nat):Int:=if zbO n sy then(if X≠0 then X else if 400000<n+2+L then 6 else 0)else 12
def ziU (bs:L_)(F:Int)(B:L_):L_:=if F=0 then bs++[(B.length:Int) / 256,(B.length:Int) % 256]++B else []
def ziV (sy F:Int):Int:=if F=0 then sy else 0
theorem ztx {B:L_}{sy F b:Int}(d:F=b)(c:b≠0)(f:B_ w w'):zdM w w' (.returned (.tuple #[.agg #[O_,I_ 0],I_ b])) (ziU bs F B) (ziV sy F) F:=by
 subst d;rw[ziU,ziV,iN_ c,iN_ c];exact zdM.bad _ f
structure zrI (w w':World)(e:Ending)(bs:L_)(sy er:Int):Prop where
 is:zdM w w' e bs sy er
 own:er=0->∃ra rc,e=.returned (.tuple #[.agg #[.slice ra bs.length rc,I_ sy],I_ er])/\w'.ownsRow w.heap.size 5 1 (.slice ra bs.length rc) bs.length (ub bs)
theorem ziW {B:L_}{sy F b:Int}(d:F=b)(c:b≠0)(f:B_ w w'):zrI w w' (.returned (.tuple #[.agg #[O_,I_ 0],I_ b])) (ziU bs F B) (ziV sy F) F:=
 ⟨ztx d c f,λh=>absurd (d.symm.trans h) c⟩
theorem zaQ {e:TypeId}{s:Nat}{v:Value}(h:w.ownsRow base e s v n xs)(b j:Nat)(x:Value)(m:v.ownBlock≠some b):(w.setCell (p_ b j) x).ownsRow base e s v n xs:=by
 obtain⟨l,c⟩:=h;refine⟨l,?_⟩;rcases c with c|⟨g,d,f,rfl,p,o,r⟩;exact .inl c;exact .inr ⟨g,d,f,rfl,p,(hO_ w (p_ b j) g x (λe=>m (by rw[Value.ownBlock];simpa using e))).trans o,r⟩
theorem zcf {c:Nat}{e:TypeId}{s:Nat}{v:Value}(h:w.ownsRow base e s v n xs)(m:c<=base):w.ownsRow c e s v n xs:=by
 obtain⟨j,b⟩:=h;refine⟨j,?_⟩;rcases b with b|⟨g,d,f,rfl,o,l,r⟩;exact .inl b;exact .inr ⟨g,d,f,rfl,by omega,l,r⟩
theorem zlG {o:Obj}{a:Addr}{v:Value}(h:w.cell? a=some v):(w.alloc o).cell? a=some v:=by
 have b:=bL_ h;exact(((bR_ w.heap.size w).alloc (nR_ _) o).cell b).trans h
theorem zim (m:Msg)(bs:L_)(c:Q_)(n l:Nat)(sy X:Int)(B:L_)(w:World)(hn:n=bs.length)(hs:zg w c l bs)(hl:bs.length<=140737488355328)(hX:X≠0->B=[])(O:X=0->0<B.length)(ag:B.length<=4000)
  (HE:∀W:World,B_ w W->Calls prog 170 #[.agg (mrow_ m)] W λe w'=>∃v,e=.returned (.tuple #[v,I_ X])/\w'.ownsRow W.heap.size 5 1 v B.length (ub B)/\B_ W w') :
  Calls prog 128 #[.agg #[.slice c n l,I_ sy],.agg (mrow_ m)] w λe w'=>zrI w w' e (ziU bs (zgJ bs.length sy X B.length) B) (ziV sy (zgJ bs.length sy X B.length)) (zgJ bs.length sy X B.length):=by
 subst hn;have ao:Hid (∀W:World,B_ w W->Calls prog 170 #[.agg (mrow_ m)] W λe w'=>∃v,e=.returned (.tuple #[v,I_ X])/\w'.ownsRow W.heap.size 5 1 v B.length (ub B)/\B_ W w'):=HE;clear HE;have HS:Hid (zg w c l bs):=hs;have aI:=hs.le;refine kW_ ?A0 ?_;exact(w.alloc (.cells #[.slice c bs.length l,I_ sy] 66)).alloc (.cells (mrow_ m) 90);refine kO_ ?B0 ?_;exact Obj.cells #[O_,I_ 0] 66;have hA:B_ w ((?A0).alloc ?B0):=(((bR_ _ _).alloc (nR_ _) _).alloc (by simp) _).alloc (by simp;omega) _;have r0:=zR (o:=.cells #[O_,I_ 0] 66) (hX_ w (.cells #[.slice c bs.length l,I_ sy] 66) (.cells (mrow_ m) 90));have r1:=zR (o:=.cells #[O_,I_ 0] 66) (hY_ w (.cells #[.slice c bs.length l,I_ sy] 66) (.cells (mrow_ m) 90));have r2:=zco ?A0 ?B0 (w.heap.size+1+1) (by simp);have hM:=zhG c bs.length l sy ((?A0).alloc ?B0) hl;have d:zgJ bs.length sy X B.length=if zbO bs.length sy then(if X≠0 then X else if 400000<bs.length+2+B.length then 6 else 0)else 12:=rfl;generalize zgJ bs.length sy X B.length=F at d|-;have M:Hid _:=d;clear d hs;go_in;go_wp2_with fail
 generalize (?A0).alloc ?B0=W0 at hA r0 r1 r2 hM|-;refine hM.mono ?_;rintro _ w1⟨rfl,H⟩;dsimp only;have N:=zm hA H;have p0:=zk H r0;have p1:=zk H r1;have t:=zk H r2;clear hM r0 r1 r2 H hA;cases ht:zbO bs.length sy with
 | false=>
  have d:Hid (F=12):=by show _=_;rw[M.out,ht];rfl
  have E:=zb t 0 (O_) rfl;have G:=zb t 1 (I_ 0) rfl;have f0:=zd t 0;have f1:=zd t 1;clear ht;go_wp2_with fail
  refine bP_ (v:=.tuple #[.agg #[O_,I_ 0],I_ 12]) (by simp[results,results128,go_sem,E,G]) rfl (ziW d.out (by decide) ?_);exact(N.setCell (by simp;omega) _).setCell (by simp;omega) _
 | true=>
  obtain⟨t1,J,t3⟩:=zcr.1 ht;go_wp2_with (refine wL_ rfl 90 _ rfl (w.heap.size+1) rfl 90 _ (0,0) _ p1 underlying90 rfl zcC ?_)
  refine(ao.out w1 N).mono ?_;rintro e w2⟨v,he,ho,ab⟩;subst he;dsimp only;have s:=zm N ab;have V:=zk ab p0;have p:=zk ab t;have aJ:=ze t;clear p0 p1 t;by_cases hx:X=0
  .have aa:=O hx;obtain⟨ra,rc,U,-,ak⟩:=zeG ho;subst U;have c0:=zb V 0 (.slice c bs.length l) rfl;subst hx;by_cases hbig:400000<bs.length+2+B.length
   .have d:Hid (F=6):=by show _=_;rw[M.out,ht];simp[hbig]
    have ax:(400000:Int)<(bs.length:Int)+2+(B.length:Int):=by omega
    have E:=zb p 0 (O_) rfl;have G:=zb p 1 (I_ 0) rfl;have f0:=zd p 0;have f1:=zd p 1;clear ht hX O aa hbig;go_wp2_with fail
    refine bP_ (v:=.tuple #[.agg #[O_,I_ 0],I_ 6]) (by simp[results,results128,go_sem,E,G]) rfl (ziW d.out (by decide) ?_);exact(s.setCell (by simp;omega) _).setCell (by simp;omega) _
   have d:Hid (F=0):=by show _=_;rw[M.out,ht];simp[hbig]
   have ax:¬(400000:Int)<(bs.length:Int)+2+(B.length:Int):=by omega
   have af:Hid (bs.length+2+B.length<=400000):=by show _<=_;omega
   have aL:(bs.length:Int)<=l:=by omega
   have aK:(0:Int)<=bs.length:=by omega
   have aG:(0:Int)<=B.length:=by omega
   have aH:(B.length:Int)<=4000:=by omega
   have HL:Hid (0<B.length/\B.length<=4000):=⟨aa,ag⟩;obtain⟨i,hi,al,am,an⟩:=info_parts zek;have T:=HS.out.below s;clear ht hX O aa hbig ag t1;have ay:=ze V;have az:=ze p;have aq:Hid (c=none->bs.length=0/\bs.length=0):=by
    show _->_;intro h;have:=T.nil h;have:=T.le;omega
   have ap:Hid (∀b,c=some b->∀j u,(ub bs)[j]? = some u->w2.cell? (b.add j)=some u):=by
    show ∀_,_;intro b hb j u f;have r:j<bs.length:=by
     rcases lG_ j bs.length with g|g;exact g;rw[List.getElem?_eq_none (by rw[zcb];exact g)]at f;cases f
    rcases T.bytes with h|⟨D,so,e,h⟩;rw[h]at r;simp at r;rw[hb]at e;cases e;rw[zaP,h j r];simp[ub,r]at f;simp[r,f]
   obtain⟨y,C,aC,ae⟩:∃y C,ra=some (p_ y C)/\∀j,j<B.length->w2.cell? (p_ y (C+j))=some (.int .u8 (B.getD j 0)):=by
    rcases ak.bytes with h|h;rw[h]at HL;exact absurd HL.out.1 (by simp);exact h
   subst aC;have aD:y<w2.heap.size:=bL_ (ae 0 HL.out.1);have ar:Hid (∀j u,(ub B)[j]? = some u->w2.cell? ((p_ y C:Addr).add j)=some u):=by
    show ∀_,_;intro j u f;have r:j<B.length:=by
     rcases lG_ j B.length with g|g;exact g;rw[List.getElem?_eq_none (by rw[zcb];exact g)]at f;cases f
    rw[zaP,ae j r];simp[ub,r]at f;simp[r,f]
   clear ae T ak N ho;go_wp2_with (at_builtin;refine wpList_append_grows _ rfl _ _ 61 rfl 5 i (.int .u8 0) 1 1 underlying61 hi al am an rfl (by decide) c bs.length bs.length (ub bs) rfl aq.out (by rw[zcb];omega) (λb hb j u f=>(zlG (ap.out b hb j u f))) (p_ w2.heap.size 0) 2 2 [.int .u8 ((B.length:Int) / 256),.int .u8 ((B.length:Int) % 256)] rfl rfl (zag _ _ _) (zds [_,_]) (by omega) (by unfold maxLen;omega) (by omega) ?_;intro Y Z ai ah;have z:B_ w2 Z:=((bR_ _ _).alloc (nR_ _) _).trans ((zgP ah).mono (zB (nR_ _) _)))
   have s0:=(z.block _ ay).trans V;have s2:=(z.block _ az).trans p;have c1:=zb s0 1 (I_ sy) rfl;have av:=zm s z;have R:Z.ownsRow w2.heap.size 5 1 Y (bs.length+2) (ub (bs++[(B.length:Int) / 256,(B.length:Int) % 256])):=by
    have:=ownsRow_base' ai (zB (nR_ w2.heap.size) (.cells #[.int .u8 ((B.length:Int) / 256),.int .u8 ((B.length:Int) % 256)] 5))
    simpa[ub]using this
   have aA:Y.ownBlock≠some w.heap.size:=λe=>by have:=(R.lt _ e).1;omega
   have aB:Y.ownBlock≠some (w.heap.size+1+1):=λe=>by have:=(R.lt _ e).1;omega
   have au:Hid (∀j u,(ub B)[j]? = some u->Z.drew.cell? ((p_ y C:Addr).add j)=some u):=by
    show ∀_,_;intro j u f;have h1:=ar.out j u f;exact(z.cell (by simpa[zaP]using aD)).trans h1
   clear ai ah c0 V p;have aM:¬w.heap.size+1+1=w.heap.size:=by omega
   go_region_held3 (λw'=>w'.cell? (p_ w.heap.size 1)=some (I_ sy)) (go_keep) ((refine zcc rfl _ _ 61 rfl w2.heap.size 5 i (.int .u8 0) 1 1 underlying61 hi al am an rfl (by decide) Y (bs.length+2) _ rfl R.drew (p_ y C) B.length rc (ub B) rfl (by rw[zcb];omega) au.out (zds B) (by have:=af.out;unfold maxLen;omega) (by have:=af.out;omega) z.size ?_;intro v4 L aj G4;have t0:=G4.row s0 aA;have J:=G4.row s2 aB;have g1:L.cell? (p_ w.heap.size 1)=some (I_ sy):=zb t0 1 _ rfl;have e0:L.cell? (p_ (w.heap.size+1+1) 0)=some (O_):=zb J 0 _ rfl;have e1:L.cell? (p_ (w.heap.size+1+1) 1)=some (I_ 0):=zb J 1 _ rfl;have k0:=zd J 0;have k1:=zd J 1;obtain⟨za,zc,rfl⟩:=zH aj))
   all_goals
    have ad:L.ownsRow w2.heap.size 5 1 (.slice za (bs.length+2+B.length) zc) (bs.length+2+B.length) (ub (bs++[(B.length:Int) / 256,(B.length:Int) % 256]++B)):=by simpa[ub]using aj
    have A:=G4.below (base:=w2.heap.size) z.size (λq e=>(R.lt q e).1);go_wp2_with fail
    obtain⟨xa,xc,U,ac,aE⟩:=zeG ad;have I:=ad.lt;simp only[Value.slice.injEq,true_and]at U;obtain⟨rfl,rfl⟩:=U;have hE:ziU bs F B=bs++[(B.length:Int) / 256,(B.length:Int) % 256]++B:=by rw[ziU,iP_ d.out]
    have hS:ziV sy F=sy:=by rw[ziV,iP_ d.out]
    have aF:=A.size;rw[hE,hS,d.out];refine bP_ (v:=.tuple #[.agg #[.slice za (bs.length+2+B.length) zc,I_ sy],I_ 0]) (by simp[results,results128,go_sem,e0,e1]) rfl ⟨⟨za,zc,by rw[<-ac],?_,?_,?_⟩,λ_=>⟨za,zc,by rw[<-ac],?_⟩⟩
    .exact(aE.setCellT _ _ _ (λD so e=>by have:=(I D (by rw[e];rfl)).1;omega)).setCellT _ _ _ (λD so e=>by have:=(I D (by rw[e];rfl)).1;omega)
    .intro D so e;have:=I D (by rw[e];rfl);exact⟨by have:=s.size;omega,by simpa using this.2⟩
    .have aw:Below w2.heap.size Z L:=⟨A.os,A.tape,A.output,A.size,A.block⟩;exact((av.trans (aw.mono s.size)).setCell (by simp;omega) _).setCell (by simp;omega) _
    .rw[<-ac];exact zcf (zaQ (zaQ ad _ _ _ (λe=>by have:=(I _ e).1;omega)) _ _ _ (λe=>by have:=(I _ e).1;omega)) s.size
  have d:Hid (F=X):=by show _=_;rw[M.out,ht];simp[hx]
  have E:=zb p 0 (O_) rfl;have G:=zb p 1 (I_ 0) rfl;have f0:=zd p 0;have f1:=zd p 1;clear ht hX O;go_wp2_with fail
  refine bP_ (v:=.tuple #[.agg #[O_,I_ 0],I_ X]) (by simp[results,results128,go_sem,E,G]) rfl (ziW d.out hx ?_);exact(s.setCell (by simp;omega) _).setCell (by simp;omega) _
theorem zmr (m:Msg)(bs:L_)(c:Q_)(n b:Nat)(sy X:Int)(B:L_)(w:World)(o:n=bs.length)(p:zg w c b bs)(l:bs.length<=140737488355328)(g:X≠0->B=[])(j:X=0->0<B.length)(f:B.length<=4000)
  (d:∀W:World,B_ w W->Calls prog 170 #[.agg (mrow_ m)] W λe w'=>∃v,e=.returned (.tuple #[v,I_ X])/\w'.ownsRow W.heap.size 5 1 v B.length (ub B)/\B_ W w') :
  Calls prog 128 #[.agg #[.slice c n b,I_ sy],.agg (mrow_ m)] w λe w'=>zdM w w' e (ziU bs (zgJ bs.length sy X B.length) B) (ziV sy (zgJ bs.length sy X B.length)) (zgJ bs.length sy X B.length):=
 (zim m bs c n b sy X B w o p l g j f d).mono (λ_ _ h=>h.is)
def MV.onTape (x:MV):L_:=[(x.bytes.length:Int) / 256,(x.bytes.length:Int) % 256]++x.bytes
theorem zaT.len {x:MV}(h:zaT x)(b:x.m.sdn=x.ds.length):3<=x.bytes.length/\x.bytes.length<=323:=by
 have:=zk7 b h.car;simp[MV.bytes,zeL];omega
theorem zlH (x:MV):x.onTape.length=2+x.bytes.length:=by simp[MV.onTape];omega
theorem zms (x:MV)(bs:L_)(d:Q_)(n c:Nat)(sy:Int)(w:World)(p:n=bs.length)(q:zg w d c bs)(b:MAt w x)(f:zaT x)(j:0<=sy/\sy<=bs.length)(r:bs.length+2+x.bytes.length<=400000) :
  Calls prog 128 #[.agg #[.slice d n c,I_ sy],.agg (mrow_ x.m)] w λe w'=>zrI w w' e (bs++x.onTape) sy 0:=by
 obtain⟨s,t⟩:=f.len b.dn;have m:∀W:World,B_ w W->Calls prog 170 #[.agg (mrow_ x.m)] W λe w'=>∃v,e=.returned (.tuple #[v,I_ 0])/\w'.ownsRow W.heap.size 5 1 v x.bytes.length (ub x.bytes)/\B_ W w':=λW g=>by
  have h:=zoD x.m x.ss x.bl x.pl x.cbl x.cpl x.ds x.vl W (b.at'.below g) (b.dig.below g) b.dn;have l:zcO x.m (zP x.m (zD x.m x.ss x.bl x.pl x.cbl x.cpl x.vl))=0:=f.rec0;rw[l]at h;exact h
 have h:=zim x.m bs d n c sy 0 x.bytes w p q (by omega) (λh=>absurd rfl h) (λ_=>by omega) (by omega) m;have o:zgJ bs.length sy 0 x.bytes.length=0:=by
  rw[zgJ,iP_ (zcr.2 ⟨by omega,j.1,j.2⟩),iN_ (by simp),iN_ (by omega)]
 rw[o,ziU,iP_ rfl,ziV,iP_ rfl,List.append_assoc]at h;exact h
theorem zrJ (x:MV)(bs:L_)(c:Q_)(n b:Nat)(sy:Int)(w:World)(j:n=bs.length)(l:zg w c b bs)(f:MAt w x)(d:zaT x)(m:0<=sy/\sy<=bs.length)(g:bs.length+2+x.bytes.length<=400000) :
  Calls prog 128 #[.agg #[.slice c n b,I_ sy],.agg (mrow_ x.m)] w λe w'=>zdM w w' e (bs++x.onTape) sy 0:=
 (zms x bs c n b sy w j l f d m g).mono (λ_ _ h=>h.is)
variable {B:Nat}{w2:World}{v1:Value}{ms:List MV}
theorem zkn:(prog.info? 90).map (λi=>(i.zero,i.size,i.bytes))=some (some (.agg mz_),19,264):=by kernel_rfl
def zcR (m:Msg):List Value:=((mrow_ m):X_).toList
theorem zd7 (m:Msg):(zcR m).length=19:=rfl
def zY (ms:List MV):List Value:=ms.flatMap λx=>zcR x.m
theorem zdN (ms:List MV):(zY ms).length=ms.length*19:=by
 induction ms with
 | nil=>rfl
 | cons x l ih=>simp only[zY,List.flatMap_cons,lP_]at ih|-;rw[ih,zd7];simp;omega
theorem zfi (ms:List MV)(x:MV):zY (ms++[x])=zY ms++zcR x.m:=by simp[zY]
theorem zty (ms:List MV)(k:Nat)(b:k<ms.length)(j:Nat)(c:j<19):(zY ms)[k*19+j]? = (zcR (ms[k]).m)[j]?:=by
 induction ms generalizing k with
 | nil=>simp at b
 | cons x l ih=>
  cases k with
  | zero=>
   simp only[zY,List.flatMap_cons,Nat.zero_mul,zA_,List.getElem_cons_zero];rw[List.getElem?_append_left (by rw[zd7];exact c)]
  | succ k=>
   simp only[zY,List.flatMap_cons,List.getElem_cons_succ];rw[List.getElem?_append_right (by rw[zd7];omega),zd7,show(k+1)*19+j-19=k*19+j by omega];exact ih k (by simpa using b)
theorem zfv (m:Msg):∀u∈zcR m,u.oneCell'=true:=by
 intro u b;simp[zcR]at b;rcases b with rfl|rfl|rfl|rfl|rfl|rfl|rfl|rfl|rfl|rfl|rfl|rfl|rfl|rfl|rfl|rfl|rfl|rfl|rfl<;>rfl
def zda (w:World)(B:Nat)(v:Value)(ms:List MV):Prop:=∀x∈ms,MAt w x/\zaT x/\zbU (λk=>B<=k/\v.ownBlock≠some k) x
theorem zda.below {v:Value}(h:zda w B v ms)(c:B_ w w'):zda w' B v ms:=λx b=>⟨(h x b).1.below c,(h x b).2.1,(h x b).2.2⟩
theorem zda.more {l:World}{v:Value}{x:MV}{o:Obj}{e:TypeId}{D:Nat}(h:zda w B v ms)(E:B<=w.heap.size)(A:w.ownsRow B e D v n xs)(j:B_ w w2)(q:MAt w2 x)(C:zaT x)(z:zbU (λk=>w.heap.size<=k) x)(G:zV (w2.alloc o) v l v1):zda l B v1 (ms++[x]):=by
 have u:B_ w2 (w2.alloc o):=(bR_ _ _).alloc (nR_ _) _;have F:=j.size;have p:(w2.alloc o).heap.size=w2.heap.size+1:=by simp
 have r:∀y:MV,MAt w2 y->zbU (λk=>(B<=k/\v.ownBlock≠some k)/\k<w2.heap.size) y->MAt l y/\zbU (λk=>B<=k/\v1.ownBlock≠some k) y:=λy c f=>by
  refine⟨(c.below u).stays (G:=λk=>(B<=k/\v.ownBlock≠some k)/\k<w2.heap.size) (λk d=>G.grown.block k (by rw[p];omega) (λe=>d.1.2 e.symm)) f,f.mono (λk d=>⟨d.1.1,λe=>?_⟩)⟩;rcases G.fresh k e with g|g;exact d.1.2 g;rw[p]at g;have:=d.2;omega
 intro y c;rcases mA_.1 c with c|c;obtain⟨m,s,t⟩:=h y c;obtain⟨a,b⟩:=r y (m.below j) (t.lt (m.below j));exact⟨a,s,b⟩;obtain rfl:y=x:=by simpa using c
 have f:zbU (λk=>B<=k/\v.ownBlock≠some k) y:=z.mono (λk d=>⟨by omega,λe=>by have:=(A.lt k e).2;omega⟩);obtain⟨a,b⟩:=r y q (f.lt q);exact⟨a,C,b⟩
def zv (ms:List MV):L_:=ms.flatMap MV.onTape
theorem zfQ (ms:List MV)(x:MV):zv (ms++[x])=zv ms++x.onTape:=by simp[zv]
def zrK (w:World)(sa:Q_)(ms:List MV):Prop:=ms=[]\/∃sb so,sa=some (p_ sb so)/\∀(k:Nat) (hk:k<ms.length),w.rangeAt sb (so+k*19) (zcR (ms[k]).m)
theorem zfm {v:Value}(h:w.ownsRow base 90 19 v n (zY ms)):∃l b,v=.slice l n b/\n=ms.length/\n<=b/\b<=maxLen/\zrK w l ms:=by
 have d:n=ms.length:=by have:=h.1;rw[zdN]at this;omega
 rcases h.2 with⟨rfl,s⟩|⟨g,b,t,rfl,f⟩;exact⟨none,0,by rw[s],d,by omega,by decide,.inl (eN_ (by omega))⟩;refine⟨some (p_ g 0),b,rfl,d,?_,?_,.inr ⟨g,0,rfl,λk q j v c=>?_⟩⟩;obtain⟨_,_,m,_⟩:=f;exact m;obtain⟨_,_,_,o,_⟩:=f;exact o;have p:j<19:=by
  rcases lG_ j 19 with g|g;exact g;rw[List.getElem?_eq_none (by rw[zd7];exact g)]at c;cases c
 have r:k*19+j<n*19:=by omega
 rw[show 0+k*19+j=k*19+j by omega,World.ownsRow.cellAt h (k*19+j) r,zty ms k q j p,c]
def CV.slot (h:CV):SV:=(h.au,h.rd,h.d)
def CV.z:CV:=⟨0,0,[],[],[]⟩
def MC.z:MC:=⟨0,0,0,0,0,[],0,0,[],[],0,0,[],0,0,[],[],[],0⟩
def zed (b:BW):MC:=⟨0,0,1,b.au,b.nu,b.ss,0,0,[],[],0,0,[],0,0,[],[],[],0⟩
def zcl (h:CV):MC:=⟨0,0,2,0,0,[],h.au,h.rd,h.bl,h.pl,0,0,[],0,0,[],[],[],0⟩
def zcE (s:SV):MC:=⟨0,0,3,0,0,[],0,0,[],[],s.1,s.2.1,s.2.2,0,0,[],[],[],0⟩
def zdh (c:CV):MC:=⟨0,0,4,0,0,[],0,0,[],[],0,0,[],c.au,c.rd,c.bl,c.pl,c.vl,0⟩
def zrL (r:Int):MC:=⟨0,0,5,0,0,[],0,0,[],[],0,0,[],0,0,[],[],[],r⟩
def MC.b (m:MC):BW:=⟨m.bau,m.bnu,m.ss⟩
def MC.h (m:MC):CV:=⟨m.hau,m.hrd,m.bl,m.pl,[]⟩
def MC.s (m:MC):SV:=(m.sau,m.srd,m.ds)
def MC.ct (m:MC):CV:=⟨m.cau,m.crd,m.cbl,m.cpl,m.vl⟩
def MC.ft (m:MC)(a b:Int):MC:={ m with fr:=a,tt:=b }
def MC.mv (m:MC):MV:=⟨⟨m.fr,m.tt,m.ki,m.bau,m.bnu,m.hau,m.hrd,m.sau,m.srd,m.cau,m.crd,m.ro,none,none,none,none,none,none,none,m.ss.length,0,m.bl.length,0,m.pl.length,0,m.ds.length,0,m.cbl.length,0,m.cpl.length,0,m.vl.length,0⟩,m.ss,pz m.bl,pz m.pl,pz m.cbl,pz m.cpl,m.ds,m.vl⟩
def MC.onTape (m:MC):L_:=m.mv.onTape
def zae (l:List MC):L_:=l.flatMap MC.onTape
structure Kn where
 (sh:List BW) (tab:List SV) (dag:List CV) (own:CV) (slot:SV)
def Kn.z:Kn:=⟨[],[],[],CV.z,(0,0,[])⟩
def zbG (sh:List BW)(b:BW):Bool:=decide (b.f=0)&&!zb1 sh b.d&&decide (sh.length<800)
def zaf (l:List SV)(h:CV):List SV×SV×Int:=zcL l h.au h.rd (pz h.bl) (pz h.pl)
def Kn.rcl (k:Kn)(m:MC):Kn:=
 if m.ki=1 then(if zbG k.sh m.b then { k with sh:=k.sh++[m.b] } else k)
 else if m.ki=2 then(if m.h.hf=0 then { k with own:=m.h,slot:=m.h.slot,tab:=if(zaf k.tab m.h).2.2=0 then(zaf k.tab m.h).1 else k.tab } else k)
 else if m.ki=3 then { k with tab:=k.tab++[m.s] }
 else if m.ki=4 then(if za8 k.dag m.ct=0 then { k with dag:=k.dag++[m.ct] } else k)
 else k
structure Nd where
 (nu:Int) (up:Bool) (nx:Int) (txs:Z_) (k:Kn) (vot:L_) (recs:List MC) (syn:Nat) (wai:List MC) (trn:Int)
def Nd.z (nu:Int):Nd:=⟨nu,false,1,[],Kn.z,[],[],0,[],0⟩
def Nd.room (n:Nd)(m:MC):Bool:=decide ((zae n.recs).length+m.onTape.length<=400000)
def Nd.send (n:Nd)(to_:Int)(m:MC):Nd:=if to_=n.nu\/400<=n.wai.length then n else { n with wai:=n.wai++[m.ft n.nu to_] }
def Nd.sendTo (n:Nd)(m:MC):Nat->Nd
 | 0=>n
 | j+1=>(n.sendTo m j).send j m
def Nd.sendAll (n:Nd)(m:MC):Nd:=n.sendTo m 4
def Nd.sendD (n:Nd)(to_:Int)(d:L_):Nd:=match bOf n.k.sh d with
 | some b=>n.send to_ (zed b)
 | none=>n
def Nd.sendB (n:Nd)(to_:Int)(l:List (L_)):Nd:=l.foldl (λn d=>n.sendD to_ d) n
def Nd.log (n:Nd)(m:MC)(k:Kn):Nd:={ n with recs:=n.recs++[m],k:=k }
def Nd.hearB (n:Nd)(b:BW):Nd:=if zbG n.k.sh b&&n.room (zed b)then n.log (zed b) { n.k with sh:=n.k.sh++[b] } else n
def Kn.knows (k:Kn)(h:CV):Bool:=h.bl.all (zb1 k.sh)&&decide (zdz k.dag h.rd h.pl=0)
structure No where
 (bad:Int) (sg:List GV)
def No.signed (o:No)(nd:Int)(s:SV):Bool:=decide ((zce o.sg o.bad (nd,s.1,s.2.1,s.2.2)).2=0)&&(zce o.sg o.bad (nd,s.1,s.2.1,s.2.2)).1
def No.proven (o:No)(c:CV):Bool:=decide (zfl o.sg o.bad c.au c.rd c.f c.d c.vl=0)
def Nd.hearO (n:Nd)(o:No)(h:CV):Nd:=
 if h.au=n.nu\/n.k.knows h=false\/h.hf≠0\/o.signed h.au h.slot=false then n
 else if(zaf n.k.tab h).2.2≠0 then n
 else if n.k.tab.length<(zaf n.k.tab h).1.length then
  (if n.room (zcE h.slot)then(n.log (zcE h.slot) { n.k with tab:=(zaf n.k.tab h).1 }).send h.au (zcE h.slot)else n)
 else n.send h.au (zcE h.slot)
def Nd.proofs (n:Nd)(o:No)(c:CV):Bool:=decide (za8 n.k.dag c=0)&&o.proven c&&n.room (zdh c)
def Nd.hearP (n:Nd)(o:No)(c:CV):Nd:=if n.proofs o c then n.log (zdh c) { n.k with dag:=n.k.dag++[c] } else n
def zmt (x:Int):L_->L_
 | []=>[x]
 | y::l=>if x<=y then x::y::l else y::zmt x l
def zhH (l:L_):L_:=l.foldr zmt []
def Nd.cert (n:Nd):CV:={ n.k.own with vl:=zhH n.vot }
def Nd.hearV (n:Nd)(o:No)(fr:Int)(s:SV):Nd:=
 if s≠n.k.slot\/0<=cOf n.k.dag s.1 s.2.1\/fr∈n.vot\/o.signed fr s=false then n
 else if n.vot.length+1<3 then { n with vot:=n.vot++[fr] }
 else if({ n with vot:=n.vot++[fr] }:Nd).proofs o ({ n with vot:=n.vot++[fr] }:Nd).cert
  then(({ n with vot:=n.vot++[fr] }:Nd).hearP o ({ n with vot:=n.vot++[fr] }:Nd).cert).sendAll (zdh ({ n with vot:=n.vot++[fr] }:Nd).cert)
  else { n with vot:=n.vot++[fr] }
def leC (a b:CV):Bool:=decide (a.rd<b.rd\/(a.rd=b.rd/\a.au<=b.au))
def ziX (x:CV):List CV->List CV
 | []=>[x]
 | y::l=>if leC x y then x::y::l else y::ziX x l
def zko (l:List CV):List CV:=l.foldr ziX []
def zjU (l:List CV)(r:Int):List CV:=(zko (l.filter λc=>decide (r<=c.rd))).take 8
def Nd.tellC (n:Nd)(fr:Int)(c:CV):Nd:=(n.sendB fr c.bl).send fr (zdh c)
def Nd.tell (n:Nd)(fr:Int)(l:List CV):Nd:=l.foldl (λn c=>n.tellC fr c) n
def Nd.hearW (n:Nd)(fr r:Int):Nd:=n.tell fr (zjU n.k.dag r)
def Nd.hear (n:Nd)(o:No)(m:MC):Nd:=
 if m.ki=1 then n.hearB m.b else if m.ki=2 then n.hearO o m.h else if m.ki=3 then n.hearV o m.fr m.s else if m.ki=4 then n.hearP o m.ct else if m.ki=5 then n.hearW m.fr m.ro else n
def Nd.gather (n:Nd):Nd:=
 if zb4 n.nx n.txs n.nu≠0 then n
 else if zb1 (n.hearB ⟨n.nu,n.nx,n.txs.take 4⟩).k.sh (⟨n.nu,n.nx,n.txs.take 4⟩:BW).d
  then({ n.hearB ⟨n.nu,n.nx,n.txs.take 4⟩with nx:=n.nx+1,txs:=n.txs.drop 4 }:Nd).sendAll (zed ⟨n.nu,n.nx,n.txs.take 4⟩)
  else n.hearB ⟨n.nu,n.nx,n.txs.take 4⟩
def zlI (l:List CV)(r:Int):Nat->Int
 | 0=>r
 | f+1=>if 3<=zhn l r then zlI l (r+1) f else r
def zdi (l:List CV):Int:=zlI l 1 l.length
def zin (k:Kn)(nu:Int)(d:L_):Bool:=k.dag.any λc=>decide (c.au=nu)&&c.bl.any λx=>decide (zai x=zai d)
def zgT (k:Kn)(nu:Int)(acc:List (L_))(b:BW):List (L_):=if acc.length=3 then acc else if b.au=nu/\zin k nu b.d=false then acc++[b.d]else acc
def zb2 (k:Kn)(nu:Int)(acc:List (L_))(l:List BW):List (L_):=l.foldl (zgT k nu) acc
def Nd.header (n:Nd)(r:Int):CV:=⟨n.nu,r,zb2 n.k n.nu [] n.k.sh,dgF n.k.dag (r-1),[]⟩
def Nd.offerNew (n:Nd)(r:Int):Nd:=
 if(zaf n.k.tab (n.header r)).2.2=0/\n.room (zcl (n.header r))=true
  then({ n.log (zcl (n.header r)) { n.k with tab:=(zaf n.k.tab (n.header r)).1,own:=n.header r,slot:=(n.header r).slot } with vot:=[n.nu] }:Nd).sendAll (zcl (n.header r))
  else n
def Nd.againTo (n:Nd):Nat->Nd
 | 0=>n
 | j+1=>if(j:Int)∈n.vot then n.againTo j else((n.againTo j).sendB j n.k.own.bl).send j (zcl n.k.own)
def zcs (x:Int):Int:=(x+1) % 4
def ziY (k:Kn)(e:Int)(c:CV):Int:=if c.rd<e/\c.bl.any (λd=>!zb1 k.sh d)=true then c.rd else e
def zn (k:Kn)(e:Int)(l:List CV):Int:=l.foldl (ziY k) e
def Nd.turn (n:Nd):Int:=if zcs n.trn=n.nu then zcs (zcs n.trn)else zcs n.trn
def Nd.ask (n:Nd)(r:Int):Nd:=({ n with trn:=n.turn }:Nd).send n.turn (zrL (zn n.k (max (r-1) 1) n.k.dag))
def Nd.due (n:Nd)(r:Int):Nd:=if n.k.own.rd<r then n.offerNew r else if 0<=cOf n.k.dag n.k.own.au n.k.own.rd then n else n.againTo 4
def Nd.work (n:Nd):Nd:=(n.gather.due (zdi n.gather.k.dag)).ask (zdi n.gather.k.dag)
def zeo:Nat->List MC->List MC
 | _,[]=>[]
 | k,m::l=>if m.onTape.length<=k then m::zeo (k-m.onTape.length) l else []
def zd2 (nu:Int)(l:List BW):Int:=(l.foldl (λg b=>if b.au=nu then max g b.nu else g) 0)+1
def Nd.recall (n:Nd)(m:MC):Nd:={ n with k:=n.k.rcl m,vot:=if m.ki=2/\m.h.hf=0 then [n.nu]else n.vot }
def Nd.kept (n:Nd)(keep:Int):List MC:=zeo (zdT (zae n.recs).length n.syn keep) n.recs
def Nd.crash (n:Nd)(keep:Int):Nd:=
 let l:=(n.kept keep).foldl Nd.recall { Nd.z n.nu with recs:=n.kept keep,syn:=(zae (n.kept keep)).length }
 { l with nx:=zd2 n.nu l.k.sh }
structure Fl where
 (nd:List Nd) (no:No) (away:List MC) (codes:L_)
def Fl.node (f:Fl)(i:Int):Nd:=f.nd.getD i.toNat (Nd.z 0)
def Fl.set (f:Fl)(i:Int)(n:Nd):Fl:={ f with nd:=f.nd.set i.toNat n }
def Fl.runs (f:Fl)(i:Int):Bool:=decide (i≠f.no.bad)&&(f.node i).up
def zfS (l:List GV)(g:GV):List GV:=if g∈l then l else if(zec l g).2=0 then(zec l g).1 else l
def No.sign (o:No)(m:MC):No:=
 if m.ki=2 then(if m.h.hf=0 then { o with sg:=zfS o.sg (m.fr,m.h.slot) } else o)
 else if m.ki=3 then { o with sg:=zfS o.sg (m.fr,m.s) } else o
def zct (l:List MC)(m:MC):List MC:=if l.length<400 then l++[m]else l
def Fl.out (f:Fl)(m:MC):Fl:={ f with no:=f.no.sign m,away:=zct f.away m }
def Fl.sync (f:Fl)(i:Int):Fl:=(f.node i).wai.foldl Fl.out (f.set i { f.node i with wai:=[],syn:=(zae (f.node i).recs).length })
def Fl.come (f:Fl)(i:Int)(m:MC):Fl:=if f.runs i then f.set i ((f.node i).hear f.no m)else f
def Fl.pick (f:Fl)(k p:Int):Fl:=
 if f.away.length=0 then f
 else if k=6 then { f with away:=zct f.away (f.away.getD (p.toNat % f.away.length) MC.z) }
 else if k=4 then({ f with away:=f.away.eraseIdx (p.toNat % f.away.length) }:Fl).come (f.away.getD (p.toNat % f.away.length) MC.z).tt (f.away.getD (p.toNat % f.away.length) MC.z)
 else { f with away:=f.away.eraseIdx (p.toNat % f.away.length) }
def Fl.flow (f:Fl):Fl:=f.away.foldl (λg m=>g.come m.tt m) { f with away:=[] }
def tbL (t:ByteArray):L_:=t.toList.map λx=>(x.toNat:Int)
def zh2 (t:ByteArray):Option MC:=if zbt (tbL t)=0/\zP (pM (tbL t,false)).mv.m (pM (tbL t,false)).mv.car=0 then some (pM (tbL t,false))else none
def Fl.forge (f:Fl)(i:Int)(t:ByteArray):Fl:=match zh2 t with
 | some m=>if f.no.bad=-1 then f else f.come i m
 | none=>f
def Fl.submit (f:Fl)(i:Int)(t:ByteArray):Fl:=
 if f.runs i=false then { f with codes:=f.codes++[12] }
 else if zcD (f.node i).nx (f.node i).txs t=0 then { (f.set i { f.node i with txs:=(f.node i).txs++[t] })with codes:=f.codes++[0] }
 else { f with codes:=f.codes++[zcD (f.node i).nx (f.node i).txs t] }
def Fl.start (f:Fl)(i:Int):Fl:=if i=f.no.bad then f else f.set i { f.node i with up:=true }
def Fl.act (f:Fl)(k i p:Int)(t:ByteArray):Fl:=
 if k=4\/k=5\/k=6 then f.pick k p
 else if k=10 then f.flow
 else if k=1 then f.submit i t
 else if k=9 then f.forge i t
 else if k=8 then f.start i
 else if k=2\/k=3\/k=7 then
  (if f.runs i then(if k=2 then f.set i (f.node i).work else if k=3 then f.sync i else f.set i ((f.node i).crash p))else f)
 else f
def Fl.z (r:Int):Fl:=⟨[{ Nd.z 0 with up:=true },{ Nd.z 1 with up:=true },{ Nd.z 2 with up:=true },{ Nd.z 3 with up:=true }],⟨r,[]⟩,[],[]⟩
variable {U U' U1:Nat->Bool}{F o:Nat}{fc fc':X_}{T:TypeId}{ls:List Ct}{w1:World}{ds:List zi}{vc vd:Value}
structure MSh (w:World)(x:MV):Prop where
 b:zcN w ⟨⟨x.m.bau,x.m.bnu,x.ss⟩,x.m.bta,x.m.btc⟩
 h:HAt w x.m.hba x.m.hbc x.bl x.m.hpa x.m.hpc x.pl
 c:HAt w x.m.cba x.m.cbc x.cbl x.m.cpa x.m.cpc x.cpl
theorem MSh.sub {x:MV}(h:MSh w x)(k:Sub w w'):MSh w' x:=⟨h.b.sub k,h.h.sub k,h.c.sub k⟩
structure GM (w:World)(x:MV):Prop where
 lies:MAt w x
 ok:zP x.m x.car=0
 u8:U8M x.bl x.pl x.cbl x.cpl x.ds
 shp:MSh w x
theorem GM.sub {x:MV}(h:GM w x)(k:Sub w w'):GM w' x:=⟨h.lies.sub k,h.ok,h.u8,h.shp.sub k⟩
structure Sh where
 b:Bc
 d:zi
def Sh.cs (s:Sh):List Value:=[I_ s.b.v.au,I_ s.b.v.nu,.slice s.b.ta s.b.v.ss.length s.b.tc,.slice s.d.sa s.d.bs.length s.d.cap]
def shv:List Sh->List Value
 | []=>[]
 | s::r=>s.cs++shv r
theorem zi0 (b:List Sh)(s:Sh):shv (b++[s])=shv b++s.cs:=by
 induction b with
 | nil=>simp[shv]
 | cons x r ih=>simp[shv,ih]
theorem zxa (b:List Sh)(j i:Nat)(h:j<b.length)(c:i<4):(shv b)[j*4+i]? = (b[j]).cs[i]?:=by
 induction b generalizing j with
 | nil=>cases h
 | cons x r ih=>
  cases j with
  | zero=>simp only[shv,Nat.zero_mul,zA_,List.getElem_cons_zero];rw[List.getElem?_append_left (by simp[Sh.cs];exact c)]
  | succ j=>
   have h':j<r.length:=by simpa using h
   simp only[shv,List.getElem_cons_succ];rw[List.getElem?_append_right (by simp[Sh.cs];omega),<-ih j h']
   congr 1
   simp[Sh.cs];omega
def shw (l:List Sh):List BW:=l.map (·.b.v)
structure zd3 (w:World)(s:Sh):Prop where
 b:zcN w s.b
 d:zg w s.d.sa s.d.cap s.d.bs
 e:s.d.bs=s.b.v.d
theorem zd3.hid {s:Sh}(h:zd3 w s)(d:∀b c,s.b.ta=some (p_ b c)->U b=false)(f:∀b c,s.d.sa=some (p_ b c)->U b=false):zd3 (zq U w) s:=⟨h.b.hid d,zci h.d (λb c e _=>f b c e),h.e⟩
theorem zd3.sub {x:Sh}(h:zd3 w x)(k:Sub w w'):zd3 w' x:=⟨h.b.sub k,h.d.sub k,h.e⟩
structure zoJ (w:World)(U:Nat->Bool)(s:Nat)(vc vd:Value)(ls:List Ct)(ds:List zi):Prop where
 box:R_ w s #[vc,vd] 84
 rc:w.ownsRow 0 88 5 vc ls.length (ctv ls)
 rd:w.ownsRow 0 61 1 vd ds.length (pv ds)
 ec:∀c∈ls,za7 (zq U w) c
 ed:∀p∈ds,zg (zq U w) p.sa p.cap p.bs
 same:zT ds=(zI ls).map CV.d
 ic:∀c∈ls,∀b,zfq c b->U b=false
structure NM where
 (nu:Int) (up:Bool) (nx:Int) (pa:Q_) (pc:Nat) (txs:Z_)
 (sa:Q_) (sc:Nat) (sh:List Sh)
 (ta:Q_) (tc:Nat) (tab:List Sl)
 (s:Nat) (vc vd:Value) (ls:List Ct) (ds:List zi)
 (own:Ct) (slot:Sl)
 (oa:Q_) (oc:Nat) (vot:L_)
 (ba:Q_) (bc:Nat) (ms:List MV) (syn:Nat)
 (wa:Q_) (wc:Nat) (wai:List MV)
 (trn:Int)
def NM.v (x:NM):Nd:=⟨x.nu,x.up,x.nx,x.txs,⟨shw x.sh,vs x.tab,zI x.ls,x.own.v,x.slot.v⟩,x.vot,x.ms.map MV.c,x.syn,x.wai.map MV.c,x.trn⟩
def NM.cs (x:NM):List Value:=[I_ x.nu,.bool x.up,I_ x.nx,.slice x.pa x.txs.length x.pc,.slice x.sa x.sh.length x.sc,.slice x.ta x.tab.length x.tc,(P_ x.s 0),I_ x.own.au,I_ x.own.rd,.slice x.own.ba x.own.bl.length x.own.bc,.slice x.own.pa x.own.pl.length x.own.pc,I_ x.slot.au,I_ x.slot.rd,.slice x.slot.p.sa x.slot.p.bs.length x.slot.p.cap,.slice x.oa x.vot.length x.oc,.slice x.ba (zv x.ms).length x.bc,I_ x.syn,.slice x.wa x.wai.length x.wc,I_ x.trn]
def zio (fc:X_)(o:Nat)(x:NM):Prop:=∀j,j<19->fc[o+j]? = x.cs[j]?
theorem zio.set {x c:NM}(h:zio fc o x)(l:o+19<=fc.size)(k:Nat)(g:k<19)(v:Value)(f:c.cs=x.cs.set k v):zio (fc.setIfInBounds (o+k) v) o c:=by
 intro j b;rw[f,sI_];by_cases e:j=k;subst e;have d:x.cs.length=19:=rfl;simp[show o+j<fc.size by omega,d,b];rw[iN_ (by omega),List.getElem?_set_ne (by omega)];exact h j b
def ob (a:Q_):Option Nat:=a.map (·.block)
theorem zdb (a:Q_)(n c:Nat):(Value.slice a n c).ownBlock=ob a:=by cases a<;>rfl
def NM.S (x:NM)(b:Nat):Prop:=b=x.s\/x.vc.ownBlock=some b\/x.vd.ownBlock=some b\/ob x.sa=some b\/ob x.ta=some b\/ob x.oa=some b\/ob x.wa=some b
structure za3 (n:Nd):Prop where
 nu:0<=n.nu/\n.nu<4
 pool:zaO n.nx n.txs=0
 sh:n.k.sh.length<=800
 shf:∀b∈n.k.sh,b.f=0
 dag:zbV n.k.dag=0
 own:n.k.own.rd=0\/n.k.own.hf=0
 ovl:n.k.own.vl=[]
 vot:n.vot.length<=4/\(∀v∈n.vot,0<=v/\v<4)/\n.vot.Nodup
 tape:(zae n.recs).length<=400000
 syn:n.syn<=(zae n.recs).length
 wai:n.wai.length<=400
 trn:0<=n.trn/\n.trn<4
 tab:n.k.tab.length<=400000
 u8t:∀s∈n.k.tab,zaN s.2.2
 u8s:zaN n.k.slot.2.2
 ou8:∀b∈n.k.own.bl++n.k.own.pl,∀x∈b,0<=x/\x<=255
 du8:∀c∈n.k.dag,∀b∈c.bl++c.pl,∀x∈b,0<=x/\x<=255
structure zo (w:World)(U:Nat->Bool)(F o:Nat)(T:TypeId)(fc:X_)(x:NM):Prop where
 blk:R_ w F fc T
 siz:o+19<=fc.size
 cel:zio fc o x
 fu:U F=true
 su:∀b,x.S b->U b=true/\b≠F
 bnd:Bnd U w
 tabs:za2 (zq U w)
 etx:zbu (zq U w) x.pa x.pc x.txs
 rsh:w.ownsRow 0 102 4 (.slice x.sa x.sh.length x.sc) x.sh.length (shv x.sh)
 esh:∀s∈x.sh,zd3 (zq U w) s
 rtb:w.ownsRow 0 63 3 (.slice x.ta x.tab.length x.tc) x.tab.length (slv x.tab)
 etb:∀s∈x.tab,zg (zq U w) s.p.sa s.p.cap s.p.bs
 stk:zoJ w U x.s x.vc x.vd x.ls x.ds
 hdr:za7 (zq U w) x.own
 slt:zg (zq U w) x.slot.p.sa x.slot.p.cap x.slot.p.bs
 rvo:w.ownsRow 0 3 1 (.slice x.oa x.vot.length x.oc) x.vot.length (iv x.vot)
 tap:zg (zq U w) x.ba x.bc (zv x.ms)
 ems:∀m∈x.ms,(∃W,MAt W m)/\zaT m/\U8M m.bl m.pl m.cbl m.cpl m.ds
 rwa:w.ownsRow 0 90 19 (.slice x.wa x.wai.length x.wc) x.wai.length (zY x.wai)
 ewa:∀m∈x.wai,GM (zq U w) m
 inv:za3 x.v
structure zl (U U':Nat->Bool)(w w':World)(F o:Nat)(fc fc':X_)(x x':NM):Prop where
 os:w'.os=w.os
 tape:w'.tape=w.tape
 output:w'.output=w.output
 size:w.heap.size<=w'.heap.size
 block:∀b,b<w.heap.size->¬x.S b->b≠F->w'.heap[b]? = w.heap[b]?
 us:∀b,b<w.heap.size->U' b=U b
 new:∀b,x'.S b->x.S b\/w.heap.size<=b
 fsz:fc'.size=fc.size
 far:∀j,j<o\/o+19<=j->fc'[j]? = fc[j]?
theorem zl.refl (U:Nat->Bool)(w:World)(F o:Nat)(b:X_)(x:NM):zl U U w w F o b b x x:=
 ⟨rfl,rfl,rfl,nR_ _,λ_ _ _ _=>rfl,λ_ _=>rfl,λ_ h=>.inl h,rfl,λ_ _=>rfl⟩
theorem zl.trans {d:Nat->Bool}{f l:X_}{x r s:NM}(h:zl U U1 w w1 F o fc f x r)(k:zl U1 d w1 w2 F o f l r s):zl U d w w2 F o fc l x s:=
 ⟨k.os.trans h.os,k.tape.trans h.tape,k.output.trans h.output,nT_ h.size k.size,
  λb c q m=>(k.block b (nL_ c h.size) (λe=>by
   rcases h.new b e with g|g
   .exact q g
   .omega) m).trans (h.block b c q m),
  λb c=>(k.us b (nL_ c h.size)).trans (h.us b c),
  λb e=>by
   rcases k.new b e with g|g
   .exact h.new b g
   .exact .inr (nT_ h.size g),
  k.fsz.trans h.fsz,λj p=>(k.far j p).trans (h.far j p)⟩
theorem zl.goes {x g:NM}(h:zl U U' w w' F o fc fc' x g)(d:zo w U F o T fc x):zao U U' w w':=
 ⟨h.os,h.tape,h.output,h.size,λb f c=>h.block b f (λe=>by have:=(d.su b e).1;rw[c]at this;cases this) (λe=>by rw[e,d.fu]at c;cases c),h.us⟩
theorem zl.below (U:Nat->Bool)(c:X_)(x:NM)(h:B_ w w'):zl U U w w' F o c c x x:=
 ⟨h.os,h.tape,h.output,h.size,λb d _ _=>h.block b d,λ_ _=>rfl,λ_ h=>.inl h,rfl,λ_ _=>rfl⟩
theorem zoJ.keep {s:Nat}(h:zoJ w U s vc vd ls ds)(j:Sub (zq U w) (zq U' w'))(m:∀b,b<w.heap.size->U' b=U b)(f:∀b,b=s\/vc.ownBlock=some b\/vd.ownBlock=some b->w'.heap[b]? = w.heap[b]?):zoJ w' U' s vc vd ls ds:=
 ⟨(f s (.inl rfl)).trans h.box,zu h.rc (λq e=>f q (.inr (.inl e))),zu h.rd (λq e=>f q (.inr (.inr e))),λc d=>(h.ec c d).sub j,λp l=>(h.ed p l).sub j,h.same,λc d b g=>by rw[m b (by have:=(h.ec c d).block_lt b g;rwa [zch]at this)];exact h.ic c d b g⟩
theorem zo.below {x:NM}(h:zo w U F o T fc x)(d:B_ w w'):zo w' U F o T fc x:=by
 have c:=(zao.below U d).sub;have f:=λb e=>d.block b (h.bnd b (h.su b e).1);exact⟨(d.block _ (ze h.blk)).trans h.blk,h.siz,h.cel,h.fu,h.su,h.bnd.mono d.size,h.tabs.sub c,h.etx.sub c,
  zw h.rsh d,λs m=>(h.esh s m).sub c,zw h.rtb d,λs m=>(h.etb s m).sub c,h.stk.keep c (λ_ _=>rfl) (λb e=>f b (by rcases e with e|e|e;exact .inl e;exact .inr (.inl e);exact .inr (.inr (.inl e)))),
  h.hdr.sub c,h.slt.sub c,zw h.rvo d,h.tap.sub c,h.ems,zw h.rwa d,λm e=>(h.ewa m e).sub c,h.inv⟩
def zal (w:World)(U:Nat->Bool)(F o:Nat)(T:TypeId)(fc:X_)(x:NM)(w':World)(n':Nd):Prop:=
 ∃U' fc' x',zo w' U' F o T fc' x'/\zl U U' w w' F o fc fc' x x'/\x'.v=n'
theorem zal.quiet {x:NM}(h:zo w U F o T fc x)(b:B_ w w'):zal w U F o T fc x w' x.v:=⟨U,fc,x,h.below b,zl.below U fc x b,rfl⟩
theorem zal.after {b:X_}{x c:NM}{n:Nd}(k:zl U U1 w w1 F o fc b x c)(h:zal w1 U1 F o T b c w' n):zal w U F o T fc x w' n:=by
 obtain⟨d,f,m,g,j,l⟩:=h;exact⟨d,f,m,g,k.trans j,l⟩
theorem zl.box {x j:NM}(h:zl U U' w w' F o fc fc' x j)(f:zo w U F o T fc x){b:Nat}{d:Obj}(c:w.heap[b]? = some d)(g:U b=false):w'.heap[b]? = some d:=
 ((h.goes f).block b (ze c) g).trans c
theorem zl.hides {x f:NM}(h:zl U U' w w' F o fc fc' x f){b:Nat}(c:b<w.heap.size)(d:U b=false):U' b=false:=(h.us b c).trans d
theorem zl.sub {x c:NM}(h:zl U U' w w' F o fc fc' x c)(b:zo w U F o T fc x):Sub (zq U w) (zq U' w'):=(h.goes b).sub
theorem zo.later {x:NM}(_:zo w U F o T fc x)(b:B_ w w'):Sub (zq U w) (zq U w'):=(zao.below U b).sub
theorem zo.cell {x:NM}(h:zo w U F o T fc x)(j:Nat)(v:Value)(b:x.cs[j]? = some v):C_ w F (o+j) v:=
 zb h.blk (o+j) v ((h.cel j (by
  rcases lG_ j 19 with g|g
  .exact g
  .rw[List.getElem?_eq_none (by show 19<=j;exact g)]at b;cases b)).trans b)
theorem zo.free {x:NM}(h:zo w U F o T fc x)(j:Nat):w.frozen? (p_ F j)=false:=zd h.blk j
theorem za3.wai_ {n:Nd}(h:za3 n){l:List MC}(b:l.length<=400):za3 { n with wai:=l }:=⟨h.nu,h.pool,h.sh,h.shf,h.dag,h.own,h.ovl,h.vot,h.tape,h.syn,b,h.trn,h.tab,h.u8t,h.u8s,h.ou8,h.du8⟩
theorem za3.up_ {n:Nd}(h:za3 n)(b:Bool):za3 { n with up:=b }:=⟨h.nu,h.pool,h.sh,h.shf,h.dag,h.own,h.ovl,h.vot,h.tape,h.syn,h.wai,h.trn,h.tab,h.u8t,h.u8s,h.ou8,h.du8⟩
theorem za3.trn_ {n:Nd}(h:za3 n){t:Int}(b:0<=t/\t<4):za3 { n with trn:=t }:=⟨h.nu,h.pool,h.sh,h.shf,h.dag,h.own,h.ovl,h.vot,h.tape,h.syn,h.wai,b,h.tab,h.u8t,h.u8s,h.ou8,h.du8⟩
theorem za3.pool_ {n:Nd}(h:za3 n){nx:Int}{l:Z_}(b:zaO nx l=0):za3 { n with nx:=nx,txs:=l }:=⟨h.nu,b,h.sh,h.shf,h.dag,h.own,h.ovl,h.vot,h.tape,h.syn,h.wai,h.trn,h.tab,h.u8t,h.u8s,h.ou8,h.du8⟩
theorem za3.vot_ {n:Nd}(h:za3 n){l:L_}(b:l.length<=4/\(∀v∈l,0<=v/\v<4)/\l.Nodup):za3 { n with vot:=l }:=⟨h.nu,h.pool,h.sh,h.shf,h.dag,h.own,h.ovl,b,h.tape,h.syn,h.wai,h.trn,h.tab,h.u8t,h.u8s,h.ou8,h.du8⟩
theorem za3.tape_ {n:Nd}(h:za3 n){l:List MC}{s:Nat}(c:(zae l).length<=400000)(b:s<=(zae l).length):za3 { n with recs:=l,syn:=s }:=⟨h.nu,h.pool,h.sh,h.shf,h.dag,h.own,h.ovl,h.vot,c,b,h.wai,h.trn,h.tab,h.u8t,h.u8s,h.ou8,h.du8⟩
theorem zo.grew_sub {x:NM}(h:zo w U F o T fc x){a a':Q_}{n c d c':Nat}(G:zV w (.slice a n c) w2 (.slice a' d c'))(b:∀q,ob a=some q->x.S q):Sub (zq U w) (zq (zaF U (ob a')) w2):=by
 have:=((zao.refl U w).grew G (λq e=>(h.su q (b q (by rw[<-zdb a n c];exact e))).1)).sub
 rwa [zdb]at this
variable {x:NM}{k c' q n1 s1:Nat}{a':Q_}{w0:World}{xs1:List Value}
theorem zbb {j:Nat}(h:R_ w F fc T)(v:Value):(w.setCell (p_ F j) v).heap[F]? = some (.cells (fc.setIfInBounds j v) T (0,0)):=
 ((Upd.refl h).setCell j v).here
theorem zar {b j c:Nat}{v u:Value}(h:C_ w b j u)(d:b≠c):(w.setCell (p_ c k) v).cell? (p_ b j)=some u:=(cB_ (hO_ w (p_ c k) b v d)).trans h
theorem zip (b:X_)(o k:Nat)(v:Value)(d:k<19)(j:Nat)(c:j<o\/o+19<=j):(b.setIfInBounds (o+k) v)[j]? = b[j]?:=by
 rw[sI_,iN_ (by omega)]
theorem zp {a:Q_}{c:Nat}(h:(Value.slice a n c).ownBlock=some q):ob a=some q:=by rw[<-zdb a n c];exact h
theorem zaK {a:Q_}(n c:Nat)(h:ob a=some q):(Value.slice a n c).ownBlock=some q:=by rw[zdb];exact h
theorem zg7 {f g n2:Nat}{b c:TypeId}{p:Nat}{d:Value}{r:List Value}(j:w.ownsRow f b s1 v1 n1 xs1)(l:w.ownsRow g c p d n2 r)(m:b≠c)(q:Nat)(o:v1.ownBlock=some q):some q≠d.ownBlock:=λe=>zcu j l m q o e.symm
theorem zx8 {c:Nat}{b t:TypeId}{cs:X_}(d:w.ownsRow c b s1 v1 n1 xs1)(f:w.heap[q]? = some (.cells cs t (0,0)))(g:b≠t):some q≠v1.ownBlock:=λe=>zc2 d f g e.symm
def stF (F o:Nat):World->List (Nat×Value)->World
 | w,[]=>w
 | w,p::t=>stF F o (w.setCell (p_ F (o+p.1)) p.2) t
def stA (o:Nat):X_->List (Nat×Value)->X_
 | a,[]=>a
 | a,p::t=>stA o (a.setIfInBounds (o+p.1) p.2) t
def stL:List Value->List (Nat×Value)->List Value
 | l,[]=>l
 | l,p::t=>stL (l.set p.1 p.2) t
def zk9 (st:List (Nat×Value)):Bool:=st.all λp=>decide (p.1<19)
theorem zxb (s:U' F=true):∀(f:List (Nat×Value)) (w:World) (d:X_) (l:List Value),zk9 f=true->zao U U' w0 w->R_ w F d T->o+19<=d.size->(∀j,j<19->d[o+j]? = l[j]?) ->
  zao U U' w0 (stF F o w f)/\(stF F o w f).heap[F]? = some (.cells (stA o d f) T (0,0))/\(stA o d f).size=d.size/\(∀j,j<19->(stA o d f)[o+j]? = (stL l f)[j]?)/\(∀j,j<o\/o+19<=j->(stA o d f)[j]? = d[j]?)/\(∀b,b≠F->(stF F o w f).heap[b]? = w.heap[b]?)/\zq U' (stF F o w f)=zq U' w/\(stF F o w f).heap.size=w.heap.size:=by
 intro f
 induction f with
 | nil=>exact λw d l _ g h _ c=>⟨g,h,rfl,c,λ_ _=>rfl,λ_ _=>rfl,rfl,rfl⟩
 | cons p t ih=>
  intro w d l q g h G c;have r:p.1<19/\zk9 t=true:=by
   unfold zk9 at q|-;rw[List.all_cons,Bool.and_eq_true,decide_eq_true_iff]at q;exact q
  obtain⟨u,y,z,A,B,C,D,E⟩:=ih _ (d.setIfInBounds (o+p.1) p.2) (l.set p.1 p.2) r.2 (g.set s (o+p.1) p.2) (zbb h _) (by simpa using G) (by
   intro j m;rw[sI_,List.getElem?_set];by_cases e:p.1=j
   .have k:=c p.1 r.1;rw[Array.getElem?_eq_getElem (by omega)]at k;rw[iP_ (by omega),iP_ (by omega),iP_ e,iP_ (List.getElem?_eq_some_iff.1 k.symm).1]
   .rw[iN_ (by omega),iN_ e];exact c j m)
  exact⟨u,y,z.trans (by simp),A,λj m=>(B j m).trans (zip d o p.1 _ r.1 j m),λb n=>(C b n).trans (hO_ w (p_ F (o+p.1)) b _ n),D.trans (zb3 s _ _),E.trans (by simp)⟩
structure zgW (e:TypeId)(w:World)(U:Nat->Bool)(x:NM):Prop where
 tabs:za2 (zq U w)
 etx:zbu (zq U w) x.pa x.pc x.txs
 rsh:102≠e->w.ownsRow 0 102 4 (.slice x.sa x.sh.length x.sc) x.sh.length (shv x.sh)
 esh:∀s∈x.sh,zd3 (zq U w) s
 rtb:63≠e->w.ownsRow 0 63 3 (.slice x.ta x.tab.length x.tc) x.tab.length (slv x.tab)
 etb:∀s∈x.tab,zg (zq U w) s.p.sa s.p.cap s.p.bs
 stk:zoJ w U x.s x.vc x.vd x.ls x.ds
 hdr:za7 (zq U w) x.own
 slt:zg (zq U w) x.slot.p.sa x.slot.p.cap x.slot.p.bs
 rvo:3≠e->w.ownsRow 0 3 1 (.slice x.oa x.vot.length x.oc) x.vot.length (iv x.vot)
 tap:zg (zq U w) x.ba x.bc (zv x.ms)
 ems:∀m∈x.ms,(∃W,MAt W m)/\zaT m/\U8M m.bl m.pl m.cbl m.cpl m.ds
 rwa:90≠e->w.ownsRow 0 90 19 (.slice x.wa x.wai.length x.wc) x.wai.length (zY x.wai)
 ewa:∀m∈x.wai,GM (zq U w) m
theorem zo.rest {e:TypeId}{v:Value}(h:zo w U F o T fc x)(g:zao U U' w w2)(f:w.ownsRow 0 e s1 v n1 xs1)(j:88≠e/\61≠e/\e≠84)(d:∀b,x.S b->some b≠v.ownBlock->w2.heap[b]? = w.heap[b]?):zgW e w2 U' x:=by
 have c:=g.sub;refine⟨h.tabs.sub c,h.etx.sub c,λn=>zu h.rsh λq i=>d q (.inr (.inr (.inr (.inl (zp i))))) (zg7 h.rsh f n q i),λs m=>(h.esh s m).sub c,λn=>zu h.rtb λq i=>d q (.inr (.inr (.inr (.inr (.inl (zp i)))))) (zg7 h.rtb f n q i),λs m=>(h.etb s m).sub c,h.stk.keep c g.us (λb i=>?_),h.hdr.sub c,h.slt.sub c,λn=>zu h.rvo λq i=>d q (.inr (.inr (.inr (.inr (.inr (.inl (zp i))))))) (zg7 h.rvo f n q i),h.tap.sub c,h.ems,λn=>zu h.rwa λq i=>d q (.inr (.inr (.inr (.inr (.inr (.inr (zp i))))))) (zg7 h.rwa f n q i),λs m=>(h.ewa s m).sub c⟩;rcases i with i|i|i;subst i;exact d _ (.inl rfl) (zx8 f h.stk.box j.2.2);exact d b (.inr (.inl i)) (zg7 h.stk.rc f j.1 b i);exact d b (.inr (.inr (.inl i))) (zg7 h.stk.rd f j.2.1 b i)
theorem zo.alter {e:TypeId}{v:Value}(d:NM)(m:List (Nat×Value))(a':Q_)(h:zo w U F o T fc x)(g:zao U U' w w2)(X:w.ownsRow 0 e s1 v n1 xs1)(N:88≠e/\61≠e/\e≠84)(B:∀q,v.ownBlock=some q->x.S q)(s:∀b,b<w.heap.size->some b≠v.ownBlock->w2.heap[b]? = w.heap[b]?)(Y:zk9 m=true)(cs:d.cs=stL x.cs m)(J:Bnd U' w2)(z:∀b,d.S b->x.S b\/ob a'=some b)(r:∀b,ob a'=some b->U' b=true/\(x.S b\/w.heap.size<=b))(O:za3 d.v)(R:∀W,(∀q,ob a'=some q->W.heap[q]? = w2.heap[q]?)->zq U' W=zq U' w2->zgW e W U' x->zgW 9999 W U' d):zal w U F o T fc x (stF F o w2 m) d.v:=by
 have y:=ze h.blk;have u:=(g.us F y).trans h.fu;have M:=(s F y (λi=>(h.su F (B F i.symm)).2 rfl)).trans h.blk;obtain⟨c,D,t,E,G,p,H,I⟩:=zxb u m w2 fc x.cs Y g M h.siz h.cel;have A:∀q,x.S q\/w.heap.size<=q->q≠F:=λq k L=>k.elim (λk=>(h.su q k).2 L) (λk=>by omega);have R:=R _ (λq k=>p q (A q (r q k).2)) H (h.rest c X N (λb i n=>(p b (h.su b i).2).trans (s b (h.bnd b (h.su b i).1) n)));have C:=λb i=>(z b i).elim .inl (λk=>(r b k).2);refine⟨U',stA o fc m,d,⟨D,by rw[t];exact h.siz,λj V=>by rw[cs];exact E j V,u,λb i=>⟨?_,A b (C b i)⟩,λb k=>by rw[I];exact J b k,R.tabs,R.etx,R.rsh (by decide),R.esh,R.rtb (by decide),R.etb,R.stk,R.hdr,R.slt,R.rvo (by decide),R.tap,R.ems,R.rwa (by decide),R.ewa,O⟩,⟨c.os,c.tape,c.output,c.size,λb l n f=>(p b f).trans (s b l (λi=>n (B b i.symm))),c.us,C,t,G⟩,rfl⟩;rcases z b i with k|k;exact(c.us b (h.bnd b (h.su b k).1)).trans (h.su b k).1;exact(r b k).1
theorem zo.more {e:TypeId}{a:Q_}{c d B n2:Nat}{p:TypeId}{C:List Value}(f:NM)(k:Nat)(h:zo w U F o T fc x)(G:zV w (.slice a n c) w2 (.slice a' d c'))(A:w.ownsRow 0 e s1 (.slice a n c) n1 xs1)(y:w2.ownsRow 0 p B (.slice a' d c') n2 C)(r:88≠e/\61≠e/\e≠84)(g:∀q,ob a=some q->x.S q)(t:k<19)(cs:f.cs=x.cs.set k (.slice a' d c'))(u:∀b,f.S b->x.S b\/ob a'=some b)(s:za3 f.v)(R:∀W,(∀q,(Value.slice a' d c').ownBlock=some q->W.heap[q]? = w2.heap[q]?)->zq (zaF U (ob a')) W=zq (zaF U (ob a')) w2->zgW e W (zaF U (ob a')) x->zgW 9999 W (zaF U (ob a')) f):zal w U F o T fc x (w2.setCell (p_ F (o+k)) (.slice a' d c')) f.v:=
 h.alter f [(k,.slice a' d c')] a' (by have:=(zao.refl U w).grew G (λq i=>(h.su q (g q (zp i))).1);rwa [zdb]at this) A r (λq i=>g q (zp i)) (λb l m=>G.grown.block b l m) (by simp[zk9,t]) cs (by have:=h.bnd.grew G.grown.size y;rwa [zdb]at this) u (λb i=>⟨zeM i,(G.fresh b (zaK _ _ i)).imp (λj=>g b (zp j)) id⟩) s (λW z=>R W (λq i=>z q (zp i)))
theorem zo.put (c:NM)(d:List (Nat×Value))(h:zo w U F o T fc x)(f:B_ w w2)(m:zk9 d=true)(cs:c.cs=stL x.cs d)(j:∀b,c.S b->x.S b)(g:za3 c.v)(R:∀W,zq U W=zq U w2->zgW 9999 W U x->zgW 9999 W U c):zal w U F o T fc x (stF F o w2 d) c.v:=
 h.alter c d none (zao.below U f) (oN_ w 0 9999 1) (by decide) (λ_ e=>by cases e) (λb l _=>f.block b l) m cs (h.bnd.mono f.size) (λb e=>.inl (j b e)) (λ_ e=>by cases e) g (λW _=>R W)
theorem zo.putN {r s n2:Nat}{g:TypeId}{t:List Value}(d:NM)(f:List (Nat×Value))(h:zo w U F o T fc x)(c:B_ w w2)(j:∀q,ob a'=some q->w.heap.size<=q)(p:w2.ownsRow 0 g s (.slice a' r c') n2 t)(A:zk9 f=true)(cs:d.cs=stL x.cs f)(y:∀b,d.S b->x.S b\/ob a'=some b)(u:za3 d.v)(R:∀W,W.ownsRow 0 g s (.slice a' r c') n2 t->zq (zaF U (ob a')) W=zq (zaF U (ob a')) w2->zgW 9999 W (zaF U (ob a')) x->zgW 9999 W (zaF U (ob a')) d):zal w U F o T fc x (stF F o w2 f) d.v:=
 h.alter d f a' ⟨c.os,c.tape,c.output,c.size,λb m _=>c.block b m,λb m=>by
  cases hu:U b with
  | true=>exact zaB hu
  | false=>exact zbw hu (λe=>by have:=j b e;omega)⟩ (oN_ w 0 9999 1) (by decide) (λ_ e=>by cases e) (λb l _=>c.block b l) A cs (by have:=h.bnd.grew c.size p;rwa [zdb]at this) y (λb i=>⟨zeM i,.inr (j b i)⟩) u (λW z=>R W (zu p (λq i=>z q (zp i))))
theorem zo.more_sh {l':List Sh}(h:zo w U F o T fc x)(G:zV w (.slice x.sa x.sh.length x.sc) w2 (.slice a' l'.length c'))(ho:w2.ownsRow 0 102 4 (.slice a' l'.length c') l'.length (shv l'))(he:∀s∈l',zd3 (zq (zaF U (ob a')) w2) s)(hi:za3 ({ x with sa:=a',sc:=c',sh:=l' }:NM).v) :
  zal w U F o T fc x (w2.setCell (p_ F (o+4)) (.slice a' l'.length c')) ({ x with sa:=a',sc:=c',sh:=l' }:NM).v:=
 h.more _ 4 G h.rsh ho (by decide) (λq e=>.inr (.inr (.inr (.inl e)))) (by decide) rfl (λb i=>by rcases i with i|i|i|i|i|i|i<;>dsimp only at i<;>simp[NM.S,i]) hi (λ_ hq hid R=>⟨R.tabs,R.etx,λ_=>zu ho hq,λs m=>by rw[hid];exact he s m,λ_=>R.rtb (by decide),R.etb,R.stk,R.hdr,R.slt,λ_=>R.rvo (by decide),R.tap,R.ems,λ_=>R.rwa (by decide),R.ewa⟩)
theorem zo.more_tab {l':List Sl}(h:zo w U F o T fc x)(G:zV w (.slice x.ta x.tab.length x.tc) w2 (.slice a' l'.length c'))(ho:w2.ownsRow 0 63 3 (.slice a' l'.length c') l'.length (slv l'))(he:∀s∈l',zg (zq (zaF U (ob a')) w2) s.p.sa s.p.cap s.p.bs)(hi:za3 ({ x with ta:=a',tc:=c',tab:=l' }:NM).v) :
  zal w U F o T fc x (w2.setCell (p_ F (o+5)) (.slice a' l'.length c')) ({ x with ta:=a',tc:=c',tab:=l' }:NM).v:=
 h.more _ 5 G h.rtb ho (by decide) (λq e=>.inr (.inr (.inr (.inr (.inl e))))) (by decide) rfl (λb i=>by rcases i with i|i|i|i|i|i|i<;>dsimp only at i<;>simp[NM.S,i]) hi (λ_ hq hid R=>⟨R.tabs,R.etx,λ_=>R.rsh (by decide),R.esh,λ_=>zu ho hq,λs m=>by rw[hid];exact he s m,R.stk,R.hdr,R.slt,λ_=>R.rvo (by decide),R.tap,R.ems,λ_=>R.rwa (by decide),R.ewa⟩)
theorem zo.more_vot {l':L_}(h:zo w U F o T fc x)(G:zV w (.slice x.oa x.vot.length x.oc) w2 (.slice a' l'.length c'))(ho:w2.ownsRow 0 3 1 (.slice a' l'.length c') l'.length (iv l'))(hi:za3 ({ x with oa:=a',oc:=c',vot:=l' }:NM).v) :
  zal w U F o T fc x (w2.setCell (p_ F (o+14)) (.slice a' l'.length c')) ({ x with oa:=a',oc:=c',vot:=l' }:NM).v:=
 h.more _ 14 G h.rvo ho (by decide) (λq e=>.inr (.inr (.inr (.inr (.inr (.inl e)))))) (by decide) rfl (λb i=>by rcases i with i|i|i|i|i|i|i<;>dsimp only at i<;>simp[NM.S,i]) hi (λ_ hq _ R=>⟨R.tabs,R.etx,λ_=>R.rsh (by decide),R.esh,λ_=>R.rtb (by decide),R.etb,R.stk,R.hdr,R.slt,λ_=>zu ho hq,R.tap,R.ems,λ_=>R.rwa (by decide),R.ewa⟩)
theorem zo.more_wai {l':List MV}(h:zo w U F o T fc x)(G:zV w (.slice x.wa x.wai.length x.wc) w2 (.slice a' l'.length c'))(ho:w2.ownsRow 0 90 19 (.slice a' l'.length c') l'.length (zY l'))(he:∀s∈l',GM (zq (zaF U (ob a')) w2) s)(hi:za3 ({ x with wa:=a',wc:=c',wai:=l' }:NM).v) :
  zal w U F o T fc x (w2.setCell (p_ F (o+17)) (.slice a' l'.length c')) ({ x with wa:=a',wc:=c',wai:=l' }:NM).v:=
 h.more _ 17 G h.rwa ho (by decide) (λq e=>.inr (.inr (.inr (.inr (.inr (.inr e)))))) (by decide) rfl (λb i=>by rcases i with i|i|i|i|i|i|i<;>dsimp only at i<;>simp[NM.S,i]) hi (λ_ hq hid R=>⟨R.tabs,R.etx,λ_=>R.rsh (by decide),R.esh,λ_=>R.rtb (by decide),R.etb,R.stk,R.hdr,R.slt,λ_=>R.rvo (by decide),R.tap,R.ems,λ_=>zu ho hq,λs m=>by rw[hid];exact he s m⟩)
theorem zo.put_pool {nx':Int}{l':Z_}(h:zo w U F o T fc x)(b:B_ w w2)(f:zbu (zq U w2) a' c' l')(c:za3 ({ x with nx:=nx',pa:=a',pc:=c',txs:=l' }:NM).v) :
  zal w U F o T fc x ((w2.setCell (p_ F (o+2)) (I_ nx')).setCell (p_ F (o+3)) (.slice a' l'.length c')) ({ x with nx:=nx',pa:=a',pc:=c',txs:=l' }:NM).v:=
 h.put _ [(2,I_ nx'),(3,.slice a' l'.length c')] b rfl rfl (λ_ i=>i) c (λ_ d R=>⟨R.tabs,(by rw[d];exact f),R.rsh,R.esh,R.rtb,R.etb,R.stk,R.hdr,R.slt,R.rvo,R.tap,R.ems,R.rwa,R.ewa⟩)
theorem zo.put_next {nx':Int}(h:zo w U F o T fc x)(b:B_ w w2)  (c:za3 ({ x with nx:=nx' }:NM).v) :
  zal w U F o T fc x (w2.setCell (p_ F (o+2)) (I_ nx')) ({ x with nx:=nx' }:NM).v:=
 h.put _ [(2,I_ nx')] b rfl rfl (λ_ i=>i) c (λ_ _ R=>⟨R.tabs,R.etx,R.rsh,R.esh,R.rtb,R.etb,R.stk,R.hdr,R.slt,R.rvo,R.tap,R.ems,R.rwa,R.ewa⟩)
theorem zo.put_tape {l':List MV}{sy:Nat}(h:zo w U F o T fc x)(b:B_ w w2)(g:zg (zq U w2) a' c' (zv l'))(f:∀m∈l',(∃W,MAt W m)/\zaT m/\U8M m.bl m.pl m.cbl m.cpl m.ds)(c:za3 ({ x with ba:=a',bc:=c',ms:=l',syn:=sy }:NM).v) :
  zal w U F o T fc x ((w2.setCell (p_ F (o+15)) (.slice a' (zv l').length c')).setCell (p_ F (o+16)) (I_ sy)) ({ x with ba:=a',bc:=c',ms:=l',syn:=sy }:NM).v:=
 h.put _ [(15,.slice a' (zv l').length c'),(16,I_ sy)] b rfl rfl (λ_ i=>i) c (λ_ d R=>⟨R.tabs,R.etx,R.rsh,R.esh,R.rtb,R.etb,R.stk,R.hdr,R.slt,R.rvo,(by rw[d];exact g),f,R.rwa,R.ewa⟩)
theorem zo.put_up {b':Bool}(h:zo w U F o T fc x)(b:B_ w w2)  (c:za3 ({ x with up:=b' }:NM).v) :
  zal w U F o T fc x (w2.setCell (p_ F (o+1)) (.bool b')) ({ x with up:=b' }:NM).v:=
 h.put _ [(1,.bool b')] b rfl rfl (λ_ i=>i) c (λ_ _ R=>⟨R.tabs,R.etx,R.rsh,R.esh,R.rtb,R.etb,R.stk,R.hdr,R.slt,R.rvo,R.tap,R.ems,R.rwa,R.ewa⟩)
theorem zo.put_turn {t':Int}(h:zo w U F o T fc x)(b:B_ w w2)  (c:za3 ({ x with trn:=t' }:NM).v) :
  zal w U F o T fc x (w2.setCell (p_ F (o+18)) (I_ t')) ({ x with trn:=t' }:NM).v:=
 h.put _ [(18,I_ t')] b rfl rfl (λ_ i=>i) c (λ_ _ R=>⟨R.tabs,R.etx,R.rsh,R.esh,R.rtb,R.etb,R.stk,R.hdr,R.slt,R.rvo,R.tap,R.ems,R.rwa,R.ewa⟩)
theorem zo.put_tab {l':List Sl}(h:zo w U F o T fc x)(hb:B_ w w2)(hfr:∀q,ob a'=some q->w.heap.size<=q)(ho:w2.ownsRow 0 63 3 (.slice a' l'.length c') l'.length (slv l'))(he:∀s∈l',zg (zq (zaF U (ob a')) w2) s.p.sa s.p.cap s.p.bs)(hi:za3 ({ x with ta:=a',tc:=c',tab:=l' }:NM).v) :
  zal w U F o T fc x (w2.setCell (p_ F (o+5)) (.slice a' l'.length c')) ({ x with ta:=a',tc:=c',tab:=l' }:NM).v:=
 h.putN _ [(5,.slice a' l'.length c')] hb hfr ho rfl rfl (λb i=>by rcases i with i|i|i|i|i|i|i<;>dsimp only at i<;>simp[NM.S,i]) hi (λ_ hr hid R=>⟨R.tabs,R.etx,R.rsh,R.esh,λ_=>hr,(λs m=>by rw[hid];exact he s m),R.stk,R.hdr,R.slt,R.rvo,R.tap,R.ems,R.rwa,R.ewa⟩)
theorem zo.put_own {h':Ct}{s':Sl}{l':L_}(h:zo w U F o T fc x)(hb:B_ w w2)(hfr:∀q,ob a'=some q->w.heap.size<=q)(ho:w2.ownsRow 0 3 1 (.slice a' l'.length c') l'.length (iv l'))(hh:za7 (zq (zaF U (ob a')) w2) h')(hs':zg (zq (zaF U (ob a')) w2) s'.p.sa s'.p.cap s'.p.bs)(hi:za3 ({ x with own:=h',slot:=s',oa:=a',oc:=c',vot:=l' }:NM).v) :
  zal w U F o T fc x ((((((((w2.setCell (p_ F (o+7)) (I_ h'.au)).setCell (p_ F (o+8)) (I_ h'.rd)).setCell (p_ F (o+9)) (.slice h'.ba h'.bl.length h'.bc)).setCell (p_ F (o+10)) (.slice h'.pa h'.pl.length h'.pc)).setCell (p_ F (o+11)) (I_ s'.au)).setCell (p_ F (o+12)) (I_ s'.rd)).setCell (p_ F (o+13)) (.slice s'.p.sa s'.p.bs.length s'.p.cap)).setCell (p_ F (o+14)) (.slice a' l'.length c')) ({ x with own:=h',slot:=s',oa:=a',oc:=c',vot:=l' }:NM).v:=
 h.putN _ [(7,I_ h'.au),(8,I_ h'.rd),(9,.slice h'.ba h'.bl.length h'.bc),(10,.slice h'.pa h'.pl.length h'.pc),(11,I_ s'.au),(12,I_ s'.rd),(13,.slice s'.p.sa s'.p.bs.length s'.p.cap),(14,.slice a' l'.length c')] hb hfr ho rfl rfl (λb i=>by rcases i with i|i|i|i|i|i|i<;>dsimp only at i<;>simp[NM.S,i]) hi (λ_ hr hid R=>⟨R.tabs,R.etx,R.rsh,R.esh,R.rtb,R.etb,R.stk,(by rw[hid];exact hh),(by rw[hid];exact hs'),λ_=>hr,R.tap,R.ems,R.rwa,R.ewa⟩)
end Go.Proofs.YtpnpikpmdfipfaaGreatDoor
