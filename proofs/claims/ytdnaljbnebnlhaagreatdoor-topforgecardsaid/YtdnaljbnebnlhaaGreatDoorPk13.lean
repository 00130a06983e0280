import Derived.Test.YtdnaljbnebnlhaaGreatDoorPk12
set_option maxRecDepth 100000
set_option maxHeartbeats 4000000
namespace Go.Proofs.YtdnaljbnebnlhaaGreatDoor
open Go.RowKit Tryz
def zkm (ro:Int):Int:=if 1<=ro/\ro<=1048576 then 0 else 2
theorem zrF (m:Msg)(w:World)(c:m.ki=5) :
  Calls prog 50 #[.agg #[I_ m.fr,I_ m.tt,I_ m.ki,I_ m.bau,I_ m.bnu,.slice m.bta m.btn m.btc,I_ m.hau,I_ m.hrd,.slice m.hba m.hbn m.hbc,.slice m.hpa m.hpn m.hpc,I_ m.sau,I_ m.srd,.slice m.sda m.sdn m.sdc,I_ m.cau,I_ m.crd,.slice m.cba m.cbn m.cbc,.slice m.cpa m.cpn m.cpc,.slice m.cva m.cvn m.cvc,I_ m.ro]] w λe w'=>e=.returned (I_ (zkm m.ro))/\B_ w w':=by
 rw[c];by_cases hr:1<=m.ro/\m.ro<=1048576;have b:Hid (zkm m.ro=0):=by show _=_;simp[zkm,hr]
 rotate_left
 have b:Hid (zkm m.ro=2):=by show _=_;simp[zkm,hr]
 rotate_left
 all_goals
  go_in;go_wp2_with (go_at_call 80;first|(refine(zbB _ _ (by omega)).mono ?_;rintro e w'⟨rfl,rfl⟩)|(refine(zbj _ _ (by omega)).mono ?_;rintro e w'⟨rfl,rfl⟩))
  go_ret;exact⟨zt b.out.symm,(bR_ _ _).alloc (nR_ _) _⟩
theorem zjT (m:Msg)(ss:List ByteArray)(bl pl cbl cpl:List zi)(vl:List Int)(w:World)(H:zeX w m ss bl pl cbl cpl vl) :
  Calls prog 29 #[.agg (mrow_ m)] w λe w'=>e=.returned (I_ (zP m (zD m ss bl pl cbl cpl vl)))/\B_ w w':=by
 refine zvb m (zD m ss bl pl cbl cpl vl) w (λh=>?_) (λc f=>?_)
 .rcases Decidable.em (1<=m.ki/\m.ki<=5)with g|g
  .exact g
  .rw[zD,if_neg (by omega),if_neg (by omega),if_neg (by omega),if_neg (by omega),if_neg (by omega)]at h;cases h
 .have b:=H.below f;by_cases k1:m.ki=1
  .rw[zD,if_pos k1];exact zoC m ss c k1 H.e1 (by have:=H.s1;have:=H.e1;unfold maxLen;omega) b.txs
  by_cases k2:m.ki=2
  .rw[zD,if_neg k1,if_pos k2];exact zpZ m bl pl c k2 H.e2 H.e3 b.bat b.par
  by_cases k3:m.ki=3
  .rw[zD,if_neg k1,if_neg k2,if_pos k3];exact zrE m c k3
  by_cases k4:m.ki=4
  .rw[zD,if_neg k1,if_neg k2,if_neg k3,if_pos k4];exact zp0 m cbl cpl vl c k4 H.e4 H.e5 H.e6 H.s6 b.cbat b.cpar b.vot
  by_cases k5:m.ki=5
  .rw[zD,if_neg k1,if_neg k2,if_neg k3,if_neg k4,if_pos k5];have d:=zrF m c k5;rw[zkm]at d;exact d
  .rw[zD,if_neg k1,if_neg k2,if_neg k3,if_neg k4,if_neg k5];exact zrD m c (by omega)
def zcO (m:Msg)(e:Int):Int:=if e≠0 then e else if m.fr≠0\/m.tt≠0\/m.ki=5 then 4 else 0
theorem zgI (m:Msg)(ss:List ByteArray)(bl pl cbl cpl:List zi)(vl:List Int)(w:World)(H:zeX w m ss bl pl cbl cpl vl) :
  Calls prog 190 #[.agg (mrow_ m)] w λe w'=>e=.returned (I_ (zcO m (zP m (zD m ss bl pl cbl cpl vl))))/\B_ w w':=by
 have f:=zC w (.cells (mrow_ m) 66);have j:=hN_ w (.cells (mrow_ m) 66);have g:=zjT m ss bl pl cbl cpl vl _ (H.below f);generalize zP m (zD m ss bl pl cbl cpl vl)=R at g|-;clear H;have c:Hid (zcO m R=if R≠0 then R else if m.fr≠0\/m.tt≠0\/m.ki=5 then 4 else 0):=by show _=_;rfl
 generalize zcO m R=X at c|-;go_in;go_wp2_with (refine wpList_load_row rfl 66 _ rfl w.heap.size rfl 66 (mrow_ m) (0,0) _ j underlying66 rfl zcC ?_)
 generalize w.alloc (.cells (mrow_ m) 66)=t at f j g|-;refine g.mono ?_;rintro _ u⟨rfl,o⟩;dsimp only;have l:=zk o j;have p:=zb l 0 (I_ m.fr) rfl;have q:=zb l 1 (I_ m.tt) rfl;have r:=zb l 2 (I_ m.ki) rfl;have d:=zm f o;clear j l f o g;generalize m.fr=a at p c|-;generalize m.tt=b at q c|-;generalize m.ki=k at r c|-;by_cases hR:R=0
 .subst hR;by_cases h0:a=0
  .by_cases h1:b=0
   .by_cases h2:k=5
    .go_wp2_with fail
     go_ret;exact⟨zt (by rw[c.out];simp[h2]),d⟩
    .go_wp2_with fail
     go_ret;exact⟨zt (by rw[c.out];simp[h0,h1,h2]),d⟩
   .go_wp2_with fail
    go_ret;exact⟨zt (by rw[c.out];simp[h1]),d⟩
  .go_wp2_with fail
   go_ret;exact⟨zt (by rw[c.out];simp[h0]),d⟩
 .go_wp2_with fail
  go_ret;exact⟨zt (by rw[c.out];simp[hR]),d⟩
theorem zaT.rec0 {x:MV}(h:zaT x):zcO x.m (zP x.m x.car)=0:=by rw[h.check,zcO];simp[h.fr,h.tt,h.ki]
theorem zrG (m:Msg)(c:Int)(w:World)(l:c≠0)
  (g:∀b,B_ w b->Calls prog 29 #[.agg #[I_ m.fr,I_ m.tt,I_ m.ki,I_ m.bau,I_ m.bnu,.slice m.bta m.btn m.btc,I_ m.hau,I_ m.hrd,.slice m.hba m.hbn m.hbc,.slice m.hpa m.hpn m.hpc,I_ m.sau,I_ m.srd,.slice m.sda m.sdn m.sdc,I_ m.cau,I_ m.crd,.slice m.cba m.cbn m.cbc,.slice m.cpa m.cpn m.cpc,.slice m.cva m.cvn m.cvc,I_ m.ro]] b λe w'=>e=.returned (I_ c)/\B_ b w') :
  Calls prog 22 #[.agg #[I_ m.fr,I_ m.tt,I_ m.ki,I_ m.bau,I_ m.bnu,.slice m.bta m.btn m.btc,I_ m.hau,I_ m.hrd,.slice m.hba m.hbn m.hbc,.slice m.hpa m.hpn m.hpc,I_ m.sau,I_ m.srd,.slice m.sda m.sdn m.sdc,I_ m.cau,I_ m.crd,.slice m.cba m.cbn m.cbc,.slice m.cpa m.cpn m.cpc,.slice m.cva m.cvn m.cvc,I_ m.ro]] w λe w'=>e=.returned (.tuple #[O_,I_ c])/\B_ w w':=by
 refine kA_ ?A0 ?_;exact #[I_ m.fr,I_ m.tt,I_ m.ki,I_ m.bau,I_ m.bnu,.slice m.bta m.btn m.btc,I_ m.hau,I_ m.hrd,.slice m.hba m.hbn m.hbc,.slice m.hpa m.hpn m.hpc,I_ m.sau,I_ m.srd,.slice m.sda m.sdn m.sdc,I_ m.cau,I_ m.crd,.slice m.cba m.cbn m.cbc,.slice m.cpa m.cpn m.cpc,.slice m.cva m.cvn m.cvc,I_ m.ro];have j:=hN_ w (.cells ?A0 66);have d:=zC w (.cells ?A0 66);go_in;go_wp2_with (refine wpList_load_row rfl 66 _ rfl w.heap.size rfl 66 ?A0 (0,0) _ j underlying66 rfl zcC ?_)
 refine(g _ d).mono ?_;rintro e b⟨rfl,f⟩;go_wp2_with fail
 go_ret2;exact⟨rfl,zS f⟩
theorem znI (m:Msg)(ss:List ByteArray)(w:World)(p:m.ki=1)(A:0<=m.fr/\m.fr<4)(H:0<=m.tt/\m.tt<4)(y:0<=m.bau/\m.bau<4)(E:0<=m.bnu/\m.bnu<=1048576)(r:m.btn=ss.length)(B:ss.length<=4)(I:∀s∈ss,s.size<=20)(F:zas w m.bta ss)(G:∀f g,m.bta=some ⟨f,g,none⟩->f<w.heap.size)
  (o:∀b,B_ w b->Calls prog 29 #[.agg #[I_ m.fr,I_ m.tt,I_ m.ki,I_ m.bau,I_ m.bnu,.slice m.bta m.btn m.btc,I_ m.hau,I_ m.hrd,.slice m.hba m.hbn m.hbc,.slice m.hpa m.hpn m.hpc,I_ m.sau,I_ m.srd,.slice m.sda m.sdn m.sdc,I_ m.cau,I_ m.crd,.slice m.cba m.cbn m.cbc,.slice m.cpa m.cpn m.cpc,.slice m.cva m.cvn m.cvc,I_ m.ro]] b λe w'=>e=.returned (I_ 0)/\B_ b w') :
  Calls prog 22 #[.agg #[I_ m.fr,I_ m.tt,I_ m.ki,I_ m.bau,I_ m.bnu,.slice m.bta m.btn m.btc,I_ m.hau,I_ m.hrd,.slice m.hba m.hbn m.hbc,.slice m.hpa m.hpn m.hpc,I_ m.sau,I_ m.srd,.slice m.sda m.sdn m.sdc,I_ m.cau,I_ m.crd,.slice m.cba m.cbn m.cbc,.slice m.cpa m.cpn m.cpc,.slice m.cva m.cvn m.cvc,I_ m.ro]] w λe w'=>∃v,e=.returned (.tuple #[v,I_ 0])/\w'.ownsRow w.heap.size 5 1 v (3+(zbY m.bau m.bnu ss).length) (ub ([1,m.fr,m.tt]++zbY m.bau m.bnu ss))/\B_ w w':=by
 refine kO_ ?A0 ?_;exact Obj.cells #[I_ m.fr,I_ m.tt,I_ m.ki,I_ m.bau,I_ m.bnu,.slice m.bta m.btn m.btc,I_ m.hau,I_ m.hrd,.slice m.hba m.hbn m.hbc,.slice m.hpa m.hpn m.hpc,I_ m.sau,I_ m.srd,.slice m.sda m.sdn m.sdc,I_ m.cau,I_ m.crd,.slice m.cba m.cbn m.cbc,.slice m.cpa m.cpn m.cpc,.slice m.cva m.cvn m.cvc,I_ m.ro] 66;have t:=hN_ w ?A0;have j:=zC w ?A0;rw[p]at o t j|-;obtain⟨U,V⟩:=A;obtain⟨Y,Z⟩:=H;have u:Hid (m.btn=ss.length):=r;clear r p;go_in;go_wp2_with (refine wpList_load_row rfl 66 _ rfl w.heap.size rfl 66 _ (0,0) _ t underlying66 rfl zcC ?_)
 refine(o _ j).mono ?_;rintro e b⟨rfl,c⟩;have d:=zbK c;replace c:=zS c;have L:=zb d 0 (I_ m.fr) rfl;have M:=zb d 1 (I_ m.tt) rfl;have N:=zb d 2 (I_ 1) rfl;have O:=zb d 3 (I_ m.bau) rfl;have R:=zb d 4 (I_ m.bnu) rfl;have T:=zb d 5 (.slice m.bta m.btn m.btc) rfl;have X:w.heap.size<b.heap.size:=ze d;have C:=World.ownsRow_lit (base:=b.heap.size) (e:=5) (size:=1) b (ub [1,m.fr,m.tt]).toArray 3 (nR_ _) (by decide) rfl;go_wp2_with fail
 refine(zhE b.heap.size _ 3 [1,m.fr,m.tt] m.bau m.bnu m.bta m.btn m.btc ss _ y E u.out B I ?_ ?_ ?_ (zB (nR_ _) _) (by decide)).mono ?_
 .exact(F.below c).below ((bR_ _ _).alloc (nR_ _) _)
 .intro f g e;have:=G f g e;refine⟨by rw[zG];omega,λh=>?_⟩;simp[Value.ownBlock]at h;omega
 .exact C
 rintro e w2⟨J,rfl,D,l⟩;have z:=l.below (base:=b.heap.size) (zB (nR_ _) _) (λq e=>by cases e;exact nR_ _);clear l;go_wp2_with fail
 go_ret2;refine⟨J,rfl,ownsRow_base' D c.size,?_⟩;exact(c.alloc c.size _).trans (z.mono c.size)
theorem zmn (m:Msg)(bl pl:List zi)(w:World)(A:m.ki=2)(J:0<=m.fr/\m.fr<4)(T:0<=m.tt/\m.tt<4)(F:0<=m.hau/\m.hau<4)(R:0<=m.hrd/\m.hrd<=1048576)(y:m.hbn=bl.length)(B:m.hpn=pl.length)(I:bl.length<=4)(O:pl.length<=4)(H:∀p∈bl,p.bs.length=32)(N:∀p∈pl,p.bs.length=32)(t:zx w m.hba m.hbc bl)(u:zx w m.hpa m.hpc pl)
  (z:∀b,B_ w b->Calls prog 29 #[.agg #[I_ m.fr,I_ m.tt,I_ m.ki,I_ m.bau,I_ m.bnu,.slice m.bta m.btn m.btc,I_ m.hau,I_ m.hrd,.slice m.hba m.hbn m.hbc,.slice m.hpa m.hpn m.hpc,I_ m.sau,I_ m.srd,.slice m.sda m.sdn m.sdc,I_ m.cau,I_ m.crd,.slice m.cba m.cbn m.cbc,.slice m.cpa m.cpn m.cpc,.slice m.cva m.cvn m.cvc,I_ m.ro]] b λe w'=>e=.returned (I_ 0)/\B_ b w') :
  Calls prog 22 #[.agg #[I_ m.fr,I_ m.tt,I_ m.ki,I_ m.bau,I_ m.bnu,.slice m.bta m.btn m.btc,I_ m.hau,I_ m.hrd,.slice m.hba m.hbn m.hbc,.slice m.hpa m.hpn m.hpc,I_ m.sau,I_ m.srd,.slice m.sda m.sdn m.sdc,I_ m.cau,I_ m.crd,.slice m.cba m.cbn m.cbc,.slice m.cpa m.cpn m.cpc,.slice m.cva m.cvn m.cvc,I_ m.ro]] w λe w'=>∃v,e=.returned (.tuple #[v,I_ 0])/\w'.ownsRow w.heap.size 5 1 v (3+(zaZ m.hau m.hrd bl pl).length) (ub ([2,m.fr,m.tt]++zaZ m.hau m.hrd bl pl))/\B_ w w':=by
 refine kO_ ?A0 ?_;exact Obj.cells #[I_ m.fr,I_ m.tt,I_ m.ki,I_ m.bau,I_ m.bnu,.slice m.bta m.btn m.btc,I_ m.hau,I_ m.hrd,.slice m.hba m.hbn m.hbc,.slice m.hpa m.hpn m.hpc,I_ m.sau,I_ m.srd,.slice m.sda m.sdn m.sdc,I_ m.cau,I_ m.crd,.slice m.cba m.cbn m.cbc,.slice m.cpa m.cpn m.cpc,.slice m.cva m.cvn m.cvc,I_ m.ro] 66;have C:=hN_ w ?A0;have o:=zC w ?A0;rw[A]at z C o|-;obtain⟨aa,ab⟩:=J;obtain⟨ad,ae⟩:=T;have D:Hid (m.hbn=bl.length):=y;have E:Hid (m.hpn=pl.length):=B;clear y B A;go_in;go_wp2_with (refine wpList_load_row rfl 66 _ rfl w.heap.size rfl 66 _ (0,0) _ C underlying66 rfl zcC ?_)
 refine(z _ o).mono ?_;rintro e b⟨rfl,c⟩;have d:=zbK c;replace c:=zS c;have X:=zb d 0 (I_ m.fr) rfl;have Y:=zb d 1 (I_ m.tt) rfl;have Z:=zb d 2 (I_ 2) rfl;have c6:=zb d 6 (I_ m.hau) rfl;have c7:=zb d 7 (I_ m.hrd) rfl;have c8:=zb d 8 (.slice m.hba m.hbn m.hbc) rfl;have c9:=zb d 9 (.slice m.hpa m.hpn m.hpc) rfl;have ac:w.heap.size<b.heap.size:=ze d;have L:=World.ownsRow_lit (base:=b.heap.size) (e:=5) (size:=1) b (ub [2,m.fr,m.tt]).toArray 3 (nR_ _) (by decide) rfl;have l:=zC b (.cells (ub [2,m.fr,m.tt]).toArray 5);have f:∀(j:Option Addr) (rc:Nat) (g:List zi),zx w j rc g->zfo (b.alloc (.cells (ub [2,m.fr,m.tt]).toArray 5)) (.slice (some ⟨b.heap.size,0,none⟩) 3 3) j g:=λj rc g h=>
  zjG (h.below c) (zB (nR_ _) _) (λU hl e=>by have e':b.heap.size=U:=(by simpa[Value.ownBlock]using e);omega)
 have s:=zf8 b.heap.size (.slice (some ⟨b.heap.size,0,none⟩) 3 3) 3 [2,m.fr,m.tt] m.hau m.hrd m.hba m.hbn m.hbc bl m.hpa m.hpn m.hpc pl _ F R D.out E.out I O H N ((t.below c).below l) (f _ _ _ t) ((u.below c).below l) (f _ _ _ u) L (zB (nR_ _) _) (by decide);clear f;go_wp2_with fail
 refine s.mono ?_;rintro e w2⟨V,rfl,M,r⟩;have G:=r.below (base:=b.heap.size) (zB (nR_ _) _) (λq e=>by cases e;exact nR_ _);clear r s;go_wp2_with fail
 go_ret2;refine⟨V,rfl,ownsRow_base' M c.size,?_⟩;exact(c.alloc c.size _).trans (G.mono c.size)
theorem zmo (base:Nat)(v:Value)(k:Nat)(bs:List Int)(au rd:Int)(c:Option Addr)(n j:Nat)(ds:List Int)(w:World)(F:0<=au/\au<4)(M:0<=rd/\rd<=1048576)(H:n=ds.length)(N:zg w c j ds)(r:∀b d,c=some ⟨b,d,none⟩->b<w.heap.size/\v.ownBlock≠some b)
  (A:w.ownsRow base 5 1 v k (ub bs)) (q:base<=w.heap.size) (hk:k<=90000) (ac:n<=4000) :
  Calls prog 37 #[v,.agg #[I_ au,I_ rd,.slice c n j]] w λe w'=>∃s,e=.returned s/\w'.ownsRow base 5 1 s (k+1+3+n) (ub (bs++[au]++rd3 rd++ds))/\zV w v w' s:=by
 subst H;obtain⟨i,G,V,X,Y⟩:=info_parts zek;obtain⟨aa,ab⟩:=F;have C:v.ownBlock≠some w.heap.size:=λe=>by have:=(A.lt _ e).2;omega
 go_in;go_wp2_with (at_builtin;refine wpList_append_own_at _ rfl _ _ 51 rfl base 5 i (.int .u8 0) 1 1 underlying51 G V X Y rfl (by decide) _ k _ rfl (oA_ (oA_ A _) _) ⟨w.heap.size+1,0,none⟩ 1 1 [.int .u8 au] rfl rfl (by have:=zag (w.alloc (.cells #[I_ au,I_ rd,.slice c ds.length j] 53)) [.int .u8 au] 5;rw[zG]at this;exact this) (zds [_]) (by unfold maxLen;omega) (by omega) (zB (zB q _) _) ?_;intro m o B z _ y;have f:=zV.of z y;have l:=f.row (hX_ w _ _) C;have E:o.cell? ⟨w.heap.size,1,none⟩=some (I_ rd):=zb l 1 _ rfl)
 have I:o.ownsRow base 5 1 m (k+1) (ub (bs++[au])):=by simpa[ub]using B
 have ad:w.heap.size<o.heap.size:=ze l;have U:m.ownBlock≠some w.heap.size:=λe=>by
  rcases f.fresh _ e with g|g
  .exact C g
  .rw[zG,zG]at g;omega
 have O:zg o c j ds:=f.slice (N.below (((bR_ _ _).alloc (nR_ _) _).alloc (by simp) _)) (λb d e=>(r b d e).2);have T:∀b d,c=some ⟨b,d,none⟩->m.ownBlock≠some b:=λb d e h=>by
  rcases f.fresh _ h with g|g
  .exact(r b d e).2 g
  .have:=(r b d e).1;rw[zG,zG]at g;omega
 have t:=f.alloc.alloc;clear B z y f;refine(zeA base m (k+1) _ rd _ M I (nT_ q t.grown.size) (by omega)).mono ?_;rintro e w2⟨v2,rfl,J,p⟩;have Z:=p.row l U;have c2:=zb Z 2 (.slice c ds.length j) rfl;have R:=p.slice O T;have u:=t.trans p;clear l E;go_wp2_with (at_builtin;refine zft rfl _ _ rfl base v2 (k+1+3) _ rfl J c ds.length j ds rfl rfl R (by omega) (nT_ q u.grown.size) ?_;intro v3 w3 L D)
 go_ret;exact⟨v3,rfl,L,u.trans D⟩
end Go.Proofs.YtdnaljbnebnlhaaGreatDoor
