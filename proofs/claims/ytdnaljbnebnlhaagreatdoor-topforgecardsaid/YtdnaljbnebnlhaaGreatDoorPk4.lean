import Derived.Test.YtdnaljbnebnlhaaGreatDoorPk3
set_option maxRecDepth 100000
set_option maxHeartbeats 4000000
namespace Go.Proofs.YtdnaljbnebnlhaaGreatDoor
open Go.RowKit Tryz
theorem zcC:(prog.info? 66).map (·.size)=some 19:=by kernel_rfl
theorem zu6 (m:Msg)(w:World)(d:m.ki=1) :
  Calls prog 52 #[.agg #[I_ m.fr,I_ m.tt,I_ m.ki,I_ m.bau,I_ m.bnu,.slice m.bta m.btn m.btc,I_ m.hau,I_ m.hrd,.slice m.hba m.hbn m.hbc,.slice m.hpa m.hpn m.hpc,I_ m.sau,I_ m.srd,.slice m.sda m.sdn m.sdc,I_ m.cau,I_ m.crd,.slice m.cba m.cbn m.cbc,.slice m.cpa m.cpn m.cpc,.slice m.cva m.cvn m.cvc,I_ m.ro]] w λe w'=>e=.returned (.agg #[I_ m.fr,I_ m.tt,I_ 1,I_ 0,I_ 0,O_,I_ m.hau,I_ m.hrd,.slice m.hba m.hbn m.hbc,.slice m.hpa m.hpn m.hpc,I_ m.sau,I_ m.srd,.slice m.sda m.sdn m.sdc,I_ m.cau,I_ m.crd,.slice m.cba m.cbn m.cbc,.slice m.cpa m.cpn m.cpc,.slice m.cva m.cvn m.cvc,I_ m.ro])/\B_ w w':=by
 rw[d];refine kA_ ?A0 ?_;exact #[I_ m.fr,I_ m.tt,I_ 1,I_ 0,I_ 0,O_,I_ m.hau,I_ m.hrd,.slice m.hba m.hbn m.hbc,.slice m.hpa m.hpn m.hpc,I_ m.sau,I_ m.srd,.slice m.sda m.sdn m.sdc,I_ m.cau,I_ m.crd,.slice m.cba m.cbn m.cbc,.slice m.cpa m.cpn m.cpc,.slice m.cva m.cvn m.cvc,I_ m.ro];refine kA_ ?B0 ?_;exact #[I_ 0,I_ 0,I_ 0,I_ 0,I_ 0,O_,I_ 0,I_ 0,O_,O_,I_ 0,I_ 0,O_,I_ 0,I_ 0,O_,O_,O_,I_ 0];have f:=hX_ w (.cells ?A0 66) (.cells ?B0 66);have b:=hY_ w (.cells ?A0 66) (.cells ?B0 66);have c:B_ w ((w.alloc (.cells ?A0 66)).alloc (.cells ?B0 66)):=((bR_ _ _).alloc (nR_ _) _).alloc (by simp) _;go_in;go_wp2_with (first|refine wpList_load_row rfl 66 _ rfl w.heap.size rfl 66 ?A0 (0,0) _ f underlying66 rfl zcC ?_|refine wpList_store_row rfl 66 _ _ rfl (w.heap.size+1) ?A0 rfl rfl 66 ?B0 b zcC rfl (by simp[Value.oneCell']) ?_)
 exact bodyPost_ret (v:=.agg ?A0) (results_cell_row (fn:=Tryz.f52) (p:=2) (ty:=66) rfl _ _ (w.heap.size+1) 66 _ (0,0) _ rfl (setRow_heap _ _ _ _ _ _ b) underlying66 rfl zcC) rfl ⟨rfl,(Upd.setRow b).below c c.size (by simp)⟩
theorem zu7 (m:Msg)(w:World)(d:m.ki=2) :
  Calls prog 52 #[.agg #[I_ m.fr,I_ m.tt,I_ m.ki,I_ m.bau,I_ m.bnu,.slice m.bta m.btn m.btc,I_ m.hau,I_ m.hrd,.slice m.hba m.hbn m.hbc,.slice m.hpa m.hpn m.hpc,I_ m.sau,I_ m.srd,.slice m.sda m.sdn m.sdc,I_ m.cau,I_ m.crd,.slice m.cba m.cbn m.cbc,.slice m.cpa m.cpn m.cpc,.slice m.cva m.cvn m.cvc,I_ m.ro]] w λe w'=>e=.returned (.agg #[I_ m.fr,I_ m.tt,I_ 2,I_ m.bau,I_ m.bnu,.slice m.bta m.btn m.btc,I_ 0,I_ 0,O_,O_,I_ m.sau,I_ m.srd,.slice m.sda m.sdn m.sdc,I_ m.cau,I_ m.crd,.slice m.cba m.cbn m.cbc,.slice m.cpa m.cpn m.cpc,.slice m.cva m.cvn m.cvc,I_ m.ro])/\B_ w w':=by
 rw[d];refine kA_ ?A0 ?_;exact #[I_ m.fr,I_ m.tt,I_ 2,I_ m.bau,I_ m.bnu,.slice m.bta m.btn m.btc,I_ 0,I_ 0,O_,O_,I_ m.sau,I_ m.srd,.slice m.sda m.sdn m.sdc,I_ m.cau,I_ m.crd,.slice m.cba m.cbn m.cbc,.slice m.cpa m.cpn m.cpc,.slice m.cva m.cvn m.cvc,I_ m.ro];refine kA_ ?B0 ?_;exact #[I_ 0,I_ 0,I_ 0,I_ 0,I_ 0,O_,I_ 0,I_ 0,O_,O_,I_ 0,I_ 0,O_,I_ 0,I_ 0,O_,O_,O_,I_ 0];have f:=hX_ w (.cells ?A0 66) (.cells ?B0 66);have b:=hY_ w (.cells ?A0 66) (.cells ?B0 66);have c:B_ w ((w.alloc (.cells ?A0 66)).alloc (.cells ?B0 66)):=((bR_ _ _).alloc (nR_ _) _).alloc (by simp) _;go_in;go_wp2_with (first|refine wpList_load_row rfl 66 _ rfl w.heap.size rfl 66 ?A0 (0,0) _ f underlying66 rfl zcC ?_|refine wpList_store_row rfl 66 _ _ rfl (w.heap.size+1) ?A0 rfl rfl 66 ?B0 b zcC rfl (by simp[Value.oneCell']) ?_)
 exact bodyPost_ret (v:=.agg ?A0) (results_cell_row (fn:=Tryz.f52) (p:=2) (ty:=66) rfl _ _ (w.heap.size+1) 66 _ (0,0) _ rfl (setRow_heap _ _ _ _ _ _ b) underlying66 rfl zcC) rfl ⟨rfl,(Upd.setRow b).below c c.size (by simp)⟩
theorem zu8 (m:Msg)(w:World)(d:m.ki=3) :
  Calls prog 52 #[.agg #[I_ m.fr,I_ m.tt,I_ m.ki,I_ m.bau,I_ m.bnu,.slice m.bta m.btn m.btc,I_ m.hau,I_ m.hrd,.slice m.hba m.hbn m.hbc,.slice m.hpa m.hpn m.hpc,I_ m.sau,I_ m.srd,.slice m.sda m.sdn m.sdc,I_ m.cau,I_ m.crd,.slice m.cba m.cbn m.cbc,.slice m.cpa m.cpn m.cpc,.slice m.cva m.cvn m.cvc,I_ m.ro]] w λe w'=>e=.returned (.agg #[I_ m.fr,I_ m.tt,I_ 3,I_ m.bau,I_ m.bnu,.slice m.bta m.btn m.btc,I_ m.hau,I_ m.hrd,.slice m.hba m.hbn m.hbc,.slice m.hpa m.hpn m.hpc,I_ 0,I_ 0,O_,I_ m.cau,I_ m.crd,.slice m.cba m.cbn m.cbc,.slice m.cpa m.cpn m.cpc,.slice m.cva m.cvn m.cvc,I_ m.ro])/\B_ w w':=by
 rw[d];refine kA_ ?A0 ?_;exact #[I_ m.fr,I_ m.tt,I_ 3,I_ m.bau,I_ m.bnu,.slice m.bta m.btn m.btc,I_ m.hau,I_ m.hrd,.slice m.hba m.hbn m.hbc,.slice m.hpa m.hpn m.hpc,I_ 0,I_ 0,O_,I_ m.cau,I_ m.crd,.slice m.cba m.cbn m.cbc,.slice m.cpa m.cpn m.cpc,.slice m.cva m.cvn m.cvc,I_ m.ro];refine kA_ ?B0 ?_;exact #[I_ 0,I_ 0,I_ 0,I_ 0,I_ 0,O_,I_ 0,I_ 0,O_,O_,I_ 0,I_ 0,O_,I_ 0,I_ 0,O_,O_,O_,I_ 0];have f:=hX_ w (.cells ?A0 66) (.cells ?B0 66);have b:=hY_ w (.cells ?A0 66) (.cells ?B0 66);have c:B_ w ((w.alloc (.cells ?A0 66)).alloc (.cells ?B0 66)):=((bR_ _ _).alloc (nR_ _) _).alloc (by simp) _;go_in;go_wp2_with (first|refine wpList_load_row rfl 66 _ rfl w.heap.size rfl 66 ?A0 (0,0) _ f underlying66 rfl zcC ?_|refine wpList_store_row rfl 66 _ _ rfl (w.heap.size+1) ?A0 rfl rfl 66 ?B0 b zcC rfl (by simp[Value.oneCell']) ?_)
 exact bodyPost_ret (v:=.agg ?A0) (results_cell_row (fn:=Tryz.f52) (p:=2) (ty:=66) rfl _ _ (w.heap.size+1) 66 _ (0,0) _ rfl (setRow_heap _ _ _ _ _ _ b) underlying66 rfl zcC) rfl ⟨rfl,(Upd.setRow b).below c c.size (by simp)⟩
theorem zu9 (m:Msg)(w:World)(d:m.ki=4) :
  Calls prog 52 #[.agg #[I_ m.fr,I_ m.tt,I_ m.ki,I_ m.bau,I_ m.bnu,.slice m.bta m.btn m.btc,I_ m.hau,I_ m.hrd,.slice m.hba m.hbn m.hbc,.slice m.hpa m.hpn m.hpc,I_ m.sau,I_ m.srd,.slice m.sda m.sdn m.sdc,I_ m.cau,I_ m.crd,.slice m.cba m.cbn m.cbc,.slice m.cpa m.cpn m.cpc,.slice m.cva m.cvn m.cvc,I_ m.ro]] w λe w'=>e=.returned (.agg #[I_ m.fr,I_ m.tt,I_ 4,I_ m.bau,I_ m.bnu,.slice m.bta m.btn m.btc,I_ m.hau,I_ m.hrd,.slice m.hba m.hbn m.hbc,.slice m.hpa m.hpn m.hpc,I_ m.sau,I_ m.srd,.slice m.sda m.sdn m.sdc,I_ 0,I_ 0,O_,O_,O_,I_ m.ro])/\B_ w w':=by
 rw[d];refine kA_ ?A0 ?_;exact #[I_ m.fr,I_ m.tt,I_ 4,I_ m.bau,I_ m.bnu,.slice m.bta m.btn m.btc,I_ m.hau,I_ m.hrd,.slice m.hba m.hbn m.hbc,.slice m.hpa m.hpn m.hpc,I_ m.sau,I_ m.srd,.slice m.sda m.sdn m.sdc,I_ 0,I_ 0,O_,O_,O_,I_ m.ro];refine kA_ ?B0 ?_;exact #[I_ 0,I_ 0,I_ 0,I_ 0,I_ 0,O_,I_ 0,I_ 0,O_,O_,I_ 0,I_ 0,O_,I_ 0,I_ 0,O_,O_,O_,I_ 0];have f:=hX_ w (.cells ?A0 66) (.cells ?B0 66);have b:=hY_ w (.cells ?A0 66) (.cells ?B0 66);have c:B_ w ((w.alloc (.cells ?A0 66)).alloc (.cells ?B0 66)):=((bR_ _ _).alloc (nR_ _) _).alloc (by simp) _;go_in;go_wp2_with (first|refine wpList_load_row rfl 66 _ rfl w.heap.size rfl 66 ?A0 (0,0) _ f underlying66 rfl zcC ?_|refine wpList_store_row rfl 66 _ _ rfl (w.heap.size+1) ?A0 rfl rfl 66 ?B0 b zcC rfl (by simp[Value.oneCell']) ?_)
 exact bodyPost_ret (v:=.agg ?A0) (results_cell_row (fn:=Tryz.f52) (p:=2) (ty:=66) rfl _ _ (w.heap.size+1) 66 _ (0,0) _ rfl (setRow_heap _ _ _ _ _ _ b) underlying66 rfl zcC) rfl ⟨rfl,(Upd.setRow b).below c c.size (by simp)⟩
theorem zva (m:Msg)(w:World)(d:m.ki=5) :
  Calls prog 52 #[.agg #[I_ m.fr,I_ m.tt,I_ m.ki,I_ m.bau,I_ m.bnu,.slice m.bta m.btn m.btc,I_ m.hau,I_ m.hrd,.slice m.hba m.hbn m.hbc,.slice m.hpa m.hpn m.hpc,I_ m.sau,I_ m.srd,.slice m.sda m.sdn m.sdc,I_ m.cau,I_ m.crd,.slice m.cba m.cbn m.cbc,.slice m.cpa m.cpn m.cpc,.slice m.cva m.cvn m.cvc,I_ m.ro]] w λe w'=>e=.returned (.agg #[I_ m.fr,I_ m.tt,I_ 5,I_ m.bau,I_ m.bnu,.slice m.bta m.btn m.btc,I_ m.hau,I_ m.hrd,.slice m.hba m.hbn m.hbc,.slice m.hpa m.hpn m.hpc,I_ m.sau,I_ m.srd,.slice m.sda m.sdn m.sdc,I_ m.cau,I_ m.crd,.slice m.cba m.cbn m.cbc,.slice m.cpa m.cpn m.cpc,.slice m.cva m.cvn m.cvc,I_ 0])/\B_ w w':=by
 rw[d];refine kA_ ?A0 ?_;exact #[I_ m.fr,I_ m.tt,I_ 5,I_ m.bau,I_ m.bnu,.slice m.bta m.btn m.btc,I_ m.hau,I_ m.hrd,.slice m.hba m.hbn m.hbc,.slice m.hpa m.hpn m.hpc,I_ m.sau,I_ m.srd,.slice m.sda m.sdn m.sdc,I_ m.cau,I_ m.crd,.slice m.cba m.cbn m.cbc,.slice m.cpa m.cpn m.cpc,.slice m.cva m.cvn m.cvc,I_ 0];refine kA_ ?B0 ?_;exact #[I_ 0,I_ 0,I_ 0,I_ 0,I_ 0,O_,I_ 0,I_ 0,O_,O_,I_ 0,I_ 0,O_,I_ 0,I_ 0,O_,O_,O_,I_ 0];have f:=hX_ w (.cells ?A0 66) (.cells ?B0 66);have b:=hY_ w (.cells ?A0 66) (.cells ?B0 66);have c:B_ w ((w.alloc (.cells ?A0 66)).alloc (.cells ?B0 66)):=((bR_ _ _).alloc (nR_ _) _).alloc (by simp) _;go_in;go_wp2_with (first|refine wpList_load_row rfl 66 _ rfl w.heap.size rfl 66 ?A0 (0,0) _ f underlying66 rfl zcC ?_|refine wpList_store_row rfl 66 _ _ rfl (w.heap.size+1) ?A0 rfl rfl 66 ?B0 b zcC rfl (by simp[Value.oneCell']) ?_)
 exact bodyPost_ret (v:=.agg ?A0) (results_cell_row (fn:=Tryz.f52) (p:=2) (ty:=66) rfl _ _ (w.heap.size+1) 66 _ (0,0) _ rfl (setRow_heap _ _ _ _ _ _ b) underlying66 rfl zcC) rfl ⟨rfl,(Upd.setRow b).below c c.size (by simp)⟩
theorem zeq (n:Int)(r:Bool)(w:World)(h:r=decide (0<=n/\n<4)):Calls prog 49 #[I_ n] w λe w'=>e=.returned (.bool r)/\w=w':=by
 by_cases h1:0<=n
 .by_cases h2:n<4;obtain rfl:r=true:=by simp[h,h1,h2]
  rotate_left
  obtain rfl:r=false:=by simp[h,h2]
  rotate_left
  all_goals
   clear h;go_in
   go_wp2
   go_ret;exact⟨rfl,rfl⟩
 .obtain rfl:r=false:=by simp[h,h1]
  clear h;go_in
  go_wp2
  go_ret;exact⟨rfl,rfl⟩
theorem zdX (n:Int)(r:Bool)(w:World)(h:r=decide (1<=n/\n<=1048576)):Calls prog 80 #[I_ n] w λe w'=>e=.returned (.bool r)/\w=w':=by
 by_cases h1:1<=n
 .by_cases h2:n<=1048576;obtain rfl:r=true:=by simp[h,h1,h2]
  rotate_left
  obtain rfl:r=false:=by simp[h,h2]
  rotate_left
  all_goals
   clear h;go_in
   go_wp2
   go_ret;exact⟨rfl,rfl⟩
 .obtain rfl:r=false:=by simp[h,h1]
  clear h;go_in
  go_wp2
  go_ret;exact⟨rfl,rfl⟩
theorem zaS (n:Int)(w:World)(h:0<=n/\n<4):Calls prog 49 #[I_ n] w λe w'=>e=.returned (.bool true)/\w=w':=zeq n true w (by simp[h])
theorem zaD (n:Int)(w:World)(h:¬(0<=n/\n<4)):Calls prog 49 #[I_ n] w λe w'=>e=.returned (.bool false)/\w=w':=zeq n false w (by rw[dF_ h])
theorem zbB (n:Int)(w:World)(h:1<=n/\n<=1048576):Calls prog 80 #[I_ n] w λe w'=>e=.returned (.bool true)/\w=w':=zdX n true w (by simp[h])
theorem zbj (n:Int)(w:World)(h:¬(1<=n/\n<=1048576)):Calls prog 80 #[I_ n] w λe w'=>e=.returned (.bool false)/\w=w':=zdX n false w (by rw[dF_ h])
def zab (m:Msg):Msg:=if m.ki=1 then { m with bau:=0,bnu:=0,bta:=none,btn:=0,btc:=0 } else if m.ki=2 then { m with hau:=0,hrd:=0,hba:=none,hbn:=0,hbc:=0,hpa:=none,hpn:=0,hpc:=0 } else if m.ki=3 then { m with sau:=0,srd:=0,sda:=none,sdn:=0,sdc:=0 } else if m.ki=4 then { m with cau:=0,crd:=0,cba:=none,cbn:=0,cbc:=0,cpa:=none,cpn:=0,cpc:=0,cva:=none,cvn:=0,cvc:=0 } else { m with ro:=0 }
theorem zpM (m:Msg)(w:World)(c:1<=m.ki/\m.ki<=5) :
  Calls prog 52 #[.agg #[I_ m.fr,I_ m.tt,I_ m.ki,I_ m.bau,I_ m.bnu,.slice m.bta m.btn m.btc,I_ m.hau,I_ m.hrd,.slice m.hba m.hbn m.hbc,.slice m.hpa m.hpn m.hpc,I_ m.sau,I_ m.srd,.slice m.sda m.sdn m.sdc,I_ m.cau,I_ m.crd,.slice m.cba m.cbn m.cbc,.slice m.cpa m.cpn m.cpc,.slice m.cva m.cvn m.cvc,I_ m.ro]] w λe w'=>e=.returned (.agg #[I_ (zab m).fr,I_ (zab m).tt,I_ (zab m).ki,I_ (zab m).bau,I_ (zab m).bnu,.slice (zab m).bta (zab m).btn (zab m).btc,I_ (zab m).hau,I_ (zab m).hrd,.slice (zab m).hba (zab m).hbn (zab m).hbc,.slice (zab m).hpa (zab m).hpn (zab m).hpc,I_ (zab m).sau,I_ (zab m).srd,.slice (zab m).sda (zab m).sdn (zab m).sdc,I_ (zab m).cau,I_ (zab m).crd,.slice (zab m).cba (zab m).cbn (zab m).cbc,.slice (zab m).cpa (zab m).cpn (zab m).cpc,.slice (zab m).cva (zab m).cvn (zab m).cvc,I_ (zab m).ro])/\B_ w w':=by
 have h:m.ki=1\/m.ki=2\/m.ki=3\/m.ki=4\/m.ki=5:=by omega
 rcases h with h|h|h|h|h;refine(zu6 m w h).mono ?_
 rotate_left
 refine(zu7 m w h).mono ?_
 rotate_left
 refine(zu8 m w h).mono ?_
 rotate_left
 refine(zu9 m w h).mono ?_
 rotate_left
 refine(zva m w h).mono ?_
 rotate_left
 all_goals
  rintro e w'⟨rfl,b⟩;exact⟨by simp[zab,h],b⟩
def zP (m:Msg)(e:Int):Int:=if ¬(0<=m.fr/\m.fr<4)\/¬(0<=m.tt/\m.tt<4)then 2 else if e≠0 then e else if zaq (zab m)then 0 else 4
theorem zvb (m:Msg)(c:Int)(w:World)(r:c=0->1<=m.ki/\m.ki<=5)
  (o:∀f,B_ w f->Calls prog 50 #[.agg #[I_ m.fr,I_ m.tt,I_ m.ki,I_ m.bau,I_ m.bnu,.slice m.bta m.btn m.btc,I_ m.hau,I_ m.hrd,.slice m.hba m.hbn m.hbc,.slice m.hpa m.hpn m.hpc,I_ m.sau,I_ m.srd,.slice m.sda m.sdn m.sdc,I_ m.cau,I_ m.crd,.slice m.cba m.cbn m.cbc,.slice m.cpa m.cpn m.cpc,.slice m.cva m.cvn m.cvc,I_ m.ro]] f λe w'=>e=.returned (I_ c)/\B_ f w') :
  Calls prog 29 #[.agg #[I_ m.fr,I_ m.tt,I_ m.ki,I_ m.bau,I_ m.bnu,.slice m.bta m.btn m.btc,I_ m.hau,I_ m.hrd,.slice m.hba m.hbn m.hbc,.slice m.hpa m.hpn m.hpc,I_ m.sau,I_ m.srd,.slice m.sda m.sdn m.sdc,I_ m.cau,I_ m.crd,.slice m.cba m.cbn m.cbc,.slice m.cpa m.cpn m.cpc,.slice m.cva m.cvn m.cvc,I_ m.ro]] w λe w'=>e=.returned (I_ (zP m c))/\B_ w w':=by
 refine kA_ ?A0 ?_;exact #[I_ m.fr,I_ m.tt,I_ m.ki,I_ m.bau,I_ m.bnu,.slice m.bta m.btn m.btc,I_ m.hau,I_ m.hrd,.slice m.hba m.hbn m.hbc,.slice m.hpa m.hpn m.hpc,I_ m.sau,I_ m.srd,.slice m.sda m.sdn m.sdc,I_ m.cau,I_ m.crd,.slice m.cba m.cbn m.cbc,.slice m.cpa m.cpn m.cpc,.slice m.cva m.cvn m.cvc,I_ m.ro];have p:=hN_ w (.cells ?A0 66);have g:=zC w (.cells ?A0 66);by_cases hf:0<=m.fr/\m.fr<4
 .by_cases ht:0<=m.tt/\m.tt<4
  .by_cases he:c=0;obtain⟨s,t⟩:=r he;subst he
   rotate_left
   have b:Hid (zP m c=c):=by show _=_;simp[zP,hf,ht,he]
   rotate_left
   all_goals
    go_in;go_wp2_with (first|(go_at_call 49;first|(refine(zaS _ _ (by omega)).mono ?_;rintro e w'⟨rfl,rfl⟩)|(refine(zaD _ _ (by omega)).mono ?_;rintro e w'⟨rfl,rfl⟩))|refine wpList_load_row rfl 66 _ rfl w.heap.size rfl 66 ?A0 (0,0) _ p underlying66 rfl zcC ?_)
    refine(o _ g).mono ?_;rintro e f⟨rfl,d⟩
   .have u:=zbK d;replace d:=zS d;go_wp2_with (first|refine wpList_load_row rfl 66 _ rfl w.heap.size rfl 66 ?A0 (0,0) _ u underlying66 rfl zcC ?_)
    refine(zpM m f ⟨s,t⟩).mono ?_;rintro e w2⟨rfl,q⟩;have j:=zm d q;by_cases hm:zaq (zab m);have b:Hid (zP m 0=0):=by show _=_;simp[zP,hf,ht,hm]
    go_wp2_with fail
    refine(zjE (zab m) true w2 hm.symm).mono ?_
    rotate_left
    have b:Hid (zP m 0=4):=by show _=_;simp[zP,hf,ht,hm]
    go_wp2_with fail
    refine(zjE (zab m) false w2 (by simp at hm;exact hm.symm)).mono ?_
    rotate_left
    all_goals
     rintro e y⟨rfl,l⟩;go_wp2_with fail
     go_ret;exact⟨zt b.out.symm,j.trans (l.mono j.size)⟩
   .replace d:=zS d;go_wp2_with fail
    go_ret;exact⟨zt b.out.symm,d⟩
  .have b:Hid (zP m c=2):=by show _=_;simp[zP,ht]
   go_in;go_wp2_with (go_at_call 49;first|(refine(zaS _ _ (by omega)).mono ?_;rintro e w'⟨rfl,rfl⟩)|(refine(zaD _ _ (by omega)).mono ?_;rintro e w'⟨rfl,rfl⟩))
   go_ret;exact⟨zt b.out.symm,g⟩
 .have b:Hid (zP m c=2):=by show _=_;simp[zP,hf]
  go_in;go_wp2_with (go_at_call 49;first|(refine(zaS _ _ (by omega)).mono ?_;rintro e w'⟨rfl,rfl⟩)|(refine(zaD _ _ (by omega)).mono ?_;rintro e w'⟨rfl,rfl⟩))
  go_ret;exact⟨zt b.out.symm,g⟩
theorem zs9 {α:Type}(l:List α)(p:α->Bool)(d:α)(k:Nat)(b:k<l.length)(h:p (l.getD k d)=false):l.all p=false:=by
 rw[List.all_eq_false];refine⟨l[k],gM_ b,?_⟩;rw[List.getD,List.getElem?_eq_getElem b]at h
 simpa using h
theorem zvc {α:Type}(l:List α)(p:α->Bool)(d:α)(h:∀j,j<l.length->p (l.getD j d)=true):l.all p=true:=by
 rw[List.all_eq_true];intro x c;obtain⟨j,b,rfl⟩:=List.getElem_of_mem c;have:=h j b
 rwa [List.getD,List.getElem?_eq_getElem b]at this
def zbM (s:ByteArray):Bool:=decide (1<=s.size/\s.size<=20)
def zbk (au nu:Int)(ss:List ByteArray):Int:=if ¬(0<=au/\au<4)\/¬(1<=nu/\nu<=1048576)then 2 else if ss.length<1\/4<ss.length then 1 else if ss.all zbM then 0 else 1
def zbf (au rd:Int)(n:Nat):Int:=if ¬(0<=au/\au<4)\/¬(1<=rd/\rd<=1048576)then 2 else if n≠32 then 4 else 0
theorem zgC (au rd:Int)(d:Option Addr)(n c:Nat)(w:World) :
  Calls prog 78 #[.agg #[I_ au,I_ rd,.slice d n c]] w λe w'=>e=.returned (I_ (zbf au rd n))/\B_ w w':=by
 by_cases ha:0<=au/\au<4
 .by_cases hr:1<=rd/\rd<=1048576
  .by_cases hn:n=32;subst hn;have b:Hid (zbf au rd 32=0):=by show _=_;simp[zbf,ha,hr]
   rotate_left
   have b:Hid (zbf au rd n=4):=by show _=_;simp[zbf,ha,hr,hn]
   have f:¬(n:Int)=32:=by omega
   rotate_left
   all_goals
    go_in;go_wp2_with (first|(go_at_call 49;refine(zeq _ true _ (by simp[ha])).mono ?_;rintro e w'⟨rfl,rfl⟩)|(go_at_call 80;refine(zdX _ true _ (by simp[hr])).mono ?_;rintro e w'⟨rfl,rfl⟩))
    go_ret;exact⟨zt b.out.symm,(bR_ _ _).alloc (nR_ _) _⟩
  .have b:Hid (zbf au rd n=2):=by show _=_;simp[zbf,hr]
   go_in;go_wp2_with (first|(go_at_call 49;refine(zeq _ true _ (by simp[ha])).mono ?_;rintro e w'⟨rfl,rfl⟩)|(go_at_call 80;refine(zdX _ false _ (by simp[hr])).mono ?_;rintro e w'⟨rfl,rfl⟩))
   go_ret;exact⟨zt b.out.symm,(bR_ _ _).alloc (nR_ _) _⟩
 .have b:Hid (zbf au rd n=2):=by show _=_;simp[zbf,ha]
  go_in;go_wp2_with (first|(go_at_call 49;refine(zeq _ false _ (by simp[ha])).mono ?_;rintro e w'⟨rfl,rfl⟩)|(go_at_call 80;refine(zdX _ true _ (by simp[hr])).mono ?_;rintro e w'⟨rfl,rfl⟩))
  go_ret;exact⟨zt b.out.symm,(bR_ _ _).alloc (nR_ _) _⟩
variable {w w':World}{ss:List ByteArray}{vl:List Int}{bl pl cbl cpl:List zi}
structure zeX (w:World)(m:Msg)(ss:List ByteArray)(bl pl cbl cpl:List zi)(vl:List Int):Prop where
 e1:m.btn=ss.length
 e2:m.hbn=bl.length
 e3:m.hpn=pl.length
 e4:m.cbn=cbl.length
 e5:m.cpn=cpl.length
 e6:m.cvn=vl.length
 s1:ss.length<=9000000000000000000
 s6:vl.length<=9000000000000000000
 s7:m.sdn<=9000000000000000000
 txs:zas w m.bta ss
 bat:zx w m.hba m.hbc bl
 par:zx w m.hpa m.hpc pl
 cbat:zx w m.cba m.cbc cbl
 cpar:zx w m.cpa m.cpc cpl
 vot:zax w m.cva vl
theorem zeX.below {m:Msg}(h:zeX w m ss bl pl cbl cpl vl)(b:B_ w w'):zeX w' m ss bl pl cbl cpl vl:=⟨h.e1,h.e2,h.e3,h.e4,h.e5,h.e6,h.s1,h.s6,h.s7,h.txs.below b,h.bat.below b,h.par.below b,h.cbat.below b,h.cpar.below b,h.vot.below b⟩
def zD (m:Msg)(ss:List ByteArray)(bl pl cbl cpl:List zi)(vl:List Int):Int:=if m.ki=1 then zbk m.bau m.bnu ss else if m.ki=2 then zO m.hau m.hrd bl pl else if m.ki=3 then zbf m.sau m.srd m.sdn else if m.ki=4 then zap m.cau m.crd cbl cpl vl else if m.ki=5 then(if 1<=m.ro/\m.ro<=1048576 then 0 else 2)else 3
variable {B rc:Nat}{qs:List zi}{ra:Option Addr}
structure ziF (B:Nat)(m:Msg)(bl pl cbl cpl:List zi):Prop where
 tx:∀sb so,m.bta=some ⟨sb,so,none⟩->B<=sb
 hb:za1 B m.hba bl
 hp:za1 B m.hpa pl
 sd:∀sb so,m.sda=some ⟨sb,so,none⟩->B<=sb
 cb:za1 B m.cba cbl
 cp:za1 B m.cpa cpl
 cv:∀sb so,m.cva=some ⟨sb,so,none⟩->B<=sb
theorem zgD (w:World):zg w none 0 []:=⟨nR_ _,by decide,.inl rfl,λ_=>rfl,.inl rfl⟩
theorem za1.monoM {d:Nat}(h:za1 B ra qs)(f:d<=B):za1 d ra qs:=⟨λb c e=>nT_ f (h.row b c e),λp g b c e=>nT_ f (h.each p g b c e)⟩
structure U8M (bl pl cbl cpl:List zi)(ds:List Int):Prop where
 hb:∀p∈bl,∀x∈p.bs,0<=x/\x<=255
 hp:∀p∈pl,∀x∈p.bs,0<=x/\x<=255
 cb:∀p∈cbl,∀x∈p.bs,0<=x/\x<=255
 cp:∀p∈cpl,∀x∈p.bs,0<=x/\x<=255
 sd:∀x∈ds,0<=x/\x<=255
theorem zbL {α:Type}{P:α->Prop}:∀p∈([]:List α),P p:=λp b=>by cases b
theorem zfG (h:zx w ra rc qs)(g:za1 B ra qs)(b:Nat)(cs:Array Value)(m:b<B):zx (w.setRow b cs) ra rc qs:=by
 refine⟨h.le,h.max,h.small,h.some,⟨?_,λp j=>?_⟩⟩
 .rcases h.parts.cells with f|⟨c,d,rfl,f⟩
  .exact .inl f
  .exact .inr ⟨c,d,rfl,λk l=>(ziE (by have:=g.row c d rfl;omega)).trans (f k l)⟩
 .exact zjF (h.parts.each p j) b cs (λc d e=>by have:=g.each p j c d e;omega)
theorem zaj (w:World):zx w none 0 []:=⟨nR_ _,by decide,by decide,.inl rfl,⟨.inl rfl,λp b=>by cases b⟩⟩
variable {sa:Option Addr}{cap:Nat}{bs:List Int}{G:Nat->Prop}
structure MV where
 (m:Msg) (ss:List ByteArray) (bl pl cbl cpl:List zi) (ds vl:List Int)
def MV.car (x:MV):Int:=zD x.m x.ss x.bl x.pl x.cbl x.cpl x.vl
structure zgE (G:Nat->Prop)(ra:Option Addr)(qs:List zi):Prop where
 row:∀sb so,ra=some ⟨sb,so,none⟩->qs≠[]->G sb
 each:∀p∈qs,∀sb so,p.sa=some ⟨sb,so,none⟩->p.bs≠[]->G sb
structure zbU (G:Nat->Prop)(x:MV):Prop where
 tx:∀sb so,x.m.bta=some ⟨sb,so,none⟩->x.ss≠[]->G sb
 hb:zgE G x.m.hba x.bl
 hp:zgE G x.m.hpa x.pl
 sd:∀sb so,x.m.sda=some ⟨sb,so,none⟩->x.ds≠[]->G sb
 cb:zgE G x.m.cba x.cbl
 cp:zgE G x.m.cpa x.cpl
 cv:∀sb so,x.m.cva=some ⟨sb,so,none⟩->x.vl≠[]->G sb
structure MAt (w:World)(x:MV):Prop where
 at':zeX w x.m x.ss x.bl x.pl x.cbl x.cpl x.vl
 dig:zg w x.m.sda x.m.sdc x.ds
 dn:x.m.sdn=x.ds.length
structure zaT (x:MV):Prop where
 car:x.car=0
 emp:zaq (zab x.m)=true
 fr:x.m.fr=0
 tt:x.m.tt=0
 ki:x.m.ki≠5
theorem MAt.below {x:MV}(h:MAt w x)(b:B_ w w'):MAt w' x:=⟨h.at'.below b,h.dig.below b,h.dn⟩
theorem zgE.mono {d:Nat->Prop}(h:zgE G ra qs)(f:∀k,G k->d k):zgE d ra qs:=⟨λb c e n=>f _ (h.row b c e n),λp g b c e n=>f _ (h.each p g b c e n)⟩
theorem zbU.mono {f:Nat->Prop}{x:MV}(h:zbU G x)(b:∀k,G k->f k):zbU f x:=
 ⟨λc d e n=>b _ (h.tx c d e n),h.hb.mono b,h.hp.mono b,λc d e n=>b _ (h.sd c d e n),h.cb.mono b,h.cp.mono b,λc d e n=>b _ (h.cv c d e n)⟩
theorem ziF.has {x:MV}(h:ziF B x.m x.bl x.pl x.cbl x.cpl):zbU (λk=>B<=k) x:=
 ⟨λb c e _=>h.tx b c e,⟨λb c e _=>h.hb.row b c e,λp d b c e _=>h.hb.each p d b c e⟩,⟨λb c e _=>h.hp.row b c e,λp d b c e _=>h.hp.each p d b c e⟩,λb c e _=>h.sd b c e,⟨λb c e _=>h.cb.row b c e,λp d b c e _=>h.cb.each p d b c e⟩,⟨λb c e _=>h.cp.row b c e,λp d b c e _=>h.cp.each p d b c e⟩,λb c e _=>h.cv b c e⟩
theorem zdA {α:Type}{l:List α}(h:l≠[]):0<l.length:=by cases l with|nil=>exact absurd rfl h|cons _ _=>simp
theorem zhh (h:zg w sa cap bs)(c:bs≠[]){d j:Nat}(e:sa=some ⟨d,j,none⟩):d<w.heap.size:=by
 rcases h.bytes with f|⟨l,m,b,g⟩
 .exact absurd f c
 .rw[e]at b;cases b;exact bL_ (g 0 (zdA c))
theorem zgE.lt (h:zgE G ra qs)(H:zx w ra rc qs):zgE (λk=>G k/\k<w.heap.size) ra qs:=by
 refine⟨λb c e n=>⟨h.row b c e n,?_⟩,λp f b c e n=>⟨h.each p f b c e n,zhh (H.parts.each p f) n e⟩⟩;rcases H.parts.cells with g|⟨l,m,d,j⟩
 .exact absurd g n
 .rw[e]at d;cases d;exact bL_ (j 0 (zdA n))
theorem zbU.lt {x:MV}(h:zbU G x)(H:MAt w x):zbU (λk=>G k/\k<w.heap.size) x:=by
 refine⟨λc d e n=>⟨h.tx c d e n,?_⟩,h.hb.lt H.at'.bat,h.hp.lt H.at'.par,λc d e n=>⟨h.sd c d e n,zhh H.dig n e⟩,h.cb.lt H.at'.cbat,h.cp.lt H.at'.cpar,λc d e n=>⟨h.cv c d e n,?_⟩⟩
 .rcases H.at'.txs.cells with f|⟨j,l,b,g⟩
  .exact absurd f n
  .rw[e]at b;cases b;exact bL_ (g 0 (zdA n))
 .rcases H.at'.vot.cells with f|⟨j,l,b,g⟩
  .exact absurd f n
  .rw[e]at b;cases b;exact bL_ (g 0 (zdA n))
theorem zcp (m:∀k,G k->w'.heap[k]? = w.heap[k]?)(h:zg w sa cap bs)(d:∀b c,sa=some ⟨b,c,none⟩->bs≠[]->G b):zg w' sa cap bs:=by
 refine⟨h.le,h.max,h.some,h.nil,?_⟩;rcases h.bytes with f|⟨b,c,e,g⟩
 .exact .inl f
 .by_cases hz:bs=[]
  .exact .inl hz
  .exact .inr ⟨b,c,e,λj l=>(cB_ (m b (d b c e hz))).trans (g j l)⟩
theorem zfH (d:∀k,G k->w'.heap[k]? = w.heap[k]?)(h:zx w ra rc qs)(c:zgE G ra qs):zx w' ra rc qs:=by
 refine⟨h.le,h.max,h.small,h.some,⟨?_,λp f=>zcp d (h.parts.each p f) (c.each p f)⟩⟩;rcases h.parts.cells with l|⟨b,g,e,m⟩
 .exact .inl l
 .by_cases hz:qs=[]
  .exact .inl hz
  .exact .inr ⟨b,g,e,λj o=>(cB_ (d b (c.row b g e hz))).trans (m j o)⟩
theorem MAt.stays {x:MV}(c:∀k,G k->w'.heap[k]? = w.heap[k]?)(h:MAt w x)(b:zbU G x):MAt w' x:=by
 refine⟨⟨h.at'.e1,h.at'.e2,h.at'.e3,h.at'.e4,h.at'.e5,h.at'.e6,h.at'.s1,h.at'.s6,h.at'.s7,⟨?_,h.at'.txs.size⟩,zfH c h.at'.bat b.hb,zfH c h.at'.par b.hp,zfH c h.at'.cbat b.cb,zfH c h.at'.cpar b.cp,⟨?_⟩⟩,zcp c h.dig b.sd,h.dn⟩
 .rcases h.at'.txs.cells with g|⟨d,f,e,l⟩
  .exact .inl g
  .by_cases hz:x.ss=[]
   .exact .inl hz
   .exact .inr ⟨d,f,e,λj m=>(cB_ (c d (b.tx d f e hz))).trans (l j m)⟩
 .rcases h.at'.vot.cells with g|⟨d,f,e,l⟩
  .exact .inl g
  .by_cases hz:x.vl=[]
   .exact .inl hz
   .exact .inr ⟨d,f,e,λj m=>(cB_ (c d (b.cv d f e hz))).trans (l j m)⟩
theorem MAt.setRow {x:MV}{b:Nat}{cs:Array Value}(h:MAt w x)(c:zbU (λk=>B<=k) x)(d:b<B):MAt (w.setRow b cs) x:=
 h.stays (G:=λk=>B<=k) (λk f=>setRow_other w b k cs (by omega)) c
theorem zrl (m:Msg)(a b:Int):zaq (zab { m with fr:=a,tt:=b })=zaq (zab m):=by
 by_cases k1:m.ki=1
 .simp[zab,zaq,k1]
 by_cases k2:m.ki=2
 .simp[zab,zaq,k2]
 by_cases k3:m.ki=3
 .simp[zab,zaq,k3]
 by_cases k4:m.ki=4
 .simp[zab,zaq,k4]
 .simp[zab,zaq,k1,k2,k3,k4]
end Go.Proofs.YtdnaljbnebnlhaaGreatDoor
