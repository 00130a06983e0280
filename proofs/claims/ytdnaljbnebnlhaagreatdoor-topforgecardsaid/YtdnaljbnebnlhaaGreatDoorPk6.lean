import Derived.Test.YtdnaljbnebnlhaaGreatDoorPk5
import Derived.BigQuiet
import Derived.Laws.CopyOwn
set_option maxRecDepth 100000
set_option maxHeartbeats 4000000
namespace Go.Proofs.YtdnaljbnebnlhaaGreatDoor
open Go.RowKit Tryz
theorem zvf (x n:Int)(w:World)(h:n=16\/n=12\/n=8\/n=7) :
  Calls prog 193 #[.int .u32 x,I_ n] w λe w'=>e=.returned (.int .u32 (zn9 n x))/\w'=w:=by
 have b:bits .and .u64 (IntKind.u64.wrap (-16)) 31=16:=by decide
 have c:bits .and .u64 (IntKind.u64.wrap (-12)) 31=20:=by decide
 have d:bits .and .u64 (IntKind.u64.wrap (-8)) 31=24:=by decide
 have f:bits .and .u64 (IntKind.u64.wrap (-7)) 31=25:=by decide
 rcases h with rfl|rfl|rfl|rfl
 all_goals
  go_in
  go_wp2
  go_ret;exact⟨rfl,rfl⟩
theorem ztc (bv l0 l1 l2 l3 : Nat) (a b c d x y : Int) (w : World) (hbv : bv < w.heap.size)
   (h0 : l0 < 16) (h1 : l1 < 16) (h2 : l2 < 16) (h3 : l3 < 16)
   (n01 : ¬ l0 = l1) (n02 : ¬ l0 = l2) (n03 : ¬ l0 = l3) (n12 : ¬ l1 = l2) (n13 : ¬ l1 = l3) (n23 : ¬ l2 = l3)
   (ha : w.cell? ⟨bv, l0, none⟩ = some (.int .u32 a)) (hb : w.cell? ⟨bv, l1, none⟩ = some (.int .u32 b)) (hc : w.cell? ⟨bv, l2, none⟩ = some (.int .u32 c)) (hd : w.cell? ⟨bv, l3, none⟩ = some (.int .u32 d))
   (fa : ∀j, w.frozen? ⟨bv, j, none⟩ = false) :
    Calls prog 162 #[P_ bv 0, .agg #[.int .u8 l0, .int .u8 l1, .int .u8 l2, .int .u8 l3], .int .u32 x, .int .u32 y] w λe w' => e = .returned (.tuple #[]) /\ ∃n, w' = (((((w.alloc (.cells #[.int .u8 l0, .int .u8 l1, .int .u8 l2, .int .u8 l3] 231)).drewN n).setCell ⟨bv, l0, none⟩ (.int .u32 (mA a b c d x y))).setCell ⟨bv, l1, none⟩ (.int .u32 (mB a b c d x y))).setCell ⟨bv, l2, none⟩ (.int .u32 (mC a b c d x y))).setCell ⟨bv, l3, none⟩ (.int .u32 (mD a b c d x y)) := by
  have f : (l0 : Int) < 16 := by omega
  have g : (l1 : Int) < 16 := by omega
  have l : (l2 : Int) < 16 := by omega
  have m : (l3 : Int) < 16 := by omega
  go_enter func162, ntmps162
  go_wp2
  go_quiet (fail)
  go_wp2_with (go_at_call 193; refine(zvf _ _ _ (by decide)).mono ?_; rintro e w'⟨rfl, rfl⟩)
  go_region
  go_end0
  exact⟨rfl, _, rfl⟩
theorem zwT (vs : List Int) (bv l0 l1 l2 l3 : Nat) (x y : Int) (w : World) (hl : vs.length = 16) (hb : R_ w bv (ua vs) 226)
   (h0 : l0 < 16) (h1 : l1 < 16) (h2 : l2 < 16) (h3 : l3 < 16)
   (n01 : ¬ l0 = l1) (n02 : ¬ l0 = l2) (n03 : ¬ l0 = l3) (n12 : ¬ l1 = l2) (n13 : ¬ l1 = l3) (n23 : ¬ l2 = l3) :
    Calls prog 162 #[P_ bv 0, .agg #[.int .u8 l0, .int .u8 l1, .int .u8 l2, .int .u8 l3], .int .u32 x, .int .u32 y] w λe w' => e = .returned (.tuple #[]) /\ Upd bv (.cells (ua (zoa vs l0 l1 l2 l3 x y)) 226 (0, 0)) w w' := by
  have b : ∀j, j < 16 -> w.cell? ⟨bv, j, none⟩ = some (.int .u32 (vs.getD j 0)) := λj c => by
    rw [cell_of_row w bv j _ _ _ hb, zdZ _ _ (by omega)]
  refine(ztc bv l0 l1 l2 l3 _ _ _ _ x y w (ze hb) h0 h1 h2 h3 n01 n02 n03 n12 n13 n23 (b _ h0) (b _ h1) (b _ h2) (b _ h3) (λj => frozen_of_row w bv j _ _ hb)).mono ?_
  rintro e w'⟨rfl, n, rfl⟩
  refine⟨rfl, ?_⟩
  have h := (((((Upd.refl hb).alloc (.cells #[.int .u8 l0, .int .u8 l1, .int .u8 l2, .int .u8 l3] 231)).drewN n).setCell l0 (.int .u32 (mA (vs.getD l0 0) (vs.getD l1 0) (vs.getD l2 0) (vs.getD l3 0) x y))).setCell l1 (.int .u32 (mB (vs.getD l0 0) (vs.getD l1 0) (vs.getD l2 0) (vs.getD l3 0) x y))).setCell l2 (.int .u32 (mC (vs.getD l0 0) (vs.getD l1 0) (vs.getD l2 0) (vs.getD l3 0) x y)) |>.setCell l3 (.int .u32 (mD (vs.getD l0 0) (vs.getD l1 0) (vs.getD l2 0) (vs.getD l3 0) x y))
  rw [zel, zel, zel, zel]at h
  exact h
theorem zlr (bs:List Int):(prog.info? 225).map (·.size)=some (ua (zbr bs bs.length)).size:=by
 rw[zcd,zeY];kernel_rfl
theorem zmV (bs:List Int):(ua (List.replicate 16 0)).size=(ua (zbr bs bs.length)).size:=by
 rw[zcd,zcd,zeY];rfl
theorem ztd (bs:List Int)(o:Option Addr)(r:Nat)(w:World)(B:bs.length<=64)(b:za5 w o bs) :
  Calls prog 161 #[.slice o bs.length r] w λe w'=>e=.returned (.agg (ua (zbr bs bs.length)))/\B_ w w':=by
 go_in
 go_wp2
 go_loopw [8] (λi wr=>∃k:Nat,k<=bs.length/\i=I_ k/\B_ w wr/\R_ wr (w.heap.size+1) (ua (zbr bs k)) 225/\R_ wr w.heap.size (ua (List.replicate 16 0)) 225) (λi _=>bs.length-(intOf i).toNat)
 case atStart=>exact⟨0,nZ_ _,rfl,((bR_ _ _).alloc (nR_ _) _).alloc (by simp) _,heap_alloc2_new _ _ _,heap_alloc2_old _ _ _⟩
 case round=>
  obtain⟨k,A,rfl,f,d,c⟩:=hrel;by_cases hlt:k<bs.length
  .rcases b with b|⟨l,q,rfl,b⟩
   .subst b;simp at hlt
   have y:l<w.heap.size:=block_lt_of_cell (b k hlt);have s:wr.cell? ⟨l,q+k,none⟩=some (.int .u8 (bs.getD k 0)):=(f.cell (p:=⟨l,q+k,none⟩) y).trans (b k hlt);have t:wr.cell? ⟨w.heap.size+1,k / 4,none⟩=some (.int .u32 ((zbr bs k).getD (k / 4) 0)):=by
    rw[cell_of_row wr _ _ _ _ _ d,zdZ _ _ (by rw[zeY];omega)]
   have z:=frozen_of_row wr _ (k / 4) _ _ d;have g:Hid ((zbr bs (k+1))=(zbr bs k).set (k / 4) (bits .or .u32 ((zbr bs k).getD (k / 4) 0) (bs.getD k 0 % 4294967296*2 ^ (8*(k % 4)) % 4294967296))):=rfl;generalize bs.getD k 0=x at s g;generalize (zbr bs k).getD (k / 4) 0=m at t g
   go_wp2
   go_region
   go_wp2
   go_roundw
   case rel=>
    refine⟨k+1,by omega,by go_num,(f.setCell (p:=⟨w.heap.size+1,k / 4,none⟩) (by simp) _).drew,?_,?_⟩
    .rw[g.out,<-zel];exact heap_setCell_same wr _ _ _ _ _ d
    .exact(Below.heap_setCell wr _ _ _ (by simp)).trans c
   case measure=>simp[intOf];omega
  .obtain rfl:k=bs.length:=by omega
   have j:=zlr bs;have u:=zmV bs;go_wp2_with (first|refine wpList_load_row rfl 225 _ rfl (w.heap.size+1) rfl 225 (ua (zbr bs bs.length)) (0,0) _ d underlying225 rfl j ?_|refine wpList_store_row rfl 225 _ _ rfl w.heap.size (ua (zbr bs bs.length)) rfl rfl 225 (ua (List.replicate 16 0)) c j u (zfI _) ?_)
   exact bodyPost_ret (v:=.agg (ua (zbr bs bs.length))) (results_cell_row (fn:=Tryz.f161) (p:=2) (ty:=225) rfl _ _ w.heap.size 225 _ (0,0) _ rfl (setRow_heap wr _ _ _ _ _ c) underlying225 rfl j) rfl ⟨rfl,(Upd.setRow c).below f f.size (nR_ _)⟩
theorem zwU:(prog.info? 188).map (·.size)=some 1:=by kernel_rfl
theorem zhU (b:List Int)(h:b.length=16):(prog.info? 226).map (·.size)=some (ua b).size:=by
 rw[zcd,h];kernel_rfl
theorem zpO (s:List Int)(w:World)(c:s.length=8):∃d,
  (Builtin.copy_ #[261,261] 3 #[.slice (some ⟨w.heap.size+1+1,0,none⟩) 16 16,.slice (some ⟨w.heap.size,0,none⟩) 8 8]).run prog
   (((w.alloc (.cells (ua s) 190)).alloc (.cells (ua (List.replicate 16 0)) 226)).alloc (.cells (ua (List.replicate 16 0)) 226)).drew=.ok (I_ 8) d /\
  Below w.heap.size w d/\d.heap[w.heap.size+1+1]? = some (.cells (ua (zav s 0)) 226 (0,0))/\d.heap[w.heap.size+1]? = some (.cells (ua (List.replicate 16 0)) 226 (0,0)):=by
 generalize b:((w.alloc (.cells (ua s) 190)).alloc (.cells (ua (List.replicate 16 0)) 226)).alloc (.cells (ua (List.replicate 16 0)) 226)=W;have q:Below w.heap.size w W:=by
  subst b;exact(((bR_ _ _).alloc (nR_ _) _).alloc (by simp) _).alloc (by simp;omega) _
 have g:W.heap[w.heap.size+1+1]? = some (.cells (ua (List.replicate 16 0)) 226 (0,0)):=by
  subst b;exact zco _ _ _ (by simp)
 have p:W.heap[w.heap.size+1]? = some (.cells (ua (List.replicate 16 0)) 226 (0,0)):=by
  subst b;rw[Below.heap_alloc _ _ _ (by simp)];exact zco _ _ _ (by simp)
 have o:W.heap[w.heap.size]? = some (.cells (ua s) 190 (0,0)):=by
  subst b;rw[Below.heap_alloc _ _ _ (by simp;omega),Below.heap_alloc _ _ _ (by simp)];exact zco _ _ _ rfl
 have l:=run_copy_row (P:=prog) W.drew 261 261 3 188 (w.heap.size+1+1) 0 16 16 ⟨w.heap.size,0,none⟩ 8 8 (ua (List.replicate 16 0)) 226 (ua s).toList underlying261 zwU g
  (by simp[ua,c]) (λj v f=>by
   rw[zaP,Nat.zero_add,World.cell?_drew,cell_of_row W _ j _ _ _ o]
   simpa using f) (by simp[ua,c]) (λv f=>by
   have:=zfI s;rw[Array.all_eq_true_iff_forall_mem]at this;exact this v (by simpa using f))
 have e:(List.take 0 (ua (List.replicate 16 0)).toList++(ua s).toList++List.drop (0+(ua s).toList.length) (ua (List.replicate 16 0)).toList).toArray=ua (zav s 0):=by
  simp[ua,c,zav]
 have m:goInt ((ua s).toList.length:Int)=I_ 8:=by simp[ua,c,goInt]
 rw[e,m]at l;refine⟨W.drew.setRow (w.heap.size+1+1) (ua (zav s 0)),l,below_setRow q.drew (by omega) _,setRow_heap W.drew _ _ _ _ _ g,?_⟩;rw[setRow_other _ _ _ _ (by omega)];exact p
theorem zrn (s:List Int)(b:Int)(z:Bool)(w:World)(c:s.length=8)(A:zgt w) :
  Calls prog 160 #[.agg (ua s),I_ b,.bool z] w λe w'=>e=.returned (.agg (ua (zbg s b z)))/\Below w.heap.size w w':=by
 obtain⟨V,C,B,F,D⟩:=zpO s w c;rw[z16]at C;have J:=A.lt;go_in
 go_wp2
 go_region
 go_wp2
 refine kO_ ?C0 ?_;exact Obj.cells (ua (List.replicate 16 0)) 226 (0,0);go_loopw [13] (λi wr=>∃k:Nat,k<=8/\i=I_ k/\Below w.heap.size w wr/\wr.heap[w.heap.size+1+1]? = some (.cells (ua (zav s k)) 226 (0,0))/\wr.heap[w.heap.size+1]? = some ?C0) (λi _=>8-(intOf i).toNat)
 case atStart=>exact⟨0,nZ_ _,rfl,B,F,D⟩
 refine kW_ ?A0 ?_;exact wr.setCell ⟨w.heap.size+1+1,12,none⟩ (.int .u32 (bits .xor .u32 ((zav s 8).getD 12 0) (b % 4294967296)));refine kW_ ?B0 ?_;exact(?A0).setCell ⟨w.heap.size+1+1,14,none⟩ (.int .u32 (bits .xor .u32 IntKind.u32.max ((zav s 8).getD 14 0)))
 case round=>
  obtain⟨k,U,rfl,o,d,q⟩:=hrel;clear C F D B;by_cases hlt:k<8
  .have H:wr.cell? ⟨1,k,none⟩=some (.int .u32 (fw.getD k 0)):=(o.cell (p:=⟨1,k,none⟩) J).trans (A k hlt);have I:wr.cell? ⟨w.heap.size+1+1,8+k,none⟩=some (.int .u32 ((zav s k).getD (8+k) 0)):=by
    rw[cell_of_row wr _ _ _ _ _ d,zdZ _ _ (by rw[zeC s c];omega)]
   have T:=frozen_of_row wr _ (8+k) _ _ d;have E:Hid (zav s (k+1)=(zav s k).set (8+k) (fw.getD k 0)):=rfl;generalize fw.getD k 0=x at H E;generalize (zav s k).getD (8+k) 0=m at I
   go_wp2
   go_roundw
   case rel=>
    refine⟨k+1,by omega,by go_num,o.setCell (p:=⟨w.heap.size+1+1,8+k,none⟩) (by simp;omega) _,?_,?_⟩
    .rw[E.out,<-zel];exact heap_setCell_same wr _ _ _ _ _ d
    .exact(Below.heap_setCell wr _ _ _ (by simp)).trans q
   case measure=>simp[intOf];omega
  .obtain rfl:k=8:=by omega
   have N:wr.cell? ⟨w.heap.size+1+1,12,none⟩=some (.int .u32 ((zav s 8).getD 12 0)):=by
    rw[cell_of_row wr _ _ _ _ _ d,zdZ _ _ (by rw[zeC s c];omega)]
   have O:wr.cell? ⟨w.heap.size+1+1,14,none⟩=some (.int .u32 ((zav s 8).getD 14 0)):=by
    rw[cell_of_row wr _ _ _ _ _ d,zdZ _ _ (by rw[zeC s c];omega)]
   have R:=λj=>frozen_of_row wr _ j _ _ d;have G:(?A0).heap[w.heap.size+1+1]? = some (.cells (ua (zf9 s b)) 226 (0,0)):=by
    rw[zf9,<-zel];exact heap_setCell_same wr _ _ _ _ _ d
   cases z;have y:(?A0).heap[w.heap.size+1+1]? = some (.cells (ua (zbg s b false)) 226 (0,0)):=G;have f:(?A0).heap[w.heap.size+1]? = some ?C0:=by
    repeat rw[Below.heap_setCell _ _ _ _ (by simp)]
    exact q
   have g:=zhU (zbg s b false) (zd0 s c b false);have u:(ua (List.replicate 16 0)).size=(ua (zbg s b false)).size:=by rw[zcd,zcd,zd0 s c];rfl
   have l:Below w.heap.size w ?A0:=by
    repeat refine Below.setCell ?_ (by simp;omega) _
    exact o
   rotate_left
   have y:(?B0).heap[w.heap.size+1+1]? = some (.cells (ua (zbg s b true)) 226 (0,0)):=by
    rw[show zbg s b true=(zf9 s b).set 14 (bits .xor .u32 IntKind.u32.max ((zav s 8).getD 14 0))from rfl,<-zel];exact heap_setCell_same _ _ _ _ _ _ G
   have f:(?B0).heap[w.heap.size+1]? = some ?C0:=by
    repeat rw[Below.heap_setCell _ _ _ _ (by simp)]
    exact q
   have g:=zhU (zbg s b true) (zd0 s c b true);have u:(ua (List.replicate 16 0)).size=(ua (zbg s b true)).size:=by rw[zcd,zcd,zd0 s c];rfl
   have l:Below w.heap.size w ?B0:=by
    repeat refine Below.setCell ?_ (by simp;omega) _
    exact o
   rotate_left
   all_goals
    generalize r:(zav s 8).getD 12 0=L at*;generalize t:(zav s 8).getD 14 0=M at*;clear r t
   .go_wp2_with (first|refine wpList_load_row rfl 226 _ rfl (w.heap.size+1+1) rfl 226 (ua (zbg s b false)) (0,0) _ y underlying226 rfl g ?_|refine wpList_store_row rfl 226 _ _ rfl (w.heap.size+1) (ua (zbg s b false)) rfl rfl 226 (ua (List.replicate 16 0)) f g u (zfI _) ?_)
    exact bodyPost_ret (v:=.agg (ua (zbg s b false))) (results_cell_row (fn:=Tryz.f160) (p:=6) (ty:=226) rfl _ _ (w.heap.size+1) 226 _ (0,0) _ rfl (setRow_heap _ _ _ _ _ _ f) underlying226 rfl g) rfl ⟨rfl,(Upd.setRow f).below l l.size (by omega)⟩
   .go_wp2_with (first|refine wpList_load_row rfl 226 _ rfl (w.heap.size+1+1) rfl 226 (ua (zbg s b true)) (0,0) _ y underlying226 rfl g ?_|refine wpList_store_row rfl 226 _ _ rfl (w.heap.size+1) (ua (zbg s b true)) rfl rfl 226 (ua (List.replicate 16 0)) f g u (zfI _) ?_)
    exact bodyPost_ret (v:=.agg (ua (zbg s b true))) (results_cell_row (fn:=Tryz.f160) (p:=6) (ty:=226) rfl _ _ (w.heap.size+1) 226 _ (0,0) _ rfl (setRow_heap _ _ _ _ _ _ f) underlying226 rfl g) rfl ⟨rfl,(Upd.setRow f).below l l.size (by omega)⟩
theorem zfJ (b:List Int)(h:b.length=8):(prog.info? 190).map (·.size)=some (ua b).size:=by
 rw[zcd,h];kernel_rfl
theorem zte (w:World)(l:zgt w) :
  Calls prog 122 #[] w λe w'=>e=.returned (.agg (ua zdG))/\B_ w w':=by
 have t:=l.lt;go_in
 go_wp2
 go_loopw [3] (λi wr=>∃k:Nat,k<=8/\i=I_ k/\B_ w wr/\R_ wr (w.heap.size+1) (ua (zcJ k)) 190/\R_ wr w.heap.size (ua (List.replicate 8 0)) 190) (λi _=>8-(intOf i).toNat)
 case atStart=>exact⟨0,nZ_ _,rfl,((bR_ _ _).alloc (nR_ _) _).alloc (by simp) _,heap_alloc2_new _ _ _,heap_alloc2_old _ _ _⟩
 refine kW_ ?A0 ?_;exact wr.setCell ⟨w.heap.size+1,0,none⟩ (.int .u32 (bits .xor .u32 ((zcJ 8).getD 0 0) 16842784))
 case round=>
  obtain⟨k,D,rfl,c,b,g⟩:=hrel;by_cases hlt:k<8
  .have r:wr.cell? ⟨1,k,none⟩=some (.int .u32 (fw.getD k 0)):=(c.cell (p:=⟨1,k,none⟩) t).trans (l k hlt);have s:wr.cell? ⟨w.heap.size+1,k,none⟩=some (.int .u32 ((zcJ k).getD k 0)):=by
    rw[cell_of_row wr _ _ _ _ _ b,zdZ _ _ (by rw[zga];omega)]
   have C:=frozen_of_row wr _ k _ _ b;have q:Hid (zcJ (k+1)=(zcJ k).set k (fw.getD k 0)):=rfl;generalize fw.getD k 0=x at r q;generalize (zcJ k).getD k 0=m at s
   go_wp2
   go_roundw
   case rel=>
    refine⟨k+1,by omega,by go_num,c.setCell (p:=⟨w.heap.size+1,k,none⟩) (by simp) _,?_,?_⟩
    .rw[q.out,<-zel];exact heap_setCell_same wr _ _ _ _ _ b
    .exact(Below.heap_setCell wr _ _ _ (by simp)).trans g
   case measure=>simp[intOf];omega
  .obtain rfl:k=8:=by omega
   have A:wr.cell? ⟨w.heap.size+1,0,none⟩=some (.int .u32 ((zcJ 8).getD 0 0)):=by
    rw[cell_of_row wr _ _ _ _ _ b,zdZ _ _ (by rw[zga];omega)]
   have B:=λj=>frozen_of_row wr _ j _ _ b;have z:(?A0).heap[w.heap.size+1]? = some (.cells (ua zdG) 190 (0,0)):=by
    rw[zdG,<-zel];exact heap_setCell_same wr _ _ _ _ _ b
   have d:(?A0).heap[w.heap.size]? = some (.cells (ua (List.replicate 8 0)) 190 (0,0)):=by
    rw[Below.heap_setCell _ _ _ _ (by simp)];exact g
   have f:=zfJ zdG zem;have y:(ua (List.replicate 8 0)).size=(ua zdG).size:=by rw[zcd,zcd,zem];rfl
   have o:B_ w ?A0:=c.setCell (by simp) _;generalize u:(zcJ 8).getD 0 0=m at*;clear u;go_wp2_with (first|refine wpList_load_row rfl 190 _ rfl (w.heap.size+1) rfl 190 (ua zdG) (0,0) _ z underlying190 rfl f ?_|refine wpList_store_row rfl 190 _ _ rfl w.heap.size (ua zdG) rfl rfl 190 (ua (List.replicate 8 0)) d f y (zfI _) ?_)
   exact bodyPost_ret (v:=.agg (ua zdG)) (results_cell_row (fn:=Tryz.f122) (p:=0) (ty:=190) rfl _ _ w.heap.size 190 _ (0,0) _ rfl (setRow_heap _ _ _ _ _ _ d) underlying190 rfl f) rfl ⟨rfl,(Upd.setRow d).below o o.size (nR_ _)⟩
variable {w w' w2 w1:World}{n:Nat}
structure zro (w:World)(s v:List Int)(bv:Nat)(wx:World):Prop where
 bel:Below w.heap.size w wx
 st:wx.heap[w.heap.size]? = some (.cells (ua s) 190 (0,0))
 res:wx.heap[w.heap.size+1]? = some (.cells (ua (List.replicate 8 0)) 190 (0,0))
 lt:w.heap.size+1<bv
 vs:wx.heap[bv]? = some (.cells (ua v) 226 (0,0))
structure zkg (w:World)(s v m:List Int)(bv bm:Nat)(wx:World):Prop where
 v:zro w s v bv wx
 lt:bv<bm
 ms:wx.heap[bm]? = some (.cells (ua m) 225 (0,0))
theorem zkg.upd {s v f m:List Int}{c d:Nat}{wr:World}(h:zkg w s v m c d wr)(b:Upd c (.cells (ua f) 226 (0,0)) wr w2):zkg w s f m c d w2:=by
 have g:=h.v.lt;have j:=h.lt;have l:=ze h.v.st;have o:=ze h.v.res;have p:=ze h.ms;exact⟨⟨b.below h.v.bel h.v.bel.size (by omega),(b.block _ l (by omega)).trans h.v.st,(b.block _ o (by omega)).trans h.v.res,g,b.here⟩,j,(b.block _ p (by omega)).trans h.ms⟩
theorem ztf {b:Nat}{o:Obj}(h:Upd b o (w.drewN n) w'):Upd b o w w':=⟨h.os,h.tape,h.output,h.size,h.block,h.here⟩
theorem ztg {A B:Obj}(h:Below ((w.alloc A).alloc B).heap.size ((w.alloc A).alloc B) w1) :
  Below w.heap.size w w1/\w1.heap[w.heap.size]? = some A/\w1.heap[w.heap.size+1]? = some B/\w.heap.size+1<w1.heap.size:=by
 have b:=h.size
 simp at b
 refine⟨(((bR_ _ _).alloc (nR_ _) _).alloc (by simp) _).trans (h.mono (by simp;omega)),?_,?_,by omega⟩
 .exact(h.block _ (by simp;omega)).trans (heap_alloc2_old _ _ _)
 .exact(h.block _ (by simp)).trans (heap_alloc2_new _ _ _)
theorem zvg (s bs:List Int)(J:Option Addr)(T:Nat)(f:Int)(d:Bool)(w:World)(I:s.length=8)(ad:bs.length<=64)(U:za5 w J bs)(G:zbJ w) :
  Calls prog 123 #[.agg (ua s),.slice J bs.length T,I_ f,.bool d] w λe w'=>e=.returned (.agg (ua (ze0 s bs f d)))/\Below w.heap.size w w':=by
 have an:=zfJ s I;have D:=zd0 s I f d;have ao:=zhU (zbg s f d) D;have aj:(ua (List.replicate 16 0)).size=(ua (zbg s f d)).size:=by rw[zcd,zcd,D];rfl
 go_in;go_upto_region 1 with(fail)
 go_cut [9] (λp R=>∃g,p=(P_ g 0)/\zro w s (zbg s f d) g R)
 refine kW_ ?A0 ?_;exact(w.alloc (.cells (ua s) 190)).alloc (.cells #[.int .u32 0,.int .u32 0,.int .u32 0,.int .u32 0,.int .u32 0,.int .u32 0,.int .u32 0,.int .u32 0] 190)
 case first=>
  have ak:(?A0).heap[w.heap.size]? = some (.cells (ua s) 190 (0,0)):=heap_alloc2_old _ _ _;have ac:zbJ ?A0:=G.below (((bR_ _ _).alloc (nR_ _) _).alloc (by simp) _);go_wp2_with (first|refine wpList_load_row rfl 190 _ rfl w.heap.size rfl 190 (ua s) (0,0) _ ak underlying190 rfl an ?_|(go_at_call 160;refine(zrn s f d _ I ac.words).mono ?_;rintro e B⟨rfl,C⟩)|refine wpList_store_row rfl 226 _ _ rfl _ (ua (zbg s f d)) rfl rfl 226 (ua (List.replicate 16 0)) (heap_alloc_new _ _) ao aj (zfI _) ?_)
  go_meet
  case rel=>
   obtain⟨j,k2,k3,k4⟩:=ztg C;have E:=heap_alloc_new B (.cells (ua (List.replicate 16 0)) 226);refine⟨_,rfl,(Upd.setRow E).below (j.alloc j.size _) (by simp;exact Nat.le_succ_of_le j.size) j.size,?_,?_,k4,setRow_heap _ _ _ _ _ _ E⟩
   .rw[setRow_other _ _ _ _ (by omega),Below.heap_alloc _ _ _ (by omega)];exact k2
   .rw[setRow_other _ _ _ _ (by omega),Below.heap_alloc _ _ _ (by omega)];exact k3
 case rest=>
  obtain⟨g,rfl,c⟩:=hcut;go_upto_region 2 with(fail)
  go_cut [10] (λp R=>∃o,p=(P_ o 0)/\zkg w s (zbg s f d) (zbr bs bs.length) g o R)
  case first=>
   have af:za5 wc J bs:=U.below' c.bel;go_wp2_with (first|(go_at_call 161;refine(ztd bs J T _ ad af).mono ?_;rintro e B⟨rfl,C⟩)|refine wpList_store_row rfl 225 _ _ rfl _ (ua (zbr bs bs.length)) rfl rfl 225 (ua (List.replicate 16 0)) (heap_alloc_new _ _) (zlr bs) (zmV bs) (zfI _) ?_)
   go_meet
   case rel=>
    have E:=heap_alloc_new B (.cells (ua (List.replicate 16 0)) 225);have ah:=ze c.vs;have aB:=c.lt;have aD:=C.size;have q:∀k,k<wc.heap.size->((B.alloc (.cells (ua (List.replicate 16 0)) 225)).setRow B.heap.size (ua (zbr bs bs.length))).heap[k]? = wc.heap[k]?:=λk q=>by
     rw[setRow_other _ _ _ _ (by omega),Below.heap_alloc _ _ _ (by omega)];exact C.block k q
    have j:Below w.heap.size w B:=c.bel.trans (C.mono c.bel.size);refine⟨_,rfl,⟨(Upd.setRow E).below (j.alloc j.size _) (by simp;exact Nat.le_succ_of_le j.size) j.size,(q _ (by omega)).trans c.st,(q _ (by omega)).trans c.res,c.lt,(q _ (by omega)).trans c.vs⟩,by omega,setRow_heap _ _ _ _ _ _ E⟩
  case rest=>
   obtain⟨o,rfl,F⟩:=hcut;clear c;have ai:=zeY bs bs.length;have H:Hid (ze0 s bs f d=zcU s (zcK (zbr bs bs.length) (zbg s f d) 10) 8):=rfl;generalize zbr bs bs.length=m at F ai H;generalize zbg s f d=v at F D H;have ah:=G.lt;go_wp2_with fail
   go_loopw [22] (λi wr=>∃r:Nat,r<=10/\i=I_ r/\zkg w s (zcK m v r) m g o wr) (λi _=>10-(intOf i).toNat)
   case atStart=>exact⟨0,by omega,rfl,F⟩
   case round=>
    obtain⟨r,hr,rfl,N⟩:=hrel;by_cases hr10:r<10
    .have aC:(r:Int)<10:=by omega
     go_wp2_with fail
     go_loopw [25] (λi wr=>∃k:Nat,k<=8/\i=I_ k/\zkg w s (zeZ m r (zcK m v r) k) m g o wr) (λi _=>8-(intOf i).toNat)
     case atStart=>exact⟨0,by omega,rfl,N⟩
     case round=>
      obtain⟨k,q,rfl,b⟩:=hrel;by_cases hk8:k<8
      .have t:zbJ wr:=G.below b.v.bel;have ag:(k:Int)<8:=by omega
       have az:(2*(k:Int))<16:=by omega
       have aA:(2*(k:Int)+1)<16:=by omega
       have o1:=t.orders (r*16+2*k) (by omega);have o2:=t.orders (r*16+(2*k+1)) (by omega);have Z:=zqN (r*16+2*k) (by omega);have x2:=zqN (r*16+(2*k+1)) (by omega);generalize V:zhT.getD (r*16+2*k) 0=z at o1 Z;generalize X:zhT.getD (r*16+(2*k+1)) 0=A at o2 x2;have aa:Hid (zhT.getD (r*16+2*k) 0=z):=V;have ab:Hid (zhT.getD (r*16+(2*k+1)) 0=A):=X;clear V X;go_wp2_with fail
       go_quiet (fail)
       have L:wr.cell? ⟨o,z,none⟩=some (.int .u32 (m.getD z 0)):=by rw[cell_of_row wr _ _ _ _ _ b.ms,zdZ _ _ (by omega)]
       have M:wr.cell? ⟨o,A,none⟩=some (.int .u32 (m.getD A 0)):=by rw[cell_of_row wr _ _ _ _ _ b.ms,zdZ _ _ (by omega)]
       have l0:=t.lanes (k*4) (by omega);have l1:=t.lanes (k*4+1) (by omega);have l2:=t.lanes (k*4+2) (by omega);have l3:=t.lanes (k*4+3) (by omega);have l:Hid (zeZ m r (zcK m v r) (k+1)=zoa (zeZ m r (zcK m v r) k) (zaH.getD (k*4) 0) (zaH.getD (k*4+1) 0) (zaH.getD (k*4+2) 0) (zaH.getD (k*4+3) 0) (m.getD z 0) (m.getD A 0)):=by
        rw[<-aa.out,<-ab.out];rfl
       obtain⟨b0,b1,b2,b3,ap,aq,ar,au,av,aw⟩:=zve k hk8;generalize zaH.getD (k*4) 0=q0 at*;generalize zaH.getD (k*4+1) 0=q1 at*;generalize zaH.getD (k*4+2) 0=q2 at*;generalize zaH.getD (k*4+3) 0=q3 at*;have ax:(z:Int)<16:=by omega
       have ay:(A:Int)<16:=by omega
       generalize m.getD z 0=x at L l;generalize m.getD A 0=y at M l;have am:(zeZ m r (zcK m v r) k).length=16:=by rw[zid,zhB,D]
       go_wp2_with fail
       go_region_with (go_at_call 162;refine(zwT (zeZ m r (zcK m v r) k) g q0 q1 q2 q3 x y _ am ?_ b0 b1 b2 b3 ap aq ar au av aw).mono ?_;exact b.v.vs;rintro e w2⟨rfl,hU⟩)
       all_goals
        go_wp2_with fail
        go_roundw
        case rel=>exact⟨k+1,by omega,by go_num,by rw[l.out];exact b.upd (ztf hU)⟩
        case measure=>simp[intOf];omega
      .obtain rfl:k=8:=by omega
       go_wp2_with fail
       go_roundw
       case rel=>exact⟨r+1,by omega,by go_num,b⟩
       case measure=>simp[intOf];omega
    .obtain rfl:r=10:=by omega
     go_wp2_with fail
     have al:(zcK m v 10).length=16:=by rw[zhB,D]
     have c:=N.v;clear N F U G;generalize zcK m v 10=u at c al H;have ae:=c.lt;go_loopw [53] (λi wr=>∃k:Nat,k<=8/\i=I_ k/\zro w (zcU s u k) u g wr) (λi _=>8-(intOf i).toNat)
     case atStart=>exact⟨0,by omega,rfl,c⟩
     case round=>
      obtain⟨k,q,rfl,b⟩:=hrel;have Y:=(zjj s u k).trans I;by_cases hk8:k<8
      .have ag:(k:Int)<8:=by omega
       have c0:wr.cell? ⟨w.heap.size,k,none⟩=some (.int .u32 ((zcU s u k).getD k 0)):=by rw[cell_of_row wr _ _ _ _ _ b.st,zdZ _ _ (by omega)]
       have L:wr.cell? ⟨g,k,none⟩=some (.int .u32 (u.getD k 0)):=by rw[cell_of_row wr _ _ _ _ _ b.vs,zdZ _ _ (by omega)]
       have M:wr.cell? ⟨g,k+8,none⟩=some (.int .u32 (u.getD (k+8) 0)):=by rw[cell_of_row wr _ _ _ _ _ b.vs,zdZ _ _ (by omega)]
       have f0:=frozen_of_row wr _ k _ _ b.st;have l:Hid (zcU s u (k+1)=(zcU s u k).set k (bits .xor .u32 ((zcU s u k).getD k 0) (bits .xor .u32 (u.getD k 0) (u.getD (k+8) 0)))):=rfl;generalize (zcU s u k).getD k 0=x0 at c0 l;generalize u.getD k 0=Z at L l;generalize u.getD (k+8) 0=x2 at M l;go_wp2_with fail
       go_region
       go_wp2_with fail
       go_roundw
       case rel=>
        refine⟨k+1,by omega,by go_num,(b.bel.setCell (p:=⟨w.heap.size,k,none⟩) (nR_ _) _).drew,?_,?_,ae,?_⟩
        .rw[l.out,<-zel];exact heap_setCell_same wr _ _ _ _ _ b.st
        .exact(Below.heap_setCell wr _ _ _ (by simp)).trans b.res
        .exact(Below.heap_setCell wr _ _ _ (by simp;omega)).trans b.vs
       case measure=>simp[intOf];omega
      .obtain rfl:k=8:=by omega
       have O:=zfJ (zcU s u 8) Y;have ho:(ua (List.replicate 8 0)).size=(ua (zcU s u 8)).size:=by rw[zcd,zcd,Y];rfl
       go_wp2_with (first|refine wpList_load_row rfl 190 _ rfl w.heap.size rfl 190 (ua (zcU s u 8)) (0,0) _ b.st underlying190 rfl O ?_|refine wpList_store_row rfl 190 _ _ rfl (w.heap.size+1) (ua (zcU s u 8)) rfl rfl 190 (ua (List.replicate 8 0)) b.res O ho (zfI _) ?_)
       exact bodyPost_ret (v:=.agg (ua (zcU s u 8))) (results_cell_row (fn:=Tryz.f123) (p:=8) (ty:=190) rfl _ _ (w.heap.size+1) 190 _ (0,0) _ rfl (setRow_heap _ _ _ _ _ _ b.res) underlying190 rfl O) rfl ⟨by rw[H.out],(Upd.setRow b.res).below b.bel b.bel.size (by omega)⟩
theorem zls (s:List Int)(d:s.length=8)(k:Nat)(c:k<8)(w:World) :
  (Instr.index 190 (.agg (ua s)) (I_ k)).run prog w=.ok (.int .u32 (s.getD k 0)) w:=by
 have b:=zdZ s k (by omega);simp[Instr.index,asIntOf,Sem.run_bind,run_underlying underlying190,part,b,c]
theorem zrp (w:World):(Instr.makeSlice 51 (I_ 0) (I_ 32)).run prog w=.ok (.slice (some ⟨w.heap.size,0,none⟩) 0 32) (w.alloc (.cells (ub (List.replicate 32 0)).toArray 5)):=by kernel_rfl
theorem zrq (s:List Int)(w:World)(c:s.length=8) :
  Calls prog 124 #[.agg (ua s)] w λe w'=>e=.returned (.slice (some ⟨w.heap.size+1,0,none⟩) 32 32)/\B_ w w'/\w'.ownsRow w.heap.size 5 1 (.slice (some ⟨w.heap.size+1,0,none⟩) 32 32) 32 (ub (zdg s 8)):=by
 have u:=λw=>zrp w;have q:=zfJ s c;have g:((w.alloc (.cells (ua s) 190)).alloc (.cells (ub (List.replicate 32 0)).toArray 5)).heap[w.heap.size]? = some (.cells (ua s) 190 (0,0)):=heap_alloc2_old _ _ _;obtain⟨i,m,y,r,z⟩:=info_parts zek;have f:=World.ownsRow_made (base:=w.heap.size) (e:=5) (size:=1) (w.alloc (.cells (ua s) 190)) (ub (List.replicate 32 0)).toArray 32 (by simp) (by decide) rfl;go_in;go_wp2_with (refine wpList_load_row rfl 190 _ rfl w.heap.size rfl 190 (ua s) (0,0) _ g underlying190 rfl q ?_)
 go_loopw [8,3] (λi v wr=>∃k:Nat,k<=8/\i=I_ k/\v=.slice (some ⟨w.heap.size+1,0,none⟩) (4*k) 32/\B_ w wr/\wr.ownsRow w.heap.size 5 1 (.slice (some ⟨w.heap.size+1,0,none⟩) (4*k) 32) (4*k) (ub (zdg s k))) (λi _ _=>8-(intOf i).toNat)
 case atStart=>exact⟨0,nZ_ _,rfl,by simp,((bR_ _ _).alloc (nR_ _) _).alloc (by simp) _,by simpa[ub,zdg]using f⟩
 case round=>
  obtain⟨k,t,rfl,rfl,b,d⟩:=hrel;clear g f;by_cases hlt:k<8
  .have o:=λw=>zls s c k hlt w;have j:Hid (zdg s (k+1)=zdg s k++[s.getD k 0 % 256,s.getD k 0 / 256 % 256,s.getD k 0 / 65536 % 256,s.getD k 0 / 16777216 % 256]):=rfl;generalize s.getD k 0=x at o j;go_wp2_with (at_builtin;refine wpList_append_own_spare _ rfl _ _ 51 rfl w.heap.size 5 i 1 underlying51 m r (w.heap.size+1) (4*k) 32 _ rfl (d.alloc _) ⟨wr.heap.size,0,none⟩ 4 4 [.int .u8 (x % 256),.int .u8 (x / 256 % 256),.int .u8 (x / 65536 % 256),.int .u8 (x / 16777216 % 256)] rfl rfl (zag _ _ _) (zds [_,_,_,_]) (by omega) ?_;intro A p l)
   go_roundw
   case rel=>
    refine⟨k+1,by omega,by go_num,by rw[show 4*(k+1)=4*k+4 by omega],(b.alloc b.size _).grown l (by simp;exact Nat.le_succ_of_le b.size) (by simp),?_⟩;rw[j.out,show 4*(k+1)=4*k+4 by omega]
    simpa[ub]using p
   case measure=>simp[intOf];omega
  .obtain rfl:k=8:=by omega
   go_wp2_with fail
   go_ret;exact⟨rfl,b,d⟩
variable {xs:List Value}{W:World}
theorem zrr (l:List Int)(h:l.length=8):∃a b c d e f g i,l=[a,b,c,d,e,f,g,i]:=by
 match l,h with
 | [a,b,c,d,e,f,g,i],_=>exact⟨a,b,c,d,e,f,g,i,rfl⟩
theorem zod {b:Nat}{t:TypeId}{c d f g l m o p:Int}(h:W.heap[b]? = some (.cells (ua [c,d,f,g,l,m,o,p]) t (0,0))) :
  W.cell? ⟨b,0,none⟩=some (.int .u32 c)/\W.cell? ⟨b,1,none⟩=some (.int .u32 d)/\W.cell? ⟨b,2,none⟩=some (.int .u32 f)/\W.cell? ⟨b,3,none⟩=some (.int .u32 g) /\
  W.cell? ⟨b,4,none⟩=some (.int .u32 l)/\W.cell? ⟨b,5,none⟩=some (.int .u32 m)/\W.cell? ⟨b,6,none⟩=some (.int .u32 o)/\W.cell? ⟨b,7,none⟩=some (.int .u32 p)/\∀j,W.frozen? ⟨b,j,none⟩=false:=
 ⟨cell_of_row W b 0 _ _ _ h,cell_of_row W b 1 _ _ _ h,cell_of_row W b 2 _ _ _ h,cell_of_row W b 3 _ _ _ h,cell_of_row W b 4 _ _ _ h,cell_of_row W b 5 _ _ _ h,cell_of_row W b 6 _ _ _ h,cell_of_row W b 7 _ _ _ h,λj=>frozen_of_row W b j _ _ h⟩
theorem zzA {b:Nat}{t:TypeId}{p q r s u y z A:Int}(c d f g j l m o:Int)(h:W.heap[b]? = some (.cells (ua [p,q,r,s,u,y,z,A]) t (0,0))) :
  Upd b (.cells (ua [c,d,f,g,j,l,m,o]) t (0,0)) W ((((((((W.setCell ⟨b,0,none⟩ (.int .u32 c)).setCell ⟨b,1,none⟩ (.int .u32 d)).setCell ⟨b,2,none⟩ (.int .u32 f)).setCell ⟨b,3,none⟩ (.int .u32 g)).setCell ⟨b,4,none⟩ (.int .u32 j)).setCell ⟨b,5,none⟩ (.int .u32 l)).setCell ⟨b,6,none⟩ (.int .u32 m)).setCell ⟨b,7,none⟩ (.int .u32 o)):=by
 have k:=((((((((Upd.refl h).setCell 0 (.int .u32 c)).setCell 1 (.int .u32 d)).setCell 2 (.int .u32 f)).setCell 3 (.int .u32 g)).setCell 4 (.int .u32 j)).setCell 5 (.int .u32 l)).setCell 6 (.int .u32 m)).setCell 7 (.int .u32 o);simp only[zel,List.set_cons_zero,List.set_cons_succ]at k;exact k
def zfK (bs:List Int):Nat->List Int
 | 0=>zdG
 | k+1=>ze0 (zfK bs k) ((bs.drop (64*k)).take 64) ((64*k+64:Nat):Int) false
theorem zjI (bs:List Int)(k:Nat):(zfK bs k).length=8:=by
 induction k with
 | zero=>exact zem
 | succ k ih=>rw[zfK,zjH,ih]
def znW (n:Nat):Nat:=(n-1) / 64
def zhj (bs:List Int):List Int:=
 zdg (ze0 (zfK bs (znW bs.length)) (bs.drop (64*znW bs.length)) (bs.length:Int) true) 8
theorem zkh (d f g j l m o p:Int)(bs:List Int)(B:Option Addr)(C:Nat)(c:Int)(b:Bool)(n:Nat)(w:World)(I:n=bs.length)(G:bs.length<=64)(H:za5 w B bs)(E:zbJ w) :
  Calls prog 123 #[.agg #[.int .u32 d,.int .u32 f,.int .u32 g,.int .u32 j,.int .u32 l,.int .u32 m,.int .u32 o,.int .u32 p],.slice B n C,I_ c,.bool b] w λe w'=>
   ∃q r s t u y z A,e=.returned (.agg #[.int .u32 q,.int .u32 r,.int .u32 s,.int .u32 t,.int .u32 u,.int .u32 y,.int .u32 z,.int .u32 A])/\Hid (ze0 [d,f,g,j,l,m,o,p] bs c b=[q,r,s,t,u,y,z,A])/\B_ w w':=by
 subst I;refine(zvg [d,f,g,j,l,m,o,p] bs B C c b w rfl G H E).mono ?_;rintro e w'⟨rfl,F⟩;obtain⟨q,r,s,t,u,y,z,A,D⟩:=zrr (ze0 [d,f,g,j,l,m,o,p] bs c b) (zjH _ _ _ _);exact⟨q,r,s,t,u,y,z,A,by rw[D];rfl,D,F⟩
theorem zjJ (b c d f g j l m:Int)(w:World) :
  Calls prog 124 #[.agg #[.int .u32 b,.int .u32 c,.int .u32 d,.int .u32 f,.int .u32 g,.int .u32 j,.int .u32 l,.int .u32 m]] w λe w'=>
   e=.returned (.slice (some ⟨w.heap.size+1,0,none⟩) 32 32)/\B_ w w'/\w'.ownsRow w.heap.size 5 1 (.slice (some ⟨w.heap.size+1,0,none⟩) 32 32) 32 (ub (zdg [b,c,d,f,g,j,l,m] 8)):=
 zrq [b,c,d,f,g,j,l,m] w rfl
theorem zhk {b b':Nat}{e:TypeId}{size:Nat}{v:Value}(h:w.ownsRow b e size v n xs)(m:b'<=b):w.ownsRow b' e size v n xs:=by
 obtain⟨j,c⟩:=h;refine⟨j,?_⟩;rcases c with c|⟨g,d,f,l,o,r⟩
 .exact .inl c
 .exact .inr ⟨g,d,f,l,by omega,r⟩
theorem zwV (bs:List Int)(L:Option Addr)(u:Nat)(w:World)(hl:bs.length<=4000)(ad:bs.length<=u)(hm:u<=maxLen)(am:u=0\/∃j z,L=some ⟨j,z,none⟩)(g:za5 w L bs)(B:zbJ w) :
  Calls prog 98 #[.slice L bs.length u] w λe w'=>∃b,e=.returned (.tuple #[.slice (some ⟨b,0,none⟩) 32 32,I_ 0])/\w.heap.size<=b/\B_ w w'/\w'.ownsRow w.heap.size 5 1 (.slice (some ⟨b,0,none⟩) 32 32) 32 (ub (zhj bs)):=by
 unfold maxLen at hm;have h1:decide ((4000:Int)<(bs.length:Int))=false:=by simp;omega
 have ao:=zfJ zdG zem;have al:(ua (List.replicate 8 0)).size=(ua zdG).size:=by rw[zcd,zcd,zem];rfl
 have hg:=B.lt;go_in;go_wp2_with (first|(go_at_call 122;refine(zte _ B.words).mono ?_;rintro e w1⟨rfl,F⟩)|refine wpList_store_row rfl 190 _ _ rfl _ (ua zdG) rfl rfl 190 (ua (List.replicate 8 0)) (heap_alloc_new _ _) ao al (zfI _) ?_)
 go_loopw [5] (λi wr=>∃k d:Nat,i=I_ d/\Hid (d=64*k)/\(d<bs.length\/d=0)/\B_ w wr/\R_ wr w1.heap.size (ua (zfK bs k)) 190) (λi _=>bs.length-(intOf i).toNat)
 case atStart=>
  have hn:=heap_alloc_new w1 (.cells (ua (List.replicate 8 0)) 190);exact⟨0,0,rfl,rfl,.inr rfl,(Upd.setRow hn).below (F.alloc F.size _) (by simp;exact Nat.le_succ_of_le F.size) F.size,setRow_heap _ _ _ _ _ _ hn⟩
 case round=>
  obtain⟨k,d,rfl,M,aa,f,D⟩:=hrel;have an:=F.size;have ak:=ze D;by_cases hlt:64<bs.length-d;have ar:(64:Int)<(bs.length:Int)-d:=by omega
  rcases g with g|⟨j,z,rfl,g⟩
  .subst g;simp at hlt
  have au:j<w.heap.size:=block_lt_of_cell (g 0 (by omega));have ah:za5 w (some ⟨j,z,none⟩) bs:=.inr ⟨j,z,rfl,g⟩;have hcut:za5 w (some ⟨j,z+d,none⟩) ((bs.drop d).take 64):=ah.cut d 64;have H:Hid (64=((bs.drop d).take 64).length):=by show _=_;simp;omega
  have E:=zjI bs k;have af:Hid (zfK bs (k+1)=ze0 (zfK bs k) ((bs.drop d).take 64) ((d:Int)+64) false):=by
   have ai:=M.out;have e:((64*k+64:Nat):Int)=(d:Int)+64:=by omega
   show _=_;rw[zfK,e,<-ai]
  generalize zfK bs k=S at D E af
  rotate_left
  have hk:k=znW bs.length:=by
   have:=M.out;unfold znW;omega
  have E:=zjI bs k;have H:Hid (bs.length-d=(bs.drop d).length):=by show _=_;simp
  have C:Hid (zhj bs=zdg (ze0 (zfK bs k) (bs.drop d) (bs.length:Int) true) 8):=by
   show _=_;rw[zhj,<-hk,<-M.out]
  have hcut:za5 w (L.map λa=>⟨a.block,a.off+d,none⟩) (bs.drop d):=by
   rcases g with g|⟨j,z,rfl,g⟩
   .exact .inl (by rw[g];simp)
   .have:=za5.cut (.inr ⟨j,z,rfl,g⟩) d (bs.length)
    rwa [tL_ (by simp)]at this
  generalize zfK bs k=S at D E C
  rotate_left
  all_goals
   obtain⟨l,m,o,p,q,r,s,t,rfl⟩:=zrr S E;obtain⟨c0,c1,c2,c3,c4,c5,c6,c7,f0⟩:=zod D
  .have aj:(d:Int)+64<=u:=by omega
   go_wp2_with fail
   go_region_with (go_at_call 123;refine(zkh l m o p q r s t ((bs.drop d).take 64) _ _ _ _ _ _ H.out (by simp;omega) ?_ ?_).mono ?_;exact hcut.below' f.drew;exact B.below f.drew;rintro e w2⟨N,O,R,T,U,V,X,Y,rfl,A,y⟩;have ae:=(y.block w1.heap.size ak).trans D;obtain⟨e0,e1,e2,e3,e4,e5,e6,e7,g0⟩:=zod ae)
   all_goals
    go_wp2_with fail
    go_roundw
    case rel=>
     have hU:=zzA N O R T U V X Y ae;have c:B_ w w2:=f.drew.trans (y.mono f.size);refine⟨k+1,d+64,by go_num,by rw[M.out];exact(Nat.mul_succ 64 k).symm,.inl (by omega),hU.below c c.size an,?_⟩;rw[af.out,A.out];exact hU.here
    case measure=>simp[intOf];omega
  .clear hk;have ab:(bs.drop d).length<=64:=by simp;omega
   rcases am with rfl|⟨j,z,rfl⟩
   .have ac:bs=[]:=eN_ (by omega);subst ac;obtain rfl:d=0:=aa.elim (λh=>absurd h (Nat.not_lt_zero _)) id;have I:zhj []=zdg (ze0 [l,m,o,p,q,r,s,t] [] 0 true) 8:=C.out;have Z:Hid (zhj []=zdg (ze0 [l,m,o,p,q,r,s,t] [] 0 true) 8):=I;clear C I hcut H ab hlt ad hl h1 g;cases L
    all_goals
     go_wp2_with fail
     go_region_with (first|(go_at_call 123;refine(zkh l m o p q r s t [] _ _ _ _ _ _ rfl (by simp) ?_ ?_).mono ?_;exact .inl rfl;exact B.below f.drew;rintro e w2⟨N,O,R,T,U,V,X,Y,rfl,A,y⟩)|(go_at_call 124;refine(zjJ _ _ _ _ _ _ _ _ _).mono ?_;rintro e w3⟨rfl,G,J⟩))
     all_goals
      go_wp2_with fail
      go_ret2;have c:B_ w w2:=f.drew.trans (y.mono f.size);refine⟨_,rfl,Nat.le_succ_of_le c.size,c.trans (G.mono c.size),?_⟩;rw[Z.out,A.out];exact zhk J c.size
   .by_cases aj:d<u
    .have ap:(d:Int)<u:=by omega
     have aq:d<=bs.length:=by omega
     go_wp2_with fail
     go_region_with (first|(go_at_call 123;refine(zkh l m o p q r s t (bs.drop d) _ _ _ _ _ _ H.out ab ?_ ?_).mono ?_;exact hcut.below' f.drew;exact B.below f.drew;rintro e w2⟨N,O,R,T,U,V,X,Y,rfl,A,y⟩)|(go_at_call 124;refine(zjJ _ _ _ _ _ _ _ _ _).mono ?_;rintro e w3⟨rfl,G,J⟩))
     all_goals
      go_wp2_with fail
      go_ret2;have c:B_ w w2:=f.drew.trans (y.mono f.size);refine⟨_,rfl,Nat.le_succ_of_le c.size,c.trans (G.mono c.size),?_⟩;rw[C.out,A.out];exact zhk J c.size
    .have ac:bs=[]:=eN_ (by omega);have ag:u=0:=by rcases aa with h|h<;>omega
     subst ac;subst ag;obtain rfl:d=0:=aa.elim (λh=>absurd h (Nat.not_lt_zero _)) id;have I:zhj []=zdg (ze0 [l,m,o,p,q,r,s,t] [] 0 true) 8:=C.out;have Z:Hid (zhj []=zdg (ze0 [l,m,o,p,q,r,s,t] [] 0 true) 8):=I;clear C I hcut H ab hlt ad hl h1 g;go_wp2_with fail
     go_region_with (first|(go_at_call 123;refine(zkh l m o p q r s t [] _ _ _ _ _ _ rfl (by simp) ?_ ?_).mono ?_;exact .inl rfl;exact B.below f.drew;rintro e w2⟨N,O,R,T,U,V,X,Y,rfl,A,y⟩)|(go_at_call 124;refine(zjJ _ _ _ _ _ _ _ _ _).mono ?_;rintro e w3⟨rfl,G,J⟩))
     all_goals
      go_wp2_with fail
      go_ret2;have c:B_ w w2:=f.drew.trans (y.mono f.size);refine⟨_,rfl,Nat.le_succ_of_le c.size,c.trans (G.mono c.size),?_⟩;rw[Z.out,A.out];exact zhk J c.size
theorem zpP (bs:List Int):(zhj bs).length=32:=zoc _ 8
theorem zxZ (bs:List Int)(f:Option Addr)(n d:Nat)(w:World)(p:n=bs.length)(o:bs.length<=4000)(c:zg w f d bs)(m:zbJ w) :
  Calls prog 98 #[.slice f n d] w λe w'=>∃b,e=.returned (.tuple #[.slice (some ⟨b,0,none⟩) 32 32,I_ 0])/\w.heap.size<=b/\B_ w w'/\zg w' (some ⟨b,0,none⟩) 32 (zhj bs):=by
 subst p;refine(zwV bs f d w o c.le c.max c.some c.bytes m).mono ?_;rintro e w'⟨b,rfl,g,j,l⟩;exact⟨b,rfl,g,j,(zc0 l).2⟩
end Go.Proofs.YtdnaljbnebnlhaaGreatDoor
