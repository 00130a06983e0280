import Derived.Test.YtdepbohhmfkjgaaGreatDoorPk4
set_option maxRecDepth 100000
set_option maxHeartbeats 4000000
namespace Go.Proofs.YtdepbohhmfkjgaaGreatDoor
open Go.RowKit Tryz
theorem zeU (b:List Int)(h:b.length=8):(prog.info? 271).map (·.size)=some (ua b).size:=by
 rw[zb0,h];kernel_rfl
theorem zqS (w:World)(l:zfu w) :
  Calls prog 221 #[] w fun e w'=>e=.returned (.agg (ua zc6))∧B_ w w':=by
 have t:=l.lt;go_in
 go_wp2
 go_loopw [3] (fun i wr=>∃ k:Nat,k≤8∧i=I_ k∧B_ w wr∧R_ wr (w.heap.size+1) (ua (zcm k)) 271∧R_ wr w.heap.size (ua (List.replicate 8 0)) 271) (fun i _=>8-(intOf i).toNat)
 case atStart=>exact ⟨0,nZ_ _,rfl,((bR_ _ _).alloc (nR_ _) _).alloc (by simp) _,heap_alloc2_new _ _ _,heap_alloc2_old _ _ _⟩
 refine kW_ ?A0 ?_;exact wr.setCell ⟨w.heap.size+1,0,none⟩ (.int .u32 (bits .xor .u32 ((zcm 8).getD 0 0) 16842784))
 case round=>
  obtain ⟨k,D,rfl,c,b,g⟩:=hrel;by_cases hlt:k<8
  ·have r:C_ wr 1 k (.int .u32 (fw.getD k 0)):=(c.cell (p:=⟨1,k,none⟩) t).trans (l k hlt);have s:C_ wr (w.heap.size+1) k (.int .u32 ((zcm k).getD k 0)):=by
    rw[cell_of_row wr _ _ _ _ _ b,zdp _ _ (by rw[zfg];omega)]
   have C:=frozen_of_row wr _ k _ _ b;have q:Hid (zcm (k+1)=(zcm k).set k (fw.getD k 0)):=rfl;generalize fw.getD k 0=x at r q;generalize (zcm k).getD k 0=m at s
   go_wp2
   go_roundw
   case rel=>
    refine ⟨k+1,by omega,by go_num,c.setCell (p:=⟨w.heap.size+1,k,none⟩) (by simp) _,?_,?_⟩
    ·rw[q.out,←zdJ];exact heap_setCell_same wr _ _ _ _ _ b
    ·exact (Below.heap_setCell wr _ _ _ (by simp)).trans g
   case measure=>simp[intOf];omega
  ·obtain rfl:k=8:=by omega
   have A:C_ wr (w.heap.size+1) 0 (.int .u32 ((zcm 8).getD 0 0)):=by
    rw[cell_of_row wr _ _ _ _ _ b,zdp _ _ (by rw[zfg];omega)]
   have B:=fun j=>frozen_of_row wr _ j _ _ b;have z:(?A0).heap[w.heap.size+1]? = some (.cells (ua zc6) 271 (0,0)):=by
    rw[zc6,←zdJ];exact heap_setCell_same wr _ _ _ _ _ b
   have d:(?A0).heap[w.heap.size]? = some (.cells (ua (List.replicate 8 0)) 271 (0,0)):=by
    rw[Below.heap_setCell _ _ _ _ (by simp)];exact g
   have f:=zeU zc6 zdK;have y:(ua (List.replicate 8 0)).size=(ua zc6).size:=by rw[zb0,zb0,zdK];rfl
   have o:B_ w ?A0:=c.setCell (by simp) _;generalize u:(zcm 8).getD 0 0=m at *;clear u;go_wp2_with (first|refine wpList_load_row rfl 271 _ rfl (w.heap.size+1) rfl 271 (ua zc6) (0,0) _ z underlying271 rfl f ?_|refine wpList_store_row rfl 271 _ _ rfl w.heap.size (ua zc6) rfl rfl 271 (ua (List.replicate 8 0)) d f y (zeT _) ?_)
   exact bodyPost_ret (v:=.agg (ua zc6)) (results_cell_row (fn:=Tryz.f221) (p:=0) (ty:=271) rfl _ _ w.heap.size 271 _ (0,0) _ rfl (setRow_heap _ _ _ _ _ _ d) underlying271 rfl f) rfl ⟨rfl,(Upd.setRow d).below o o.size (nR_ _)⟩
variable {w w' w2 w1:World}{n:Nat}
structure zpf (w:World)(s v:List Int)(bv:Nat)(wx:World):Prop where
 bel:Below w.heap.size w wx
 st:wx.heap[w.heap.size]? = some (.cells (ua s) 271 (0,0))
 res:wx.heap[w.heap.size+1]? = some (.cells (ua (List.replicate 8 0)) 271 (0,0))
 lt:w.heap.size+1<bv
 vs:wx.heap[bv]? = some (.cells (ua v) 295 (0,0))
structure ziT (w:World)(s v m:List Int)(bv bm:Nat)(wx:World):Prop where
 v:zpf w s v bv wx
 lt:bv<bm
 ms:wx.heap[bm]? = some (.cells (ua m) 294 (0,0))
theorem ziT.upd {s v f m:List Int}{c d:Nat}{wr:World}(h:ziT w s v m c d wr)(b:Upd c (.cells (ua f) 295 (0,0)) wr w2):ziT w s f m c d w2:=by
 have g:=h.v.lt;have j:=h.lt;have l:=ze h.v.st;have o:=ze h.v.res;have p:=ze h.ms;exact ⟨⟨b.below h.v.bel h.v.bel.size (by omega),(b.block _ l (by omega)).trans h.v.st,(b.block _ o (by omega)).trans h.v.res,g,b.here⟩,j,(b.block _ p (by omega)).trans h.ms⟩
theorem zqT {b:Nat}{o:Obj}(h:Upd b o (w.drewN n) w'):Upd b o w w':=⟨h.os,h.tape,h.output,h.size,h.block,h.here⟩
theorem zqU {A B:Obj}(h:Below ((w.alloc A).alloc B).heap.size ((w.alloc A).alloc B) w1) :
  Below w.heap.size w w1∧w1.heap[w.heap.size]? = some A∧w1.heap[w.heap.size+1]? = some B∧w.heap.size+1<w1.heap.size:=by
 have b:=h.size
 simp at b
 refine ⟨(((bR_ _ _).alloc (nR_ _) _).alloc (by simp) _).trans (h.mono (by simp;omega)),?_,?_,by omega⟩
 ·exact (h.block _ (by simp;omega)).trans (heap_alloc2_old _ _ _)
 ·exact (h.block _ (by simp)).trans (heap_alloc2_new _ _ _)
theorem zsS (s bs:List Int)(J:Option Addr)(T:Nat)(f:Int)(d:Bool)(w:World)(I:s.length=8)(ad:bs.length≤64)(U:zaV w J bs)(G:zby w) :
  Calls prog 222 #[.agg (ua s),.slice J bs.length T,I_ f,.bool d] w fun e w'=>e=.returned (.agg (ua (zeh s bs f d)))∧Below w.heap.size w w':=by
 have an:=zeU s I;have D:=zdq s I f d;have ao:=zgL (za5 s f d) D;have aj:(ua (List.replicate 16 0)).size=(ua (za5 s f d)).size:=by rw[zb0,zb0,D];rfl
 go_in;go_upto_region 1 with (fail)
 go_cut [9] (fun p R=>∃ g,p=(P_ g 0)∧zpf w s (za5 s f d) g R)
 refine kW_ ?A0 ?_;exact (w.alloc (.cells (ua s) 271)).alloc (.cells #[.int .u32 0,.int .u32 0,.int .u32 0,.int .u32 0,.int .u32 0,.int .u32 0,.int .u32 0,.int .u32 0] 271)
 case first=>
  have ak:(?A0).heap[w.heap.size]? = some (.cells (ua s) 271 (0,0)):=heap_alloc2_old _ _ _;have ac:zby ?A0:=G.below (((bR_ _ _).alloc (nR_ _) _).alloc (by simp) _);go_wp2_with (first|refine wpList_load_row rfl 271 _ rfl w.heap.size rfl 271 (ua s) (0,0) _ ak underlying271 rfl an ?_|(go_at_call 253;refine (zpe s f d _ I ac.words).mono ?_;rintro e B ⟨rfl,C⟩)|refine wpList_store_row rfl 295 _ _ rfl _ (ua (za5 s f d)) rfl rfl 295 (ua (List.replicate 16 0)) (heap_alloc_new _ _) ao aj (zeT _) ?_)
  go_meet
  case rel=>
   obtain ⟨j,k2,k3,k4⟩:=zqU C;have E:=heap_alloc_new B (.cells (ua (List.replicate 16 0)) 295);refine ⟨_,rfl,(Upd.setRow E).below (j.alloc j.size _) (by simp;exact Nat.le_succ_of_le j.size) j.size,?_,?_,k4,setRow_heap _ _ _ _ _ _ E⟩
   ·rw[setRow_other _ _ _ _ (by omega),Below.heap_alloc _ _ _ (by omega)];exact k2
   ·rw[setRow_other _ _ _ _ (by omega),Below.heap_alloc _ _ _ (by omega)];exact k3
 case rest=>
  obtain ⟨g,rfl,c⟩:=hcut;go_upto_region 2 with (fail)
  go_cut [10] (fun p R=>∃ o,p=(P_ o 0)∧ziT w s (za5 s f d) (zbe bs bs.length) g o R)
  case first=>
   have af:zaV wc J bs:=U.below' c.bel;go_wp2_with (first|(go_at_call 254;refine (zqR bs J T _ ad af).mono ?_;rintro e B ⟨rfl,C⟩)|refine wpList_store_row rfl 294 _ _ rfl _ (ua (zbe bs bs.length)) rfl rfl 294 (ua (List.replicate 16 0)) (heap_alloc_new _ _) (zj1 bs) (zlk bs) (zeT _) ?_)
   go_meet
   case rel=>
    have E:=heap_alloc_new B (.cells (ua (List.replicate 16 0)) 294);have ah:=ze c.vs;have aB:=c.lt;have aD:=C.size;have q:∀ k,k<wc.heap.size→((B.alloc (.cells (ua (List.replicate 16 0)) 294)).setRow B.heap.size (ua (zbe bs bs.length))).heap[k]? = wc.heap[k]?:=fun k q=>by
     rw[setRow_other _ _ _ _ (by omega),Below.heap_alloc _ _ _ (by omega)];exact C.block k q
    have j:Below w.heap.size w B:=c.bel.trans (C.mono c.bel.size);refine ⟨_,rfl,⟨(Upd.setRow E).below (j.alloc j.size _) (by simp;exact Nat.le_succ_of_le j.size) j.size,(q _ (by omega)).trans c.st,(q _ (by omega)).trans c.res,c.lt,(q _ (by omega)).trans c.vs⟩,by omega,setRow_heap _ _ _ _ _ _ E⟩
  case rest=>
   obtain ⟨o,rfl,F⟩:=hcut;clear c;have ai:=zef bs bs.length;have H:Hid (zeh s bs f d=zcv s (zcn (zbe bs bs.length) (za5 s f d) 10) 8):=rfl;generalize zbe bs bs.length=m at F ai H;generalize za5 s f d=v at F D H;have ah:=G.lt;go_wp2_with fail
   go_loopw [22] (fun i wr=>∃ r:Nat,r≤10∧i=I_ r∧ziT w s (zcn m v r) m g o wr) (fun i _=>10-(intOf i).toNat)
   case atStart=>exact ⟨0,by omega,rfl,F⟩
   case round=>
    obtain ⟨r,hr,rfl,N⟩:=hrel;by_cases hr10:r<10
    ·have aC:(r:Int)<10:=by omega
     go_wp2_with fail
     go_loopw [25] (fun i wr=>∃ k:Nat,k≤8∧i=I_ k∧ziT w s (zeg m r (zcn m v r) k) m g o wr) (fun i _=>8-(intOf i).toNat)
     case atStart=>exact ⟨0,by omega,rfl,N⟩
     case round=>
      obtain ⟨k,q,rfl,b⟩:=hrel;by_cases hk8:k<8
      ·have t:zby wr:=G.below b.v.bel;have ag:(k:Int)<8:=by omega
       have az:(2*(k:Int))<16:=by omega
       have aA:(2*(k:Int)+1)<16:=by omega
       have o1:=t.orders (r*16+2*k) (by omega);have o2:=t.orders (r*16+(2*k+1)) (by omega);have Z:=zoJ (r*16+2*k) (by omega);have x2:=zoJ (r*16+(2*k+1)) (by omega);generalize V:zhs.getD (r*16+2*k) 0=z at o1 Z;generalize X:zhs.getD (r*16+(2*k+1)) 0=A at o2 x2;have aa:Hid (zhs.getD (r*16+2*k) 0=z):=V;have ab:Hid (zhs.getD (r*16+(2*k+1)) 0=A):=X;clear V X;go_wp2_with fail
       go_quiet (fail)
       have L:wr.cell? ⟨o,z,none⟩=some (.int .u32 (m.getD z 0)):=by rw[cell_of_row wr _ _ _ _ _ b.ms,zdp _ _ (by omega)]
       have M:wr.cell? ⟨o,A,none⟩=some (.int .u32 (m.getD A 0)):=by rw[cell_of_row wr _ _ _ _ _ b.ms,zdp _ _ (by omega)]
       have l0:=t.lanes (k*4) (by omega);have l1:=t.lanes (k*4+1) (by omega);have l2:=t.lanes (k*4+2) (by omega);have l3:=t.lanes (k*4+3) (by omega);have l:Hid (zeg m r (zcn m v r) (k+1)=zmo (zeg m r (zcn m v r) k) (zaE.getD (k*4) 0) (zaE.getD (k*4+1) 0) (zaE.getD (k*4+2) 0) (zaE.getD (k*4+3) 0) (m.getD z 0) (m.getD A 0)):=by
        rw[←aa.out,←ab.out];rfl
       obtain ⟨b0,b1,b2,b3,ap,aq,ar,au,av,aw⟩:=zsQ k hk8;generalize zaE.getD (k*4) 0=q0 at *;generalize zaE.getD (k*4+1) 0=q1 at *;generalize zaE.getD (k*4+2) 0=q2 at *;generalize zaE.getD (k*4+3) 0=q3 at *;have ax:(z:Int)<16:=by omega
       have ay:(A:Int)<16:=by omega
       generalize m.getD z 0=x at L l;generalize m.getD A 0=y at M l;have am:(zeg m r (zcn m v r) k).length=16:=by rw[zg2,zgv,D]
       go_wp2_with fail
       go_region_with (go_at_call 255;refine (zur (zeg m r (zcn m v r) k) g q0 q1 q2 q3 x y _ am ?_ b0 b1 b2 b3 ap aq ar au av aw).mono ?_;exact b.v.vs;rintro e w2 ⟨rfl,hU⟩)
       all_goals
        go_wp2_with fail
        go_roundw
        case rel=>exact ⟨k+1,by omega,by go_num,by rw[l.out];exact b.upd (zqT hU)⟩
        case measure=>simp[intOf];omega
      ·obtain rfl:k=8:=by omega
       go_wp2_with fail
       go_roundw
       case rel=>exact ⟨r+1,by omega,by go_num,b⟩
       case measure=>simp[intOf];omega
    ·obtain rfl:r=10:=by omega
     go_wp2_with fail
     have al:(zcn m v 10).length=16:=by rw[zgv,D]
     have c:=N.v;clear N F U G;generalize zcn m v 10=u at c al H;have ae:=c.lt;go_loopw [53] (fun i wr=>∃ k:Nat,k≤8∧i=I_ k∧zpf w (zcv s u k) u g wr) (fun i _=>8-(intOf i).toNat)
     case atStart=>exact ⟨0,by omega,rfl,c⟩
     case round=>
      obtain ⟨k,q,rfl,b⟩:=hrel;have Y:=(zh3 s u k).trans I;by_cases hk8:k<8
      ·have ag:(k:Int)<8:=by omega
       have c0:wr.cell? ⟨w.heap.size,k,none⟩=some (.int .u32 ((zcv s u k).getD k 0)):=by rw[cell_of_row wr _ _ _ _ _ b.st,zdp _ _ (by omega)]
       have L:wr.cell? ⟨g,k,none⟩=some (.int .u32 (u.getD k 0)):=by rw[cell_of_row wr _ _ _ _ _ b.vs,zdp _ _ (by omega)]
       have M:wr.cell? ⟨g,k+8,none⟩=some (.int .u32 (u.getD (k+8) 0)):=by rw[cell_of_row wr _ _ _ _ _ b.vs,zdp _ _ (by omega)]
       have f0:=frozen_of_row wr _ k _ _ b.st;have l:Hid (zcv s u (k+1)=(zcv s u k).set k (bits .xor .u32 ((zcv s u k).getD k 0) (bits .xor .u32 (u.getD k 0) (u.getD (k+8) 0)))):=rfl;generalize (zcv s u k).getD k 0=x0 at c0 l;generalize u.getD k 0=Z at L l;generalize u.getD (k+8) 0=x2 at M l;go_wp2_with fail
       go_region
       go_wp2_with fail
       go_roundw
       case rel=>
        refine ⟨k+1,by omega,by go_num,(b.bel.setCell (p:=⟨w.heap.size,k,none⟩) (nR_ _) _).drew,?_,?_,ae,?_⟩
        ·rw[l.out,←zdJ];exact heap_setCell_same wr _ _ _ _ _ b.st
        ·exact (Below.heap_setCell wr _ _ _ (by simp)).trans b.res
        ·exact (Below.heap_setCell wr _ _ _ (by simp;omega)).trans b.vs
       case measure=>simp[intOf];omega
      ·obtain rfl:k=8:=by omega
       have O:=zeU (zcv s u 8) Y;have ho:(ua (List.replicate 8 0)).size=(ua (zcv s u 8)).size:=by rw[zb0,zb0,Y];rfl
       go_wp2_with (first|refine wpList_load_row rfl 271 _ rfl w.heap.size rfl 271 (ua (zcv s u 8)) (0,0) _ b.st underlying271 rfl O ?_|refine wpList_store_row rfl 271 _ _ rfl (w.heap.size+1) (ua (zcv s u 8)) rfl rfl 271 (ua (List.replicate 8 0)) b.res O ho (zeT _) ?_)
       exact bodyPost_ret (v:=.agg (ua (zcv s u 8))) (results_cell_row (fn:=Tryz.f222) (p:=8) (ty:=271) rfl _ _ (w.heap.size+1) 271 _ (0,0) _ rfl (setRow_heap _ _ _ _ _ _ b.res) underlying271 rfl O) rfl ⟨by rw[H.out],(Upd.setRow b.res).below b.bel b.bel.size (by omega)⟩
theorem zj2 (s:List Int)(d:s.length=8)(k:Nat)(c:k<8)(w:World) :
  (Instr.index 271 (.agg (ua s)) (I_ k)).run prog w=.ok (.int .u32 (s.getD k 0)) w:=by
 have b:=zdp s k (by omega);simp[Instr.index,asIntOf,Sem.run_bind,run_underlying underlying271,part,b,c]
theorem zpg (w:World):(Instr.makeSlice 64 (I_ 0) (I_ 32)).run prog w=.ok (.slice (some ⟨w.heap.size,0,none⟩) 0 32) (w.alloc (.cells (ub (List.replicate 32 0)).toArray 5)):=by kernel_rfl
theorem zph (s:List Int)(w:World)(c:s.length=8) :
  Calls prog 223 #[.agg (ua s)] w fun e w'=>e=.returned (.slice (some ⟨w.heap.size+1,0,none⟩) 32 32)∧B_ w w'∧w'.ownsRow w.heap.size 5 1 (.slice (some ⟨w.heap.size+1,0,none⟩) 32 32) 32 (ub (zcM s 8)):=by
 have u:=fun w=>zpg w;have q:=zeU s c;have g:((w.alloc (.cells (ua s) 271)).alloc (.cells (ub (List.replicate 32 0)).toArray 5)).heap[w.heap.size]? = some (.cells (ua s) 271 (0,0)):=heap_alloc2_old _ _ _;obtain ⟨i,m,y,r,z⟩:=info_parts zdI;have f:=World.ownsRow_made (base:=w.heap.size) (e:=5) (size:=1) (w.alloc (.cells (ua s) 271)) (ub (List.replicate 32 0)).toArray 32 (by simp) (by decide) rfl;go_in;go_wp2_with (refine wpList_load_row rfl 271 _ rfl w.heap.size rfl 271 (ua s) (0,0) _ g underlying271 rfl q ?_)
 go_loopw [8,3] (fun i v wr=>∃ k:Nat,k≤8∧i=I_ k∧v=.slice (some ⟨w.heap.size+1,0,none⟩) (4*k) 32∧B_ w wr∧wr.ownsRow w.heap.size 5 1 (.slice (some ⟨w.heap.size+1,0,none⟩) (4*k) 32) (4*k) (ub (zcM s k))) (fun i _ _=>8-(intOf i).toNat)
 case atStart=>exact ⟨0,nZ_ _,rfl,by simp,((bR_ _ _).alloc (nR_ _) _).alloc (by simp) _,by simpa[ub,zcM] using f⟩
 case round=>
  obtain ⟨k,t,rfl,rfl,b,d⟩:=hrel;clear g f;by_cases hlt:k<8
  ·have o:=fun w=>zj2 s c k hlt w;have j:Hid (zcM s (k+1)=zcM s k++[s.getD k 0 % 256,s.getD k 0 / 256 % 256,s.getD k 0 / 65536 % 256,s.getD k 0 / 16777216 % 256]):=rfl;generalize s.getD k 0=x at o j;go_wp2_with (at_builtin;refine wpList_append_own_spare _ rfl _ _ 64 rfl w.heap.size 5 i 1 underlying64 m r (w.heap.size+1) (4*k) 32 _ rfl (d.alloc _) ⟨wr.heap.size,0,none⟩ 4 4 [.int .u8 (x % 256),.int .u8 (x / 256 % 256),.int .u8 (x / 65536 % 256),.int .u8 (x / 16777216 % 256)] rfl rfl (z8 _ _ _) (zcU [_,_,_,_]) (by omega) ?_;intro A p l)
   go_roundw
   case rel=>
    refine ⟨k+1,by omega,by go_num,by rw[show 4*(k+1)=4*k+4 by omega],(b.alloc b.size _).grown l (by simp;exact Nat.le_succ_of_le b.size) (by simp),?_⟩;rw[j.out,show 4*(k+1)=4*k+4 by omega]
    simpa[ub] using p
   case measure=>simp[intOf];omega
  ·obtain rfl:k=8:=by omega
   go_wp2_with fail
   go_ret;exact ⟨rfl,b,d⟩
variable {xs:List Value}{W:World}
theorem zpi (l:List Int)(h:l.length=8):∃ a b c d e f g i,l=[a,b,c,d,e,f,g,i]:=by
 match l,h with
 | [a,b,c,d,e,f,g,i],_=>exact ⟨a,b,c,d,e,f,g,i,rfl⟩
theorem zmr {b:Nat}{t:TypeId}{c d f g l m o p:Int}(h:W.heap[b]? = some (.cells (ua [c,d,f,g,l,m,o,p]) t (0,0))) :
  C_ W b 0 (.int .u32 c)∧C_ W b 1 (.int .u32 d)∧C_ W b 2 (.int .u32 f)∧C_ W b 3 (.int .u32 g) ∧
  C_ W b 4 (.int .u32 l)∧C_ W b 5 (.int .u32 m)∧C_ W b 6 (.int .u32 o)∧C_ W b 7 (.int .u32 p)∧∀ j,W.frozen? ⟨b,j,none⟩=false:=
 ⟨cell_of_row W b 0 _ _ _ h,cell_of_row W b 1 _ _ _ h,cell_of_row W b 2 _ _ _ h,cell_of_row W b 3 _ _ _ h,cell_of_row W b 4 _ _ _ h,cell_of_row W b 5 _ _ _ h,cell_of_row W b 6 _ _ _ h,cell_of_row W b 7 _ _ _ h,fun j=>frozen_of_row W b j _ _ h⟩
theorem zwN {b:Nat}{t:TypeId}{p q r s u y z A:Int}(c d f g j l m o:Int)(h:W.heap[b]? = some (.cells (ua [p,q,r,s,u,y,z,A]) t (0,0))) :
  Upd b (.cells (ua [c,d,f,g,j,l,m,o]) t (0,0)) W ((((((((W.setCell ⟨b,0,none⟩ (.int .u32 c)).setCell ⟨b,1,none⟩ (.int .u32 d)).setCell ⟨b,2,none⟩ (.int .u32 f)).setCell ⟨b,3,none⟩ (.int .u32 g)).setCell ⟨b,4,none⟩ (.int .u32 j)).setCell ⟨b,5,none⟩ (.int .u32 l)).setCell ⟨b,6,none⟩ (.int .u32 m)).setCell ⟨b,7,none⟩ (.int .u32 o)):=by
 have k:=((((((((Upd.refl h).setCell 0 (.int .u32 c)).setCell 1 (.int .u32 d)).setCell 2 (.int .u32 f)).setCell 3 (.int .u32 g)).setCell 4 (.int .u32 j)).setCell 5 (.int .u32 l)).setCell 6 (.int .u32 m)).setCell 7 (.int .u32 o);simp only[zdJ,List.set_cons_zero,List.set_cons_succ] at k;exact k
def zeV (bs:List Int):Nat→List Int
 | 0=>zc6
 | k+1=>zeh (zeV bs k) ((bs.drop (64*k)).take 64) ((64*k+64:Nat):Int) false
theorem zij (bs:List Int)(k:Nat):(zeV bs k).length=8:=by
 induction k with
 | zero=>exact zdK
 | succ k ih=>rw[zeV,zii,ih]
def zmf (n:Nat):Nat:=(n-1) / 64
def zgd (bs:List Int):List Int:=
 zcM (zeh (zeV bs (zmf bs.length)) (bs.drop (64*zmf bs.length)) (bs.length:Int) true) 8
theorem ziU (d f g j l m o p:Int)(bs:List Int)(B:Option Addr)(C:Nat)(c:Int)(b:Bool)(n:Nat)(w:World)(I:n=bs.length)(G:bs.length≤64)(H:zaV w B bs)(E:zby w) :
  Calls prog 222 #[.agg #[.int .u32 d,.int .u32 f,.int .u32 g,.int .u32 j,.int .u32 l,.int .u32 m,.int .u32 o,.int .u32 p],.slice B n C,I_ c,.bool b] w fun e w'=>
   ∃ q r s t u y z A,e=.returned (.agg #[.int .u32 q,.int .u32 r,.int .u32 s,.int .u32 t,.int .u32 u,.int .u32 y,.int .u32 z,.int .u32 A])∧Hid (zeh [d,f,g,j,l,m,o,p] bs c b=[q,r,s,t,u,y,z,A])∧B_ w w':=by
 subst I;refine (zsS [d,f,g,j,l,m,o,p] bs B C c b w rfl G H E).mono ?_;rintro e w' ⟨rfl,F⟩;obtain ⟨q,r,s,t,u,y,z,A,D⟩:=zpi (zeh [d,f,g,j,l,m,o,p] bs c b) (zii _ _ _ _);exact ⟨q,r,s,t,u,y,z,A,by rw[D];rfl,D,F⟩
theorem zik (b c d f g j l m:Int)(w:World) :
  Calls prog 223 #[.agg #[.int .u32 b,.int .u32 c,.int .u32 d,.int .u32 f,.int .u32 g,.int .u32 j,.int .u32 l,.int .u32 m]] w fun e w'=>
   e=.returned (.slice (some ⟨w.heap.size+1,0,none⟩) 32 32)∧B_ w w'∧w'.ownsRow w.heap.size 5 1 (.slice (some ⟨w.heap.size+1,0,none⟩) 32 32) 32 (ub (zcM [b,c,d,f,g,j,l,m] 8)):=
 zph [b,c,d,f,g,j,l,m] w rfl
theorem zge {b b':Nat}{e:TypeId}{size:Nat}{v:Value}(h:w.ownsRow b e size v n xs)(m:b'≤b):w.ownsRow b' e size v n xs:=by
 obtain ⟨j,c⟩:=h;refine ⟨j,?_⟩;rcases c with c|⟨g,d,f,l,o,r⟩
 ·exact .inl c
 ·exact .inr ⟨g,d,f,l,by omega,r⟩
theorem zut (bs:List Int)(L:Option Addr)(u:Nat)(w:World)(hl:bs.length≤4000)(ad:bs.length≤u)(hm:u≤maxLen)(am:u=0∨∃ j z,L=some ⟨j,z,none⟩)(g:zaV w L bs)(B:zby w) :
  Calls prog 196 #[.slice L bs.length u] w fun e w'=>∃ b,e=.returned (.tuple #[.slice (some ⟨b,0,none⟩) 32 32,I_ 0])∧w.heap.size≤b∧B_ w w'∧w'.ownsRow w.heap.size 5 1 (.slice (some ⟨b,0,none⟩) 32 32) 32 (ub (zgd bs)):=by
 unfold maxLen at hm;have h1:decide ((4000:Int)<(bs.length:Int))=false:=by simp;omega
 have ao:=zeU zc6 zdK;have al:(ua (List.replicate 8 0)).size=(ua zc6).size:=by rw[zb0,zb0,zdK];rfl
 have hg:=B.lt;go_in;go_wp2_with (first|(go_at_call 221;refine (zqS _ B.words).mono ?_;rintro e w1 ⟨rfl,F⟩)|refine wpList_store_row rfl 271 _ _ rfl _ (ua zc6) rfl rfl 271 (ua (List.replicate 8 0)) (heap_alloc_new _ _) ao al (zeT _) ?_)
 go_loopw [5] (fun i wr=>∃ k d:Nat,i=I_ d∧Hid (d=64*k)∧(d<bs.length∨d=0)∧B_ w wr∧R_ wr w1.heap.size (ua (zeV bs k)) 271) (fun i _=>bs.length-(intOf i).toNat)
 case atStart=>
  have hn:=heap_alloc_new w1 (.cells (ua (List.replicate 8 0)) 271);exact ⟨0,0,rfl,rfl,.inr rfl,(Upd.setRow hn).below (F.alloc F.size _) (by simp;exact Nat.le_succ_of_le F.size) F.size,setRow_heap _ _ _ _ _ _ hn⟩
 case round=>
  obtain ⟨k,d,rfl,M,aa,f,D⟩:=hrel;have an:=F.size;have ak:=ze D;by_cases hlt:64<bs.length-d;have ar:(64:Int)<(bs.length:Int)-d:=by omega
  rcases g with g|⟨j,z,rfl,g⟩
  ·subst g;simp at hlt
  have au:j<w.heap.size:=block_lt_of_cell (g 0 (by omega));have ah:zaV w (some ⟨j,z,none⟩) bs:=.inr ⟨j,z,rfl,g⟩;have hcut:zaV w (some ⟨j,z+d,none⟩) ((bs.drop d).take 64):=ah.cut d 64;have H:Hid (64=((bs.drop d).take 64).length):=by show _=_;simp;omega
  have E:=zij bs k;have af:Hid (zeV bs (k+1)=zeh (zeV bs k) ((bs.drop d).take 64) ((d:Int)+64) false):=by
   have ai:=M.out;have e:((64*k+64:Nat):Int)=(d:Int)+64:=by omega
   show _=_;rw[zeV,e,←ai]
  generalize zeV bs k=S at D E af
  rotate_left
  have hk:k=zmf bs.length:=by
   have:=M.out;unfold zmf;omega
  have E:=zij bs k;have H:Hid (bs.length-d=(bs.drop d).length):=by show _=_;simp
  have C:Hid (zgd bs=zcM (zeh (zeV bs k) (bs.drop d) (bs.length:Int) true) 8):=by
   show _=_;rw[zgd,←hk,←M.out]
  have hcut:zaV w (L.map fun a=>⟨a.block,a.off+d,none⟩) (bs.drop d):=by
   rcases g with g|⟨j,z,rfl,g⟩
   ·exact .inl (by rw[g];simp)
   ·have:=zaV.cut (.inr ⟨j,z,rfl,g⟩) d (bs.length)
    rwa [tL_ (by simp)] at this
  generalize zeV bs k=S at D E C
  rotate_left
  all_goals
   obtain ⟨l,m,o,p,q,r,s,t,rfl⟩:=zpi S E;obtain ⟨c0,c1,c2,c3,c4,c5,c6,c7,f0⟩:=zmr D
  ·have aj:(d:Int)+64≤u:=by omega
   go_wp2_with fail
   go_region_with (go_at_call 222;refine (ziU l m o p q r s t ((bs.drop d).take 64) _ _ _ _ _ _ H.out (by simp;omega) ?_ ?_).mono ?_;exact hcut.below' f.drew;exact B.below f.drew;rintro e w2 ⟨N,O,R,T,U,V,X,Y,rfl,A,y⟩;have ae:=(y.block w1.heap.size ak).trans D;obtain ⟨e0,e1,e2,e3,e4,e5,e6,e7,g0⟩:=zmr ae)
   all_goals
    go_wp2_with fail
    go_roundw
    case rel=>
     have hU:=zwN N O R T U V X Y ae;have c:B_ w w2:=f.drew.trans (y.mono f.size);refine ⟨k+1,d+64,by go_num,by rw[M.out];exact (Nat.mul_succ 64 k).symm,.inl (by omega),hU.below c c.size an,?_⟩;rw[af.out,A.out];exact hU.here
    case measure=>simp[intOf];omega
  ·clear hk;have ab:(bs.drop d).length≤64:=by simp;omega
   rcases am with rfl|⟨j,z,rfl⟩
   ·have ac:bs=[]:=eN_ (by omega);subst ac;obtain rfl:d=0:=aa.elim (fun h=>absurd h (Nat.not_lt_zero _)) id;have I:zgd []=zcM (zeh [l,m,o,p,q,r,s,t] [] 0 true) 8:=C.out;have Z:Hid (zgd []=zcM (zeh [l,m,o,p,q,r,s,t] [] 0 true) 8):=I;clear C I hcut H ab hlt ad hl h1 g;cases L
    all_goals
     go_wp2_with fail
     go_region_with (first|(go_at_call 222;refine (ziU l m o p q r s t [] _ _ _ _ _ _ rfl (by simp) ?_ ?_).mono ?_;exact .inl rfl;exact B.below f.drew;rintro e w2 ⟨N,O,R,T,U,V,X,Y,rfl,A,y⟩)|(go_at_call 223;refine (zik _ _ _ _ _ _ _ _ _).mono ?_;rintro e w3 ⟨rfl,G,J⟩))
     all_goals
      go_wp2_with fail
      go_ret2;have c:B_ w w2:=f.drew.trans (y.mono f.size);refine ⟨_,rfl,Nat.le_succ_of_le c.size,c.trans (G.mono c.size),?_⟩;rw[Z.out,A.out];exact zge J c.size
   ·by_cases aj:d<u
    ·have ap:(d:Int)<u:=by omega
     have aq:d≤bs.length:=by omega
     go_wp2_with fail
     go_region_with (first|(go_at_call 222;refine (ziU l m o p q r s t (bs.drop d) _ _ _ _ _ _ H.out ab ?_ ?_).mono ?_;exact hcut.below' f.drew;exact B.below f.drew;rintro e w2 ⟨N,O,R,T,U,V,X,Y,rfl,A,y⟩)|(go_at_call 223;refine (zik _ _ _ _ _ _ _ _ _).mono ?_;rintro e w3 ⟨rfl,G,J⟩))
     all_goals
      go_wp2_with fail
      go_ret2;have c:B_ w w2:=f.drew.trans (y.mono f.size);refine ⟨_,rfl,Nat.le_succ_of_le c.size,c.trans (G.mono c.size),?_⟩;rw[C.out,A.out];exact zge J c.size
    ·have ac:bs=[]:=eN_ (by omega);have ag:u=0:=by rcases aa with h|h<;>omega
     subst ac;subst ag;obtain rfl:d=0:=aa.elim (fun h=>absurd h (Nat.not_lt_zero _)) id;have I:zgd []=zcM (zeh [l,m,o,p,q,r,s,t] [] 0 true) 8:=C.out;have Z:Hid (zgd []=zcM (zeh [l,m,o,p,q,r,s,t] [] 0 true) 8):=I;clear C I hcut H ab hlt ad hl h1 g;go_wp2_with fail
     go_region_with (first|(go_at_call 222;refine (ziU l m o p q r s t [] _ _ _ _ _ _ rfl (by simp) ?_ ?_).mono ?_;exact .inl rfl;exact B.below f.drew;rintro e w2 ⟨N,O,R,T,U,V,X,Y,rfl,A,y⟩)|(go_at_call 223;refine (zik _ _ _ _ _ _ _ _ _).mono ?_;rintro e w3 ⟨rfl,G,J⟩))
     all_goals
      go_wp2_with fail
      go_ret2;have c:B_ w w2:=f.drew.trans (y.mono f.size);refine ⟨_,rfl,Nat.le_succ_of_le c.size,c.trans (G.mono c.size),?_⟩;rw[Z.out,A.out];exact zge J c.size
theorem znP (bs:List Int):(zgd bs).length=32:=zmq _ 8
theorem zvt (bs:List Int)(f:Option Addr)(n d:Nat)(w:World)(p:n=bs.length)(o:bs.length≤4000)(c:zf w f d bs)(m:zby w) :
  Calls prog 196 #[.slice f n d] w fun e w'=>∃ b,e=.returned (.tuple #[.slice (some ⟨b,0,none⟩) 32 32,I_ 0])∧w.heap.size≤b∧B_ w w'∧zf w' (some ⟨b,0,none⟩) 32 (zgd bs):=by
 subst p;refine (zut bs f d w o c.le c.max c.some c.bytes m).mono ?_;rintro e w' ⟨b,rfl,g,j,l⟩;exact ⟨b,rfl,g,j,(zcC l).2⟩
variable {base:Nat}{bs:List Int}
def psz (ps:List zi):Nat→Nat
 | 0=>0
 | k+1=>psz ps k+(2+(ps.getD k ⟨none,0,[]⟩).bs.length)
theorem zms (b:List zi)(j k:Nat)(h:j≤k):psz b j≤psz b k:=by
 induction k with
 | zero=>
  obtain rfl:j=0:=by omega
  exact nR_ _
 | succ k ih=>
  rcases Nat.lt_or_ge j (k+1) with g|g
  ·exact nT_ (ih (by omega)) (by simp[psz])
  ·obtain rfl:j=k+1:=by omega
   exact nR_ _
theorem zsT (b:List zi)(j:Option Addr)(n l:Nat)(w:World)(q:n=b.length)(g:zbG w j b)(y:1+psz b b.length≤4000) :
  Calls prog 195 #[.slice j n l] w fun e w'=>e=.returned (.bool true)∧w=w':=by
 subst q;have u:b.length≤2000:=by
  have:∀ k,2*k≤psz b k:=by
   intro k
   induction k with
   | zero=>exact nR_ _
   | succ k ih=>simp[psz];omega
  have:=this b.length;omega
 go_in;go_wp2_with fail
 go_loop [8,3] (fun i r=>∃ k:Nat,k≤b.length∧i=I_ k∧r=I_ (3999-(psz b k:Int))) (fun i _=>b.length-(intOf i).toNat)
 case atStart=>exact ⟨0,nZ_ _,rfl,rfl⟩
 case round=>
  obtain ⟨k,t,rfl,rfl⟩:=hrel;by_cases hlt:k<b.length
  ·rcases g.cells with c|⟨C,D,rfl,c⟩
   ·subst c;simp at hlt
   have d:=c k hlt;have o:=zms b (k+1) b.length hlt;have f:Hid (psz b (k+1)=psz b k+(2+(b[k]).bs.length)):=by show _=_;simp[psz,hlt]
   have p:psz b k+(2+(b[k]).bs.length)≤3999:=by have:=f.out;omega
   generalize (b[k]).bs.length=m at d f p;generalize (b[k]).sa=A at d;generalize (b[k]).cap=B at d;clear o c g;generalize psz b k=z at *;have s:¬((3999:Int)-z-2<m):=by omega
   go_wp2_with fail
   go_round
   case rel=>exact ⟨k+1,by omega,by go_num,by rw[f.out];go_num⟩
   case measure=>simp[intOf];omega
  ·go_wp2_with fail
   go_ret;exact ⟨rfl,rfl⟩
theorem zvu {v:Value}{cs:List Int}(h:w.ownsRow base 5 1 v n (ub bs++cs.map (Value.int .u8))):w.ownsRow base 5 1 v n (ub (bs++cs)):=by
 simpa[ub] using h
def zdk (tag:Int)(ps:List zi):Nat→List Int
 | 0=>[tag]
 | k+1=>zdk tag ps k++[((ps.getD k ⟨none,0,[]⟩).bs.length:Int) / 256 % 256,((ps.getD k ⟨none,0,[]⟩).bs.length:Int) % 256]++(ps.getD k ⟨none,0,[]⟩).bs
theorem zmt (c:Int)(b:List zi)(k:Nat):(zdk c b k).length=1+psz b k:=by
 induction k with
 | zero=>rfl
 | succ k ih=>simp[zdk,psz,ih];omega
theorem zll (f:Int)(c:List zi)(t:Option Addr)(n u:Nat)(w:World)(V:n=c.length)(m:zbG w t c)(E:1+psz c c.length≤4000)(N:zby w) :
  Calls prog 158 #[.int .u8 f,.slice t n u] w fun e w'=>∃ b,e=.returned (.tuple #[.slice (some ⟨b,0,none⟩) 32 32,I_ 0])∧w.heap.size≤b∧B_ w w'∧zf w' (some ⟨b,0,none⟩) 32 (zgd (zdk f c c.length)):=by
 subst V;have af:c.length≤2000:=by
  have:∀ k,2*k≤psz c k:=by
   intro k
   induction k with
   | zero=>exact nR_ _
   | succ k ih=>simp[psz];omega
  have:=this c.length;omega
 obtain ⟨i,R,ab,ac,ad⟩:=info_parts zdI;have Y:(w.alloc (.cells #[.int .u8 f] 5)).ownsRow w.heap.size 5 1 (.slice (some ⟨w.heap.size,0,none⟩) 1 1) 1 (ub (zdk f c 0)):=
  World.ownsRow_lit w #[.int .u8 f] 1 (nR_ _) (by decide) rfl
 go_in;go_wp2_with fail
 refine (zsT c t _ u w rfl m E).mono ?_;rintro e w' ⟨rfl,rfl⟩;go_wp2_with fail
 go_loopw [16,6] (fun j v wr=>∃ k:Nat,k≤c.length∧j=I_ k∧B_ w wr∧wr.ownsRow w.heap.size 5 1 v (1+psz c k) (ub (zdk f c k))) (fun j _ _=>c.length-(intOf j).toNat)
 case atStart=>exact ⟨0,nZ_ _,rfl,(bR_ _ _).alloc (nR_ _) _,Y⟩
 case round=>
  obtain ⟨k,hk,rfl,d,l⟩:=hrel;by_cases hlt:k<c.length
  ·have B:=m.below d;rcases B.cells with g|⟨sb,so,rfl,g⟩
   ·subst g;simp at hlt
   have J:=g k hlt;have L:=zms c (k+1) c.length hlt;have o:Hid (psz c (k+1)=psz c k+(2+(c[k]).bs.length)):=by show _=_;simp[psz,hlt]
   have M:psz c k+(2+(c[k]).bs.length)≤3999:=by have:=o.out;omega
   have D:((c[k]).bs.length:Int) / 256 % 256=((c[k]).bs.length:Int) / 256:=by omega
   have F:Hid (zdk f c (k+1)=zdk f c k++[((c[k]).bs.length:Int) / 256,((c[k]).bs.length:Int) % 256]++(c[k]).bs):=by
    show _=_;rw[←D];simp[zdk,hlt]
   have C:=m.each (c[k]) (gM_ hlt);have U:Hid ((c[k]).bs.length=(c[k]).bs.length):=rfl;clear L g B m D;generalize c[k]=p at *;obtain ⟨pa,pc,bs⟩:=p
   simp only at J o M F C
   clear U;have G:True:=trivial;go_wp2_with (first|(at_builtin;have _t:=G;refine wpList_append_own _ rfl _ _ 64 rfl w.heap.size 5 i (.int .u8 0) 1 1 underlying64 R ab ac ad rfl (by decide) _ (1+psz c k) _ rfl (l.alloc _) ⟨wr.heap.size,0,none⟩ 2 2 [.int .u8 ((bs.length:Int) / 256),.int .u8 ((bs.length:Int) % 256)] rfl rfl (z8 _ _ _) (zcU [_,_]) (by unfold maxLen;omega) (by omega) (zz d.size _) ?_;clear G;intro v1 w1 A s _)|(at_builtin;refine zfs rfl _ _ rfl w.heap.size _ _ (zdk f c k++[(bs.length:Int) / 256,(bs.length:Int) % 256]) rfl (zvu A) pa bs.length pc bs rfl rfl (C.below (Below.grown (d.alloc d.size _) s (zz d.size _) (fun q e=>(l.lt q e).1))) (by omega) (nT_ (zz d.size _) s.size) ?_;intro v2 w2 X O))
   have y:=Below.grown (d.alloc d.size _) s (zz d.size _) (fun q e=>(l.lt q e).1);have r:=Below.grown y O y.size (fun q e=>(A.lt q e).1);go_roundw
   case rel=>
    refine ⟨k+1,by omega,by go_num,r,?_⟩;rw[F.out,o.out,show 1+(psz c k+(2+bs.length))=1+psz c k+2+bs.length by omega];exact X
   case measure=>simp[intOf];omega
  ·obtain rfl:k=c.length:=by omega
   obtain ⟨ae,I,hv,z,aa⟩:=zdZ l;subst hv;have H:Hid (1+psz c c.length=(zdk f c c.length).length):=z;clear z;go_wp2_with fail
   refine (zvt (zdk f c c.length) ae _ I wr H.out (by rw[zmt];exact E) aa (N.below d)).mono ?_;rintro e w2 ⟨b,rfl,T,r,Z⟩;go_wp2_with fail
   go_ret2;exact ⟨b,rfl,nT_ d.size T,d.trans (r.mono d.size),Z⟩
def zgM (tag:Int)(bs:List Int):List Int:=zgd (zdk tag [⟨none,0,bs⟩] 1)
theorem zgN (b:Int)(bs:List Int):(zgM b bs).length=32:=znP _
theorem zj3 (b:Int)(d:Option Addr)(c:Nat)(bs:List Int):zdk b [⟨d,c,bs⟩] 1=zdk b [⟨none,0,bs⟩] 1:=by simp[zdk]
theorem zmu (w:World)(c:Option Addr)(n b:Nat)(bs:List Int)(f:n=bs.length)(l:zf w c b bs):zbG (w.alloc (.cells #[.slice c n b] 64)) (some ⟨w.heap.size,0,none⟩) [⟨c,b,bs⟩]:=by
 refine ⟨.inr ⟨w.heap.size,0,rfl,fun j d=>?_⟩,fun p g=>?_⟩
 ·obtain rfl:j=0:=by simpa using d
  subst f;exact zgt w _ _ 0 _ rfl
 ·obtain rfl:p=⟨c,b,bs⟩:=by simpa using g
  exact l.below ((bR_ _ _).alloc (nR_ _) _)
theorem zjD (au rd:Int)(b:Option Addr)(g c:Nat)(bl:List zi)(d:Option Addr)(l f:Nat)(pl:List zi)(j:Int)(w:World)(p:g=bl.length)(r:l=pl.length)(s:zy w b c bl)(u:zy w d f pl)(q:zK au rd bl pl=j)(y:j≠0) :
  Calls prog 170 #[.agg #[I_ au,I_ rd,.slice b g c,.slice d l f]] w fun e w'=>e=.returned (.tuple #[O_,I_ j])∧B_ w w':=by
 have m:=zO w (.cells #[I_ au,I_ rd,.slice b g c,.slice d l f] 56);have o:=zdT au rd b c bl d f pl _ (s.below m) (u.below m);rw[q,←p,←r] at o;clear p r q;go_in;go_wp2_with fail
 refine o.mono ?_;rintro e z ⟨rfl,t⟩;go_wp2_with fail
 go_ret2;exact ⟨rfl,zV t⟩
theorem zj4 (au rd:Int)(c:Option Addr)(m l:Nat)(bl:List zi)(d:Option Addr)(s r:Nat)(pl:List zi)(w:World)(E:m=bl.length)(G:s=pl.length)(O:zy w c l bl)(o:zy w d r pl)(M:Off w (O_) c bl)(N:Off w (O_) d pl)(L:zK au rd bl pl=0)(ha:0≤au∧au<4)(hr:0≤rd∧rd≤1048576)(ae:bl.length≤4)(ag:pl.length≤4)(R:∀ p∈bl,p.bs.length=32)(T:∀ p∈pl,p.bs.length=32)(hT:zby w) :
  Calls prog 170 #[.agg #[I_ au,I_ rd,.slice c m l,.slice d s r]] w fun e w'=>∃ b,e=.returned (.tuple #[.slice (some ⟨b,0,none⟩) 32 32,I_ 0])∧w.heap.size≤b∧B_ w w'∧zf w' (some ⟨b,0,none⟩) 32 (zgM 2 (zaQ au rd bl pl)):=by
 have I:=zO w (.cells #[I_ au,I_ rd,.slice c m l,.slice d s r] 56);have D:=zdT au rd c l bl d r pl _ (O.below I) (o.below I);rw[L,←E,←G] at D;have aj:=zdo bl R;have ak:=zdo pl T;have X:Hid (m=bl.length):=E;have Y:Hid (s=pl.length):=G;clear E G L;go_in;go_wp2_with fail
 refine D.mono ?_;rintro e u ⟨rfl,f⟩;have z:=zbN f;replace f:=zV f;have c0:=zb z 0 (I_ au) rfl;have c1:=zb z 1 (I_ rd) rfl;have c2:=zb z 2 (.slice c m l) rfl;have c3:=zb z 3 (.slice d s r) rfl;have t:=f.size;clear D;have aa:Off u (O_) c bl:=⟨fun g j e=>⟨nL_ (M.row g j e).1 t,fun h=>by cases h⟩,fun p o g j e=>⟨nL_ (M.each p o g j e).1 t,fun h=>by cases h⟩⟩;have ab:Off u (O_) d pl:=⟨fun g j e=>⟨nL_ (N.row g j e).1 t,fun h=>by cases h⟩,fun p o g j e=>⟨nL_ (N.each p o g j e).1 t,fun h=>by cases h⟩⟩;go_wp2_with fail
 refine (zjA u.heap.size (O_) 0 [] au rd c m l bl d s r pl u ha hr X.out Y.out ae ag R T (O.below f) aa (o.below f) ab (oN_ _ _ _ _) (nR_ _) (by decide)).mono ?_;rintro e w2 ⟨v2,rfl,F,H⟩;have ac:B_ u w2:=H.below (nR_ _) (fun q e=>by cases e);rw[Nat.zero_add,List.nil_append] at F;obtain ⟨A,C,hv,U,hx⟩:=zdZ F;subst hv;have y:=f.trans (ac.mono t);have HX:Hid _:=U;have ai:(zaQ au rd bl pl).length≤300:=by simp[zaQ,rd3,za6];omega
 have Z:=zO w2 (.cells #[.slice A (zaQ au rd bl pl).length C] 64);clear U F H;generalize J:zaQ au rd bl pl=B at *;have V:Hid _:=J;clear J;go_wp2_with fail
 refine (zll 2 [⟨A,C,B⟩] _ _ _ _ rfl (zmu w2 A _ C B rfl hx) (by simp[psz];omega) ((hT.below y).below Z)).mono ?_;rintro e w3 ⟨b,rfl,af,ad,ah⟩;go_wp2_with fail
 go_ret2;refine ⟨b,rfl,?_,?_,?_⟩
 ·rw[zI] at af;have:=y.size;omega
 ·exact y.trans ((zV ad).mono y.size)
 ·rw[zgM,V.out,←zj3 2 A C B];exact ah
variable {rd au:Int}{bl pl:List zi}
theorem znQ (c:List zi)(k:Nat)(h:zbd c k=0):∀ j,j<k→zci c j=0:=by
 induction k with
 | zero=>intro j d;omega
 | succ k ih=>
  rw[zbd] at h
  split at h
  ·rename_i b;exact absurd h b
  ·rename_i b
   intro j d;rcases Nat.lt_or_ge j k with g|g
   ·exact ih (by simpa using b) j g
   ·obtain rfl:j=k:=by omega
    exact h
theorem zmv {b:List zi}(h:zbV b=0):∀ p∈b,p.bs.length=32:=by
 intro p g;obtain ⟨j,d,rfl⟩:=List.getElem_of_mem g;have c:=znQ b b.length h j d;rw[zci,zfT b j d] at c
 split at c
 ·cases c
 ·rename_i f;simpa using f
theorem za7 (h:zK au rd bl pl=0):(0≤au∧au<4)∧(1≤rd∧rd≤1048576)∧bl.length≤3∧pl.length≤4∧(∀ p∈bl,p.bs.length=32)∧(∀ p∈pl,p.bs.length=32):=by
 unfold zK at h
 split at h
 ·cases h
 ·split at h
  ·cases h
  ·split at h
   ·rename_i b;exact absurd h b
   ·split at h
    ·rename_i b;exact absurd h b
    ·rename_i b f c d
     exact ⟨by omega,by omega,by omega,by omega,zmv (by simpa using c),zmv (by simpa using d)⟩
end Go.Proofs.YtdepbohhmfkjgaaGreatDoor
