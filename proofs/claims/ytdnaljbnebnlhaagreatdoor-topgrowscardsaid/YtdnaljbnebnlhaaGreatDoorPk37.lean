import Derived.Test.YtdnaljbnebnlhaaGreatDoorPk36
import Derived.Test.YtdnaljbnebnlhaaGreatDoorRows
import Derived.Lib.LaidTab
import Derived.Stop.LaidErr
set_option maxRecDepth 100000
set_option maxHeartbeats 4000000
namespace Go.Proofs.YtdnaljbnebnlhaaGreatDoor
open Go.RowKit _root_.Go.Proofs.Tryz
variable {w W:World}{base fuel:Nat}
theorem cS:prog.cellsOf 9=1:=by kernel_rfl
theorem cBl:prog.cellsOf 4=1:=by kernel_rfl
theorem c3B:prog.cellsOf 171=3:=by kernel_rfl
theorem cKd:prog.cellsOf 173=4:=by kernel_rfl
theorem zzr {cs:List Value}{i:Nat}{v:Value}(h:(cs.drop i).take 1=[v]):cs[i]? = some v:=by
 have:=congrArg (·[0]?) h
 simpa[List.getElem?_take,List.getElem?_drop]using this
theorem zmM {H:Type}{G:TypeId×Value->H}{Z:Nat->Bool}{J:Bool}{cs:List Value}{ds:List (DataW H)}{p:List MemPlace}
  (h:DataW.trod G prog w base Z J fuel 174 cs=some (.agg ds,p)) (i:Nat) (L:i<11) (l:List UInt8) (a b c:Bool) (B:ds[i]? = some (.agg [.lit (.string l),.agg [.lit (.bool a),.lit (.bool b),.lit (.bool c)]])) :
  cs[i*4]? = some (.string ⟨l.toArray⟩)/\cs[i*4+1]? = some (.bool a)/\cs[i*4+2]? = some (.bool b)/\cs[i*4+3]? = some (.bool c):=by
 obtain⟨y,f,rfl,R,hl,hn,N⟩:=DataW.trod_array underlying174 h;have V:ds=y.map (·.1):=by
  have:=congrArg Prod.fst R
  simpa using this
 have E:=N i L;have C:i<y.length:=by omega
 rw[List.getElem?_eq_getElem C,cKd]at E;have t:(y[i]).1=.agg [.lit (.string l),.agg [.lit (.bool a),.lit (.bool b),.lit (.bool c)]]:=by
  rw[V,List.getElem?_map,List.getElem?_eq_getElem C]at B
  simpa using B
 obtain⟨y0,y1,m,I,_,z,A⟩:=Go.ChangeShapes.trod_struct2 underlying173 E;rw[I]at t;simp only[DataW.agg.injEq,List.cons.injEq,and_true]at t;obtain⟨d,o⟩:=t;simp only[cS,c3B,List.drop_zero]at z A;obtain⟨s,F,O,_⟩:=DataW.trod_string underlying9 z;obtain⟨zs,g,_,X,_,aa,Y⟩:=DataW.trod_array underlying171 A;rw[O]at d;rw[X]at o;simp only[DataW.lit.injEq,Lit.string.injEq]at d;simp only[DataW.agg.injEq]at o;have r:∀j,j<3->∀v:Bool,[DataW.lit (H:=H) (.bool a),.lit (.bool b),.lit (.bool c)][j]? = some (.lit (.bool v))->cs[i*4+1+j]? = some (.bool v):=by
  intro j M v u;have D:=Y j M;rw[List.getElem?_eq_getElem (by omega),cBl]at D;obtain⟨x,T,U⟩:=DataW.trod_bool underlying4 D;have:x=v:=by
   rw[<-o,List.getElem?_map,List.getElem?_eq_getElem (by omega)]at u;simp[U]at u;exact u
  subst this;have q:=congrArg (·[0]?) T;obtain rfl|rfl|rfl:j=0\/j=1\/j=2:=by omega
  all_goals simpa[List.getElem?_take,List.getElem?_drop,Nat.add_assoc]using q
 refine⟨?_,r 0 (by omega) a rfl,r 1 (by omega) b rfl,r 2 (by omega) c rfl⟩;rw[List.take_take,show min 1 4=1 by rfl]at F;have q:=zzr F;rw[q]
 congr 2
 rw[<-d]
theorem zyR:(prog.globals[0]?).map (·.type)=some 174:=by kernel_rfl
theorem zsN:Rows.laid_sheaves_lines_kinds (H:=Unit)=.agg ((List.range 11).map λk:Nat=>.agg [.lit (.string (zn2 (k:Int))),.agg [.lit (.bool (hN (k:Int))),.lit (.bool (hP (k:Int))),.lit (.bool (hT (k:Int)))]]):=by rfl
theorem zxP {l:String}{r:List (String×DataW Unit)}(g:prog.globalNamed l=some 0)(h:laidMet prog ((l,Rows.laid_sheaves_lines_kinds)::r) W):zcw W:=by
 obtain⟨y,⟨u,t',cs,t,p,q,m,o,s,f,_,_⟩,_⟩:=h;obtain rfl:=Option.some.inj (g.symm.trans m);obtain rfl:=Option.some.inj (zyR.symm.trans o);rw[zsN]at f;have H:∀k:Nat,k<11->_:=λk j=>zmM f k j (zn2 k) (hN k) (hP k) (hT k) (by rw[List.getElem?_map,List.getElem?_range j];rfl);have b:=λi=>World.var?_cell g s i;refine⟨λk c d=>?_,λk c d=>?_,λk c d=>?_,λk c d=>?_⟩
 .rw[b,<-Array.getElem?_toList];exact(H k (by omega)).1
 .rw[b,<-Array.getElem?_toList];exact(H k (by omega)).2.1
 .rw[b,<-Array.getElem?_toList];exact(H k (by omega)).2.2.1
 .rw[b,<-Array.getElem?_toList];exact(H k (by omega)).2.2.2
theorem zwx {j l m b:String}{c d f:DataW Unit}(g:prog.globalNamed b=some 0)
  (h:laidMet prog [(j,c),(l,d),(m,f),(b,Rows.laid_sheaves_lines_kinds)] W):zcw W:=zxP g h.tail.tail.tail
def zmb (c:Array Value):Obj->Obj
 | .cells _ t frozen=>.cells c t frozen
 | o=>o
def zwy:DataW Unit->Value
 | .lit (.int k n)=>.int k n
 | _=>I_ 0
def zzs:DataW Unit->List Value
 | .agg ds=>ds.map zwy
 | d=>[zwy d]
def zpC:DataW Unit->List Value
 | .agg ds=>ds.flatMap zzs
 | d=>[zwy d]
def zuV:List Value:=(List.range 11).flatMap λk:Nat=>[.string ⟨(zn2 (k:Int)).toArray⟩,.bool (hN (k:Int)),.bool (hP (k:Int)),.bool (hT (k:Int))]
def layTp (w:World):World:=
 { w with heap:=(((w.heap.modify 1 (zmb (zpC Rows.laid_sheaves_blake_firstWords).toArray)).modify 2 (zmb (zpC Rows.laid_sheaves_blake_orders).toArray)).modify 3 (zmb (zpC Rows.laid_sheaves_blake_lanes).toArray)).modify 0 (zmb zuV.toArray) }
variable {n:Nat}{P:Program}
theorem zjv {H:Type}{g:TypeId×Value->H}{u:Nat->Bool}{l:Bool}{t e i:TypeId}{m:Nat}{k:IntKind}{cs:List Value}{d:List (List Int)}{p:List MemPlace}
  (N:P.underlying t=some (.array n e)) (B:P.underlying e=some (.array m i)) (C:P.underlying i=some (.int k)) (A:P.cellsOf i=1) (j:P.cellsOf e=m) (E:0<m)
  (h:DataW.trod g P w base u l fuel t cs=some (.agg (d.map (Lib.tabData k)),p)) (q:Nat) (G:q<n*m):cs[q]? = ((d.getD (q / m) []).map (Value.int k))[q % m]?:=by
 obtain⟨b,f,rfl,O,T,F,I⟩:=DataW.trod_array N h;have o:q / m<n:=Nat.div_lt_of_lt_mul (by rw[Nat.mul_comm];exact G);have s:=I (q / m) o;have R:b.map (·.1)=d.map (Lib.tabData k):=by
  have:=congrArg Prod.fst O
  simpa using this.symm
 have c:(b.map (·.1))[q / m]? = some (b[q / m]'(by omega)).1:=by simp[F,o]
 rw[R]at c;simp only[List.getElem?_map,Option.map_eq_some_iff]at c;obtain⟨r,J,L⟩:=c;rw[List.getElem?_eq_getElem (by omega),j]at s;have M:DataW.trod g P w base u l f e ((cs.drop (q / m*m)).take m)=some (Lib.tabData k r,(b[q / m]'(by omega)).2):=by
  rw[s,L]
 have z:=Lib.cells_of_tab B C A j M;have D:q % m<m:=Nat.mod_lt _ E;have y:((cs.drop (q / m*m)).take m)[q % m]? = cs[q]?:=by
  rw[List.getElem?_take,if_pos D,List.getElem?_drop,Nat.mul_comm,Nat.div_add_mod]
 rw[<-y,z];simp[List.getD,J]
theorem zyS:(prog.globals[1]?).map (·.type)=some 189:=by kernel_rfl
theorem zxQ:(prog.globals[2]?).map (·.type)=some 230:=by kernel_rfl
theorem zyT:(prog.globals[3]?).map (·.type)=some 232:=by kernel_rfl
theorem zzI:prog.cellsOf 188=1:=by kernel_rfl
theorem zzt:prog.cellsOf 189=8:=by kernel_rfl
theorem zzu:prog.cellsOf 229=16:=by kernel_rfl
theorem zzJ:prog.cellsOf 231=4:=by kernel_rfl
def zrg:List (List Int):=[[0,1,2,3,4,5,6,7,8,9,10,11,12,13,14,15],[14,10,4,8,9,15,13,6,1,12,0,2,11,7,5,3],[11,8,12,0,5,2,15,13,10,14,3,6,7,1,9,4],[7,9,3,1,13,12,11,14,2,6,5,10,4,0,15,8],[9,0,5,7,2,4,10,15,14,1,11,12,6,8,3,13],[2,12,6,10,0,11,8,3,4,13,7,5,15,14,1,9],[12,5,1,15,14,13,4,10,0,7,6,3,9,2,8,11],[13,11,7,14,12,1,3,9,5,0,15,4,8,6,2,10],[6,15,14,9,11,3,0,8,12,2,13,7,1,4,10,5],[10,2,8,4,7,6,1,5,15,11,9,14,3,12,13,0]]
def zpD:List (List Int):=[[0,4,8,12],[1,5,9,13],[2,6,10,14],[3,7,11,15],[0,5,10,15],[1,6,11,12],[2,7,8,13],[3,4,9,14]]
theorem zpE:∀q,q<160->(zrg.getD (q / 16) [])[q % 16]? = some ((zhT.getD q 0:Nat):Int):=by decide +kernel
theorem znV:∀q,q<32->(zpD.getD (q / 4) [])[q % 4]? = some ((zaH.getD q 0:Nat):Int):=by decide +kernel
theorem zyU:Rows.laid_sheaves_blake_firstWords (H:=Unit)=Lib.tabData .u32 fw:=rfl
theorem zxR:Rows.laid_sheaves_blake_orders (H:=Unit)=.agg (zrg.map (Lib.tabData .u8)):=rfl
theorem zyV:Rows.laid_sheaves_blake_lanes (H:=Unit)=.agg (zpD.map (Lib.tabData .u8)):=rfl
theorem zpF {z A B:String}{r:List (String×DataW Unit)}(s:prog.globalNamed z=some 1)(u:prog.globalNamed A=some 2)(t:prog.globalNamed B=some 3)
  (d:laidMet prog ((z,Rows.laid_sheaves_blake_firstWords)::(A,Rows.laid_sheaves_blake_orders)::(B,Rows.laid_sheaves_blake_lanes)::r) W):zbJ W:=by
 have f:=d.tail;have y:=f.tail;rw[zyU]at d;rw[zxR]at f;rw[zyV]at y;have F:=Lib.tabIs_of_head s zyS underlying189 underlying188 zzI zzt d;refine⟨λi b=>F.cell s i b,λi b=>?_,λi b=>?_⟩;obtain⟨E,⟨D,t',cs,C,p,q,l,m,o,j,_,_⟩,_⟩:=f;obtain rfl:=Option.some.inj (u.symm.trans l);obtain rfl:=Option.some.inj (zxQ.symm.trans m);have g:=World.var?_cell u o i;have c:=zjv underlying230 underlying229 underlying5 cU8 zzu (by decide) j i b;rw[g];have:=zpE i b
 rotate_left
 obtain⟨E,⟨D,t',cs,C,p,q,l,m,o,j,_,_⟩,_⟩:=y;obtain rfl:=Option.some.inj (t.symm.trans l);obtain rfl:=Option.some.inj (zyT.symm.trans m);have g:=World.var?_cell t o i;have c:=zjv underlying232 underlying231 underlying5 cU8 zzJ (by decide) j i b;rw[g];have:=znV i b
 rotate_left
 all_goals
  simp only[List.getElem?_map,this,Option.map_some]at c
  simpa using c
theorem tabsB_of {b c d f:String}(g:prog.globalNamed b=some 1)(j:prog.globalNamed c=some 2)(l:prog.globalNamed d=some 3)(m:prog.globalNamed f=some 0)
  (h:laidMet prog [(b,Rows.laid_sheaves_blake_firstWords),(c,Rows.laid_sheaves_blake_orders),(d,Rows.laid_sheaves_blake_lanes),(f,Rows.laid_sheaves_lines_kinds)] W):zcw W/\zbJ W:=⟨zwx m h,zpF g j l h⟩
end Go.Proofs.YtdnaljbnebnlhaaGreatDoor
