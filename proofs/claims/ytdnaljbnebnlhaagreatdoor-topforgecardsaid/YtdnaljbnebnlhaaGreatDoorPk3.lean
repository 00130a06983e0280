import Derived.Test.YtdnaljbnebnlhaaGreatDoorPk2
import Derived.ProofKit
import Derived.OpenShut
import Derived.Deep.Strs
set_option maxRecDepth 100000
set_option maxHeartbeats 4000000
namespace Go.Proofs.YtdnaljbnebnlhaaGreatDoor
open Go.RowKit Tryz
variable {w:World}{n base:Nat}{ss:List ByteArray}
theorem zkf:(prog.info? 9).map (λi=>(i.zero,i.size,i.bytes))=some (some (.string ByteArray.empty),1,16):=by kernel_rfl
def sv (ss:List ByteArray):List Value:=ss.map Value.string
theorem zjB (ss:List ByteArray):(sv ss).length=ss.length:=by simp[sv]
theorem zs7 (ss:List ByteArray):∀u∈sv ss,u.oneCell'=true:=by
 intro u b;simp[sv]at b;obtain⟨x,_,rfl⟩:=b;rfl
theorem zf6 {v:Value}(h:w.ownsRow base 9 1 v n (sv ss))(d:∀s∈ss,s.size<=maxLen):∃b rc,v=.slice b n rc/\n=ss.length/\zas w b ss/\∀c f,b=some ⟨c,f,none⟩->base<=c:=by
 have p:n=ss.length:=by have:=h.1;rw[zjB]at this;omega
 rcases h.2 with⟨rfl,q⟩|⟨g,l,r,rfl,_⟩
 .have m:ss=[]:=eN_ (by omega);subst q m;exact⟨none,0,rfl,rfl,⟨.inl rfl,d⟩,λ_ _ e=>by cases e⟩
 .refine⟨some ⟨g,0,none⟩,l,rfl,p,⟨.inr ⟨g,0,rfl,λj o=>?_⟩,d⟩,λc f e=>by cases e;exact(h.lt _ rfl).1⟩;rw[Nat.zero_add,World.ownsRow.cellAt h j (by omega)];simp[sv,o]
theorem zhf {a b:ByteArray}(h:a.toList=b.toList):a=b:=by
 rw[ByteArray.toList_eq,ByteArray.toList_eq]at h;exact Go.WideShapes.bytes_inj h
theorem zgr (bs:List Int):(zai bs).data.toList=bs.map λn=>UInt8.ofNat n.toNat:=by
 have h:∀(l:List Int) (r:ByteArray),(l.foldl (λr n=>r.push (UInt8.ofNat n.toNat)) r).data.toList=r.data.toList++l.map λn=>UInt8.ofNat n.toNat:=by
  intro l
  induction l with
  | nil=>simp
  | cons x l ih=>intro r;rw[List.foldl_cons,ih];simp[ByteArray.push]
 rw[zai,h]
 simp
theorem ziD {c ys:List Int}(d:∀x∈c,0<=x/\x<=255)(m:∀x∈ys,0<=x/\x<=255)(h:zai c=zai ys):c=ys:=by
 have g:c.map (λn=>UInt8.ofNat n.toNat)=ys.map (λn=>UInt8.ofNat n.toNat):=by rw[<-zgr,<-zgr,h]
 have f:∀l:List Int,(∀x∈l,0<=x/\x<=255)->(l.map (λn=>UInt8.ofNat n.toNat)).map (λb=>(b.toNat:Int))=l:=by
  intro l j;rw[List.map_map]
  conv=>rhs;rw[<-List.map_id l]
  refine List.map_congr_left λx d=>?_;have:=j x d;simp only[Function.comp,id];rw[UInt8.toNat_ofNat',Nat.mod_eq_of_lt (by omega)];omega
 rw[<-f c d,<-f ys m,g]
variable {w':World}{R:Nat}{va:Option Addr}
theorem zmU (bs:List Int):(zai bs).size=bs.length:=by
 have h:=congrArg List.length (zgr bs)
 simpa using h
def bL (s:St):Nat->St
 | 0=>s
 | k+1=>nx (nB 1 (bL s k)).toNat (nx 1 (bL s k))
def bT (s:St):Nat->List ByteArray
 | 0=>[]
 | k+1=>bT s k++[zai (tT (nB 1 (bL s k)).toNat (nx 1 (bL s k)))]
theorem zqM {s:St}(h:zbC s)(k:Nat):zbC (bL s k):=by
 induction k with
 | zero=>exact h
 | succ k ih=>exact ih.nx.nx
theorem zjC (s:St)(k:Nat):(bT s k).length=k:=by
 induction k with
 | zero=>rfl
 | succ k ih=>simp[bT,ih]
theorem zfE {s:St}(h:zbC s):0<=nB 1 s/\nB 1 s<=255:=zhe h.u8
theorem zwS {s:St}(h:zbC s)(k:Nat):∀t∈bT s k,t.size<=maxLen:=by
 induction k with
 | zero=>intro t b;cases b
 | succ k ih=>
  intro t b;rcases List.mem_append.1 b with b|b
  .exact ih t b
  .obtain rfl:t=_:=by simpa using b
   rw[zmU];have c:=zg4 (n:=(nB 1 (bL s k)).toNat) (l:=(nx 1 (bL s k)).1) (sh:=(nx 1 (bL s k)).2);have d:=zfE (zqM h k);unfold maxLen;show(tkT _ _ _).length<=_;omega
def bS3 (s:St):St:=nx 3 (nx 1 s)
def bN (s:St):Nat:=(nB 1 (bS3 s)).toNat
theorem zs8 (h:zas w va ss)(m:zaG R w w')(l:∀b c,va=some ⟨b,c,none⟩->b≠R):zas w' va ss:=by
 refine⟨?_,h.size⟩;rcases h.cells with g|⟨b,c,e,d⟩
 .exact .inl g
 .exact .inr ⟨b,c,e,λj f=>(cB_ (m.block b (bL_ (d j f)) (l b c e))).trans (d j f)⟩
theorem zgM (au b:Int)(d:Option Addr)(n c:Nat)(r:Bool)(w:World)(h:r=decide (au=0/\b=0/\n=0)) :
  Calls prog 81 #[.agg #[I_ au,I_ b,.slice d n c]] w λe w'=>e=.returned (.bool r)/\B_ w w':=by
 by_cases h1:au=0;by_cases h2:b=0;by_cases h3:n=0;obtain rfl:r=true:=by simp[h,h1,h2,h3]
 rotate_left
 have f:¬(n:Int)=0:=by omega
 obtain rfl:r=false:=by simp[h,h3]
 rotate_left
 obtain rfl:r=false:=by simp[h,h2]
 rotate_left
 obtain rfl:r=false:=by simp[h,h1]
 rotate_left
 all_goals
  clear h;go_in;go_wp2_with fail
  go_ret;exact⟨by first|rfl|exact zN (beq_eq_false_iff_ne.2 (by omega)),(bR_ _ _).alloc (nR_ _) _⟩
theorem zhg (au b:Int)(d:Option Addr)(n c:Nat)(r:Bool)(w:World)(h:r=decide (au=0/\b=0/\n=0)) :
  Calls prog 83 #[.agg #[I_ au,I_ b,.slice d n c]] w λe w'=>e=.returned (.bool r)/\B_ w w':=by
 by_cases h1:au=0;by_cases h2:b=0;by_cases h3:n=0;obtain rfl:r=true:=by simp[h,h1,h2,h3]
 rotate_left
 have f:¬(n:Int)=0:=by omega
 obtain rfl:r=false:=by simp[h,h3]
 rotate_left
 obtain rfl:r=false:=by simp[h,h2]
 rotate_left
 obtain rfl:r=false:=by simp[h,h1]
 rotate_left
 all_goals
  clear h;go_in;go_wp2_with fail
  go_ret;exact⟨by first|rfl|exact zN (beq_eq_false_iff_ne.2 (by omega)),(bR_ _ _).alloc (nR_ _) _⟩
theorem zgs (au b:Int)(f:Option Addr)(n c:Nat)(g:Option Addr)(m d:Nat)(r:Bool)(w:World)(h:r=decide (au=0/\b=0/\n=0/\m=0)) :
  Calls prog 82 #[.agg #[I_ au,I_ b,.slice f n c,.slice g m d]] w λe w'=>e=.returned (.bool r)/\B_ w w':=by
 by_cases h1:au=0;by_cases h2:b=0;by_cases h3:n=0;by_cases h4:m=0;obtain rfl:r=true:=by simp[h,h1,h2,h3,h4]
 rotate_left
 have l:¬(m:Int)=0:=by omega
 obtain rfl:r=false:=by simp[h,h4]
 rotate_left
 have j:¬(n:Int)=0:=by omega
 obtain rfl:r=false:=by simp[h,h3]
 rotate_left
 obtain rfl:r=false:=by simp[h,h2]
 rotate_left
 obtain rfl:r=false:=by simp[h,h1]
 rotate_left
 all_goals
  clear h;go_in;go_wp2_with fail
  go_ret;exact⟨by first|rfl|exact zN (beq_eq_false_iff_ne.2 (by omega)),(bR_ _ _).alloc (nR_ _) _⟩
theorem zcy (au b:Int)(d:Option Addr)(n c:Nat)(w:World)(h:au=0/\b=0/\n=0):Calls prog 81 #[.agg #[I_ au,I_ b,.slice d n c]] w λe w'=>e=.returned (.bool true)/\B_ w w':=zgM _ _ _ _ _ true w (by simp[h])
theorem zjD (au b:Int)(d:Option Addr)(n c:Nat)(w:World)(h:¬(au=0/\b=0/\n=0)):Calls prog 81 #[.agg #[I_ au,I_ b,.slice d n c]] w λe w'=>e=.returned (.bool false)/\B_ w w':=zgM _ _ _ _ _ false w (by rw[dF_ h])
theorem zd9 (au b:Int)(d:Option Addr)(n c:Nat)(w:World)(h:au=0/\b=0/\n=0):Calls prog 83 #[.agg #[I_ au,I_ b,.slice d n c]] w λe w'=>e=.returned (.bool true)/\B_ w w':=zhg _ _ _ _ _ true w (by simp[h])
theorem zkw (au b:Int)(d:Option Addr)(n c:Nat)(w:World)(h:¬(au=0/\b=0/\n=0)):Calls prog 83 #[.agg #[I_ au,I_ b,.slice d n c]] w λe w'=>e=.returned (.bool false)/\B_ w w':=zhg _ _ _ _ _ false w (by rw[dF_ h])
theorem zbo (au b:Int)(f:Option Addr)(n c:Nat)(g:Option Addr)(m d:Nat)(w:World)(h:au=0/\b=0/\n=0/\m=0):Calls prog 82 #[.agg #[I_ au,I_ b,.slice f n c,.slice g m d]] w λe w'=>e=.returned (.bool true)/\B_ w w':=zgs _ _ _ _ _ _ _ _ true w (by simp[h])
theorem zf3 (au b:Int)(f:Option Addr)(n c:Nat)(g:Option Addr)(m d:Nat)(w:World)(h:¬(au=0/\b=0/\n=0/\m=0)):Calls prog 82 #[.agg #[I_ au,I_ b,.slice f n c,.slice g m d]] w λe w'=>e=.returned (.bool false)/\B_ w w':=zgs _ _ _ _ _ _ _ _ false w (by rw[dF_ h])
structure Msg where
 (fr tt ki bau bnu hau hrd sau srd cau crd ro:Int)
 (bta hba hpa sda cba cpa cva:Option Addr)
 (btn btc hbn hbc hpn hpc sdn sdc cbn cbc cpn cpc cvn cvc:Nat)
abbrev mrow_ (x:Msg):Array Value:=#[.int .i64 x.fr,.int .i64 x.tt,.int .i64 x.ki,.int .i64 x.bau,.int .i64 x.bnu,.slice x.bta x.btn x.btc,.int .i64 x.hau,.int .i64 x.hrd,.slice x.hba x.hbn x.hbc,.slice x.hpa x.hpn x.hpc,.int .i64 x.sau,.int .i64 x.srd,.slice x.sda x.sdn x.sdc,.int .i64 x.cau,.int .i64 x.crd,.slice x.cba x.cbn x.cbc,.slice x.cpa x.cpn x.cpc,.slice x.cva x.cvn x.cvc,.int .i64 x.ro]
def zaq (m:Msg):Bool:=decide ((m.bau=0/\m.bnu=0/\m.btn=0)/\(m.hau=0/\m.hrd=0/\m.hbn=0/\m.hpn=0)/\(m.sau=0/\m.srd=0/\m.sdn=0)/\(m.cau=0/\m.crd=0/\m.cbn=0/\m.cpn=0)/\m.cvn=0/\m.ro=0)
theorem zjE (m:Msg)(r:Bool)(w:World)(h:r=zaq m) :
  Calls prog 51 #[.agg (mrow_ m)] w λe w'=>e=.returned (.bool r)/\B_ w w':=by
 by_cases e1:m.bau=0/\m.bnu=0/\m.btn=0
 .by_cases e2:m.hau=0/\m.hrd=0/\m.hbn=0/\m.hpn=0
  .by_cases e3:m.sau=0/\m.srd=0/\m.sdn=0
   .by_cases e4:m.cau=0/\m.crd=0/\m.cbn=0/\m.cpn=0
    .by_cases e5:m.cvn=0;by_cases e6:m.ro=0;obtain rfl:r=true:=by simp[h,zaq,e1,e2,e3,e4,e5,e6]
     rotate_left
     obtain rfl:r=false:=by simp[h,zaq,e6]
     rotate_left
     obtain rfl:r=false:=by simp[h,zaq,e5]
     have L:¬(m.cvn:Int)=0:=by omega
     rotate_left
     all_goals
      clear h;go_in;go_wp2_with fail
      refine(zcy _ _ _ _ _ _ (by omega)).mono ?_;rintro e F⟨rfl,c⟩;have b:=zbK c;replace c:=zS c;have o:=zb b 6 _ rfl;have p:=zb b 7 _ rfl;have s:=zb b 8 _ rfl;have t:=zb b 9 _ rfl;go_wp2_with fail
      clear o p s t;refine(zbo _ _ _ _ _ _ _ _ _ (by omega)).mono ?_;rintro e w2⟨rfl,d⟩;have f:=zk d b;replace d:=c.trans (d.mono c.size);clear b;have y:=zb f 10 _ rfl;have z:=zb f 11 _ rfl;have A:=zb f 12 _ rfl;go_wp2_with fail
      clear y z A;refine(zd9 _ _ _ _ _ _ (by omega)).mono ?_;rintro e G⟨rfl,j⟩;have g:=zk j f;replace j:=d.trans (j.mono d.size);clear f;have B:=zb g 13 _ rfl;have C:=zb g 14 _ rfl;have D:=zb g 15 _ rfl;have E:=zb g 16 _ rfl;go_wp2_with fail
      clear B C D E;refine(zbo _ _ _ _ _ _ _ _ _ (by omega)).mono ?_;rintro e J⟨rfl,l⟩;have u:=zk l g;replace l:=j.trans (l.mono j.size);clear g;have H:=zb u 17 _ rfl;have I:=zb u 18 _ rfl;go_wp2_with fail
      go_ret;exact⟨by first|rfl|exact zN (by simp;omega),l⟩
    .obtain rfl:r=false:=by rw[h];exact dF_ (λq=>e4 q.2.2.2.1)
     clear h;go_in;go_wp2_with fail
     refine(zcy _ _ _ _ _ _ (by omega)).mono ?_;rintro e F⟨rfl,c⟩;have b:=zbK c;replace c:=zS c;have o:=zb b 6 _ rfl;have p:=zb b 7 _ rfl;have s:=zb b 8 _ rfl;have t:=zb b 9 _ rfl;go_wp2_with fail
     clear o p s t;refine(zbo _ _ _ _ _ _ _ _ _ (by omega)).mono ?_;rintro e w2⟨rfl,d⟩;have f:=zk d b;replace d:=c.trans (d.mono c.size);clear b;have y:=zb f 10 _ rfl;have z:=zb f 11 _ rfl;have A:=zb f 12 _ rfl;go_wp2_with fail
     clear y z A;refine(zd9 _ _ _ _ _ _ (by omega)).mono ?_;rintro e G⟨rfl,j⟩;have g:=zk j f;replace j:=d.trans (j.mono d.size);clear f;have B:=zb g 13 _ rfl;have C:=zb g 14 _ rfl;have D:=zb g 15 _ rfl;have E:=zb g 16 _ rfl;go_wp2_with fail
     clear B C D E;refine(zf3 _ _ _ _ _ _ _ _ _ (by omega)).mono ?_;rintro e J⟨rfl,l⟩;have u:=zk l g;replace l:=j.trans (l.mono j.size);clear g;have H:=zb u 17 _ rfl;have I:=zb u 18 _ rfl;go_wp2_with fail
     go_ret;exact⟨by first|rfl|exact zN (by simp;omega),l⟩
   .obtain rfl:r=false:=by rw[h];exact dF_ (λq=>e3 q.2.2.1)
    clear h;go_in;go_wp2_with fail
    refine(zcy _ _ _ _ _ _ (by omega)).mono ?_;rintro e F⟨rfl,c⟩;have b:=zbK c;replace c:=zS c;have o:=zb b 6 _ rfl;have p:=zb b 7 _ rfl;have s:=zb b 8 _ rfl;have t:=zb b 9 _ rfl;go_wp2_with fail
    clear o p s t;refine(zbo _ _ _ _ _ _ _ _ _ (by omega)).mono ?_;rintro e w2⟨rfl,d⟩;have f:=zk d b;replace d:=c.trans (d.mono c.size);clear b;have y:=zb f 10 _ rfl;have z:=zb f 11 _ rfl;have A:=zb f 12 _ rfl;go_wp2_with fail
    clear y z A;refine(zkw _ _ _ _ _ _ (by omega)).mono ?_;rintro e G⟨rfl,j⟩;have g:=zk j f;replace j:=d.trans (j.mono d.size);clear f;have B:=zb g 13 _ rfl;have C:=zb g 14 _ rfl;have D:=zb g 15 _ rfl;have E:=zb g 16 _ rfl;go_wp2_with fail
    go_ret;exact⟨by first|rfl|exact zN (by simp;omega),j⟩
  .obtain rfl:r=false:=by rw[h];exact dF_ (λq=>e2 q.2.1)
   clear h;go_in;go_wp2_with fail
   refine(zcy _ _ _ _ _ _ (by omega)).mono ?_;rintro e F⟨rfl,c⟩;have b:=zbK c;replace c:=zS c;have o:=zb b 6 _ rfl;have p:=zb b 7 _ rfl;have s:=zb b 8 _ rfl;have t:=zb b 9 _ rfl;go_wp2_with fail
   clear o p s t;refine(zf3 _ _ _ _ _ _ _ _ _ (by omega)).mono ?_;rintro e w2⟨rfl,d⟩;have f:=zk d b;replace d:=c.trans (d.mono c.size);clear b;have y:=zb f 10 _ rfl;have z:=zb f 11 _ rfl;have A:=zb f 12 _ rfl;go_wp2_with fail
   go_ret;exact⟨by first|rfl|exact zN (by simp;omega),d⟩
 .obtain rfl:r=false:=by rw[h];exact dF_ (λq=>e1 q.1)
  clear h;go_in;go_wp2_with fail
  refine(zjD _ _ _ _ _ _ (by omega)).mono ?_;rintro e F⟨rfl,c⟩;have b:=zbK c;replace c:=zS c;have o:=zb b 6 _ rfl;have p:=zb b 7 _ rfl;have s:=zb b 8 _ rfl;have t:=zb b 9 _ rfl;go_wp2_with fail
  go_ret;exact⟨by first|rfl|exact zN (by simp;omega),c⟩
open Go.ChangeShapes Go.WideShapes Go.ChangeAt
theorem cU8:prog.cellsOf 5=1:=by kernel_rfl
theorem own:ownKnob prog.godebug=none:=by kernel_rfl
theorem laidOut:laidOutB prog=true:=by kernel_rfl
def zaN (bs:List Int):Prop:=∀x∈bs,0<=x/\x<=255
theorem fit_each {H:Type}{ts:List TypeId}{ds:List (DataW H)}(h:(DataW.weightsEach prog ts ds).all (·<=reachBytes)=true){j:Nat}{t:TypeId}{d:DataW H}(f:ts[j]? = some t)(b:ds[j]? = some d):∀n∈d.weights prog t,n<=reachBytes:=λn c=>by
 simpa using List.all_eq_true.1 h n (DataW.weights_mem_each f b n c)
open Go.Deep
variable {sa:Option Addr}{cap:Nat}
structure zf7 (w:World)(sa:Option Addr)(cap:Nat)(ss:List ByteArray):Prop where
 le:ss.length<=cap
 reach:cap*16<=140737488351232
 nil:sa=none->cap=0
 strs:zas w sa ss
theorem zf7.below (h:zf7 w sa cap ss)(b:B_ w w'):zf7 w' sa cap ss:=⟨h.le,h.reach,h.nil,h.strs.below b⟩
variable {bs:List Int}{ops:Array Oper}{Q:Exit->Act->World->Prop}{a:Act}{k j:Nat}{K:Act->World->Prop}{E:Prop}
theorem sMsg':(prog.info? 66).map (·.size)=some 19:=by kernel_rfl
theorem zdW {o:Oper}
  (l:o.guard=none) (j:o.dst=none) (ty:TypeId) (x y:Operand) (q:o.op=.store ty x y) (g:Nat) (b:Array Value) (s:a.eval x=(P_ g 0)) (u:a.eval y=.agg b)
  (t:TypeId) (c:Array Value) (m:w.heap[g]? = some (.cells c t (0,0))) (p:(prog.info? ty).map (·.size)=some b.size) (r:c.size=b.size) (d:b.all (·.oneCell')=true) (f:K a (w.setRow g b)) :
  if Region.wanted o (yielded ops a.tmps)=true then Oper.wp prog o a w K Q else E:=by
 rw[if_pos (by simp[Region.wanted,l])];exact wp_store_row ty x y q g b s u t c m p r d (by rw[j];exact f)
theorem ziE {b:Nat}{cs:Array Value}(h:k≠b):(w.setRow b cs).cell? ⟨k,j,none⟩=w.cell? ⟨k,j,none⟩:=cB_ (setRow_other w b k cs h)
theorem zas.setRow (h:zas w sa ss)(b:Nat)(cs:Array Value)(j:∀c d,sa=some ⟨c,d,none⟩->c≠b):zas (w.setRow b cs) sa ss:=by
 refine⟨?_,h.size⟩;rcases h.cells with h|⟨c,d,rfl,f⟩
 .exact .inl h
 .exact .inr ⟨c,d,rfl,λk g=>(ziE (j c d rfl)).trans (f k g)⟩
theorem zjF (h:zg w sa cap bs)(b:Nat)(cs:Array Value)(j:∀c d,sa=some ⟨c,d,none⟩->c≠b):zg (w.setRow b cs) sa cap bs:=by
 refine⟨h.le,h.max,h.some,h.nil,?_⟩;rcases h.bytes with f|⟨c,d,e,f⟩
 .exact .inl f
 .exact .inr ⟨c,d,e,λk g=>(ziE (j c d e)).trans (f k g)⟩
end Go.Proofs.YtdnaljbnebnlhaaGreatDoor
