import Derived.Test.YtdepbohhmfkjgaaGreatDoorPk8
set_option maxRecDepth 100000
set_option maxHeartbeats 4000000
namespace Go.Proofs.YtdepbohhmfkjgaaGreatDoor
open Go.RowKit Tryz
variable {w w':World}{n B R rc:Nat}{qs:List zi}{ra:Option Addr}
abbrev St:=List Int×Bool
def nx (n:Nat)(s:St):St:=(tkL n s.1 s.2,tkS n s.1 s.2)
def tT (n:Nat)(s:St):List Int:=tkT n s.1 s.2
def nB (n:Nat)(s:St):Int:=za3 (tT n s)
def dgs (s:St):List (List Int):=dgD (nx 1 s).1 (nx 1 s).2 (dN s.1 s.2)
def dgS (s:St):St:=dgL (nx 1 s).1 (nx 1 s).2 (dN s.1 s.2)
structure zbr (s:St):Prop where
 len:s.1.length≤100000
 u8:zW s.1
theorem zbr.nx {s:St}(h:zbr s):zbr (nx n s):=⟨nT_ zmJ h.len,h.u8.tkL⟩
theorem zbr.dgS {s:St}(h:zbr s):zbr (dgS s):=⟨nT_ (zoL _ _ _) (h.nx (n:=1)).len,zmK _ _ _ (h.nx (n:=1)).u8⟩
def RdS (w:World)(R:Nat)(s:St):Prop:=zao w R s.1 s.2
theorem zcQ (R n:Nat)(s:St)(w:World)(c:RdS w R s)(b:zbr s)(d:n≤3) :
  Calls prog 151 #[P_ R 0,I_ (n:Int)] w fun e w'=>e=.returned (I_ (nB n s))∧RdS w' R (nx n s)∧zaA R w w':=
 (zhv R n s.1 s.2 w c b.len d b.u8).mono (fun _ _ h=>h.out)
theorem zhw (R:Nat)(s:St)(w:World)(c:RdS w R s)(b:zbr s) :
  Calls prog 156 #[P_ R 0] w fun e w'=>e=.returned (I_ (nB 3 s))∧RdS w' R (nx 3 s)∧zaA R w w':=
 (zq3 R s.1 s.2 w c b.len b.u8).mono (fun _ _ h=>h.out)
theorem zis (h:zy w ra rc qs)(f:zaS B ra qs)(l:zaA R w w')(o:R<B):zy w' ra rc qs:=by
 refine ⟨h.le,h.max,h.small,h.some,⟨?_,fun p m=>(h.parts.each p m).only l (fun b d e=>by have:=f.each p m b d e;omega)⟩⟩;rcases h.parts.cells with c|⟨b,d,e,c⟩
 ·exact .inl c
 ·exact .inr ⟨b,d,e,fun j g=>(cB_ (l.block b (bL_ (c j g)) (by have:=f.row b d e;omega))).trans (c j g)⟩
structure zpo (w w':World)(e:Ending)(R:Nat)(s:St):Prop where
 out:∃ da dc,e=.returned (.agg #[I_ (nB 1 s),I_ (nB 3 (nx 1 s)),.slice da (tT 32 (nx 3 (nx 1 s))).length dc])∧zf w' da dc (tT 32 (nx 3 (nx 1 s)))∧(∀ sb so,da=some ⟨sb,so,none⟩→w.heap.size≤sb)∧RdS w' R (nx 32 (nx 3 (nx 1 s)))∧zaA R w w'
theorem zs2 (R:Nat)(s:St)(w:World)(B:RdS w R s)(z:zbr s) :
  Calls prog 154 #[P_ R 0] w fun e w'=>zpo w w' e R s:=by
 have t:R<w.heap.size:=B.lt;refine kO_ ?C0 ?_;exact Obj.cells #[I_ 0,I_ 0,O_] 66;have p:=zO w ?C0;have A:=hN_ w ?C0;have I:w.heap.size<(w.alloc ?C0).heap.size:=ze A;go_in;go_wp2_with fail
 generalize w.alloc ?C0=L at p A I ⊢;refine (zcQ R 1 s L (zao.below B p) z (by omega)).mono ?_;rintro _ Y ⟨rfl,C,u⟩;dsimp only;go_wp2_with fail
 refine (zhw R _ Y C z.nx).mono ?_;rintro _ w2 ⟨rfl,D,y⟩;dsimp only;go_wp2_with fail
 refine (zjh R _ _ w2 D z.nx.nx.len).mono ?_;rintro e J ⟨b,c,m,H,r,E,G⟩;subst m;dsimp only;have q:=(u.trans y).trans G;have f:=(q.block _ I (by omega)).trans A;have M:=zb f 0 _ rfl;have N:=zb f 1 _ rfl;have O:=zb f 2 _ rfl;have Z:=zd f 0;have f1:=zd f 1;have f2:=zd f 2;refine kW_ ?B0 ?_;exact (J.setCell ⟨w.heap.size,0,none⟩ (I_ (nB 1 s))).setCell ⟨w.heap.size,1,none⟩ (I_ (nB 3 (nx 1 s)));have F:Hid (zpo w ((?B0).setCell ⟨w.heap.size,2,none⟩ (.slice b (tT 32 (nx 3 (nx 1 s))).length c)) (.returned (.agg #[I_ (nB 1 s),I_ (nB 3 (nx 1 s)),.slice b (tT 32 (nx 3 (nx 1 s))).length c])) R s):=by
  have aa:=(u.trans y).size;have X:∀ d g,b=some ⟨d,g,none⟩→w.heap.size≠d:=fun d g e=>by have:=(r d g e).1;omega
  refine ⟨b,c,rfl,?_,fun d g e=>by have:=(r d g e).1;omega,((E.far t).far t).far t,?_⟩
  ·have o:∀ (W:World) (j:Nat) (v:Value),zf W b c (tT 32 (nx 3 (nx 1 s)))→zf (W.setCell ⟨w.heap.size,j,none⟩ v) b c (tT 32 (nx 3 (nx 1 s))):=fun W j v h=>h.only (R:=w.heap.size) ((zaA.refl _ W).setCell) (fun d g e T=>X d g e T.symm);exact o _ _ _ (o _ _ _ (o _ _ _ H))
  ·have l:=(zbE (R:=R) p).trans q;refine ⟨l.os,l.tape,l.output,by simpa using l.size,fun k U V=>?_⟩;exact (hO_ _ ⟨w.heap.size,2,none⟩ k _ (by show k≠w.heap.size;omega)).trans ((hO_ _ ⟨w.heap.size,1,none⟩ k _ (by show k≠w.heap.size;omega)).trans ((hO_ _ ⟨w.heap.size,0,none⟩ k _ (by show k≠w.heap.size;omega)).trans (l.block k U V)))
 clear H r E C D q u y G f;refine kV_ ?A0 ?_;exact Value.slice b (tkT 32 (nx 3 (nx 1 s)).1 (nx 3 (nx 1 s)).2).length c
 change Hid (zpo w ((?B0).setCell ⟨w.heap.size,2,none⟩ ?A0) (.returned (.agg #[I_ (nB 1 s),I_ (nB 3 (nx 1 s)),?A0])) R s) at F
 go_wp2_with fail
 exact bodyPost_ret (v:=.agg #[I_ (nB 1 s),I_ (nB 3 (nx 1 s)),?A0]) (by simp[results,results154,go_sem,M,N,O]) rfl F.out
variable {base:Nat}{vl:List Int}{va:Option Addr}
def nL (s:St):Nat→St
 | 0=>s
 | k+1=>nx 1 (nL s k)
def nV (s:St):Nat→List Int
 | 0=>[]
 | k+1=>nV s k++[nB 1 (nL s k)]
theorem zuB {s:St}(h:zbr s)(k:Nat):zbr (nL s k):=by
 induction k with
 | zero=>exact h
 | succ k ih=>exact ih.nx
theorem zlu (s:St)(k:Nat):(nV s k).length=k:=by
 induction k with
 | zero=>rfl
 | succ k ih=>simp[nV,ih]
theorem zs3:(prog.info? 3).map (fun i=>(i.zero,i.size,i.bytes))=some (some (I_ 0),1,8):=by kernel_rfl
theorem zit (h:zaA R w.drew w'):zaA R w w':=⟨h.os,h.tape,h.output,h.size,h.block⟩
def hS4 (s:St):St:=dgS (dgS (nx 3 (nx 1 s)))
def cN (s:St):Nat:=(nB 1 (hS4 s)).toNat
theorem znY {v:Value}(h:w.ownsRow base 3 1 v n (iv vl)):∃ c o,v=.slice c n o∧zav w c vl∧∀ b d,c=some ⟨b,d,none⟩→base≤b:=by
 have r:n=vl.length:=by have:=h.1;simp[iv] at this;omega
 have s:=h.lt;rcases h.2 with ⟨e,m⟩|⟨g,p,q,e,f,_⟩
 ·exact ⟨none,0,by rw[e,m],⟨.inl (eN_ (by omega))⟩,fun _ _ e=>by cases e⟩
 ·subst e;refine ⟨_,_,rfl,⟨.inr ⟨g,0,rfl,fun j l=>?_⟩⟩,fun b d e=>by cases e;exact f⟩;rw[Nat.zero_add,World.ownsRow.cellAt h j (by omega)];simp[iv,l]
theorem zq4 (h:zav w va vl)(m:zaA R w w')(l:∀ b c,va=some ⟨b,c,none⟩→b≠R):zav w' va vl:=by
 refine ⟨?_⟩;rcases h.cells with g|⟨b,c,e,d⟩
 ·exact .inl g
 ·exact .inr ⟨b,c,e,fun j f=>(cB_ (m.block b (bL_ (d j f)) (l b c e))).trans (d j f)⟩
variable {ss:List ByteArray}
theorem zlv (bs:List Int):(zaf bs).size=bs.length:=by
 have h:=congrArg List.length (zfy bs)
 simpa using h
def bL (s:St):Nat→St
 | 0=>s
 | k+1=>nx (nB 1 (bL s k)).toNat (nx 1 (bL s k))
def bT (s:St):Nat→List ByteArray
 | 0=>[]
 | k+1=>bT s k++[zaf (tT (nB 1 (bL s k)).toNat (nx 1 (bL s k)))]
theorem zoM {s:St}(h:zbr s)(k:Nat):zbr (bL s k):=by
 induction k with
 | zero=>exact h
 | succ k ih=>exact ih.nx.nx
theorem ziu (s:St)(k:Nat):(bT s k).length=k:=by
 induction k with
 | zero=>rfl
 | succ k ih=>simp[bT,ih]
theorem ze0 {s:St}(h:zbr s):0≤nB 1 s∧nB 1 s≤255:=zgi h.u8
theorem zuC {s:St}(h:zbr s)(k:Nat):∀ t∈bT s k,t.size≤maxLen:=by
 induction k with
 | zero=>intro t b;cases b
 | succ k ih=>
  intro t b;rcases List.mem_append.1 b with b|b
  ·exact ih t b
  ·obtain rfl:t=_:=by simpa using b
   rw[zlv];have c:=zf5 (n:=(nB 1 (bL s k)).toNat) (l:=(nx 1 (bL s k)).1) (sh:=(nx 1 (bL s k)).2);have d:=ze0 (zoM h k);unfold maxLen;show (tkT _ _ _).length≤_;omega
def bS3 (s:St):St:=nx 3 (nx 1 s)
def bN (s:St):Nat:=(nB 1 (bS3 s)).toNat
theorem zq5 (h:zas w va ss)(m:zaA R w w')(l:∀ b c,va=some ⟨b,c,none⟩→b≠R):zas w' va ss:=by
 refine ⟨?_,h.size⟩;rcases h.cells with g|⟨b,c,e,d⟩
 ·exact .inl g
 ·exact .inr ⟨b,c,e,fun j f=>(cB_ (m.block b (bL_ (d j f)) (l b c e))).trans (d j f)⟩
structure MC where
 (fr tt ki bau bnu:Int) (ss:List ByteArray) (hau hrd:Int) (bl pl:List (List Int)) (sau srd:Int) (ds:List Int) (cau crd:Int) (cbl cpl:List (List Int)) (vl:List Int) (ro:Int)
def MV.c (x:MV):MC:=⟨x.m.fr,x.m.tt,x.m.ki,x.m.bau,x.m.bnu,x.ss,x.m.hau,x.m.hrd,x.bl.map (·.bs),x.pl.map (·.bs),x.m.sau,x.m.srd,x.ds,x.m.cau,x.m.crd,x.cbl.map (·.bs),x.cpl.map (·.bs),x.vl,x.m.ro⟩
def pM (s:St):MC:=
 if nB 1 s=1 then ⟨nB 1 (nx 1 s),nB 1 (nx 1 (nx 1 s)),nB 1 s,nB 1 (nx 1 (nx 1 (nx 1 s))),nB 3 (nx 1 (nx 1 (nx 1 (nx 1 s)))),bT (nx 1 (bS3 (nx 1 (nx 1 (nx 1 s))))) (bN (nx 1 (nx 1 (nx 1 s)))),0,0,[],[],0,0,[],0,0,[],[],[],0⟩
 else if nB 1 s=2 then ⟨nB 1 (nx 1 s),nB 1 (nx 1 (nx 1 s)),nB 1 s,0,0,[],nB 1 (nx 1 (nx 1 (nx 1 s))),nB 3 (nx 1 (nx 1 (nx 1 (nx 1 s)))),dgs (nx 3 (nx 1 (nx 1 (nx 1 (nx 1 s))))),dgs (dgS (nx 3 (nx 1 (nx 1 (nx 1 (nx 1 s)))))),0,0,[],0,0,[],[],[],0⟩
 else if nB 1 s=3 then ⟨nB 1 (nx 1 s),nB 1 (nx 1 (nx 1 s)),nB 1 s,0,0,[],0,0,[],[],nB 1 (nx 1 (nx 1 (nx 1 s))),nB 3 (nx 1 (nx 1 (nx 1 (nx 1 s)))),tT 32 (nx 3 (nx 1 (nx 1 (nx 1 (nx 1 s))))),0,0,[],[],[],0⟩
 else if nB 1 s=4 then ⟨nB 1 (nx 1 s),nB 1 (nx 1 (nx 1 s)),nB 1 s,0,0,[],0,0,[],[],0,0,[],nB 1 (nx 1 (nx 1 (nx 1 s))),nB 3 (nx 1 (nx 1 (nx 1 (nx 1 s)))),dgs (nx 3 (nx 1 (nx 1 (nx 1 (nx 1 s))))),dgs (dgS (nx 3 (nx 1 (nx 1 (nx 1 (nx 1 s)))))),nV (nx 1 (hS4 (nx 1 (nx 1 (nx 1 s))))) (cN (nx 1 (nx 1 (nx 1 s)))),0⟩
 else ⟨nB 1 (nx 1 s),nB 1 (nx 1 (nx 1 s)),nB 1 s,0,0,[],0,0,[],[],0,0,[],0,0,[],[],[],nB 3 (nx 1 (nx 1 (nx 1 s)))⟩
def mS (s:St):St:=
 if nB 1 s=1 then bL (nx 1 (bS3 (nx 1 (nx 1 (nx 1 s))))) (bN (nx 1 (nx 1 (nx 1 s)))) else if nB 1 s=2 then dgS (dgS (nx 3 (nx 1 (nx 1 (nx 1 (nx 1 s)))))) else if nB 1 s=3 then nx 32 (nx 3 (nx 1 (nx 1 (nx 1 (nx 1 s))))) else if nB 1 s=4 then nL (nx 1 (hS4 (nx 1 (nx 1 (nx 1 s))))) (cN (nx 1 (nx 1 (nx 1 s)))) else nx 3 (nx 1 (nx 1 (nx 1 s)))
variable {bs:List Int}
theorem zji (k:Int)(r:Bool)(w:World)(h:r=decide (1≤k∧k≤5)):Calls prog 108 #[I_ k] w fun e w'=>e=.returned (.bool r)∧w=w':=by
 by_cases h1:1≤k
 ·by_cases h2:k≤5;obtain rfl:r=true:=by simp[h,h1,h2]
  rotate_left
  obtain rfl:r=false:=by simp[h,h2]
  rotate_left
  all_goals
   clear h;go_in
   go_wp2
   go_ret;exact ⟨rfl,rfl⟩
 ·obtain rfl:r=false:=by simp[h,h1]
  clear h;go_in
  go_wp2
  go_ret;exact ⟨rfl,rfl⟩
def zbk (bs:List Int):Int:=if 4000<bs.length then 1 else if bs=[] then 5 else if ¬(1≤bs.getD 0 0∧bs.getD 0 0≤5) then 3 else if (mS (bs,false)).2=true then 5 else if (mS (bs,false)).1≠[] then 4 else 0
theorem zq6 (h:bs≠[]):nB 1 (bs,false)=bs.getD 0 0:=by
 cases bs with
 | nil=>exact absurd rfl h
 | cons a l=>
  have e:tT 1 (a::l,false)=[a]:=(ziX (n:=1) (l:=a::l) (by simp)).1;rw[nB,e];simp[za3]
theorem zab {fn:Func}{p q:Tmp}{ty:TypeId}(h:fn.results=#[.cell p ty,.tmp q])(b:Array Value)(w:World)(g:Nat)(t:TypeId)(cs:Array Value)(c:Nat×Nat)(d:TypeDesc)(v:Value)
  (f:b.getD p undef=(P_ g 0)∧b.getD q undef=v) (l:w.heap[g]? = some (.cells cs t c))
  (s:prog.underlying ty=some d) (j:(match d with|.struct _|.array _ _=>true|_=>false)=true) (m:(prog.info? ty).map (·.size)=some cs.size) :
  (results fn b).run prog w=.ok (.tuple #[.agg cs,v]) w:=by
 have o:b[p]?.getD undef=(P_ g 0):=by simpa using f.1
 have r:b[q]?.getD undef=v:=by simpa using f.2
 simp[results,h,o,r,asAddr,run_loadVar_row w g t ty cs c d l s (by cases d<;>first|exact j|rfl) m]
theorem zjI:(prog.info? 66).map (fun i=>(i.zero,i.size,i.bytes))=some (some (.agg #[I_ 0,I_ 0,O_]),3,40):=by kernel_rfl
def Sl.cs (s:Sl):List Value:=[I_ s.au,I_ s.rd,.slice s.p.sa s.p.bs.length s.p.cap]
def slv:List Sl→List Value
 | []=>[]
 | s::r=>s.cs++slv r
theorem ziY (b:List Sl)(s:Sl):slv (b++[s])=slv b++s.cs:=by
 induction b with
 | nil=>simp[slv]
 | cons x r ih=>simp[slv,ih]
theorem zpp (b:List Sl):(slv b).length=b.length*3:=by
 induction b with
 | nil=>rfl
 | cons x r ih=>simp[slv,ih,Sl.cs];omega
theorem zq7 (b:List Sl)(j i:Nat)(h:j<b.length)(c:i<3):(slv b)[j*3+i]? = (b[j]).cs[i]?:=by
 induction b generalizing j with
 | nil=>cases h
 | cons x r ih=>
  cases j with
  | zero=>simp only[slv,Nat.zero_mul,Nat.zero_add,List.getElem_cons_zero];rw[List.getElem?_append_left (by simp[Sl.cs];exact c)]
  | succ j=>
   have h':j<r.length:=by simpa using h
   simp only[slv,List.getElem_cons_succ];rw[List.getElem?_append_right (by simp[Sl.cs];omega),←ih j h']
   congr 1
   simp[Sl.cs];omega
def ps (ls:List Sl):List zi:=ls.map Sl.p
theorem zjj {v:Value}{b:List Sl}(h:w.ownsRow base 66 3 v n (slv b))(f:zX w base v (ps b)):∃ d rc,v=.slice d n rc∧n=b.length∧(n≤3000000000000000000→zdB w d rc b)∧zaS base d (ps b):=by
 have C:n=b.length:=by have:=h.1;rw[zpp] at this;omega
 rcases h.2 with ⟨rfl,D⟩|⟨g,q,F,rfl,l⟩
 ·have z:b=[]:=eN_ (by omega);subst D z;exact ⟨none,0,rfl,rfl,fun _=>⟨nR_ _,by decide,by decide,.inl rfl,⟨.inl rfl,fun p c=>by cases c⟩⟩,⟨(fun _ _ e=>by cases e),(fun p c=>by cases c)⟩⟩
 ·refine ⟨some ⟨g,0,none⟩,q,rfl,C,fun H=>⟨?_,?_,by omega,.inr ⟨g,0,rfl⟩,⟨.inr ⟨g,0,rfl,fun j B=>?_⟩,fun s E=>(f s.p (List.mem_map.2 ⟨s,E,rfl⟩)).1⟩⟩,⟨(fun m o e=>by cases e;exact (h.lt _ rfl).1),(fun p c m o e=>((f p c).2 m o e).1)⟩⟩
  ·obtain ⟨_,_,G,_⟩:=l;omega
  ·obtain ⟨_,_,_,y,_⟩:=l;exact y
  ·have e:∀ i,i<3→w.cell? ⟨g,j*3+i,none⟩=(b[j]).cs[i]?:=fun i A=>by rw[World.ownsRow.cellAt h (j*3+i) (by omega),zq7 b j i B A]
   have r:=e 0 (by omega);have t:=e 1 (by omega);have u:=e 2 (by omega);exact ⟨by simpa[Sl.cs] using r,by simpa[Sl.cs] using t,by simpa[Sl.cs] using u⟩
variable {rd au r:Int}{k:Nat}
def zbq (l:List SV)(au rd:Int):Nat→Option Nat
 | 0=>none
 | k+1=>match zbq l au rd k with
  | some m=>some m
  | none=>if hit l au rd k=true then some k else none
theorem zjk {l:List SV}(h:∀ j,j<k→hit l au rd j=false):zbq l au rd k=none:=by
 induction k with
 | zero=>rfl
 | succ k ih=>rw[zbq,ih (fun j b=>h j (by omega))];simp[h k (by omega)]
theorem znZ {l:List SV}{m:Nat}(d:m<k)(b:hit l au rd m=true)(c:∀ j,j<m→hit l au rd j=false):zbq l au rd k=some m:=by
 induction k with
 | zero=>omega
 | succ k ih=>
  rcases Nat.lt_or_ge m k with g|g
  ·rw[zbq,ih g]
  ·obtain rfl:m=k:=by omega
   rw[zbq,zjk c];simp[b]
theorem zgw.found {l:List SV}(h:zgw l au rd k r):(∃ m:Nat,m<k∧r=m∧zbq l au rd k=some m)∨(r=-1∧zbq l au rd k=none):=by
 rcases h with ⟨m,c,rfl,d,b⟩|⟨rfl,b⟩
 ·exact .inl ⟨m,c,rfl,znZ c d b⟩
 ·exact .inr ⟨rfl,zjk b⟩
def zaW (l:List SV)(s:SV):List SV×Int:=match zbq l s.1 s.2.1 l.length with
 | some m=>if txL (zdA l m).2.2=txL s.2.2 then (l,0) else ([],7)
 | none=>if 400≤l.length then ([],6) else (l++[s],0)
theorem zhx {l:List SV}{s:SV}{m:Nat}(h:zbq l s.1 s.2.1 l.length=some m)(b:txL (zdA l m).2.2=txL s.2.2):zaW l s=(l,0):=by rw[zaW,h];exact if_pos b
theorem zgQ {l:List SV}{s:SV}{m:Nat}(h:zbq l s.1 s.2.1 l.length=some m)(b:¬txL (zdA l m).2.2=txL s.2.2):zaW l s=([],7):=by rw[zaW,h];exact if_neg b
theorem zhy {l:List SV}{s:SV}(h:zbq l s.1 s.2.1 l.length=none)(b:400≤l.length):zaW l s=([],6):=by rw[zaW,h];exact if_pos b
theorem ziv {l:List SV}{s:SV}(h:zbq l s.1 s.2.1 l.length=none)(b:¬400≤l.length):zaW l s=(l++[s],0):=by rw[zaW,h];exact if_neg b
theorem zdB.setCell {o:List Sl}(h:zdB w ra rc o)(p:zaS B ra (ps o))(b j:Nat)(v:Value)(r:b<B):zdB (w.setCell ⟨b,j,none⟩ v) ra rc o:=by
 refine ⟨h.le,h.max,h.small,h.some,⟨?_,fun s q=>?_⟩⟩
 ·rcases h.slots.cells with c|⟨d,l,rfl,c⟩
  ·exact .inl c
  ·have m:b≠d:=by have:=p.row d l rfl;omega
   exact .inr ⟨d,l,rfl,fun k f=>⟨(World.cell?_setCell_far _ _ _ _ m).trans (c k f).1,(World.cell?_setCell_far _ _ _ _ m).trans (c k f).2.1,(World.cell?_setCell_far _ _ _ _ m).trans (c k f).2.2⟩⟩
 ·have g:=h.slots.each s q;refine ⟨g.le,g.max,g.some,g.nil,?_⟩;rcases g.bytes with c|⟨d,l,e,c⟩
  ·exact .inl c
  ·exact .inr ⟨d,l,e,fun k f=>(World.cell?_setCell_far _ _ _ _ (by have:=p.each s.p (List.mem_map.2 ⟨s,q,rfl⟩) d l e;show b≠d;omega)).trans (c k f)⟩
theorem zeK (h:zf w ra rc bs)(g:∀ c d,ra=some ⟨c,d,none⟩→B≤c)(b j:Nat)(v:Value)(m:b<B):zf (w.setCell ⟨b,j,none⟩ v) ra rc bs:=by
 refine ⟨h.le,h.max,h.some,h.nil,?_⟩;rcases h.bytes with f|⟨c,d,e,f⟩
 ·exact .inl f
 ·exact .inr ⟨c,d,e,fun k l=>(World.cell?_setCell_far _ _ _ _ (by have:=g c d e;show b≠c;omega)).trans (f k l)⟩
theorem ziZ (w:World):zdB w none 0 []:=⟨nR_ _,by decide,by decide,.inl rfl,⟨.inl rfl,fun p b=>by cases b⟩⟩
theorem ziw (B:Nat):zaS B none (ps []):=⟨(fun _ _ e=>by cases e),(fun p b=>by cases b)⟩
theorem zhz {d:Nat}(h:zaS B ra qs)(f:d≤B):zaS d ra qs:=⟨fun b c e=>nT_ f (h.row b c e),fun p g b c e=>nT_ f (h.each p g b c e)⟩
theorem zwl {b:List Sl}(h:zcV (vs b)=0):∀ s∈b,s.p.bs.length≤140737488355328:=fun s j=>by
 obtain ⟨m,g,rfl⟩:=List.getElem_of_mem j
 have d:=(zlq h).2 m (by rw[zap];exact g)
 rw[zdV,zgf b m g] at d
 simp only[Bool.or_eq_false_iff] at d
 have c:za4 (b[m]).au (b[m]).rd (b[m]).p.bs.length=0:=by have f:=d.1;simp only[ne_eq,decide_eq_false_iff_not,Decidable.not_not] at f;exact f
 unfold za4 at c
 split at c
 ·cases c
 ·split at c
  ·cases c
  ·omega
theorem zpq (au rd:Int)(b:Option Addr)(c:Nat)(bl:List zi)(d:Option Addr)(f:Nat)(pl:List zi)(g:Int)(w:World)(h:HAt w b c bl d f pl)(y:zK au rd bl pl=g)(m:g≠0) :
  Calls prog 163 #[.agg #[I_ au,I_ rd,.slice b bl.length c,.slice d pl.length f]] w fun e w'=>e=.returned (.tuple #[.agg #[I_ 0,I_ 0,O_],I_ g])∧B_ w w':=by
 refine kW_ ?A0 ?_;exact w.alloc (.cells #[I_ au,I_ rd,.slice b bl.length c,.slice d pl.length f] 56);refine kO_ ?B0 ?_;exact Obj.cells #[I_ 0,I_ 0,O_] 66;have l:B_ w ((?A0).alloc ?B0):=((bR_ _ _).alloc (nR_ _) _).alloc (by simp) _;have p:((?A0).alloc ?B0).heap[w.heap.size+1]? = some (.cells #[I_ 0,I_ 0,O_] 66 (0,0)):=by
  have:=hN_ ?A0 ?B0;rw[zI] at this;exact this
 go_in;go_wp2_with fail
 generalize (?A0).alloc ?B0=q at l p ⊢;refine (zjD au rd b _ c bl d _ f pl g q rfl rfl (h.lb.below l) (h.lp.below l) y m).mono ?_;rintro e D ⟨rfl,o⟩;have j:=zn o p;have r:=zb j 0 _ rfl;have s:=zb j 1 _ rfl;have t:=zb j 2 _ rfl;have z:=zd j 0;have A:=zd j 1;have B:=zd j 2;have u:=zq l o;have C:(g != 0)=true:=by simpa using m
 go_wp2_with fail
 refine bodyPost_ret (v:=.tuple #[.agg #[I_ 0,I_ 0,O_],I_ g]) (by simp[results,results163,go_sem,r,s,t]) rfl ⟨rfl,?_⟩;exact ((u.setCell (Nat.le_succ _) _).setCell (Nat.le_succ _) _).setCell (Nat.le_succ _) _
theorem zq8 (au rd:Int)(c:Option Addr)(d:Nat)(bl:List zi)(f:Option Addr)(g:Nat)(pl:List zi)(w:World)(h:HAt w c d bl f g pl)(y:zK au rd bl pl=0)(G:zby w) :
  Calls prog 163 #[.agg #[I_ au,I_ rd,.slice c bl.length d,.slice f pl.length g]] w fun e w'=>∃ b,e=.returned (.tuple #[.agg #[I_ au,I_ rd,.slice (some ⟨b,0,none⟩) 32 32],I_ 0])∧w.heap.size≤b∧b<w'.heap.size∧zf w' (some ⟨b,0,none⟩) 32 (zay au rd bl pl)∧B_ w w':=by
 refine kO_ ?A0 ?_;exact Obj.cells #[I_ au,I_ rd,.slice c bl.length d,.slice f pl.length g] 56;refine kO_ ?B0 ?_;exact Obj.cells #[I_ 0,I_ 0,O_] 66;have l:B_ w ((w.alloc ?A0).alloc ?B0):=((bR_ _ _).alloc (nR_ _) _).alloc (by simp) _;have B:=hX_ w ?A0 ?B0;have s:((w.alloc ?A0).alloc ?B0).heap[w.heap.size+1]? = some (.cells #[I_ 0,I_ 0,O_] 66 (0,0)):=by
  have:=hN_ (w.alloc ?A0) ?B0;rw[zI] at this;exact this
 go_in;go_wp2_with fail
 generalize (w.alloc ?A0).alloc ?B0=u at l B s ⊢;refine (zdz (h.below l) y (G.below l)).mono ?_;rintro e J ⟨b,rfl,z,o,A⟩;have q:w.heap.size+1<u.heap.size:=ze s;have C:=zn o B;have j:=zn o s;have L:=zb C 0 (I_ au) rfl;have M:=zb C 1 (I_ rd) rfl;have D:=zb j 0 _ rfl;have E:=zb j 1 _ rfl;have F:=zb j 2 _ rfl;have N:=zd j 0;have O:=zd j 1;have R:=zd j 2;have H:=zq l o;have I:b<J.heap.size:=by
  rcases A.bytes with p|⟨m,t,e,p⟩
  ·have:=zbs au rd bl pl;rw[p] at this;simp at this
  ·cases e;exact bL_ (p 0 (by rw[zbs];decide))
 clear y;go_wp2_with fail
 refine bodyPost_ret (v:=.tuple #[.agg #[I_ au,I_ rd,.slice (some ⟨b,0,none⟩) 32 32],I_ 0]) (by simp[results,results163,go_sem,D,E,F]) rfl ⟨b,rfl,nT_ l.size z,by simpa using I,?_,?_⟩
 ·have r:∀ m t,(some ⟨b,0,none⟩:Option Addr)=some ⟨m,t,none⟩→u.heap.size≤m:=fun m t e=>by cases e;exact z
  exact zeK (zeK (zeK A r _ _ _ q) r _ _ _ q) r _ _ _ q
 ·exact ((H.setCell (Nat.le_succ _) _).setCell (Nat.le_succ _) _).setCell (Nat.le_succ _) _
end Go.Proofs.YtdepbohhmfkjgaaGreatDoor
