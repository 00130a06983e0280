import Derived.Test.YtdepbohhmfkjgaaGreatDoorPk6
set_option maxRecDepth 100000
set_option maxHeartbeats 4000000
namespace Go.Proofs.YtdepbohhmfkjgaaGreatDoor
open Go.RowKit Tryz
variable {ss:List ByteArray}{au:Int}
theorem zim {b:Int}(h:zba au b ss=0):(0≤au∧au<4)∧(1≤b∧b≤1048576)∧(1≤ss.length∧ss.length≤4)∧∀ s∈ss,1≤s.size∧s.size≤20:=by
 unfold zba at h
 split at h
 ·cases h
 ·split at h
  ·cases h
  ·split at h
   ·rename_i f g c
    refine ⟨by omega,by omega,by omega,fun s d=>?_⟩;have:=List.all_eq_true.1 c s d
    simpa[zbA] using this
   ·cases h
variable {w:World}{ops:Array Oper}{Q:Exit→Act→World→Prop}{a:Act}
def tb (s:ByteArray):List Int:=s.data.toList.map fun b=>(b.toNat:Int)
theorem zd2 (s:ByteArray):(tb s).length=s.size:=by simp[tb]
theorem znV (s:ByteArray):Lib.strCells s=ub (tb s):=by simp[Lib.strCells,ub,tb]
theorem zlY (w:World)(ty:TypeId)(base:Nat)(v:Value)(n:Nat)(bs:List Int)(b:w.ownsRow base 5 1 v n (ub bs))(s:ByteArray)(y:n+s.size≤140737488355328)(E:base≤w.heap.size) :
  ∃ d w',(Builtin.append_ #[64,9] ty #[v,.string s]).run prog w=.ok d w'∧w'.ownsRow base 5 1 d (n+s.size) (ub (bs++tb s))∧zR w v w' d:=by
 obtain ⟨i,f,r,m,t⟩:=info_parts zdI;have z:n+s.size≤maxLen:=by unfold maxLen;omega
 obtain ⟨d,w',l,B,C,_⟩:=Lib.run_append_own_string (P:=prog) w base 64 9 ty 5 i underlying64 underlying9 f r m t v n (ub bs) b s z y E;refine ⟨d,w',l,by rw[show ub (bs++tb s)=ub bs++ub (tb s) by simp[ub],←znV];exact B,⟨C,?_⟩⟩;intro q p;rcases b.2 with ⟨rfl,G⟩|⟨g,o,A,rfl,O,F,L,M,D,N⟩
 ·subst G;have H:bs=[]:=by have:=b.1;rw[zbY] at this;exact eN_ (by omega)
  subst H;obtain ⟨R,w2,c,J,_,_⟩:=Lib.run_append_own_string (P:=prog) w w.heap.size 64 9 ty 5 i underlying64 underlying9 f r m t (O_) 0 [] (oN_ _ _ _ _) s z y (nR_ _);have e:=l.symm.trans c;cases e;exact .inr (J.lt q p).1
 ·by_cases hroom:n+s.size≤o
  ·have c:=Lib.run_append_room_string (P:=prog) w 64 9 ty 5 i underlying64 underlying9 f m g n o A F s hroom (by simp at D;omega);have e:=l.symm.trans c;cases e;exact .inl p
  ·have I:∀ j u,(ub bs)[j]? = some u→w.cell? ((⟨g,0,none⟩:Addr).add j)=some u:=b.cells (g:=g) rfl;have c:=Lib.run_append_grow_string (P:=prog) w 64 9 ty 5 i (.int .u8 0) underlying64 underlying9 f r ⟨g,0,none⟩ n o (ub bs) (by rw[m];simpa using b.1) I s (by omega) (by omega) (by rw[t];exact growslice_fits (by omega) (by omega));have e:=l.symm.trans c;cases e;cases p;exact .inr (nR_ _)
theorem zjc {rest:List Oper}{o:Oper}(l:o.guard=none)(c x:Operand)
  (p:o.op=.call { callee:=.builtin .append,args:=#[c,x],argTypes:=#[64,9] })
  (base:Nat) (v:Value) (n:Nat) (bs:List Int) (t:a.eval c=v) (q:w.ownsRow base 5 1 v n (ub bs)) (s:ByteArray) (u:a.eval x=.string s) (m:n+s.size≤140737488355328) (j:base≤w.heap.size)
  (h:∀ b w',w'.ownsRow base 5 1 b (n+s.size) (ub (bs++tb s))→zR w v w' b→wpList prog ops Q rest (a.put o.dst b) w'):wpList prog ops Q (o::rest) a w:=by
 refine wpList_plain l fun K g=>?_;obtain ⟨b,w',r,d,f⟩:=zlY w o.type base v n bs q s m j;unfold Oper.wp execOp;simp only[p,resolve,invoke,builtin,Sem.run_bind,Sem.run_pure,Result.andThen_ok,List.map_toArray,List.map_cons,List.map_nil,t,u,r];exact g _ _ (h b w' d f)
def za1:List ByteArray→List Int
 | []=>[]
 | s::l=>(s.size:Int)::(tb s++za1 l)
theorem zls (l:List ByteArray)(s:ByteArray):za1 (l++[s])=za1 l++((s.size:Int)::tb s):=by
 induction l with
 | nil=>simp[za1]
 | cons x l ih=>simp[za1,ih]
theorem zkN (l:List ByteArray)(h:∀ s∈l,s.size≤20):(za1 l).length≤21*l.length:=by
 induction l with
 | nil=>simp[za1]
 | cons x l ih=>
  have c:=h x (by simp);have d:=ih (fun s b=>h s (by simp[b]));simp[za1,zd2];omega
def zbK (au nu:Int)(ss:List ByteArray):List Int:=[au]++rd3 nu++[(ss.length:Int)]++za1 ss
theorem zgy (base:Nat)(v:Value)(k:Nat)(bs:List Int)(au b:Int)(f:Option Addr)(n u:Nat)(ss:List ByteArray)(w:World)(ha:0≤au∧au<4)(hr:0≤b∧b≤1048576)(hn:n=ss.length)(hl:ss.length≤4)(hz:∀ s∈ss,s.size≤20)(hs:zas w f ss)(am:∀ c l,f=some ⟨c,l,none⟩→c<w.heap.size∧v.ownBlock≠some c)
  (d:w.ownsRow base 5 1 v k (ub bs)) (o:base≤w.heap.size) (hk:k≤90000) :
  Calls prog 32 #[v,.agg #[I_ au,I_ b,.slice f n u]] w fun e w'=>∃ N,e=.returned N∧w'.ownsRow base 5 1 N (k+(zbK au b ss).length) (ub (bs++zbK au b ss))∧zR w v w' N:=by
 subst hn;obtain ⟨i,E,J,L,M⟩:=info_parts zdI;obtain ⟨av,aw⟩:=ha;have ai:v.ownBlock≠some w.heap.size:=fun e=>by have:=(d.lt _ e).2;omega
 go_in;go_wp2_with (at_builtin;refine wpList_append_own_at _ rfl _ _ 64 rfl base 5 i (.int .u8 0) 1 1 underlying64 E J L M rfl (by decide) _ k _ rfl (oA_ (oA_ d _) _) ⟨w.heap.size+1,0,none⟩ 1 1 [.int .u8 au] rfl rfl (by have:=z8 (w.alloc (.cells #[I_ au,I_ b,.slice f ss.length u] 62)) [.int .u8 au] 5;rw[zI] at this;exact this) (zcU [_]) (by unfold maxLen;omega) (by omega) (zz (zz o _) _) ?_;intro O w1 ad aa _ X;have p:=zR.of aa X;have z:=p.row (hX_ w _ _) ai;have c1:C_ w1 w.heap.size 1 (I_ b):=zb z 1 _ rfl)
 have an:w1.ownsRow base 5 1 O (k+1) (ub (bs++[au])):=by simpa[ub] using ad
 have H:O.ownBlock≠some w.heap.size:=fun e=>by
  rcases p.fresh _ e with g|g
  ·exact ai g
  ·rw[zI,zI] at g;omega
 have B:=p.alloc.alloc;clear ad aa X p;refine (zdS base O (k+1) _ b _ hr an (nT_ o B.grown.size) (by omega)).mono ?_;rintro e w2 ⟨v2,rfl,ae,q⟩;have A:=q.row z H;have c2:=zb A 2 (.slice f ss.length u) rfl;have I:v2.ownBlock≠some w.heap.size:=fun e=>by
  rcases q.fresh _ e with g|g
  ·exact H g
  ·have:=ze z;omega
 have C:=B.trans q;clear z c1;go_wp2_with (at_builtin;refine wpList_append_own_at _ rfl _ _ 64 rfl base 5 i (.int .u8 0) 1 1 underlying64 E J L M rfl (by decide) _ (k+1+3) _ rfl (oA_ ae _) ⟨w2.heap.size,0,none⟩ 1 1 [.int .u8 (ss.length:Int)] rfl rfl (z8 _ _ _) (zcU [_]) (by unfold maxLen;omega) (by omega) (zz (nT_ o C.grown.size) _) ?_;intro v3 w3 af ab _ Y;have r:=(zR.of ab Y).alloc;have r3:=r.row A I;have c3:C_ w3 w.heap.size 2 (.slice f ss.length u):=zb r3 2 _ rfl)
 have ag:w3.ownsRow base 5 1 v3 (k+1+3+1) (ub (bs++[au]++rd3 b++[(ss.length:Int)])):=by simpa[ub] using af
 have R:=C.trans r;have ar:v3.ownBlock≠some w.heap.size:=fun e=>by
  rcases r.fresh _ e with g|g
  ·exact I g
  ·have:=ze A;omega
 clear A c2 af ab Y r ae q B C I H;go_loopw [27,0] (fun j t wr=>∃ m:Nat,m≤ss.length∧j=I_ m∧wr.ownsRow base 5 1 t (k+1+3+1+(za1 (ss.take m)).length) (ub (bs++[au]++rd3 b++[(ss.length:Int)]++za1 (ss.take m)))∧zR w v wr t) (fun j _ _=>ss.length-(intOf j).toNat)
 case atStart=>exact ⟨0,nZ_ _,rfl,by simpa[za1] using ag,R⟩
 case round=>
  clear ag R r3 c3 ar;obtain ⟨m,hm,rfl,d,G⟩:=hrel;by_cases hlt:m<ss.length
  ·obtain ⟨c,l,rfl,hc⟩:∃ c l,f=some ⟨c,l,none⟩∧∀ j,j<ss.length→C_ w c (l+j) (.string (ss.getD j ByteArray.empty)):=by
    rcases hs.cells with h|h
    ·rw[h] at hlt;simp at hlt
    ·exact h
   have D:=hc m hlt;have ck:C_ wr c (l+m) (.string (ss.getD m ByteArray.empty)):=(cB_ (G.grown.block c (bL_ D) (fun e=>(am c l rfl).2 e.symm))).trans D;have aq:(ss.getD m ByteArray.empty).size≤20:=hz _ (by simp[List.getD,hlt]);have F:Hid (za1 (ss.take (m+1))=za1 (ss.take m)++(((ss.getD m ByteArray.empty).size:Int)::tb (ss.getD m ByteArray.empty))):=by
    show _=_;rw[tS_ hlt,zls];simp only[List.getD,List.getElem?_eq_getElem hlt,Option.getD_some]
   have ak:(za1 (ss.take m)).length≤84:=by
    have h1:=zkN (ss.take m) (fun s h=>hz s (List.mem_of_mem_take h));have h2:(ss.take m).length≤4:=by rw[lT9_];omega
    omega
   have al:(m:Int)<ss.length:=by omega
   clear hc D;generalize ss.getD m ByteArray.empty=x at ck F aq;generalize za1 (ss.take m)=T at d F ak;have aj:base≤wr.heap.size:=nT_ o G.grown.size;go_wp2_with (at_builtin;first|(refine wpList_append_own_at _ rfl _ _ 64 rfl base 5 i (.int .u8 0) 1 1 underlying64 E J L M rfl (by decide) _ (k+1+3+1+T.length) _ rfl (oA_ d _) ⟨wr.heap.size,0,none⟩ 1 1 [.int .u8 (x.size:Int)] rfl rfl (z8 _ _ _) (zcU [_]) (by unfold maxLen;omega) (by omega) (zz aj _) ?_;intro v4 w4 ah ac _ Z;have U:=G.trans (zR.of ac Z).alloc;have ao:w4.ownsRow base 5 1 v4 (k+1+3+1+T.length+1) (ub (bs++[au]++rd3 b++[(ss.length:Int)]++T++[(x.size:Int)])):=(by simpa[ub] using ah);clear ah ac Z)|(refine zjc rfl _ _ rfl base _ (k+1+3+1+T.length+1) _ rfl ao x rfl (by omega) (nT_ o U.grown.size) ?_;intro v5 w5 ap G5))
   go_roundw
   case rel=>
    have V:∃ y:Nat,y≤ss.length∧(Value.int .i64 ((m:Int)+1))=I_ y∧w5.ownsRow base 5 1 v5 (k+1+3+1+(za1 (ss.take y)).length) (ub (bs++[au]++rd3 b++[(ss.length:Int)]++za1 (ss.take y)))∧zR w v w5 v5:=
     ⟨m+1,by omega,by go_num,by rw[F.out];simp only[lP_,List.length_cons,zd2];rw[show k+1+3+1+(T.length+(x.size+1))=k+1+3+1+T.length+1+x.size by omega];simpa using ap,U.trans G5⟩
    first|exact V|((repeat apply Exists.intro);exact ⟨V,rfl⟩)
   case measure=>simp[intOf];omega
  ·obtain rfl:m=ss.length:=by omega
   rw[tL_ (nR_ _)] at d;have al:¬(ss.length:Int)<ss.length:=by omega
   go_wp2_with fail
   go_ret;refine ⟨_,rfl,?_,G⟩;have e:k+(zbK au b ss).length=k+1+3+1+(za1 ss).length:=by simp[zbK,rd3];omega
   rw[e,show bs++zbK au b ss=bs++[au]++rd3 b++[(ss.length:Int)]++za1 ss by simp[zbK]];exact d
variable {w':World}
structure BW where
 (au nu:Int) (ss:List ByteArray)
def BW.d (b:BW):List Int:=zgM 1 (zbK b.au b.nu b.ss)
def BW.f (b:BW):Int:=zba b.au b.nu b.ss
structure Bc where
 v:BW
 ta:Option Addr
 tc:Nat
def Bc.cs (b:Bc):List Value:=[I_ b.v.au,I_ b.v.nu,.slice b.ta b.v.ss.length b.tc]
structure zcG (w:World)(b:Bc):Prop where
 strs:zas w b.ta b.v.ss
 le:b.v.ss.length≤b.tc
 max:b.tc≤maxLen
 nil:b.ta=none→b.tc=0
 lt:∀ sb so,b.ta=some ⟨sb,so,none⟩→sb<w.heap.size
theorem zcG.below {b:Bc}(h:zcG w b)(c:B_ w w'):zcG w' b:=⟨h.strs.below c,h.le,h.max,h.nil,fun d f e=>nL_ (h.lt d f e) c.size⟩
def zbX (l:List BW)(d:List Int):Bool:=l.any fun b=>decide (zaf b.d=zaf d)
def bOf (l:List BW)(d:List Int):Option BW:=l.find? fun b=>decide (zaf b.d=zaf d)
theorem zjG {l:List BW}{d:List Int}:bOf l d=none↔zbX l d=false:=by
 unfold bOf zbX;rw[List.find?_eq_none,List.any_eq_false]
theorem zsY {l:List BW}{d:List Int}:(bOf l d).isSome=zbX l d:=by
 cases h:bOf l d with
 | none=>rw[zjG.1 h];rfl
 | some b=>
  cases h2:zbX l d with
  | false=>rw[zjG.2 h2] at h;cases h
  | true=>rfl
variable {n base:Nat}
theorem ziW:(prog.info? 9).map (fun i=>(i.zero,i.size,i.bytes))=some (some (.string ByteArray.empty),1,16):=by kernel_rfl
def sv (ss:List ByteArray):List Value:=ss.map Value.string
theorem zio (ss:List ByteArray):(sv ss).length=ss.length:=by simp[sv]
theorem zqY (ss:List ByteArray):∀ u∈sv ss,u.oneCell'=true:=by
 intro u b;simp[sv] at b;obtain ⟨x,_,rfl⟩:=b;rfl
theorem zfk {v:Value}(h:w.ownsRow base 9 1 v n (sv ss))(d:∀ s∈ss,s.size≤maxLen):∃ b rc,v=.slice b n rc∧n=ss.length∧zas w b ss∧∀ c f,b=some ⟨c,f,none⟩→base≤c:=by
 have p:n=ss.length:=by have:=h.1;rw[zio] at this;omega
 rcases h.2 with ⟨rfl,q⟩|⟨g,l,r,rfl,_⟩
 ·have m:ss=[]:=eN_ (by omega);subst q m;exact ⟨none,0,rfl,rfl,⟨.inl rfl,d⟩,fun _ _ e=>by cases e⟩
 ·refine ⟨some ⟨g,0,none⟩,l,rfl,p,⟨.inr ⟨g,0,rfl,fun j o=>?_⟩,d⟩,fun c f e=>by cases e;exact (h.lt _ rfl).1⟩;rw[Nat.zero_add,World.ownsRow.cellAt h j (by omega)];simp[sv,o]
variable {sa:Option Addr}{cap q:Nat}
def inS (s:ByteArray)(ss:List ByteArray):Bool:=ss.any fun x=>decide (x=s)
theorem zmC {s:ByteArray}(h:s∈ss):inS s ss=true:=by simp[inS,h]
theorem zlt {s:ByteArray}(h:s ∉ ss):inS s ss=false:=by
 rw[inS,List.any_eq_false];intro x b;simp only[decide_eq_true_eq];exact fun e=>h (e ▸ b)
def zdL (ss:List ByteArray):Bool:=ss.all zbA&&decide ss.Nodup
def zaG (nx:Int)(ss:List ByteArray):Int:=if ¬(1≤nx∧nx≤1048577)∨40<ss.length then 12 else if zdL ss=true then 0 else 12
theorem zc9 :zdL ss=true↔(∀ s∈ss,zbA s=true)∧ss.Nodup:=by simp[zdL]
theorem zg4 (b:q<ss.length):ss.getD q ByteArray.empty=ss[q]:=by simp[List.getD,b]
theorem zjg {s:ByteArray}:s∈ss.take q↔∃ i,∃ h:i<ss.length,i<q∧ss[i]=s:=by
 rw[List.mem_iff_getElem]
 constructor
 ·rintro ⟨i,c,rfl⟩;have b:i<q∧i<ss.length:=by rw[lT9_] at c;omega
  exact ⟨i,b.2,b.1,by simp⟩
 ·rintro ⟨i,h,d,rfl⟩;exact ⟨i,by rw[lT9_];omega,by simp⟩
theorem zqZ (h:∀ q,q<ss.length→zbA (ss.getD q ByteArray.empty)=true∧ss.getD q ByteArray.empty ∉ ss.take q):zdL ss=true:=by
 refine zc9.2 ⟨fun s g=>?_,?_⟩
 ·obtain ⟨i,b,rfl⟩:=List.mem_iff_getElem.1 g;have:=(h i b).1
  rwa [zg4 b] at this
 ·rw[List.Nodup,List.pairwise_iff_getElem];intro i j b c f d;refine (h j c).2 ?_;rw[zg4 c,zjg];exact ⟨i,b,f,d⟩
theorem zmD (b:q<ss.length)(h:zbA (ss.getD q ByteArray.empty)=false):zdL ss=false:=by
 rw[Bool.eq_false_iff];intro e;have:=(zc9.1 e).1 ss[q] (gM_ b);rw[zg4 b] at h;rw[h] at this;cases this
theorem zmE (b:q<ss.length)(h:ss.getD q ByteArray.empty∈ss.take q):zdL ss=false:=by
 rw[Bool.eq_false_iff];intro e;rw[zg4 b,zjg] at h;obtain ⟨i,d,f,c⟩:=h;have:=(zc9.1 e).2;rw[List.Nodup,List.pairwise_iff_getElem] at this;exact this i q d b f c
structure zbi (w:World)(sa:Option Addr)(cap:Nat)(ss:List ByteArray):Prop where
 le:ss.length≤cap
 max:cap≤maxLen
 nil:sa=none→cap=0
 strs:zas w sa ss
theorem zbi.below (h:zbi w sa cap ss)(b:B_ w w'):zbi w' sa cap ss:=⟨h.le,h.max,h.nil,h.strs.below b⟩
theorem zh5 {v:Value}(h:w.ownsRow base 9 1 v n (sv ss))(m:∀ s∈ss,s.size≤maxLen):∃ b rc,v=.slice b ss.length rc∧n=ss.length∧zbi w b rc ss∧∀ f o,b=some ⟨f,o,none⟩→base≤f:=by
 obtain ⟨b,rc,rfl,c,d,l⟩:=zfk h m;refine ⟨b,rc,by rw[c],c,?_,l⟩;rcases h.2 with ⟨e,t⟩|⟨g,p,q,e,_,_,r,j,_,_⟩
 ·cases e;exact ⟨by omega,by decide,fun _=>rfl,d⟩
 ·cases e;exact ⟨by omega,j,(fun e=>by cases e),d⟩
theorem zas.take (h:zas w sa ss)(k:Nat):zas w sa (ss.take k):=by
 refine ⟨?_,fun s f=>h.size s (List.mem_of_mem_take f)⟩;rcases h.cells with h|⟨g,l,rfl,c⟩
 ·subst h;simp
 ·refine .inr ⟨g,l,rfl,fun j d=>?_⟩;have b:j<k∧j<ss.length:=by rw[lT9_] at d;omega
  rw[c j b.2];simp[List.getD,b.1]
theorem zas.drop {c d:Nat}(h:zas w (some ⟨c,d,none⟩) ss)(k:Nat):zas w (some ⟨c,d+k,none⟩) (ss.drop k):=by
 refine ⟨?_,fun s m=>h.size s (List.mem_of_mem_drop m)⟩;rcases h.cells with h|⟨b,o,e,f⟩
 ·subst h;simp
 ·cases e;refine .inr ⟨c,d+k,rfl,fun j g=>?_⟩;have l:k+j<ss.length:=by simp at g;omega
  rw[Nat.add_assoc,f (k+j) l];simp[List.getD]
end Go.Proofs.YtdepbohhmfkjgaaGreatDoor
