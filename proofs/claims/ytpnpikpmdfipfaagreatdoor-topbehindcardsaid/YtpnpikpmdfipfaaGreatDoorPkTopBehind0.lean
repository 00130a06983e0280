import Derived.Test.YtpnpikpmdfipfaaGreatDoorPk20
set_option maxRecDepth 100000
set_option maxHeartbeats 4000000
namespace Go.Proofs.YtpnpikpmdfipfaaGreatDoor
open Go.RowKit _root_.Go.Proofs.Tryz
theorem zfZ {f:Fl}{a:Ac}(h:a.k=8):f.does a=f.start a.i:=by
 rw[Fl.does,Fl.act,iN_ (by omega),iN_ (by omega),iN_ (by omega),iN_ (by omega),iP_ h]
theorem zjg {f:Fl}{a:Ac}(h:a.k=7):f.does a=if f.runs a.i then f.set a.i ((f.node a.i).crash a.p)else f:=by
 rw[Fl.does,Fl.act,iN_ (by omega),iN_ (by omega),iN_ (by omega),iN_ (by omega),iN_ (by omega),iP_ (by omega),iN_ (show ¬a.k=2 by omega),iN_ (show ¬a.k=3 by omega)]
variable {w:World}{ops:Array Oper}{Q:Exit->Act->World->Prop}{a:Act}
theorem zl5 (a b:List AV):avs (a++b)=avs a++avs b:=by
 induction a with
 | nil=>rfl
 | cons x a ih=>simp only[List.cons_append,avs,ih,List.append_assoc]
theorem zxF (l:List AV):∀u∈avs l,u.oneCell'=true:=by
 induction l with
 | nil=>intro u b;cases b
 | cons a l ih=>
  intro u b;rcases mA_.1 b with h|h;simp[AV.cs]at h;rcases h with rfl|rfl|rfl|rfl<;>rfl;exact ih u h
theorem zwM:(prog.info? 26).map (λi=>(i.zero,i.size,i.bytes))=some (some (.agg #[I_ 0,I_ 0,I_ 0,.string ⟨#[]⟩]),4,40):=by kernel_rfl
theorem zkz {rest:List Oper}{o:Oper}(t:o.guard=none)(s x:Operand)
  (z:o.op=.call { callee:=.builtin .append,args:=#[s,x],argTypes:=#[24,24] })
  (base:Nat) (v:Value) (n:Nat) (l:List AV) (B:a.eval s=v) (A:w.ownsRow base 26 4 v n (avs l)) (g:Nat) (b:AV) (C:a.eval x=.slice (some (p_ g 0)) 1 1) (r:R_ w g b.cs.toArray 26)
  (G:n+1<=3000000000000) (q:base<=w.heap.size)
  (h:∀c w',w'.ownsRow base 26 4 c (n+1) (avs (l++[b]))->zV w v w' c->wpList prog ops Q rest (a.put o.dst c) w'):wpList prog ops Q (o::rest) a w:=by
 obtain⟨i,y,D,E,F⟩:=info_parts zwM;refine wpList_append_own_at w t s x 24 z base 26 i _ 4 40 underlying24 y D E F rfl (by decide) v n (avs l) B A (p_ g 0) 1 1 b.cs C rfl ?_ ?_ (by unfold maxLen;omega) (by omega) q (λc w' f m _ p=>h c w' (by rw[zl5,show avs [b]=b.cs by simp[avs]];exact f) (zV.of m p));intro j u d;rw[zaP,zA_,cell_of_row w g j _ _ _ r]
 simpa using d
 intro u d;simp[AV.cs]at d;rcases d with rfl|rfl|rfl|rfl<;>rfl
theorem zsK {d:Addr}{cs:List AV}(y:zbq w (some d) cs):∀j u,(avs cs)[j]? = some u->w.cell? (d.add j)=some u:=by
 intro j u b;rcases y.cells with c|⟨B,l,e,c⟩;subst c;simp[avs]at b;cases e;have A:j<cs.length*4:=by
  rcases lG_ j (cs.length*4)with g|g;exact g;rw[List.getElem?_eq_none (by rw[zg1];omega)]at b;cases b
 have f:j / 4<cs.length:=by omega
 have t:j=j / 4*4+j % 4:=by omega
 have s:j % 4<4:=by omega
 rw[zaP];obtain⟨m,o,p,r⟩:=c (j / 4) f;rw[t,zkr cs (j / 4) (j % 4) f s]at b;have z:l+j=l+j / 4*4+j % 4:=by omega
 rw[z];generalize j / 4=q at*;rcases(by omega:j % 4=0\/j % 4=1\/j % 4=2\/j % 4=3)with h|h|h|h<;>rw[h]at b|-<;>simp[AV.cs]at b<;>subst b;exact m;exact o;exact p;exact r
theorem zfB {rest:List Oper}{o:Oper}(q:o.guard=none)(s x:Operand)
  (t:o.op=.call { callee:=.builtin .append,args:=#[s,x],argTypes:=#[24,24] })
  (base:Nat) (v:Value) (n:Nat) (l:List AV) (u:a.eval s=v) (p:w.ownsRow base 26 4 v n (avs l)) (d:Q_) (m f:Nat) (b:List AV) (y:a.eval x=.slice d m f) (C:m=b.length) (g:zbq w d b) (D:d=none->m=0/\f=0)
  (H:n+m<=3000000000000) (B:base<=w.heap.size)
  (h:∀c w',w'.ownsRow base 26 4 c (n+m) (avs (l++b))->zV w v w' c->wpList prog ops Q rest (a.put o.dst c) w'):wpList prog ops Q (o::rest) a w:=by
 obtain⟨i,r,E,F,G⟩:=info_parts zwM;cases d with
 | none=>
  obtain⟨A,j⟩:=D rfl;subst A j;obtain rfl:b=[]:=eN_ C.symm;exact wpList_append_own_none q s x 24 t base 26 i 4 underlying24 r v n (avs l) u p y (h v w (by simpa using p) (zV.of (World.grownBy.refl _ _) (.inl rfl)))
 | some ad=>
  exact wpList_append_own_at w q s x 24 t base 26 i _ 4 40 underlying24 r E F G rfl (by decide) v n (avs l) u p ad m f (avs b) y (by rw[zg1];omega) (zsK g) (zxF b) (by unfold maxLen;omega) (by omega) B (λc w' z g _ j=>h c w' (by rw[zl5];exact z) (zV.of g j))
theorem zcZ (l m:List AV)(c:Q_)(o g:Nat)(d:Q_)(p j:Nat)(w:World)(B:o=l.length)(E:p=m.length)(A:zbq w c l)(C:zbq w d m)(u:c=none->l.length=0/\g=0)(y:d=none->m.length=0/\j=0)(I:l.length+m.length<=100000) :
  Calls prog 7 #[.slice c o g,.slice d p j] w λe w'=>∃v,e=.returned v/\w'.ownsRow w.heap.size 26 4 v (l++m).length (avs (l++m))/\B_ w w':=by
 subst B E;have t:Hid ((l++m).length=l.length+m.length):=lP_;go_in;go_upto_region 1 with fail
 go_wp2_with (at_builtin;refine zfB rfl _ _ rfl w.heap.size _ 0 [] rfl (oN_ _ _ _ _) c l.length g l rfl rfl A u (by omega) (nR_ _) ?_)
 intro G J f r;have b:=Below.grown (bR_ w.heap.size w) r.grown (nR_ _) (λq e=>by cases e)
 (try rw[List.nil_append,zA_]at f)
 have D:=C.below b;go_wp2_with (at_builtin;refine zfB rfl _ _ rfl w.heap.size G l.length l rfl f d m.length j m rfl rfl D y (by omega) b.size ?_)
 intro H w2 F s;have z:=Below.grown b s.grown b.size (λq e=>(f.lt q e).1);go_wp2_with fail
 go_ret;exact⟨H,rfl,by rw[t.out];exact F,z⟩
theorem zdw {b:Nat}{l:List AV}(h:R_ w b ((avs l).toArray) 26)(d:∀a∈l,a.e=0/\a.t.size<=4000):zbq w (some (p_ b 0)) l:=by
 refine⟨.inr ⟨b,0,rfl,λj m=>?_⟩,λa g=>nT_ (d a g).2 (by decide)⟩;have c:∀t,t<4->w.cell? (p_ b (0+j*4+t))=(l.getD j .z).cs[t]?:=λt d=>by
  rw[<-zkr l j t m d];have f:j*4+t<(avs l).length:=by rw[zg1];omega
  rw[List.getElem?_eq_getElem f,zA_];exact zb h (j*4+t) _ (by simp[f])
 exact⟨c 0 (by decide),c 1 (by decide),c 2 (by decide),c 3 (by decide)⟩
variable {rd:Int}
theorem zEs {l:List CV}{j:Nat}(b:j<l.length):0<=cOf l (zaM l j).au (zaM l j).rd:=by
 rcases Int.lt_or_le (cOf l (zaM l j).au (zaM l j).rd) 0 with h|h;have:=zqP _ _ h j b;simp[zfp]at this;exact h
theorem zDb {l:List CV}{pl:List (L_)}{m:Nat}(h:zb5 l rd pl m=0):∀k,k<m->ziM l rd (pl.getD k [])=0:=by
 induction m with
 | zero=>intro k c;omega
 | succ m ih=>
  rw[zb5]at h
  split at h
  cases h
  split at h
  rename_i b
  intro k c;rcases lG_ k m with g|g;exact ih h k g;obtain rfl:k=m:=by omega
  exact b
  rename_i b
  exact absurd h b
theorem zDF {l:List CV}{d:L_}(h:ziM l rd d=0):0<=pOf l d/\(zaM l (pOf l d).toNat).rd=rd-1:=by
 rw[ziM]at h
 split at h
 cases h
 split at h
 cases h
 rename_i c b
 refine⟨by omega,by simpa using b⟩
variable {i p:Int}{l:List SV}{t:ByteArray}
theorem zzP {k:Int}(c:1<=k/\k<=10)(b:0<=i/\i<4)(d:0<=p/\p<=400000):(⟨k,i,p,t⟩:Ac).ok:=⟨c.1,c.2,b.1,b.2,d.1,d.2⟩
theorem zz0 (h:zdt l=0){a b:Nat}(j:b<l.length)(g:a<b)(d:(zd1 l a).1=(zd1 l b).1)(f:(zd1 l a).2.1=(zd1 l b).2.1):False:=by
 have c:=(zmY h).2 b j;rw[zeD,Bool.or_eq_false_iff]at c;have c:=c.2;simp only[zff,List.any_eq_false]at c;refine c a (by simpa using g) ?_;rw[hit];exact dT_ ⟨d,f⟩
def zmb (c:X_):Obj->Obj
 | .cells _ t frozen=>.cells c t frozen
 | o=>o
def zwy:DataW Unit->Value
 | .lit (.int k n)=>.int k n
 | _=>I_ 0
def zzs:DataW Unit->List Value
 | .agg ds=>ds.map zwy
 | d=>[zwy d]
def zpC:DataW Unit->List Value
 | .agg ds=>ds.flatMap zzs
 | d=>[zwy d]
def zuV:List Value:=(List.range 11).flatMap λk:Nat=>[.string ⟨(zn2 (k:Int)).toArray⟩,.bool (hN (k:Int)),.bool (hP (k:Int)),.bool (hT (k:Int))]
def layTp (w:World):World:=
 { w with heap:=(((w.heap.modify 1 (zmb (zpC Rows.laid_sheaves_blake_firstWords).toArray)).modify 2 (zmb (zpC Rows.laid_sheaves_blake_orders).toArray)).modify 3 (zmb (zpC Rows.laid_sheaves_blake_lanes).toArray)).modify 0 (zmb zuV.toArray) }
theorem zDG (R:Nat)(B:R<=100)(w:World) :
  Calls prog 8 #[I_ (R:Int)] w λe w'=>∃v,e=.returned v/\w'.ownsRow w.heap.size 26 4 v (zdc R).length (avs (zdc R))/\B_ w w':=by
 rw[zCk];go_in;go_wp2_with fail
 go_loopw [4,3] (λj v wr=>∃k:Nat,k<=4/\j=I_ k/\B_ w wr/\wr.ownsRow w.heap.size 26 4 v k (avs (zhd k))) (λj _ _=>4-(intOf j).toNat)
 case atStart=>exact⟨0,nZ_ _,rfl,bR_ _ _,oN_ _ _ _ _⟩
 case round=>
  obtain⟨k,o,rfl,b,c⟩:=hrel;by_cases hlt:k<4
  .have p:(k:Int)<4:=by omega
   have m:(wr.alloc (.cells #[I_ 8,I_ k,I_ 0,.string ⟨#[]⟩] 26)).heap[wr.heap.size]? = some (.cells (⟨8,k,0,⟨#[]⟩⟩:AV).cs.toArray 26 (0,0)):=hN_ _ _;have d:Hid (zhd (k+1)=zhd k++[⟨8,k,0,⟨#[]⟩⟩]):=rfl;generalize zhd k=l at c d;go_wp2_with (at_builtin;refine zkz rfl _ _ rfl w.heap.size _ k l rfl (c.alloc _) wr.heap.size ⟨8,k,0,⟨#[]⟩⟩ rfl m (by omega) (by have:=b.size;simp;omega) ?_)
   intro r w2 g f;go_wp2_with fail
   go_roundw
   case rel=>
    refine⟨k+1,by omega,by go_num,b.trans ?_,by rw[d.out];exact g⟩;exact((bR_ _ _).alloc b.size _).trans (f.below (by have:=b.size;simp;omega) (λq e=>(c.lt q e).1))
   case measure=>simp[intOf];omega
  obtain rfl:k=4:=by omega
  have p:¬((4:Nat):Int)<4:=by omega
  clear hlt o;go_wp2_with fail
  go_loopw [5,3] (λj v wr=>∃i:Nat,i<=R/\j=I_ i/\B_ w wr/\wr.ownsRow w.heap.size 26 4 v (4+9*i) (avs (zdc i))) (λj _ _=>R-(intOf j).toNat)
  case atStart=>exact⟨0,nZ_ _,rfl,b,c⟩
  case round=>
   clear c b;obtain⟨i,y,rfl,b,c⟩:=hrel;by_cases hlt:i<R
   .have p:(i:Int)<R:=by omega
    go_wp2_with fail
    go_loopw [6,3] (λj v s=>∃k:Nat,k<=4/\j=I_ k/\B_ w s/\s.ownsRow w.heap.size 26 4 v (4+9*i+2*k) (avs (zdc i++zfg k))) (λj _ _=>4-(intOf j).toNat)
    case atStart=>exact⟨0,nZ_ _,rfl,b,by rw[zfg,List.append_nil];exact c⟩
    case round=>
     clear c b;obtain⟨k,o,rfl,b,c⟩:=hrel;by_cases hlt4:k<4
     .have A:(k:Int)<4:=by omega
      have m:(wr.alloc (.cells #[I_ 2,I_ k,I_ 0,.string ⟨#[]⟩,I_ 3,I_ k,I_ 0,.string ⟨#[]⟩] 26)).heap[wr.heap.size]? = some (.cells (avs [(⟨2,k,0,⟨#[]⟩⟩:AV),⟨3,k,0,⟨#[]⟩⟩]).toArray 26 (0,0)):=hN_ _ _;have t:=zdw m (λa u=>zCj (k+1) hlt4 a (List.mem_append_right _ u));have d:Hid (zdc i++zfg (k+1)=zdc i++zfg k++[⟨2,k,0,⟨#[]⟩⟩,⟨3,k,0,⟨#[]⟩⟩]):=(List.append_assoc _ _ _).symm;have z:i<=100:=by omega
      generalize zdc i++zfg k=l at c d;go_wp2_with (at_builtin;refine zfB rfl _ _ rfl w.heap.size _ (4+9*i+2*k) l rfl (c.alloc _) (some (p_ wr.heap.size 0)) 2 2 [(⟨2,k,0,⟨#[]⟩⟩:AV),⟨3,k,0,⟨#[]⟩⟩] rfl rfl t (λe=>by cases e) (by omega) (by have:=b.size;simp;omega) ?_)
      intro r w2 g f;go_wp2_with fail
      go_roundw
      case rel=>
       refine⟨k+1,by omega,by go_num,b.trans ?_,by rw[d.out,show 4+9*i+2*(k+1)=4+9*i+2*k+2 by omega];exact g⟩;exact((bR_ _ _).alloc b.size _).trans (f.below (by have:=b.size;simp;omega) (λq e=>(c.lt q e).1))
      case measure=>simp[intOf];omega
     obtain rfl:k=4:=by omega
     have A:¬((4:Nat):Int)<4:=by omega
     have m:(wr.alloc (.cells #[I_ 10,I_ 0,I_ 0,.string ⟨#[]⟩] 26)).heap[wr.heap.size]? = some (.cells (⟨10,0,0,⟨#[]⟩⟩:AV).cs.toArray 26 (0,0)):=hN_ _ _;have d:Hid (zdc (i+1)=zdc i++zfg 4++[⟨10,0,0,⟨#[]⟩⟩]):=rfl;have z:i<=100:=by omega
     generalize zdc i++zfg 4=l at c d;clear hlt4 o;go_wp2_with (at_builtin;refine zkz rfl _ _ rfl w.heap.size _ (4+9*i+2*4) l rfl (c.alloc _) wr.heap.size ⟨10,0,0,⟨#[]⟩⟩ rfl m (by omega) (by have:=b.size;simp;omega) ?_)
     intro r w2 g f;go_wp2_with fail
     go_roundw
     case rel=>
      refine⟨i+1,by omega,by go_num,b.trans ?_,by rw[d.out,show 4+9*(i+1)=4+9*i+2*4+1 by omega];exact g⟩;exact((bR_ _ _).alloc b.size _).trans (f.below (by have:=b.size;simp;omega) (λq e=>(c.lt q e).1))
     case measure=>simp[intOf];omega
   obtain rfl:i=R:=by omega
   have p:¬(i:Int)<i:=by omega
   clear hlt y;go_wp2_with fail
   go_ret;exact⟨_,rfl,c,b⟩
theorem zCB {l:List BW}{b:BW}(h:zbG l b=true):b.f=0:=by
 unfold zbG at h;simp only[Bool.and_eq_true,dE_]at h;exact h.1.1
theorem zBP {l:List BW}{b:BW}(h:∀x∈l,x.f=0)(c:b.f=0):∀x∈l++[b],x.f=0:=λx d=>by
 rcases mA_.1 d with g|g
 .exact h x g
 .rw[mS_.1 g];exact c
theorem zEt {k:Kn}(m:MC)(h:∀b∈k.sh,b.f=0):∀b∈(k.rcl m).sh,b.f=0:=by
 unfold Kn.rcl
 split
 split
 rename_i e;exact zBP h (zCB e)
 exact h
 split
 split<;>exact h
 split
 exact h
 split
 split<;>exact h
 exact h
theorem zEc (l:List MC)(k:Kn)(h:∀b∈k.sh,b.f=0):∀b∈(l.foldl Kn.rcl k).sh,b.f=0:=by
 induction l generalizing k with
 | nil=>exact h
 | cons m l ih=>exact ih (k.rcl m) (zEt m h)
structure zBc (i:Int)(n:Nd):Prop where
 pool:zaO n.nx n.txs=0
 sh:∀b∈n.k.sh,b.f=0
theorem zCs:zc5 (λ_=>True) zBc where
 step:=λi o a b q _ s h=>by
  rcases s with⟨d,m,l,_,rfl⟩|⟨b,e,_,rfl⟩|⟨_,_,rfl⟩|⟨_,_,rfl⟩|⟨_,_,_,_,_,rfl⟩|⟨_,_,_,_,rfl⟩|⟨e,_,rfl⟩|⟨_,rfl⟩
  .unfold Nd.send
   split
   .exact h
   .exact⟨h.pool,h.sh⟩
  .exact⟨h.pool,zBP h.sh (zCB e)⟩
  .exact⟨h.pool,h.sh⟩
  .exact⟨h.pool,h.sh⟩
  .exact⟨h.pool,h.sh⟩
  .exact⟨h.pool,h.sh⟩
  .exact⟨(zxv e).2,h.sh⟩
  .exact⟨h.pool,h.sh⟩
 crash:=λi n p _ _ h=>by
  obtain⟨_,_,_,_,_,j,g,_⟩:=zc8 n p
  have c:∀b∈(n.crash p).k.sh,b.f=0:=by rw[g];exact zEc _ _ (λb f=>by cases f)
  refine⟨?_,c⟩
  have r:=zt3 n.nu (n.crash p).k.sh c
  have e:(n.crash p).nx=zd2 n.nu (n.crash p).k.sh:=rfl
  rw[j,e,zaO,iN_ (by show ¬(_\/40<0);omega)]
  rfl
 up:=λi n _ h=>⟨h.pool,h.sh⟩
 synced:=λi n _ h=>⟨h.pool,h.sh⟩
 sub:=λi n t _ _ e h=>⟨zyH h.pool e,h.sh⟩
theorem zBc.z (r:Int):zah zBc (Fl.z r):=⟨rfl,λi d=>by rw[zf1 r i d];exact⟨rfl,λb c=>by cases c⟩⟩
theorem zDq (f:Fl)(i:Int)(t:ByteArray):(f.submit i t).no=f.no:=by
 unfold Fl.submit
 split
 rfl
 split<;>rfl
theorem zEd {b:BW}(h:b.f=0):(zed b).onTape.length<=325:=by
 have k:=zk7 (m:=(zed b).mv.m) (ss:=b.ss) (bl:=[]) (pl:=[]) (cbl:=[]) (cpl:=[]) (ds:=[]) (vl:=[]) rfl (by rw[ziO rfl];exact h);show(MV.onTape (zed b).mv).length<=325;rw[zlH];show 2+([_,_,_]++zcG _ _ _ _ _ _ _ _).length<=325;rw[lP_];have k:(zcG (zed b).mv.m (zed b).mv.ss (zed b).mv.bl (zed b).mv.pl (zed b).mv.cbl (zed b).mv.cpl (zed b).mv.ds (zed b).mv.vl).length<=320:=k;simp only[List.length_cons,List.length_nil];omega
theorem zCW {c:CV}(h:c.hf=0):(zcl c).onTape.length<=325:=by
 have k:=zk7 (m:=(zcl c).mv.m) (ss:=[]) (bl:=pz c.bl) (pl:=pz c.pl) (cbl:=[]) (cpl:=[]) (ds:=[]) (vl:=[]) rfl (by rw[ziP rfl];exact h);show(MV.onTape (zcl c).mv).length<=325;rw[zlH];show 2+([_,_,_]++zcG _ _ _ _ _ _ _ _).length<=325;rw[lP_];have k:(zcG (zcl c).mv.m (zcl c).mv.ss (zcl c).mv.bl (zcl c).mv.pl (zcl c).mv.cbl (zcl c).mv.cpl (zcl c).mv.ds (zcl c).mv.vl).length<=320:=k;simp only[List.length_cons,List.length_nil];omega
def Apt (l:List (L_)):Prop:=l.Pairwise λa b=>txL a≠txL b
theorem zDH {l:List (L_)}(f:∀d∈l,d.length=32)(o:Apt l):zb8 (pz l)=0:=by
 have m:(pz l).length=l.length:=by simp[pz]
 have b:∀k (c:k<l.length),(zcT (pz l) k).bs=l[k]:=λk c=>by
  rw[zgQ _ _ (by omega)];simp[pz]
 have p:∀k,k<=l.length->zbn (pz l) k=0:=by
  intro k
  induction k with
  | zero=>intro _;rfl
  | succ k ih=>
   intro c;rw[zbn,ih (by omega),iN_ (λe=>e rfl),zcF,iN_,iN_];unfold zgm;simp only[aT_,List.mem_range,dE_,not_exists,not_and];intro j g;rw[b j (by omega),b k (by omega)];exact List.pairwise_iff_getElem.1 o j k (by omega) (by omega) g;rw[b k (by omega)]
   simpa using f _ (gM_ _)
 rw[zb8,m];exact p _ (nR_ _)
theorem zBq (n:Nd)(d:Int)(m:MC):∃e,(n.send d m).wai=n.wai++e/\e.length<=1:=by
 unfold Nd.send
 split
 exact⟨[],by simp,by decide⟩;exact⟨_,rfl,nR_ _⟩
theorem zEe (n:Nd)(j:Int)(m:MC):(n.send j m).wai.length<=n.wai.length+1:=by
 obtain⟨e,h,k⟩:=zBq n j m;rw[h,lP_];omega
theorem zDr (n:Nd)(m:MC)(k:Nat):(n.sendTo m k).wai.length<=n.wai.length+k/\(n.sendTo m k).nu=n.nu:=by
 induction k with
 | zero=>exact⟨nR_ _,rfl⟩
 | succ k ih=>
  have:=zEe (n.sendTo m k) k m;exact⟨by show((n.sendTo m k).send k m).wai.length<=_;omega,(zmu _ _ _).trans ih.2⟩
theorem zCX (l:List MC)(f:Fl):∃e,(l.foldl Fl.out f).no.sg=f.no.sg++e:=by
 induction l generalizing f with
 | nil=>exact zf5 _
 | cons m l ih=>
  obtain⟨b,d,_⟩:=zAw f.no m;obtain⟨c,g⟩:=ih (f.out m);exact⟨b++c,by rw[List.foldl_cons,g,<-List.append_assoc,<-d];rfl⟩
theorem zB5 (f:Fl)(k p:Int):(f.pick k p).no=f.no:=by
 unfold Fl.pick
 split
 rfl
 split
 rfl
 split
 exact zew _ _ _
 rfl
theorem zCY {l:List GV}(h:zbF l=0)(g:GV):zbF (zfS l g)=0:=by
 unfold zfS
 split
 exact h
 rename_i b
 split
 rename_i e
 by_cases hg:gF g=0;rw[zvt h hg b];exact zBw h hg b;rw[ztq h hg]at e;exact absurd e hg;exact h
theorem zCZ {o:No}(h:zbF o.sg=0)(m:MC):zbF (o.sign m).sg=0:=by
 unfold No.sign
 split
 split
 exact zCY h _;exact h
 split
 exact zCY h _;exact h
theorem zEf (l:List MC)(f:Fl)(h:zbF f.no.sg=0):zbF (l.foldl Fl.out f).no.sg=0:=by
 induction l generalizing f with
 | nil=>exact h
 | cons m l ih=>exact ih (f.out m) (zCZ h m)
theorem zEg (f:Fl){a:Ac}(b:0<=a.p)(h:zbF f.no.sg=0):zbF (f.does a).no.sg=0:=by
 refine zBS (P:=λg=>zbF g.no.sg=0) a h (λp _=>⟨?_,?_,?_⟩) ?_ (λt=>?_) (λt=>?_) ?_ (λ_=>⟨?_,?_,λ_=>?_⟩) b;rw[zB5];exact h;rw[zB5];exact h;rw[zB5];exact h;rw[zfw,zlo];exact h;rw[zDq];exact h;exact zcq (P:=λg=>zbF g.no.sg=0) _ _ h (λm=>by rw[zew];exact h);rw[zgl];exact h;exact h;exact zEf _ (f.set a.i { f.node a.i with wai:=[],syn:=(zae (f.node a.i).recs).length }) h;exact h
theorem zEv (l:List Ac)(f:Fl)(c:∀a∈l,a.ok)(h:zbF f.no.sg=0):zbF (f.run l).no.sg=0:=by
 induction l generalizing f with
 | nil=>exact h
 | cons a l ih=>exact ih (f.does a) (λb d=>c b (mC_ _ d)) (zEg f (a:=a) (c a (by simp)).2.2.2.2.1 h)
theorem zDs {o:No}{c:CV}(h:zzQ o c)(j:zbF o.sg=0)(f:-1<=o.bad/\o.bad<=3):zfl o.sg o.bad c.au c.rd c.f c.d c.vl=0:=by
 have d:∀v,v=c.au\/v∈c.vl->zdI o.sg o.bad c.au c.rd c.d v=false:=λv b=>by
  unfold zdI;rcases h.2 v b with e|e;simp[e];simp[e]
 unfold zfl;rw[zw4 j f,iN_ (λg=>g rfl),h.1,iN_ (λg=>g rfl),iN_];simp only[Bool.or_eq_true,not_or,aT_,not_exists,not_and];exact⟨by rw[d _ (.inl rfl)];decide,λv b=>by rw[d v (.inr b)];decide⟩
theorem zC0 {c:CV}(h:c.hf=0):(zcE c.slot).onTape.length<=325:=by
 have k:=zk7 (m:=(zcE c.slot).mv.m) (ss:=[]) (bl:=[]) (pl:=[]) (cbl:=[]) (cpl:=[]) (ds:=c.slot.2.2) (vl:=[]) rfl (by rw[ziQ rfl];exact zAp h);show(MV.onTape (zcE c.slot).mv).length<=325;rw[zlH];show 2+([_,_,_]++zcG _ _ _ _ _ _ _ _).length<=325;rw[lP_];have k:(zcG (zcE c.slot).mv.m (zcE c.slot).mv.ss (zcE c.slot).mv.bl (zcE c.slot).mv.pl (zcE c.slot).mv.cbl (zcE c.slot).mv.cpl (zcE c.slot).mv.ds (zcE c.slot).mv.vl).length<=320:=k;simp only[List.length_cons,List.length_nil];omega
theorem zC1 {c:CV}(h:c.f=0):(zdh c).onTape.length<=325:=by
 have k:=zk7 (m:=(zdh c).mv.m) (ss:=[]) (bl:=[]) (pl:=[]) (cbl:=pz c.bl) (cpl:=pz c.pl) (ds:=[]) (vl:=c.vl) rfl (by rw[ziR rfl];exact h);show(MV.onTape (zdh c).mv).length<=325;rw[zlH];show 2+([_,_,_]++zcG _ _ _ _ _ _ _ _).length<=325;rw[lP_];have k:(zcG (zdh c).mv.m (zdh c).mv.ss (zdh c).mv.bl (zdh c).mv.pl (zdh c).mv.cbl (zdh c).mv.cpl (zdh c).mv.ds (zdh c).mv.vl).length<=320:=k;simp only[List.length_cons,List.length_nil];omega
def Kof (l:List MC):Kn:=l.foldl Kn.rcl Kn.z
structure Wt (i:Int)(l:List MC):Prop where
 tape:(zae l).length<=325*((Kof l).sh.length+(Kof l).tab.length+(Kof l).dag.length)
 tab:(Kof l).tab.length<=400
 dag:(Kof l).dag.length<=400
 own:∀t∈(Kof l).tab,t.1=i->t.2.1<=(Kof l).own.rd
def zAP (i:Int)(n:Nd):Prop:=(n.nu=i/\zdf i n)/\∀l,l <+: n.recs->Wt i l
theorem zAP.now {n:Nd}(h:zAP i n):Wt i n.recs/\Kof n.recs=n.k:=⟨h.2 _ (List.prefix_refl _),h.1.2.symm⟩
theorem zBR {n:Nd}{m:MC}{k:Kn}(h:zAP i n)(e:n.k.rcl m=k)(u:m.onTape.length<=325)(s:n.k.sh.length+n.k.tab.length+n.k.dag.length+1<=k.sh.length+k.tab.length+k.dag.length)
  (p:k.tab.length<=400) (g:k.dag.length<=400) (o:∀t∈k.tab,t.1=i->t.2.1<=k.own.rd):zAP i (n.log m k):=by
 have d:=zdm (m:=m) h.1.2 e;have c:Kof (n.recs++[m])=k:=(show k=_ from d).symm;refine⟨⟨h.1.1,d⟩,λl b=>?_⟩;have b:l <+: n.recs++[m]:=b;rcases List.prefix_concat_iff.1 b with rfl|b;obtain⟨q,j⟩:=h.now;have f:=q.tape;rw[j]at f;refine⟨?_,by rw[c];exact p,by rw[c];exact g,by rw[c];exact o⟩;rw[c];have r:(zae (n.recs++[m])).length=(zae n.recs).length+m.onTape.length:=by simp[zae]
 omega;exact h.2 l b
theorem zCb:∀(k:Nat) (l:List MC),zeo k l <+: l
 | _,[]=>List.prefix_refl _
 | k,m::l=>by
  rw[zeo]
  split
  .exact(List.cons_prefix_cons).2 ⟨rfl,zCb _ l⟩
  .exact List.nil_prefix
theorem zEh:zc5 (λ_=>True) zAP where
 step:=λi o a b D _ s h=>by
  obtain⟨B,I⟩:=h.now
  have C:=B.tab;have y:=B.dag;have q:=B.own
  rw[I]at C y q
  rcases s with⟨d,m,M,_,rfl⟩|⟨b,f,_,rfl⟩|⟨x,f,rfl⟩|⟨c,f,rfl⟩|⟨r,f,_,L,_,rfl⟩|⟨_,_,_,_,rfl⟩|⟨_,_,rfl⟩|⟨_,rfl⟩
  .unfold Nd.send;split<;>exact h
  .have H:b.f=0:=by unfold zbG at f;simp only[Bool.and_eq_true,dE_]at f;exact f.1.1
   exact zBR h (zmN f) (zEd H) (by show _<=(a.k.sh++[b]).length+_+_;rw[lP_];simp only[List.length_cons,List.length_nil];omega) C y q
  .rcases zgf f.cast with⟨g,_⟩|⟨g,_,u⟩
   .have:=f.more;rw[g]at this;omega
   .refine zBR h (by rw[zmP,g]) (zC0 f.hf) ?_ ?_ y ?_
    .show _<=_+((zaf a.k.tab x).1).length+_
     rw[g,lP_];simp only[List.length_cons,List.length_nil];omega
    .show((zaf a.k.tab x).1).length<=400
     rw[g,lP_];simp only[List.length_cons,List.length_nil];omega
    .show ∀t∈(zaf a.k.tab x).1,_
     rw[g]
     intro t j e
     rcases mA_.1 j with j|j
     .exact q t j e
     .rw[mS_.1 j]at e
      exact absurd (e.trans h.1.1.symm) f.other
  .unfold Nd.proofs at f
   simp only[Bool.and_eq_true,dE_]at f
   obtain⟨z,_,u⟩:=zg5 f.1.1
   exact zBR h (zmQ f.1.1) (zC1 z) (by show _<=_+_+(a.k.dag++[c]).length;rw[lP_];simp only[List.length_cons,List.length_nil];omega) C (by show(a.k.dag++[c]).length<=400;rw[lP_];simp only[List.length_cons,List.length_nil];omega) q
  .have A:(a.header r).slot.1=i/\(a.header r).slot.2.1=r:=⟨h.1.1,rfl⟩
   rcases zgf f with⟨_,t,z,G,u,_⟩|⟨g,_,u⟩
   .have:=q t z (G.trans A.1)
    rw[u,A.2]at this
    omega
   .have h':zAP i (a.log (zcl (a.header r)) { a.k with tab:=(zaf a.k.tab (a.header r)).1,own:=a.header r,slot:=(a.header r).slot }):=by
     refine zBR h (zmO rfl (zgU f).2.1 f) (zCW (zgU f).2.1) ?_ ?_ y ?_
     .show _<=_+((zaf a.k.tab (a.header r)).1).length+_;rw[g,lP_];simp only[List.length_cons,List.length_nil];omega
     .show((zaf a.k.tab (a.header r)).1).length<=400;rw[g,lP_];simp only[List.length_cons,List.length_nil];omega
     .show ∀t∈(zaf a.k.tab (a.header r)).1,_->_<=(a.header r).rd;rw[g];intro t j e;have N:(a.header r).rd=r:=rfl;rcases mA_.1 j with j|j
      .have:=q t j e;omega
      .rw[mS_.1 j,A.2];exact Int.le_refl _
    exact⟨⟨h'.1.1,h'.1.2⟩,h'.2⟩
  all_goals exact⟨⟨h.1.1,h.1.2⟩,h.2⟩
 crash:=λi n p D J h=>by
  obtain⟨f,_,_,F,_⟩:=zc8 n p;refine⟨⟨f.trans h.1.1,zib.crash i n p D J h.1.2⟩,λl E=>h.2 l ?_⟩;rw[F]at E;exact E.trans (zCb _ _)
 up:=λi n _ h=>⟨⟨h.1.1,h.1.2⟩,h.2⟩
 synced:=λi n _ h=>⟨⟨h.1.1,h.1.2⟩,h.2⟩
 sub:=λi n t _ _ _ h=>⟨⟨h.1.1,h.1.2⟩,h.2⟩
theorem zER (r:Int):zah zAP (Fl.z r):=⟨rfl,λi b=>by
 rw[zf1 r i b]
 refine⟨⟨rfl,rfl⟩,λl c=>?_⟩
 obtain rfl:=List.prefix_nil.1 c
 exact⟨nR_ _,by decide,by decide,λt d=>by cases d⟩⟩
theorem zAP.room {n:Nd}(h:zAP i n)(l:n.k.sh.length<=400){m:MC}(j:m.onTape.length<=325):n.room m=true:=by
 obtain⟨b,g⟩:=h.now;have c:=b.tape;have d:=b.tab;have f:=b.dag;rw[g]at c d f;unfold Nd.room;exact dT_ (by omega)
theorem zEw (r:Int)(l:List Ac)(c:∀a∈l,a.ok){i:Int}(b:0<=i/\i<4):zAP i (((Fl.z r).run l).node i):=
 (zah.run zEh l (zcn.z r) (zER r) c (λ_ _ _=>trivial)).2 i b
def Gd (b i:Int):Prop:=(0<=i/\i<4)/\i≠b
def gds (b:Int):L_:=[0,1,2,3].filter λj=>decide (j≠b)
def Pz (b:Int):Nat->List (L_)
 | 0=>[]
 | s+1=>(gds b).map λj=>(⟨j,(s:Int)+1,[],Pz b s,[]⟩:CV).d
def Hx (b:Int)(r:Nat)(j:Int):CV:=⟨j,(r:Int)+1,[],Pz b r,[]⟩
theorem zEx {a c:CV}(h:txL a.d=txL c.d):a.d=c.d:=(zx1 (CV.d_u8 a) (CV.d_u8 c)).1 h
structure Leg (b:Int)(A:Nat)(c:CV):Prop where
 au:Gd b c.au
 f:c.f=0
 rd:∃r:Nat,r<A/\c.rd=(r:Int)+1/\c.bl=[]/\c.pl=Pz b r
theorem k2 {P:Prop}:(2:Int)=1->P:=λh=>absurd h (by decide)
theorem k3 {P:Prop}:(3:Int)=1->P:=λh=>absurd h (by decide)
theorem k4 {P:Prop}:(4:Int)=1->P:=λh=>absurd h (by decide)
theorem k5 {P:Prop}:(5:Int)=1->P:=λh=>absurd h (by decide)
variable {au:Int}
theorem zDc {nx:Int}(b:zaO nx []=0)(c:0<=au/\au<4):zb4 nx [] au≠0:=by
 rw[zlA b,zcV,iN_ (by omega),iP_ (show([]:Z_).length=0 from rfl)]
 decide
theorem zBe:∀(n:Nat) (l:List Nat),l.Nodup->(∀x∈l,x<n)->l.length<=n
 | 0,l,_,h=>by
  cases l with
  | nil=>exact nR_ _
  | cons x l=>exact absurd (h x (by simp)) (by omega)
 | n+1,l,hd,h=>by
  by_cases hm:n∈l
  .have c:=zBe n (l.erase n) (hd.erase n) (λx b=>by
    have d:=(List.Nodup.mem_erase_iff hd).1 b
    have:=h x d.2;omega)
   rw[List.length_erase_of_mem hm]at c
   omega
  .have:=zBe n l hd (λx b=>by
    have:=h x b
    have:x≠n:=λe=>hm (by rw[<-e];exact b)
    omega)
   omega
theorem zB6 {l:List CV}(h:zbV l=0){x y:Nat}(p:y<l.length)(o:x<y)(d:(zaM l x).au=(zaM l y).au)(f:(zaM l x).rd=(zaM l y).rd):False:=by
 have b:zgH l y=false:=by
  unfold zbV at h
  split at h
  cases h
  rename_i g
  simp only[not_or,Bool.not_eq_true]at g;have:=List.any_eq_false.1 g.2 y (List.mem_range.2 p)
  simpa using this
 unfold zgH at b;simp only[Bool.or_eq_false_iff,decide_eq_false_iff_not,ne_eq,Decidable.not_not]at b;have j:=zoy b.2;have m:x<(l.take y).length:=by rw[lT9_];omega
 have c:zfp (l.take y) (zaM l y).au (zaM l y).rd x=false:=zqP _ _ j x m;rw[zfp,zBY l y x o,dT_ ⟨d,f⟩]at c;cases c
theorem zCc {o:No}(d:zbF o.sg=0)(b:-1<=o.bad/\o.bad<=3){i:Int}{s:SV}(c:gF (i,s.1,s.2.1,s.2.2)=0)(h:(i,s)∈o.sg):o.signed i s=true:=by
 unfold No.signed;rw[zlw (zw4 d b) c];simp[h]
theorem zDI {l:L_}(c:l.length=3)(b:l.Nodup)(h:∀v∈l,0<=v/\v<4):zep (zhH l)=0/\(zhH l).length=3:=by
 match l,c with
 | [x,y,z],_=>
  have d:=h x (by simp);have f:=h y (by simp);have g:=h z (by simp);have j:∀x∈([0,1,2,3]:L_),∀y∈([0,1,2,3]:L_),∀z∈([0,1,2,3]:L_),[x,y,z].Nodup->zep (zhH [x,y,z])=0/\(zhH [x,y,z]).length=3:=by decide
  have zsL:∀v:Int,0<=v/\v<4->v∈([0,1,2,3]:L_):=λv m=>by
   simp only[List.mem_cons,List.not_mem_nil,or_false];omega
  exact j x (zsL x d) y (zsL y f) z (zsL z g) b
theorem zDJ (x v:Int)(l:L_):v∈zmt x l↔v=x\/v∈l:=by
 induction l with
 | nil=>simp[zmt]
 | cons y l ih=>
  rw[zmt]
  split
  simp
  rw[List.mem_cons,ih,List.mem_cons]
  constructor
  rintro(h|h|h)<;>simp[h];rintro(h|h|h)<;>simp[h]
theorem zDu (v:Int)(l:L_):v∈zhH l↔v∈l:=by
 induction l with
 | nil=>rfl
 | cons y l ih=>
  show v∈zmt y (zhH l)↔_;rw[zDJ,ih,List.mem_cons]
def MsW (b:Int)(A:Nat)(i:Int)(o:No)(x:MC):Prop:=
 x.fr=i/\((x.ki=2/\∃r,r<A/\x.h=Hx b r i)\/(x.ki=3/\∃j r,Gd b j/\r<A/\x.s=(Hx b r j).slot)\/(x.ki=4/\Leg b A x.ct/\zzQ o x.ct)\/x.ki=5)
structure NB (b:Int)(L:Nat)(i:Int)(n:Nd):Prop where
 nu:n.nu=i
 up:n.up=true
 sh:n.k.sh=[]
 tx:n.txs=[]
 leg:∀c∈n.k.dag,Leg b (L+1) c
 all:∀j,Gd b j->∀r:Nat,r<L->0<=cOf n.k.dag j ((r:Int)+1)
 uq:zbV n.k.dag=0
 tab:∀s∈n.k.tab,∃j r,Gd b j/\r<L+1/\s=(Hx b r j).slot
structure NO (b:Int)(L:Nat)(i:Int)(o:No)(n:Nd):Prop where
 own:n.k.own=Hx b L i
 slot:n.k.slot=(Hx b L i).slot
 vin:i∈n.vot
 vnd:n.vot.Nodup
 vgd:∀v∈n.vot,Gd b v/\(v,(Hx b L i).slot)∈o.sg
 few:n.vot.length<3\/0<=cOf n.k.dag i ((L:Int)+1)
structure Gen (b i:Int)(o:No)(n:Nd):Prop where
 hb:-1<=b/\b<=3
 bad:o.bad=b
 sg:zbF o.sg=0
 wt:zAP i n
 kg:zji n.k
 pr:∀c∈n.k.dag,zzQ o c
theorem Gen.room {b:Int}{o:No}{n:Nd}(g:Gen b i o n)(d:n.k.sh=[]){m:MC}(c:m.onTape.length<=325):n.room m=true:=g.wt.room (by rw[d];exact nZ_ _) c
structure Res (b:Int)(L:Nat)(i:Int)(o:No)(w:Nat)(vt:Bool)(n n':Nd):Prop where
 nb:NB b L i n'
 no:NO b L i o n'
 wai:∃e,n'.wai=n.wai++e/\e.length<=w/\∀x∈e,MsW b (L+1) i o x/\((x.ki=4/\x.ct∈n'.k.dag)\/(x.ki=3/\vt=true))
theorem Gen.proofs {b:Int}{o:No}{n:Nd}(g:Gen b i o n)(j:n.k.sh=[]){c:CV}(f:za8 n.k.dag c=0)(d:zzQ o c):n.proofs o c=true:=by
 unfold Nd.proofs No.proven;rw[g.room j (zC1 d.1),dT_ f,dT_ (zDs d g.sg (by rw[g.bad];exact g.hb))]
 rfl
theorem zBT (m:MC){n:Nd}{d:Nat}(f:(d:Int)≠n.nu):∀j:Nat,d<j->n.wai.length+j<=400->m.ft n.nu d∈(n.sendTo m j).wai
 | 0,h,_=>absurd h (by omega)
 | j+1,h,hl=>by
  obtain⟨g,b⟩:=zDr n m j
  show _∈((n.sendTo m j).send (j:Int) m).wai
  by_cases e:d=j
  .subst e
   unfold Nd.send
   rw[iN_ (by rw[b];omega),b]
   exact mA_.2 (.inr (mS_.2 rfl))
  .obtain⟨e,c,_⟩:=zBq (n.sendTo m j) (j:Int) m
   rw[c]
   exact mA_.2 (.inl (zBT m f j (by omega) (by omega)))
def wgt (m:MC):Nat:=if m.ki=2 then 1 else if m.ki=3 then 3 else if m.ki=5 then 8 else 0
def zES (k:Int)(l:List MC):Nat:=(l.filter λm=>decide (m.ki=k)).length
def CP (b:Int)(L:Nat)(i:Int)(o:No)(n:Nd):Prop:=0<=cOf n.k.dag i ((L:Int)+1)->∃c,c.au=i/\c.rd=(L:Int)+1/\Leg b (L+1) c/\zzQ o c/\∀k:Nat,k<4->(k:Int)≠i->(zdh c).ft i k∈n.wai
structure HR (b:Int)(L:Nat)(i:Int)(o:No)(B C:Nat)(m:MC)(n n':Nd):Prop where
 res:Res b L i o (wgt m) (decide (m.ki=2)) n n'
 vot:∀v∈n.vot,v∈n'.vot
 dag:∃e,n'.k.dag=n.k.dag++e
 one:B<=L->C<=L->n'.k.dag=n.k.dag/\n'.vot=n.vot
 two:C<=L->∀c∈n'.k.dag,c∈n.k.dag\/c.au=i
 cp:C<=L->n.wai.length<=390->CP b L i o n->CP b L i o n'
 po:m.ki=2->m.fr≠i->n.wai.length<400->(zcE m.h.slot).ft i m.fr∈n'.wai
 pv:m.ki=3->m.s=(Hx b L i).slot->m.fr∈n'.vot\/0<=cOf n'.k.dag i ((L:Int)+1)
 pp:m.ki=4->0<=cOf n'.k.dag m.ct.au m.ct.rd
def Rch (b:Int)(f:Fl):Prop:=∃l:List Ac,(∀a∈l,a.ok)/\f=(Fl.z b).run l
theorem Rch.does {b:Int}{f:Fl}(h:Rch b f){a:Ac}(c:a.ok):Rch b (f.does a):=by
 obtain⟨l,d,rfl⟩:=h;exact⟨l++[a],(λx g=>by
  rcases mA_.1 g with q|q
  .exact d x q
  .rw[mS_.1 q];exact c),by rw[Fl.zwo]⟩
theorem Rch.safe {b:Int}{f:Fl}(h:Rch b f):zgO f:=by
 obtain⟨l,c,rfl⟩:=h;exact zgO.run l (zgO.z b) c
theorem Rch.len {b:Int}{f:Fl}(h:Rch b f):f.nd.length=4:=by
 obtain⟨l,c,rfl⟩:=h;exact zjf b l
theorem Rch.bad {b:Int}{f:Fl}(h:Rch b f):f.no.bad=b:=by
 obtain⟨l,c,rfl⟩:=h;exact zxU l _
theorem Rch.gen {b:Int}(m:-1<=b/\b<=3){f:Fl}(h:Rch b f){i:Int}(d:0<=i/\i<4):Gen b i f.no (f.node i):=by
 have j:=h.safe;refine⟨m,h.bad,?_,?_,(j.good i d).now,λc o=>j.proven d o⟩;obtain⟨l,g,rfl⟩:=h;exact zEv l _ g (by rfl);obtain⟨l,g,rfl⟩:=h;exact zEw b l g d
def tkA:Ac:=⟨4,0,0,ByteArray.empty⟩
theorem zpJ:tkA.ok:=zzP (by decide) (by decide) (by decide)
theorem zC2 {f:Fl}{m:MC}{l:List MC}(h:f.away=m::l):f.does tkA={ f.come m.tt m with away:=l }:=by
 have e:f={ f with away:=m::l }:=by rw[<-h]
 rw[zuX (.inl rfl)];show f.pick 4 0=_;rw[e,zsT,<-e]
theorem zDK {f:Fl}(h:f.away=[]):f.flow=f:=by
 rw[zfw,h];show({ f with away:=[] }:Fl)=f;rw[<-h]
theorem zDv {f:Fl}{m:MC}{l:List MC}(h:f.away=m::l):f.flow=(f.does tkA).flow:=by
 rw[zC2 h,zfw,zfw,h];show comes (({ f with away:=[] }:Fl).come m.tt m) l=comes { f.come m.tt m with away:=[] } l;rw[zfD]
def zET (n:Nd):Nat:=n.wai.length
def zEU (n:Nd):Nat:=zES 3 n.wai
def tot (b:Int)(p:Nd->Nat)(f:Fl):Nat:=(if 0=b then 0 else p (f.node 0))+(if 1=b then 0 else p (f.node 1))+(if 2=b then 0 else p (f.node 2))+(if 3=b then 0 else p (f.node 3))
def kk (i:Int)(j:Nat):Nat:=if i<(j:Int)then j-1 else j
variable {g:GV}
theorem zC3 {l:List GV}(h:zbF l=0)(b:gF g=0):g∈zfS l g:=by
 unfold zfS
 split
 assumption
 rename_i q
 have e:zec l g=(l++[g],0):=by unfold zec;rw[iN_ (by simpa using h),iN_ (by simpa using b),iN_ q]
 rw[e,iP_ rfl]
 simp
theorem zEy {f:Fl}(x:MC)(h:zbF f.no.sg=0):(x.ki=2->x.h.hf=0->gF (x.fr,x.h.slot)=0->(x.fr,x.h.slot)∈(f.out x).no.sg)/\(x.ki=3->gF (x.fr,x.s)=0->(x.fr,x.s)∈(f.out x).no.sg):=by
 refine⟨λk c b=>?_,λk b=>?_⟩;show _∈(f.no.sign x).sg;unfold No.sign;rw[iP_ k,iP_ c];exact zC3 h b;show _∈(f.no.sign x).sg;unfold No.sign;rw[iN_ (by omega),iP_ k];exact zC3 h b
theorem zC4:∀(l:List MC) {f:Fl},zbF f.no.sg=0->f.away.length+l.length<=400 ->
  (l.foldl Fl.out f).away=f.away++l/\∀x∈l,(x.ki=2->x.h.hf=0->gF (x.fr,x.h.slot)=0->(x.fr,x.h.slot)∈(l.foldl Fl.out f).no.sg)/\(x.ki=3->gF (x.fr,x.s)=0->(x.fr,x.s)∈(l.foldl Fl.out f).no.sg)
 | [],f,_,_=>⟨by simp,λx d=>by cases d⟩
 | m::l,f,h,hl=>by
  rw[List.length_cons]at hl
  have g:(f.out m).away=f.away++[m]:=by
   show zct f.away m=_;unfold zct;rw[iP_ (by omega)]
  obtain⟨r,s⟩:=zC4 l (f:=f.out m) (zCZ h m) (by rw[g,lP_];simp;omega);rw[List.foldl_cons];refine⟨by rw[r,g,List.append_assoc];rfl,λx d=>?_⟩;rcases List.mem_cons.1 d with q|q
  .subst q;obtain⟨e,j⟩:=zCX l (f.out x);obtain⟨o,p⟩:=zEy x h;rw[j];exact⟨λa b c=>mA_.2 (.inl (o a b c)),λa b=>mA_.2 (.inl (p a b))⟩
  .exact s x q
theorem zEi {b:Int}{f:Fl}(C:-1<=b/\b<=3)(h:Rch b f){i:Int}(c:Gd b i)(I:(f.node i).up=true)(J:(f.node i).work.up=true)(t:ByteArray)(E:f.away.length+(f.node i).work.wai.length<=400) :
  ∃g,g=(f.does ⟨2,i,0,t⟩).does ⟨3,i,0,t⟩/\Rch b g/\(∀x∈(f.node i).work.wai,x.fr=i/\0<=x.tt/\x.tt<4)/\(∃s,g.node i={ (f.node i).work with wai:=[],syn:=s })/\(∀j,0<=j->j≠i->g.node j=f.node j)/\g.away=f.away++(f.node i).work.wai/\(∃e,g.no.sg=f.no.sg++e) /\
   ∀x∈(f.node i).work.wai,(x.ki=2->x.h.hf=0->gF (x.fr,x.h.slot)=0->(x.fr,x.h.slot)∈g.no.sg)/\(x.ki=3->gF (x.fr,x.s)=0->(x.fr,x.s)∈g.no.sg):=by
 have p:=h.len;have y:i≠f.no.bad:=by rw[h.bad];exact c.2
 have F:f.runs i=true:=by rw[ziy y];exact I
 have m:f.does ⟨2,i,0,t⟩=f.set i (f.node i).work:=by rw[zBd rfl];show(if f.runs i then _ else _)=_;rw[F,iP_ rfl]
 have l:(f.set i (f.node i).work).node i=(f.node i).work:=set_here _ p c.1;have G:(f.set i (f.node i).work).runs i=true:=by rw[ziy (by rw[zCM];exact y),l];exact J
 have A:(f.does ⟨2,i,0,t⟩).does ⟨3,i,0,t⟩=(f.set i (f.node i).work).sync i:=by
  rw[m,zgB rfl];show(if(f.set i (f.node i).work).runs i then _ else _)=_;rw[G,iP_ rfl]
 have H:Rch b ((f.does ⟨2,i,0,t⟩).does ⟨3,i,0,t⟩):=(h.does (zzP (by decide) c.1 (by decide))).does (zzP (by decide) c.1 (by decide));have z:=(h.does (a:=⟨2,i,0,t⟩) (zzP (by decide) c.1 (by decide))).safe.ok.posts.2 i c.1;rw[m,l]at z;refine⟨_,rfl,H,z.fr,?_⟩;rw[A];unfold Fl.sync;rw[l];obtain⟨d,o⟩:∃d:Nd,d={ (f.node i).work with wai:=[],syn:=(zae (f.node i).work.recs).length }:=⟨_,rfl⟩;rw[<-o];have B:(f.set i (f.node i).work).nd.length=4:=by rw[zau];exact p
 have u:∀j,((f.node i).work.wai.foldl Fl.out ((f.set i (f.node i).work).set i d)).node j=((f.set i (f.node i).work).set i d).node j:=λj=>zev (zdO _ _) j;obtain⟨L,M⟩:=zC4 (f.node i).work.wai (f:=(f.set i (f.node i).work).set i d) ((h.gen C c.1).sg) E;refine⟨⟨_,by rw[u,set_here _ B c.1,o]⟩,λj q r=>by rw[u,set_there _ c.1.1 q r,set_there _ c.1.1 q r],L,?_,M⟩;obtain⟨e,D⟩:=zCX (f.node i).work.wai ((f.set i (f.node i).work).set i d);exact⟨e,D⟩
structure Bd (b:Int)(L B C:Nat)(f:Fl):Prop where
 re:Rch b f
 aw:f.away=[]
 nb:∀i,Gd b i->NB b L i (f.node i)
 wa:∀i,Gd b i->∀x∈(f.node i).wai,(x.ki=4/\Leg b C x.ct/\zzQ f.no x.ct)\/(x.ki=3/\∃j r,Gd b j/\r<B/\x.s=(Hx b r j).slot)
 tl:tot b zET f<=80
 tv:tot b zEU f<=12
theorem zDd {b:Int}{f:Fl}(h:Rch b f){i:Int}(c:0<=i/\i<4)(m:(f.node i).txs=[])(j:(f.node i).nu=i):(f.node i).gather=f.node i:=by
 obtain⟨l,g,rfl⟩:=h;have d:=((zah.run zCs l (zcn.z b) (zBc.z b) g (λ_ _ _=>trivial)).2 i c).pool;unfold Nd.gather;rw[m]at d|-;rw[iP_ (zDc d (by rw[j];exact c))]
def zBL:List AV:=zfg 4++[⟨10,0,0,⟨#[]⟩⟩]
theorem zEj (f:Fl):f.run (zBL.map AV.ac)=(f.run ((zfg 4).map AV.ac)).flow:=by
 unfold zBL;rw[List.map_append,Fl.run_append];show(f.run ((zfg 4).map AV.ac)).does ⟨10,0,0,⟨#[]⟩⟩=_;exact zuY rfl
structure P1 (b:Int)(L:Nat)(f:Fl):Prop where
 bd:Bd b L (L+1) L f
 lo:∀i,Gd b i->∀c∈(f.node i).k.dag,Leg b L c
 no:∀i,Gd b i->NO b L i f.no (f.node i)
 vt:∀i,Gd b i->(f.node i).vot=[i]
 vs:∀i j,Gd b i->Gd b j->j≠i->(zcE (Hx b L j).slot).ft i j∈(f.node i).wai
theorem other :∃k:Nat,k<4/\(k:Int)≠i:=by
 by_cases h:i=0;exact⟨1,by omega,by omega⟩;exact⟨0,by omega,by omega⟩
structure Am where
 (fr tt ki ky:Nat)
structure An where
 (own:Nat) (vot:List Nat) (dag:Nat) (wai:List Am) (trn:Nat) (up:Bool)
structure Af where
 (nd:List An) (aw:List Am) (ok:Bool)
def zaI (d k:Nat):Bool:=Nat.beq (Nat.land (Nat.shiftRight d k) 1) 1
def zaR (e k:Nat):Nat:=Nat.land (Nat.shiftRight e (Nat.mul 4 k)) 15
def zDL (e k:Nat):Nat:=Nat.shiftLeft (zaR e k) (Nat.sub (Nat.mul 4 (Nat.div k 4)) 4)
def zkQ (e d k:Nat):Bool:=Nat.beq (Nat.land d (zDL e k)) (zDL e k)
def An.send (n:An)(nu to_ ki ky:Nat):An:=bif Nat.beq to_ nu then n else { n with wai:=⟨nu,to_,ki,ky⟩::n.wai }
def An.sendAll (n:An)(nu ki ky:Nat):An:=(((n.send nu 0 ki ky).send nu 1 ki ky).send nu 2 ki ky).send nu 3 ki ky
def An.hearO (e nu:Nat)(n:An)(k:Nat):An:=bif Nat.beq (Nat.mod k 4) nu then n else bif zkQ e n.dag k then n.send nu (Nat.mod k 4) 3 k else n
def An.add (n:An)(k:Nat):An:={ n with dag:=Nat.lor n.dag (Nat.shiftLeft 1 k) }
def An.hearP (e:Nat)(n:An)(k:Nat):An:=bif zaI n.dag k then n else bif zkQ e n.dag k then n.add k else n
def zAg (x:Nat):List Nat->Bool
 | []=>false
 | y::l=>bif Nat.beq x y then true else zAg x l
def An.hearV (nu:Nat)(n:An)(fr k:Nat):An:=
 bif Nat.beq n.own 0 then n else bif Nat.beq k (Nat.add (Nat.mul 4 n.own) nu)then
  (bif zaI n.dag k then n else bif zAg fr n.vot then n else bif Nat.ble 2 n.vot.length then(({ n with vot:=n.vot++[fr] }:An).add k).sendAll nu 4 k else { n with vot:=n.vot++[fr] })
 else n
def zzX:Nat->Nat->Nat->List Nat
 | 0,_,_=>[]
 | f+1,s,k=>bif Nat.beq s 0 then []else bif Nat.beq (Nat.land s 1) 1 then k::zzX f (Nat.shiftRight s 1) (Nat.succ k)else zzX f (Nat.shiftRight s 1) (Nat.succ k)
def An.tell (nu fr:Nat)(n:An):List Nat->An
 | []=>n
 | k::l=>(n.send nu fr 4 k).tell nu fr l
def An.hearW (nu:Nat)(n:An)(fr r:Nat):An:=n.tell nu fr ((zzX 60 (Nat.shiftRight n.dag (Nat.mul 4 r)) (Nat.mul 4 r)).take 8)
def An.hear (e nu:Nat)(n:An)(m:Am):An:=
 bif Nat.beq m.ki 2 then n.hearO e nu m.ky else bif Nat.beq m.ki 3 then n.hearV nu m.fr m.ky else bif Nat.beq m.ki 4 then n.hearP e m.ky else n.hearW nu m.fr m.ky
def zA6 (m:Nat):Nat:=Nat.add (Nat.add (Nat.add (Nat.land m 1) (Nat.land (Nat.shiftRight m 1) 1)) (Nat.land (Nat.shiftRight m 2) 1)) (Nat.land (Nat.shiftRight m 3) 1)
def zAj (d:Nat):Nat->Nat->Nat
 | 0,r=>r
 | f+1,r=>bif Nat.ble 3 (zA6 (zaR d r))then zAj d f (Nat.succ r)else r
def An.again (nu:Nat)(n:An):Nat->An
 | 0=>n
 | j+1=>bif zAg j n.vot then n.again nu j else(n.again nu j).send nu j 2 (Nat.add (Nat.mul 4 n.own) nu)
def An.due (nu:Nat)(n:An)(r:Nat):An:=
 bif Nat.blt n.own r then({ n with own:=r,vot:=[nu] }:An).sendAll nu 2 (Nat.add (Nat.mul 4 r) nu)else bif zaI n.dag (Nat.add (Nat.mul 4 n.own) nu)then n else n.again nu 4
def nx4 (x:Nat):Nat:=Nat.mod (Nat.succ x) 4
def zBs (nu t:Nat):Nat:=bif Nat.beq (nx4 t) nu then nx4 (nx4 t)else nx4 t
def An.ask (nu:Nat)(n:An)(r:Nat):An:=({ n with trn:=zBs nu n.trn }:An).send nu (zBs nu n.trn) 5 (bif Nat.ble r 2 then 1 else Nat.pred r)
def An.next (n:An):Nat:=zAj n.dag 15 1
def An.work (nu:Nat)(n:An):An:=(n.due nu n.next).ask nu n.next
def okK (e k:Nat):Bool:=Nat.ble 4 k&&(Nat.ble k 59&&(bif Nat.ble k 7 then Nat.beq (zaR e k) 0 else Nat.ble 3 (zA6 (zaR e k))))
def An.fine (e nu:Nat)(n:An):Bool:=(Nat.ble n.next 13&&Nat.ble n.wai.length 100)&&(bif Nat.blt n.own n.next then Nat.beq (zaR e (Nat.add (Nat.mul 4 n.next) nu)) (zaR n.dag (Nat.pred n.next))&&okK e (Nat.add (Nat.mul 4 n.next) nu)else true)
def An.z:An:=⟨0,[],0,[],0,false⟩
def Af.node (a:Af)(i:Nat):An:=a.nd.getD i An.z
def Af.set (a:Af)(i:Nat)(n:An):Af:={ a with nd:=a.nd.set i n }
def Af.runs (b:Nat)(a:Af)(i:Nat):Bool:=bif Nat.beq i b then false else(a.node i).up
def Af.pair (e b:Nat)(a:Af)(i:Nat):Af:=
 bif a.runs b i then⟨a.nd.set i { (a.node i).work i with wai:=[] },((a.node i).work i).wai++a.aw,a.ok&&((a.node i).fine e i&&Nat.ble (Nat.add a.aw.length ((a.node i).work i).wai.length) 400)⟩else a
def Af.come (e b:Nat)(a:Af)(m:Am):Af:=bif a.runs b m.tt then a.set m.tt ((a.node m.tt).hear e m.tt m)else a
def Af.flow (e b:Nat)(a:Af):Af:=(a.aw.reverse.take 400).foldl (Af.come e b) { a with aw:=[] }
def Af.rnd (e b:Nat)(a:Af):Af:=((((a.pair e b 0).pair e b 1).pair e b 2).pair e b 3).flow e b
def Af.rnds (e b:Nat)(a:Af):Nat->Af
 | 0=>a
 | k+1=>(a.rnds e b k).rnd e b
def Af.start (b:Nat)(a:Af)(i:Nat):Af:=bif Nat.beq i b then a else a.set i { a.node i with up:=true }
def Af.starts (b:Nat)(a:Af):Af:=(((a.start b 0).start b 1).start b 2).start b 3
def Af.z (i:Nat):Af:=⟨(List.replicate 4 { An.z with up:=true }).set i An.z,[],true⟩
def zDe (i:Nat)(a:Af):Bool:=(a.ok&&((a.node i).up == false))&&Nat.beq (a.node i).next 1
def zDf (b i:Nat)(a:Af):Bool:=(a.ok&&Nat.blt 3 ((a.node i).next))&&((List.range 4).all λj=>Nat.beq j b||(Nat.ble (a.node j).next 14&&Nat.ble (a.node j).next (Nat.succ (a.node i).next)))
def Af.good (e b i k:Nat):Bool:=zDe i ((Af.z i).rnds e b k)&&zDf b i ((((Af.z i).rnds e b k).starts b).rnds e b 16)
variable {k:Nat}
theorem zlJ {x y:Nat}:Nat.beq x y=true↔x=y:=by rw[Nat.beq_eq]
theorem zAK {x y:Nat}(h:x≠y):Nat.beq x y=false:=by
 cases q:Nat.beq x y with
 | true=>exact absurd (zlJ.1 q) h
 | false=>rfl
theorem zEF {x y:Nat}(h:Nat.beq x y=false):x≠y:=λe=>by rw[zlJ.2 e]at h;cases h
theorem zl4 {x y:Nat}:Nat.ble x y=true↔x<=y:=by rw[Nat.ble_eq]
theorem zCw {x y:Nat}(h:Nat.ble x y=false):y<x:=by
 rcases lG_ y x with q|q;exact q;rw[zl4.2 q]at h;cases h
theorem zic (d k:Nat):zaI d k=d.testBit k:=by
 unfold zaI;rw[Nat.testBit_eq_decide_div_mod_eq];have h:Nat.land (Nat.shiftRight d k) 1=d / 2 ^ k % 2:=by
  show(d >>> k) &&& 1=_;rw[Nat.and_one_is_mod,Nat.shiftRight_eq_div_pow]
 rw[h];by_cases q:d / 2 ^ k % 2=1;rw[q];rfl;rw[dF_ q,zAK q]
theorem zBM (k:Nat):zaI 0 k=false:=by rw[zic,Nat.zero_testBit]
theorem zBC (d k j:Nat):zaI (Nat.lor d (Nat.shiftLeft 1 k)) j=(zaI d j||decide (k=j)):=by
 rw[zic,zic];show(d ||| 1 <<< k).testBit j=_;rw[Nat.testBit_or,Nat.one_shiftLeft,Nat.testBit_two_pow]
theorem zBD (e k p:Nat):zaI (zaR e k) p=(zaI e (4*k+p)&&decide (p<4)):=by
 rw[zic,zic];show((e >>> (4*k)) &&& 15).testBit p=_;rw[Nat.testBit_and,Nat.testBit_shiftRight]
 congr 1
 have h:(15:Nat)=2 ^ 4-1:=rfl;rw[h,Nat.testBit_two_pow_sub_one]
def zdV (m:Nat):List Nat:=[0,1,2,3].filter λp=>zaI m p
theorem zA4 {m p:Nat}:p∈zdV m↔p<4/\zaI m p=true:=by
 unfold zdV;rw[List.mem_filter];simp only[List.mem_cons,List.not_mem_nil,or_false]
 constructor
 rintro⟨h,g⟩;exact⟨by omega,g⟩;rintro⟨h,g⟩;exact⟨by omega,g⟩
theorem zDw (m:Nat):(zdV m).Nodup:=List.Pairwise.filter _ (by decide)
theorem zDx (m:Nat):(zdV m).length<=4:=List.length_filter_le _ _
theorem zBU (m p:Nat):Nat.land (Nat.shiftRight m p) 1=if zaI m p=true then 1 else 0:=by
 unfold zaI;have h:Nat.land (Nat.shiftRight m p) 1<2:=by
  show(m >>> p) &&& 1<2;rw[Nat.and_one_is_mod];omega
 rcases(by omega:Nat.land (Nat.shiftRight m p) 1=0\/Nat.land (Nat.shiftRight m p) 1=1)with e|e<;>rw[e]<;>rfl
theorem zCC (m:Nat):zA6 m=(if zaI m 0=true then 1 else 0)+(if zaI m 1=true then 1 else 0)+(if zaI m 2=true then 1 else 0)+(if zaI m 3=true then 1 else 0):=by
 rw[<-zBU,<-zBU,<-zBU,<-zBU];rfl
theorem zEk (m:Nat):(zdV m).length=zA6 m:=by
 rw[zCC];unfold zdV;by_cases h0:zaI m 0=true<;>by_cases h1:zaI m 1=true<;>by_cases h2:zaI m 2=true<;>by_cases h3:zaI m 3=true<;>simp[h0,h1,h2,h3]
theorem zDM {m:Nat}(h:m=0):zdV m=[]:=by
 rw[h];rfl
theorem zBt {e d:Nat}(s:4<=k):zkQ e d k=true↔∀p∈zdV (zaR e k),zaI d (4*(k / 4-1)+p)=true:=by
 have o:Nat.sub (Nat.mul 4 (Nat.div k 4)) 4=4*(k / 4-1):=by show 4*(k / 4)-4=_;omega
 unfold zkQ zDL;rw[o,zlJ];have g:∀j,(Nat.shiftLeft (zaR e k) (4*(k / 4-1))).testBit j=(decide (4*(k / 4-1)<=j)&&zaI (zaR e k) (j-4*(k / 4-1))):=λj=>by
  rw[zic];show((zaR e k) <<< (4*(k / 4-1))).testBit j=_;rw[Nat.testBit_shiftLeft]
 constructor
 intro h p m;obtain⟨t,r⟩:=zA4.1 m;have c:=cA_ (λx=>Nat.testBit x (4*(k / 4-1)+p)) h;have b:(Nat.land d (Nat.shiftLeft (zaR e k) (4*(k / 4-1)))).testBit (4*(k / 4-1)+p)=(d.testBit (4*(k / 4-1)+p)&&(Nat.shiftLeft (zaR e k) (4*(k / 4-1))).testBit (4*(k / 4-1)+p)):=Nat.testBit_and _ _ _;rw[b,g,Nat.add_sub_cancel_left,r,dT_ (Nat.le_add_right _ _)]at c;rw[zic]
 simpa using c
 intro h;refine Nat.eq_of_testBit_eq λj=>?_;have b:(Nat.land d (Nat.shiftLeft (zaR e k) (4*(k / 4-1)))).testBit j=(d.testBit j&&(Nat.shiftLeft (zaR e k) (4*(k / 4-1))).testBit j):=Nat.testBit_and _ _ _;rw[b,g];by_cases q:4*(k / 4-1)<=j/\zaI (zaR e k) (j-4*(k / 4-1))=true;have l:j-4*(k / 4-1)<4:=by
  have:=q.2;rw[zBD,Bool.and_eq_true,dE_]at this;exact this.2
 have f:=h _ (zA4.2 ⟨l,q.2⟩);rw[Nat.add_sub_cancel' q.1,zic]at f;rw[f,q.2,dT_ q.1];rfl;have:(decide (4*(k / 4-1)<=j)&&zaI (zaR e k) (j-4*(k / 4-1)))=false:=by
  rw[Bool.and_eq_false_iff,decide_eq_false_iff_not];by_cases p:4*(k / 4-1)<=j;exact .inr (by simpa using λz=>q ⟨p,z⟩);exact .inl p
 rw[this,Bool.and_false]
theorem zBV {e d j:Nat}(b:4<=k)(h:zkQ e d k=true):zkQ e (Nat.lor d (Nat.shiftLeft 1 j)) k=true:=by
 rw[zBt b]at h|-;intro p c;rw[zBC,h p c];rfl
theorem zCD:∀(f s k j:Nat),s<2 ^ f->(j∈zzX f s k↔k<=j/\zaI s (j-k)=true)
 | 0,s,k,j,h=>by
  have:s=0:=by omega
  subst this
  rw[zBM]
  simp[zzX]
 | f+1,s,k,j,h=>by
  have l:Nat.shiftRight s 1=s / 2:=by show s >>> 1=_;rw[Nat.shiftRight_eq_div_pow]
  have c:∀x,zaI s (x+1)=zaI (s / 2) x:=λx=>by
   rw[zic,zic,Nat.testBit_succ]
  have m:=zCD f (s / 2) (k+1) j (by rw[Nat.pow_succ]at h;omega)
  unfold zzX
  by_cases h0:s=0
  .subst h0
   rw[zBM]
   simp
  .rw[zAK h0]
   rw[l]
   have g:Nat.beq (Nat.land s 1) 1=zaI s 0:=by unfold zaI;rfl
   rw[g]
   have d:j∈zzX f (s / 2) (Nat.succ k)↔k+1<=j/\zaI s (j-k)=true:=by
    rw[show Nat.succ k=k+1 from rfl,m]
    constructor
    .rintro⟨a,b⟩;refine⟨a,?_⟩;rw[show j-k=(j-(k+1))+1 by omega,c];exact b
    .rintro⟨a,b⟩;refine⟨a,?_⟩;rw[show j-k=(j-(k+1))+1 by omega,c]at b;exact b
   cases hb0:zaI s 0 with
   | true=>
    show j∈k::zzX f (s / 2) (Nat.succ k)↔_;rw[List.mem_cons,d]
    constructor
    .rintro(e|⟨a,b⟩)
     .subst e;exact⟨nR_ _,by rw[Nat.sub_self];exact hb0⟩
     .exact⟨by omega,b⟩
    .rintro⟨a,b⟩;by_cases e:j=k
     .exact .inl e
     .exact .inr ⟨by omega,b⟩
   | false=>
    show j∈zzX f (s / 2) (Nat.succ k)↔_;rw[d]
    constructor
    .rintro⟨a,b⟩;exact⟨by omega,b⟩
    .rintro⟨a,b⟩;refine⟨?_,b⟩;by_cases e:j=k
     .subst e;rw[Nat.sub_self,hb0]at b;cases b
     .omega
theorem zC5:∀(f s k:Nat),(zzX f s k).Pairwise (· < ·)/\∀j∈zzX f s k,k<=j
 | 0,s,k=>⟨List.Pairwise.nil,λj h=>by cases h⟩
 | f+1,s,k=>by
  obtain⟨d,c⟩:=zC5 f (Nat.shiftRight s 1) (Nat.succ k)
  unfold zzX
  cases Nat.beq s 0 with
  | true=>exact⟨List.Pairwise.nil,λj h=>by cases h⟩
  | false=>
   cases Nat.beq (Nat.land s 1) 1 with
   | true=>
    refine⟨List.Pairwise.cons (λj b=>?_) d,λj b=>?_⟩
    .exact c j b
    .rcases List.mem_cons.1 b with q|q
     .omega
     .have:=c j q;omega
   | false=>exact⟨d,λj b=>by have:=c j b;omega⟩
theorem zDy:∀(d f r:Nat),zAj d f r<r+f->r<=zAj d f r/\(∀s,r<=s->s<zAj d f r->3<=zA6 (zaR d s))/\zA6 (zaR d (zAj d f r))<3
 | d,0,r,h=>absurd h (by unfold zAj;omega)
 | d,f+1,r,h=>by
  unfold zAj at h|-
  cases q:Nat.ble 3 (zA6 (zaR d r))with
  | true=>
   rw[q]at h
   have h:zAj d f (Nat.succ r)<r+(f+1):=h
   obtain⟨a,b,c⟩:=zDy d f (Nat.succ r) (by omega)
   show r<=zAj d f (Nat.succ r)/\(∀s,r<=s->s<zAj d f (Nat.succ r)->_)/\zA6 (zaR d (zAj d f (Nat.succ r)))<3
   refine⟨by omega,λs j g=>?_,c⟩
   by_cases e:s=r
   .subst e;exact zl4.1 q
   .exact b s (by omega) g
  | false=>
   have q:¬3<=zA6 (zaR d r):=by have:=zCw q;omega
   exact⟨nR_ _,λs j g=>absurd g (by show ¬s<r;omega),by show zA6 (zaR d r)<3;omega⟩
theorem zBu (x:Nat)(l:List Nat):zAg x l=true↔x∈l:=by
 induction l with
 | nil=>simp[zAg]
 | cons y l ih=>
  unfold zAg;cases q:Nat.beq x y with
  | true=>rw[zlJ.1 q];simp
  | false=>
   have:x≠y:=zEF q;rw[List.mem_cons];show zAg x l=true↔_;rw[ih];exact⟨.inr,λh=>h.resolve_left this⟩
def Hq (e:Nat):Nat->Nat->CV
 | 0,a=>⟨(a:Int),0,[],[],[]⟩
 | r+1,a=>⟨(a:Int),((r+1:Nat):Int),[],(zdV (zaR e (4*(r+1)+a))).map λp=>(Hq e r p).d,[]⟩
def Hd (e k:Nat):CV:=Hq e (k / 4) (k % 4)
theorem zAW {e:Nat}(g:4<=k):Hd e k=⟨((k % 4:Nat):Int),((k / 4:Nat):Int),[],(zdV (zaR e k)).map λp=>(Hd e (4*(k / 4-1)+p)).d,[]⟩:=by
 obtain⟨r,b⟩:∃r,k / 4=r+1:=⟨k / 4-1,by omega⟩;have c:4*(r+1)+k % 4=k:=by omega
 have d:(zdV (zaR e k)).map (λp=>(Hd e (4*r+p)).d)=(zdV (zaR e k)).map λp=>(Hq e r p).d:=List.map_congr_left λp f=>by
  have:=(zA4.1 f).1;unfold Hd;rw[show(4*r+p) / 4=r by omega,show(4*r+p) % 4=p by omega]
 rw[b,Nat.add_sub_cancel,d];show Hq e (k / 4) (k % 4)=_;rw[b];show(⟨_,_,[],(zdV (zaR e (4*(r+1)+k % 4))).map _,[]⟩:CV)=_;rw[c]
structure EOk (e:Nat):Prop where
 cl:∀k,okK e k=true->∀p∈zdV (zaR e k),okK e (4*(k / 4-1)+p)=true
 inj:∀k j,okK e k=true->okK e j=true->(Hd e k).d=(Hd e j).d->k=j
theorem zfF {e:Nat}(h:okK e k=true):4<=k/\k<60/\(k<8->(zdV (zaR e k)).length=0)/\(8<=k->3<=(zdV (zaR e k)).length):=by
 unfold okK at h;simp only[Bool.and_eq_true]at h;obtain⟨b,d,c⟩:=h;have b:=zl4.1 b;have d:=zl4.1 d;cases q:Nat.ble k 7 with
 | true=>
  rw[q]at c;have q:=zl4.1 q;exact⟨b,by omega,λ_=>by rw[zDM (zlJ.1 c)];rfl,λ_=>by omega⟩
 | false=>
  rw[q]at c;have q:=zCw q;exact⟨b,by omega,λ_=>by omega,λ_=>by rw[zEk];exact zl4.1 c⟩
theorem zBf {e:Nat}(f:EOk e)(h:okK e k=true):(Hd e k).hf=0:=by
 obtain⟨u,B,y,z⟩:=zfF h;have A:=zDx (zaR e k);obtain⟨P,b⟩:∃P,P=(zdV (zaR e k)).map λp=>(Hd e (4*(k / 4-1)+p)).d:=⟨_,rfl⟩;have o:P.length=(zdV (zaR e k)).length:=by rw[b,List.length_map]
 have l:(pz P).length=P.length:=by simp[pz]
 have m:∀d∈P,d.length=32:=λd j=>by
  rw[b]at j;obtain⟨p,_,rfl⟩:=mM_.1 j;exact zbD _ _ _ _
 have c:Apt P:=by
  rw[b];unfold Apt;rw[List.pairwise_map];exact(zDw _).imp_of_mem λc s r q=>r (by have:=f.inj _ _ (f.cl k h _ c) (f.cl k h _ s) (zEx q);omega)
 rw[zAW u,<-b];have t:zb8 (pz [])=0:=rfl;show zO ((k % 4:Nat):Int) ((k / 4:Nat):Int) (pz []) (pz P)=0;unfold zO;rw[iN_ (by omega),iN_ (by rw[l];show ¬(3<0\/_);omega),iN_ (by rw[t];decide),zDH m c,iN_ (by decide),l,o];unfold zb9;rw[iN_];rintro(⟨q,g⟩|⟨q,g⟩);have:=y (by omega);omega;have:=z (by omega);omega
structure Lg (e k:Nat)(c:CV):Prop where
 ok:okK e k=true
 au:c.au=((k % 4:Nat):Int)
 rd:c.rd=((k / 4:Nat):Int)
 bl:c.bl=[]
 pl:c.pl=(Hd e k).pl
 f:c.f=0
theorem Lg.d {e:Nat}{c:CV}(h:Lg e k c):c.d=(Hd e k).d:=by
 obtain⟨b,_⟩:=zfF h.ok;show zaE c.au c.rd (pz c.bl) (pz c.pl)=zaE (Hd e k).au (Hd e k).rd (pz (Hd e k).bl) (pz (Hd e k).pl);rw[h.au,h.rd,h.bl,h.pl,zAW b]
theorem Lg.key {e j:Nat}{c:CV}(h:Lg e k c)(g:Lg e j c):k=j:=by
 have b:=h.au;have d:=h.rd;have f:=g.au;have l:=g.rd;omega
structure DR (e d:Nat)(l:List CV):Prop where
 leg:∀c∈l,∃k,Lg e k c
 bit:∀k:Nat,zaI d k=true↔0<=cOf l ((k % 4:Nat):Int) ((k / 4:Nat):Int)
 uq:zbV l=0
theorem DR.z (e:Nat):DR e 0 []:=⟨(λc b=>by cases b),(λk=>by rw[zBM];exact⟨(λh=>by cases h),(λh=>absurd h (by show ¬(0:Int)<=-1;decide))⟩),rfl⟩
theorem DR.at {e d:Nat}{l:List CV}(h:DR e d l){k:Nat}(o:zaI d k=true):∃m,m<l.length/\cOf l ((k % 4:Nat):Int) ((k / 4:Nat):Int)=(m:Int)/\Lg e k (zaM l m):=by
 have g:=(h.bit k).1 o;obtain⟨p,q⟩:=zlB l ((k % 4:Nat):Int) ((k / 4:Nat):Int);have c:(cOf l ((k % 4:Nat):Int) ((k / 4:Nat):Int)).toNat<l.length:=by omega
 have f:zfp l ((k % 4:Nat):Int) ((k / 4:Nat):Int) (cOf l ((k % 4:Nat):Int) ((k / 4:Nat):Int)).toNat=true:=zoq _ _ g;unfold zfp at f;obtain⟨r,s⟩:=of_decide_eq_true f;refine⟨_,c,by omega,?_⟩;obtain⟨j,b⟩:=h.leg _ (zz3 c);have:j=k:=by have:=b.au;have:=b.rd;omega
 rwa [this]at b
theorem DR.of {e d:Nat}{l:List CV}(h:DR e d l){c:CV}(o:c∈l){k:Nat}(f:Lg e k c):zaI d k=true:=by
 obtain⟨m,g,q⟩:=List.getElem_of_mem o;have b:=zEs g;have j:zaM l m=l[m]:=by simp[zaM,g]
 rw[j,q,f.au,f.rd]at b;exact(h.bit k).2 b
theorem DR.uni {e d:Nat}{l:List CV}(h:DR e d l):∀x∈l,∀y∈l,x.rd=y.rd->x.au=y.au->x=y:=by
 intro x p y r f g;obtain⟨m,j,rfl⟩:=List.getElem_of_mem p;obtain⟨n,o,rfl⟩:=List.getElem_of_mem r;have b:zaM l m=l[m]:=by simp[zaM,j]
 have c:zaM l n=l[n]:=by simp[zaM,o]
 rcases Nat.lt_trichotomy m n with q|q|q;exact(zB6 h.uq o q (by rw[b,c,g]) (by rw[b,c,f])).elim;subst q;rfl;exact(zB6 h.uq j q (by rw[b,c,g]) (by rw[b,c,f])).elim
theorem DR.nodup {e d:Nat}{l:List CV}(h:DR e d l):l.Nodup:=by
 rw[List.Nodup,List.pairwise_iff_getElem];intro x y g f j q;have b:zaM l x=l[x]:=by simp[zaM,g]
 have c:zaM l y=l[y]:=by simp[zaM,f]
 exact zB6 h.uq f j (by rw[b,c,q]) (by rw[b,c,q])
theorem DR.len {e d:Nat}{l:List CV}(h:DR e d l):l.length<=60:=by
 have p:(l.map λc:CV=>c.au.toNat+4*c.rd.toNat).Nodup:=by
  rw[List.Nodup,List.pairwise_map];refine h.nodup.imp_of_mem λ{x y} f hy hxy q=>hxy ?_;obtain⟨j,b⟩:=h.leg x f;obtain⟨k,g⟩:=h.leg y hy;have m:=b.au;have o:=b.rd;have t:=g.au;have u:=g.rd;exact h.uni x f y hy (by omega) (by omega)
 have r:=zBe 60 _ p (λx f=>by
  obtain⟨c,s,rfl⟩:=mM_.1 f;obtain⟨j,b⟩:=h.leg c s;have m:=b.au;have o:=b.rd;have:=(zfF b.ok).2.1;omega)
 rwa [List.length_map]at r
theorem DR.pof {e d:Nat}{l:List CV}(m:EOk e)(h:DR e d l){j:Nat}(o:okK e j=true)(q:0<=pOf l (Hd e j).d):(pOf l (Hd e j).d).toNat<l.length/\Lg e j (zaM l (pOf l (Hd e j).d).toNat):=by
 obtain⟨p,r⟩:=zrC l (Hd e j).d;have f:(pOf l (Hd e j).d).toNat<l.length:=by omega
 have g:zmi l (Hd e j).d (pOf l (Hd e j).d).toNat=true:=zoq _ _ q;unfold zmi at g;have c:=zEx (of_decide_eq_true g);obtain⟨i,b⟩:=h.leg _ (zz3 f);rw[b.d]at c;have:=m.inj _ _ b.ok o c;subst this;exact⟨f,b⟩
theorem zCE {α:Type}{f:α->L_}{l:List α}{i:Nat}(b:i<l.length):(l.map f).getD i []=f l[i]:=by
 rw[List.getD_eq_getElem?_getD,List.getElem?_map,List.getElem?_eq_getElem b];rfl
theorem DR.par {e d:Nat}{l:List CV}(c:EOk e)(h:DR e d l){k:Nat}(g:okK e k=true):zdz l ((k / 4:Nat):Int) (Hd e k).pl=0↔zkQ e d k=true:=by
 obtain⟨r,_⟩:=zfF g;have u:(Hd e k).pl=(zdV (zaR e k)).map λp=>(Hd e (4*(k / 4-1)+p)).d:=by rw[zAW r]
 rw[zBt r,u]
 constructor
 intro f p q;obtain⟨i,b,s⟩:=List.getElem_of_mem q;have o:=zDb f i (by rw[List.length_map];exact b);rw[zCE b,s]at o;obtain⟨A,_⟩:=zDF o;obtain⟨B,C⟩:=h.pof c (c.cl k g p q) A;exact h.of (zz3 B) C;intro t;refine(zB1 (m:=((zdV (zaR e k)).map λp=>(Hd e (4*(k / 4-1)+p)).d).length) λi b=>?_).1;rw[List.length_map]at b;rw[zCE b];have j:=gM_ b;obtain⟨m,y,D,z⟩:=h.at (t _ j);have f:0<=pOf l (Hd e (4*(k / 4-1)+(zdV (zaR e k))[i])).d:=by rw[<-z.d];exact(zCh y).1
 refine zCg f ?_;rw[(h.pof c (c.cl k g _ j) f).2.rd];have:=(zA4.1 j).1;omega
theorem DR.stk {e d:Nat}{l:List CV}(j:EOk e)(h:DR e d l){k:Nat}{c:CV}(b:Lg e k c):za8 l c=0↔zaI d k=false/\zkQ e d k=true:=by
 have m:=h.len;have g:=h.par j b.ok;unfold za8 zfc;rw[iN_ (λq=>q b.f),b.au,b.rd,b.pl];by_cases q:0<=cOf l ((k % 4:Nat):Int) ((k / 4:Nat):Int);rw[iP_ q,iP_ (by decide)];have f:=(h.bit k).2 q;exact⟨λz=>absurd z (by decide),λz=>by rw[f]at z;cases z.1⟩;rw[iN_ q];have f:zaI d k=false:=by
  cases z:zaI d k with
  | true=>exact absurd ((h.bit k).1 z) q
  | false=>rfl
 by_cases p:zdz l ((k / 4:Nat):Int) (Hd e k).pl=0;rw[p,iN_ (λz=>z rfl),iN_ (by omega)];exact⟨λ_=>⟨f,g.1 p⟩,λ_=>rfl⟩;rw[iP_ p];exact⟨λz=>absurd z p,λz=>absurd (g.2 z.2) p⟩
theorem DR.add {e d:Nat}{l:List CV}(h:DR e d l){k:Nat}{c:CV}(b:Lg e k c)(f:za8 l c=0):DR e (Nat.lor d (Nat.shiftLeft 1 k)) (l++[c]):=by
 refine⟨λx g=>?_,λj=>?_,zvM h.uq f⟩;rcases mA_.1 g with q|q;exact h.leg x q;rw[mS_.1 q];exact⟨k,b⟩;rw[zBC,Bool.or_eq_true,h.bit j,dE_,zox,b.au,b.rd];by_cases q:0<=cOf l ((j % 4:Nat):Int) ((j / 4:Nat):Int);rw[iP_ q];exact⟨λ_=>q,λ_=>.inl q⟩;rw[iN_ q];by_cases p:k=j;subst p;rw[iP_ ⟨rfl,rfl⟩];exact⟨λ_=>by omega,λ_=>.inr rfl⟩;rw[iN_ (by omega)];exact⟨λz=>z.elim (λy=>absurd y q) (λy=>absurd y p),λz=>absurd z (by decide)⟩
theorem DR.pt {e d:Nat}{l:List CV}(h:DR e d l)(r:Nat){p:Nat}(b:p<4):zaI (zaR d r) p=true↔0<=cOf l (p:Int) (r:Int):=by
 rw[zBD,dT_ b,Bool.and_true,h.bit,show(4*r+p) % 4=p by omega,show(4*r+p) / 4=r by omega]
theorem DR.cnt {e d:Nat}{l:List CV}(h:DR e d l)(r:Nat):(dgF l (r:Int)).length=zA6 (zaR d r):=by
 have b:zaI (zaR d r) 0=true↔0<=cOf l 0 (r:Int):=h.pt r (p:=0) (by decide);have c:zaI (zaR d r) 1=true↔0<=cOf l 1 (r:Int):=h.pt r (p:=1) (by decide);have f:zaI (zaR d r) 2=true↔0<=cOf l 2 (r:Int):=h.pt r (p:=2) (by decide);have g:zaI (zaR d r) 3=true↔0<=cOf l 3 (r:Int):=h.pt r (p:=3) (by decide);rw[zml,zCC];simp only[b,c,f,g]
theorem DR.next {e d:Nat}{l:List CV}(h:DR e d l)(g:zAj d 15 1<=14):zdi l=((zAj d 15 1:Nat):Int):=by
 obtain⟨a,b,c⟩:=zDy d 15 1 (by omega);obtain⟨j,f,m⟩:=zhs h.uq;rcases Int.lt_trichotomy (zdi l) ((zAj d 15 1:Nat):Int)with z|z|z;have:=b (zdi l).toNat (by omega) (by omega);rw[<-h.cnt,show(((zdi l).toNat:Nat):Int)=zdi l by omega]at this;omega;exact z;have:=f ((zAj d 15 1:Nat):Int) (by omega) z;rw[h.cnt]at this;omega
theorem DR.dg {e d:Nat}{l:List CV}(h:DR e d l){k:Nat}(f:4<=k)(g:zaR e k=zaR d (k / 4-1)):dgF l (((k / 4:Nat):Int)-1)=(Hd e k).pl:=by
 obtain⟨r,j⟩:∃r,k / 4=r+1:=⟨k / 4-1,by omega⟩;rw[zAW f,g,j,Nat.add_sub_cancel,show((r+1:Nat):Int)-1=(r:Int) by omega];have s:∀n:Nat,n<=4->zc6 l (r:Int) n=((List.range n).filter λp=>zaI (zaR d r) p).map λp=>(Hd e (4*r+p)).d:=by
  intro n
  induction n with
  | zero=>intro _;rfl
  | succ n ih=>
   intro t;have k:=h.pt r (p:=n) (by omega);rw[zc6,ih (by omega),List.range_succ,List.filter_append,List.map_append];by_cases q:zaI (zaR d r) n=true;have c:zaI d (4*r+n)=true:=by rw[zBD,Bool.and_eq_true]at q;exact q.1
   obtain⟨m,_,b,o⟩:=h.at c;rw[show(4*r+n) % 4=n by omega,show(4*r+n) / 4=r by omega]at b;rw[iP_ (k.1 q),b];simp[q,o.d];rw[iN_ (λz=>q (k.2 z))];simp[q]
 exact s 4 (nR_ _)
def zdR {α β:Type}(R:α->β->Prop):List α->List β->Prop
 | [],[]=>True
 | x::l,y::m=>R x y/\zdR R l m
 | _,_=>False
theorem zdR.len {α β:Type}{R:α->β->Prop}:∀{l:List α} {m:List β},zdR R l m->l.length=m.length
 | [],[],_=>rfl
 | _::_,_::_,h=>cA_ Nat.succ (zdR.len h.2)
 | [],_::_,h=>h.elim
 | _::_,[],h=>h.elim
theorem zdR.imp {α β:Type}{R S:α->β->Prop}:∀{l:List α} {m:List β},(∀x∈l,∀y,R x y->S x y)->zdR R l m->zdR S l m
 | [],[],_,_=>trivial
 | x::_,_::_,k,h=>⟨k x (by simp) _ h.1,zdR.imp (λz b=>k z (mC_ _ b)) h.2⟩
 | [],_::_,_,h=>h.elim
 | _::_,[],_,h=>h.elim
theorem zdR.app {α β:Type}{R:α->β->Prop}{x:List α}{y:List β}(k:zdR R x y):∀{l:List α} {m:List β},zdR R l m->zdR R (l++x) (m++y)
 | [],[],_=>k
 | _::_,_::_,h=>⟨h.1,zdR.app k h.2⟩
 | [],_::_,h=>h.elim
 | _::_,[],h=>h.elim
theorem zdR.map {α β:Type}{R:α->β->Prop}{g:β->α}:∀{m:List β},(∀y∈m,R (g y) y)->zdR R (m.map g) m
 | [],_=>trivial
 | y::m,h=>⟨h y (by simp),zdR.map λz b=>h z (mC_ _ b)⟩
theorem DR.certs {e d:Nat}{l:List CV}(h:DR e d l)(r:Nat):zdR (λc k=>Lg e k c/\c∈l) (zjU l (r:Int)) ((zzX 60 (Nat.shiftRight d (Nat.mul 4 r)) (Nat.mul 4 r)).take 8):=by
 have L:d<2 ^ 60:=Nat.lt_pow_two_of_testBit d λi X=>by
  cases z:d.testBit i with
  | false=>rfl
  | true=>
   rw[<-zic]at z;obtain⟨m,_,_,A⟩:=h.at z;have:=(zfF A.ok).2.1;omega
 have M:Nat.shiftRight d (Nat.mul 4 r)<2 ^ 60:=by
  show d >>> (4*r)<_;rw[Nat.shiftRight_eq_div_pow];exact Nat.lt_of_le_of_lt (Nat.div_le_self _ _) L
 obtain⟨p,t⟩:∃p,p=zzX 60 (Nat.shiftRight d (Nat.mul 4 r)) (Nat.mul 4 r):=⟨_,rfl⟩;have u:∀j,j∈p↔4*r<=j/\zaI d j=true:=λj=>by
  rw[t,zCD _ _ _ _ M];have C:Nat.mul 4 r<=j->zaI (Nat.shiftRight d (Nat.mul 4 r)) (j-Nat.mul 4 r)=zaI d j:=λq=>by
   rw[zic,zic];show(d >>> (4*r)).testBit (j-4*r)=_;rw[Nat.testBit_shiftRight,Nat.add_sub_cancel' (show 4*r<=j from q)]
  constructor
  rintro⟨a,b⟩;rw[C a]at b;exact⟨a,b⟩;rintro⟨a,b⟩;exact⟨a,by rw[C a];exact b⟩
 have F:p.Pairwise (· < ·):=by rw[t];exact(zC5 _ _ _).1
 rw[<-t];clear t;obtain⟨g,D⟩:∃g:Nat->CV,g=λk=>zaM l (cOf l ((k % 4:Nat):Int) ((k / 4:Nat):Int)).toNat:=⟨_,rfl⟩;have o:∀k∈p,Lg e k (g k)/\g k∈l:=λk f=>by
  obtain⟨m,R,T,A⟩:=h.at ((u k).1 f).2;rw[D];dsimp only;rw[T];exact⟨A,zz3 R⟩
 clear D;have I:(p.map g).Perm (l.filter λc=>decide ((r:Int)<=c.rd)):=by
  refine(List.perm_ext_iff_of_nodup ?_ (List.Pairwise.filter _ h.nodup)).2 λc=>?_;rw[List.Nodup,List.pairwise_map];exact F.imp_of_mem λ{j k} hj f hjk q=>by
   have s:=(o j hj).1;rw[q]at s;have:=s.key (o k f).1;omega
  rw[mM_,List.mem_filter,dE_]
  constructor
  rintro⟨k,f,rfl⟩;refine⟨(o k f).2,?_⟩;rw[(o k f).1.rd];have:=((u k).1 f).1;omega;rintro⟨s,U⟩;obtain⟨k,f⟩:=h.leg c s;have V:=f.rd;have E:k∈p:=(u k).2 ⟨by omega,h.of s f⟩;obtain⟨B,G⟩:=o k E;exact⟨k,E,h.uni _ G _ s (by rw[B.rd,f.rd]) (by rw[B.au,f.au])⟩
 have J:(p.map g).Pairwise λx y=>leC x y=true:=by
  rw[List.pairwise_map];refine F.imp_of_mem λ{j k} hj f hjk=>?_;unfold leC;rw[(o j hj).1.rd,(o k f).1.rd,(o j hj).1.au,(o k f).1.au];exact dT_ (by omega)
 have H:=zwt I J (λx N y O=>h.uni x (List.mem_filter.1 N).1 y (List.mem_filter.1 O).1);unfold zjU;rw[<-H,<-List.map_take];exact zdR.map λk f=>o k (List.mem_of_mem_take f)
end Go.Proofs.YtpnpikpmdfipfaaGreatDoor
