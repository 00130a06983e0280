import Derived.Test.YtgjogjbkbomcmaaGreatDoorPk20
set_option maxRecDepth 100000
set_option maxHeartbeats 4000000
namespace Go.Proofs.YtgjogjbkbomcmaaGreatDoor
open Go.RowKit _root_.Go.Proofs.Tryz
variable {w w':World}{sa:Q_}{cap:Nat}{ls:List Ct}
theorem zCc (l:List CV)(h:400<l.length):zbV l=12:=by simp[zbV,h]
theorem zy5.below (h:zy5 w sa cap ls)(b:B_ w w'):zy5 w' sa cap ls:=⟨h.le,h.max,h.small,h.some,h.certs.below b,λc d=>(h.each c d).below b⟩
variable {B:Nat}
structure zgz (w:World)(B s:Nat)(ls:List Ct):Prop where
 out:∃vc vd ds,Stk w B s vc vd ls ds/\zT ds=(zI ls).map CV.d/\ls.length<=400
theorem zgz.below {s:Nat}(h:zgz w B s ls)(f:B_ w w'):zgz w' B s ls:=by
 obtain⟨g,j,ds,b,c,d⟩:=h.out;exact⟨g,j,ds,b.below f,c,d⟩
variable {k:Nat}
theorem zCy {l:List CV}(c:k<l.length)(h:za8 (l.take k) (zaM l k)≠0):zbV l=12:=by
 by_cases hl:400<l.length;exact zCc l hl;refine zzC l k c ?_;simp only[zgH,Bool.or_eq_true,dE_];by_cases h1:(zaM l k).f=0
 right
 intro b
 apply h
 rw[za8,iN_ (λg=>g h1),iN_ (λg=>g b),iN_ (by simp;omega)];exact .inl h1
variable {ops:Array Oper}{Q:Exit->Act->World->Prop}{a:Act}{K:Act->World->Prop}{E:Prop}
theorem zic {o:Oper}
  (g:Region.wanted o (yielded ops a.tmps)=true) (d:Nat) (c:o.dst=some d) (v:Value) (w':World) (f:(execOp a.eval o).run prog w=.ok (.value v) w') (b:K (a.put (some d) v) w') :
  if Region.wanted o (yielded ops a.tmps)=true then Oper.wp prog o a w K Q else E:=by
 rw[iP_ g];unfold Oper.wp;rw[f,Oper.upon_value,c];exact b
theorem zBE (d:List Ct)(s:Nat)(f:Q_)(g:Nat)(j:Q_)(l:Nat)(ds:List zi)(rd:Int)(w:World)(y:zee w s d f g j l ds)(u:∀p∈ds,p.bs.length<=140737488355328) :
  Calls prog 13 #[P_ s 0,I_ rd] w λe w'=>∃b c ms,e=.returned (.slice b (List.length ms) c)/\zT ms=dgF (zI d) rd/\zx w' b c ms/\za1 w.heap.size b ms/\B_ w w':=
 (zqn d s f g j l ds rd w y u).mono (λe w' k=>by
  obtain⟨b,c,ms,m,o,q,r,t,_⟩:=k
  exact⟨b,c,ms,m,o,q,r,t⟩)
theorem zl5 (a b:List AV):avs (a++b)=avs a++avs b:=by
 induction a with
 | nil=>rfl
 | cons x a ih=>simp only[List.cons_append,avs,ih,List.append_assoc]
theorem zxF (l:List AV):∀u∈avs l,u.oneCell'=true:=by
 induction l with
 | nil=>intro u b;cases b
 | cons a l ih=>
  intro u b;rcases mA_.1 b with h|h;simp[AV.cs]at h;rcases h with rfl|rfl|rfl|rfl<;>rfl;exact ih u h
theorem zwM:(prog.info? 50).map (λi=>(i.zero,i.size,i.bytes))=some (some (.agg #[I_ 0,I_ 0,I_ 0,.string ⟨#[]⟩]),4,40):=by kernel_rfl
theorem zkz {rest:List Oper}{o:Oper}(t:o.guard=none)(s x:Operand)
  (z:o.op=.call { callee:=.builtin .append,args:=#[s,x],argTypes:=#[31,31] })
  (base:Nat) (v:Value) (n:Nat) (l:List AV) (B:a.eval s=v) (A:w.ownsRow base 50 4 v n (avs l)) (g:Nat) (b:AV) (C:a.eval x=.slice (some (p_ g 0)) 1 1) (r:R_ w g b.cs.toArray 50)
  (G:n+1<=3000000000000) (q:base<=w.heap.size)
  (h:∀c w',w'.ownsRow base 50 4 c (n+1) (avs (l++[b]))->zV w v w' c->wpList prog ops Q rest (a.put o.dst c) w'):wpList prog ops Q (o::rest) a w:=by
 obtain⟨i,y,D,E,F⟩:=info_parts zwM;refine wpList_append_own_at w t s x 31 z base 50 i _ 4 40 underlying31 y D E F rfl (by decide) v n (avs l) B A (p_ g 0) 1 1 b.cs C rfl ?_ ?_ (by unfold maxLen;omega) (by omega) q (λc w' f m _ p=>h c w' (by rw[zl5,show avs [b]=b.cs by simp[avs]];exact f) (zV.of m p));intro j u d;rw[zaP,zA_,cell_of_row w g j _ _ _ r]
 simpa using d
 intro u d;simp[AV.cs]at d;rcases d with rfl|rfl|rfl|rfl<;>rfl
theorem zsK {d:Addr}{cs:List AV}(y:zbq w (some d) cs):∀j u,(avs cs)[j]? = some u->w.cell? (d.add j)=some u:=by
 intro j u b;rcases y.cells with c|⟨B,l,e,c⟩;subst c;simp[avs]at b;cases e;have A:j<cs.length*4:=by
  rcases lG_ j (cs.length*4)with g|g;exact g;rw[List.getElem?_eq_none (by rw[zg1];omega)]at b;cases b
 have f:j / 4<cs.length:=by omega
 have t:j=j / 4*4+j % 4:=by omega
 have s:j % 4<4:=by omega
 rw[zaP];obtain⟨m,o,p,r⟩:=c (j / 4) f;rw[t,zkr cs (j / 4) (j % 4) f s]at b;have z:l+j=l+j / 4*4+j % 4:=by omega
 rw[z];generalize j / 4=q at*;rcases(by omega:j % 4=0\/j % 4=1\/j % 4=2\/j % 4=3)with h|h|h|h<;>rw[h]at b|-<;>simp[AV.cs]at b<;>subst b;exact m;exact o;exact p;exact r
theorem zfB {rest:List Oper}{o:Oper}(q:o.guard=none)(s x:Operand)
  (t:o.op=.call { callee:=.builtin .append,args:=#[s,x],argTypes:=#[31,31] })
  (base:Nat) (v:Value) (n:Nat) (l:List AV) (u:a.eval s=v) (p:w.ownsRow base 50 4 v n (avs l)) (d:Q_) (m f:Nat) (b:List AV) (y:a.eval x=.slice d m f) (C:m=b.length) (g:zbq w d b) (D:d=none->m=0/\f=0)
  (H:n+m<=3000000000000) (B:base<=w.heap.size)
  (h:∀c w',w'.ownsRow base 50 4 c (n+m) (avs (l++b))->zV w v w' c->wpList prog ops Q rest (a.put o.dst c) w'):wpList prog ops Q (o::rest) a w:=by
 obtain⟨i,r,E,F,G⟩:=info_parts zwM;cases d with
 | none=>
  obtain⟨A,j⟩:=D rfl;subst A j;obtain rfl:b=[]:=eN_ C.symm;exact wpList_append_own_none q s x 31 t base 50 i 4 underlying31 r v n (avs l) u p y (h v w (by simpa using p) (zV.of (World.grownBy.refl _ _) (.inl rfl)))
 | some ad=>
  exact wpList_append_own_at w q s x 31 t base 50 i _ 4 40 underlying31 r E F G rfl (by decide) v n (avs l) u p ad m f (avs b) y (by rw[zg1];omega) (zsK g) (zxF b) (by unfold maxLen;omega) (by omega) B (λc w' z g _ j=>h c w' (by rw[zl5];exact z) (zV.of g j))
variable {o:Nat}
theorem zde {b:Nat}{cs:List Value}(h:w.rangeAt b o cs):w.drew.rangeAt b o cs:=λj v c=>h j v c
theorem zdw {b:Nat}{l:List AV}(h:R_ w b ((avs l).toArray) 50)(d:∀a∈l,a.e=0/\a.t.size<=4000):zbq w (some (p_ b 0)) l:=by
 refine⟨.inr ⟨b,0,rfl,λj m=>?_⟩,λa g=>nT_ (d a g).2 (by decide)⟩;have c:∀t,t<4->w.cell? (p_ b (0+j*4+t))=(l.getD j .z).cs[t]?:=λt d=>by
  rw[<-zkr l j t m d];have f:j*4+t<(avs l).length:=by rw[zg1];omega
  rw[List.getElem?_eq_getElem f,zA_];exact zb h (j*4+t) _ (by simp[f])
 exact⟨c 0 (by decide),c 1 (by decide),c 2 (by decide),c 3 (by decide)⟩
variable {i p:Int}{l:List SV}{t:ByteArray}
theorem zzP {k:Int}(c:1<=k/\k<=10)(b:0<=i/\i<4)(d:0<=p/\p<=400000):(⟨k,i,p,t⟩:Ac).ok:=⟨c.1,c.2,b.1,b.2,d.1,d.2⟩
theorem zz0 (h:zdt l=0){a b:Nat}(j:b<l.length)(g:a<b)(d:(zd1 l a).1=(zd1 l b).1)(f:(zd1 l a).2.1=(zd1 l b).2.1):False:=by
 have c:=(zmY h).2 b j;rw[zeD,Bool.or_eq_false_iff]at c;have c:=c.2;simp only[zff,List.any_eq_false]at c;refine c a (by simpa using g) ?_;rw[hit];exact dT_ ⟨d,f⟩
theorem zCz (R:Nat)(B:R<=100)(w:World) :
  Calls prog 7 #[I_ (R:Int)] w λe w'=>∃v,e=.returned v/\w'.ownsRow w.heap.size 50 4 v (zdc R).length (avs (zdc R))/\B_ w w':=by
 rw[zCk];go_in;go_wp2_with fail
 go_loopw [4,3] (λj v wr=>∃k:Nat,k<=4/\j=I_ k/\B_ w wr/\wr.ownsRow w.heap.size 50 4 v k (avs (zhd k))) (λj _ _=>4-(intOf j).toNat)
 case atStart=>exact⟨0,nZ_ _,rfl,bR_ _ _,oN_ _ _ _ _⟩
 case round=>
  obtain⟨k,o,rfl,b,c⟩:=hrel;by_cases hlt:k<4
  .have p:(k:Int)<4:=by omega
   have m:(wr.alloc (.cells #[I_ 8,I_ k,I_ 0,.string ⟨#[]⟩] 50)).heap[wr.heap.size]? = some (.cells (⟨8,k,0,⟨#[]⟩⟩:AV).cs.toArray 50 (0,0)):=hN_ _ _;have d:Hid (zhd (k+1)=zhd k++[⟨8,k,0,⟨#[]⟩⟩]):=rfl;generalize zhd k=l at c d;go_wp2_with (at_builtin;refine zkz rfl _ _ rfl w.heap.size _ k l rfl (c.alloc _) wr.heap.size ⟨8,k,0,⟨#[]⟩⟩ rfl m (by omega) (by have:=b.size;simp;omega) ?_)
   intro r w2 g f;go_wp2_with fail
   go_roundw
   case rel=>
    refine⟨k+1,by omega,by go_num,b.trans ?_,by rw[d.out];exact g⟩;exact((bR_ _ _).alloc b.size _).trans (f.below (by have:=b.size;simp;omega) (λq e=>(c.lt q e).1))
   case measure=>simp[intOf];omega
  obtain rfl:k=4:=by omega
  have p:¬((4:Nat):Int)<4:=by omega
  clear hlt o;go_wp2_with fail
  go_loopw [5,3] (λj v wr=>∃i:Nat,i<=R/\j=I_ i/\B_ w wr/\wr.ownsRow w.heap.size 50 4 v (4+9*i) (avs (zdc i))) (λj _ _=>R-(intOf j).toNat)
  case atStart=>exact⟨0,nZ_ _,rfl,b,c⟩
  case round=>
   clear c b;obtain⟨i,y,rfl,b,c⟩:=hrel;by_cases hlt:i<R
   .have p:(i:Int)<R:=by omega
    go_wp2_with fail
    go_loopw [6,3] (λj v s=>∃k:Nat,k<=4/\j=I_ k/\B_ w s/\s.ownsRow w.heap.size 50 4 v (4+9*i+2*k) (avs (zdc i++zfg k))) (λj _ _=>4-(intOf j).toNat)
    case atStart=>exact⟨0,nZ_ _,rfl,b,by rw[zfg,List.append_nil];exact c⟩
    case round=>
     clear c b;obtain⟨k,o,rfl,b,c⟩:=hrel;by_cases hlt4:k<4
     .have A:(k:Int)<4:=by omega
      have m:(wr.alloc (.cells #[I_ 2,I_ k,I_ 0,.string ⟨#[]⟩,I_ 3,I_ k,I_ 0,.string ⟨#[]⟩] 50)).heap[wr.heap.size]? = some (.cells (avs [(⟨2,k,0,⟨#[]⟩⟩:AV),⟨3,k,0,⟨#[]⟩⟩]).toArray 50 (0,0)):=hN_ _ _;have t:=zdw m (λa u=>zCj (k+1) hlt4 a (List.mem_append_right _ u));have d:Hid (zdc i++zfg (k+1)=zdc i++zfg k++[⟨2,k,0,⟨#[]⟩⟩,⟨3,k,0,⟨#[]⟩⟩]):=(List.append_assoc _ _ _).symm;have z:i<=100:=by omega
      generalize zdc i++zfg k=l at c d;go_wp2_with (at_builtin;refine zfB rfl _ _ rfl w.heap.size _ (4+9*i+2*k) l rfl (c.alloc _) (some (p_ wr.heap.size 0)) 2 2 [(⟨2,k,0,⟨#[]⟩⟩:AV),⟨3,k,0,⟨#[]⟩⟩] rfl rfl t (λe=>by cases e) (by omega) (by have:=b.size;simp;omega) ?_)
      intro r w2 g f;go_wp2_with fail
      go_roundw
      case rel=>
       refine⟨k+1,by omega,by go_num,b.trans ?_,by rw[d.out,show 4+9*i+2*(k+1)=4+9*i+2*k+2 by omega];exact g⟩;exact((bR_ _ _).alloc b.size _).trans (f.below (by have:=b.size;simp;omega) (λq e=>(c.lt q e).1))
      case measure=>simp[intOf];omega
     obtain rfl:k=4:=by omega
     have A:¬((4:Nat):Int)<4:=by omega
     have m:(wr.alloc (.cells #[I_ 10,I_ 0,I_ 0,.string ⟨#[]⟩] 50)).heap[wr.heap.size]? = some (.cells (⟨10,0,0,⟨#[]⟩⟩:AV).cs.toArray 50 (0,0)):=hN_ _ _;have d:Hid (zdc (i+1)=zdc i++zfg 4++[⟨10,0,0,⟨#[]⟩⟩]):=rfl;have z:i<=100:=by omega
     generalize zdc i++zfg 4=l at c d;clear hlt4 o;go_wp2_with (at_builtin;refine zkz rfl _ _ rfl w.heap.size _ (4+9*i+2*4) l rfl (c.alloc _) wr.heap.size ⟨10,0,0,⟨#[]⟩⟩ rfl m (by omega) (by have:=b.size;simp;omega) ?_)
     intro r w2 g f;go_wp2_with fail
     go_roundw
     case rel=>
      refine⟨i+1,by omega,by go_num,b.trans ?_,by rw[d.out,show 4+9*(i+1)=4+9*i+2*4+1 by omega];exact g⟩;exact((bR_ _ _).alloc b.size _).trans (f.below (by have:=b.size;simp;omega) (λq e=>(c.lt q e).1))
     case measure=>simp[intOf];omega
   obtain rfl:i=R:=by omega
   have p:¬(i:Int)<i:=by omega
   clear hlt y;go_wp2_with fail
   go_ret;exact⟨_,rfl,c,b⟩
theorem zBx {l:List BW}{b:BW}(h:zbG l b=true):b.f=0:=by
 unfold zbG at h;simp only[Bool.and_eq_true,dE_]at h;exact h.1.1
theorem zA5 {l:List BW}{b:BW}(h:∀x∈l,x.f=0)(c:b.f=0):∀x∈l++[b],x.f=0:=λx d=>by
 rcases mA_.1 d with g|g
 .exact h x g
 .rw[mS_.1 g];exact c
theorem zC4 {k:Kn}(m:MC)(h:∀b∈k.sh,b.f=0):∀b∈(k.rcl m).sh,b.f=0:=by
 unfold Kn.rcl
 split
 split
 rename_i e;exact zA5 h (zBx e)
 exact h
 split
 split<;>exact h
 split
 exact h
 split
 split<;>exact h
 exact h
theorem zCK (l:List MC)(k:Kn)(h:∀b∈k.sh,b.f=0):∀b∈(l.foldl Kn.rcl k).sh,b.f=0:=by
 induction l generalizing k with
 | nil=>exact h
 | cons m l ih=>exact ih (k.rcl m) (zC4 m h)
structure zAG (i:Int)(n:Nd):Prop where
 pool:zaO n.nx n.txs=0
 sh:∀b∈n.k.sh,b.f=0
theorem zBq:zc5 (λ_=>True) zAG where
 step:=λi o a b q _ s h=>by
  rcases s with⟨d,m,l,_,rfl⟩|⟨b,e,_,rfl⟩|⟨_,_,rfl⟩|⟨_,_,rfl⟩|⟨_,_,_,_,_,rfl⟩|⟨_,_,_,_,rfl⟩|⟨e,_,rfl⟩|⟨_,rfl⟩
  .unfold Nd.send
   split
   .exact h
   .exact⟨h.pool,h.sh⟩
  .exact⟨h.pool,zA5 h.sh (zBx e)⟩
  .exact⟨h.pool,h.sh⟩
  .exact⟨h.pool,h.sh⟩
  .exact⟨h.pool,h.sh⟩
  .exact⟨h.pool,h.sh⟩
  .exact⟨(zxv e).2,h.sh⟩
  .exact⟨h.pool,h.sh⟩
 crash:=λi n p _ _ h=>by
  obtain⟨_,_,_,_,_,j,g,_⟩:=zc8 n p
  have c:∀b∈(n.crash p).k.sh,b.f=0:=by rw[g];exact zCK _ _ (λb f=>by cases f)
  refine⟨?_,c⟩
  have r:=zt3 n.nu (n.crash p).k.sh c
  have e:(n.crash p).nx=zd2 n.nu (n.crash p).k.sh:=rfl
  rw[j,e,zaO,iN_ (by show ¬(_\/40<0);omega)]
  rfl
 up:=λi n _ h=>⟨h.pool,h.sh⟩
 synced:=λi n _ h=>⟨h.pool,h.sh⟩
 sub:=λi n t _ _ e h=>⟨zyH h.pool e,h.sh⟩
theorem zAG.z (r:Int):zah zAG (Fl.z r):=⟨rfl,λi d=>by rw[zf1 r i d];exact⟨rfl,λb c=>by cases c⟩⟩
theorem zCd (f:Fl)(i:Int)(t:ByteArray):(f.submit i t).no=f.no:=by
 unfold Fl.submit
 split
 rfl
 split<;>rfl
theorem zCL {b:BW}(h:b.f=0):(zed b).onTape.length<=325:=by
 have k:=zk7 (m:=(zed b).mv.m) (ss:=b.ss) (bl:=[]) (pl:=[]) (cbl:=[]) (cpl:=[]) (ds:=[]) (vl:=[]) rfl (by rw[ziO rfl];exact h);show(MV.onTape (zed b).mv).length<=325;rw[zlH];show 2+([_,_,_]++zcG _ _ _ _ _ _ _ _).length<=325;rw[lP_];have k:(zcG (zed b).mv.m (zed b).mv.ss (zed b).mv.bl (zed b).mv.pl (zed b).mv.cbl (zed b).mv.cpl (zed b).mv.ds (zed b).mv.vl).length<=320:=k;simp only[List.length_cons,List.length_nil];omega
theorem zBI {c:CV}(h:c.hf=0):(zcl c).onTape.length<=325:=by
 have k:=zk7 (m:=(zcl c).mv.m) (ss:=[]) (bl:=pz c.bl) (pl:=pz c.pl) (cbl:=[]) (cpl:=[]) (ds:=[]) (vl:=[]) rfl (by rw[ziP rfl];exact h);show(MV.onTape (zcl c).mv).length<=325;rw[zlH];show 2+([_,_,_]++zcG _ _ _ _ _ _ _ _).length<=325;rw[lP_];have k:(zcG (zcl c).mv.m (zcl c).mv.ss (zcl c).mv.bl (zcl c).mv.pl (zcl c).mv.cbl (zcl c).mv.cpl (zcl c).mv.ds (zcl c).mv.vl).length<=320:=k;simp only[List.length_cons,List.length_nil];omega
def Apt (l:List (L_)):Prop:=l.Pairwise λa b=>txL a≠txL b
theorem zCA {l:List (L_)}(f:∀d∈l,d.length=32)(o:Apt l):zb8 (pz l)=0:=by
 have m:(pz l).length=l.length:=by simp[pz]
 have b:∀k (c:k<l.length),(zcT (pz l) k).bs=l[k]:=λk c=>by
  rw[zgQ _ _ (by omega)];simp[pz]
 have p:∀k,k<=l.length->zbn (pz l) k=0:=by
  intro k
  induction k with
  | zero=>intro _;rfl
  | succ k ih=>
   intro c;rw[zbn,ih (by omega),iN_ (λe=>e rfl),zcF,iN_,iN_];unfold zgm;simp only[aT_,List.mem_range,dE_,not_exists,not_and];intro j g;rw[b j (by omega),b k (by omega)];exact List.pairwise_iff_getElem.1 o j k (by omega) (by omega) g;rw[b k (by omega)]
   simpa using f _ (gM_ _)
 rw[zb8,m];exact p _ (nR_ _)
theorem zBj (n:Nd)(d:Int)(m:MC):∃e,(n.send d m).wai=n.wai++e/\e.length<=1:=by
 unfold Nd.send
 split
 exact⟨[],by simp,by decide⟩;exact⟨_,rfl,nR_ _⟩
theorem zBJ (n:Nd)(j:Int)(m:MC):(n.send j m).wai.length<=n.wai.length+1:=by
 obtain⟨e,h,k⟩:=zBj n j m;rw[h,lP_];omega
theorem zCe (n:Nd)(m:MC)(k:Nat):(n.sendTo m k).wai.length<=n.wai.length+k/\(n.sendTo m k).nu=n.nu:=by
 induction k with
 | zero=>exact⟨nR_ _,rfl⟩
 | succ k ih=>
  have:=zBJ (n.sendTo m k) k m;exact⟨by show((n.sendTo m k).send k m).wai.length<=_;omega,(zmu _ _ _).trans ih.2⟩
theorem zBK (l:List MC)(f:Fl):∃e,(l.foldl Fl.out f).no.sg=f.no.sg++e:=by
 induction l generalizing f with
 | nil=>exact zf5 _
 | cons m l ih=>
  obtain⟨b,d,_⟩:=zAw f.no m;obtain⟨c,g⟩:=ih (f.out m);exact⟨b++c,by rw[List.foldl_cons,g,<-List.append_assoc,<-d];rfl⟩
theorem zBb (f:Fl)(k p:Int):(f.pick k p).no=f.no:=by
 unfold Fl.pick
 split
 rfl
 split
 rfl
 split
 exact zew _ _ _
 rfl
theorem zBL {l:List GV}(h:zbF l=0)(g:GV):zbF (zfS l g)=0:=by
 unfold zfS
 split
 exact h
 rename_i b
 split
 rename_i e
 by_cases hg:gF g=0;rw[zvt h hg b];exact zBw h hg b;rw[ztq h hg]at e;exact absurd e hg;exact h
theorem zBM {o:No}(h:zbF o.sg=0)(m:MC):zbF (o.sign m).sg=0:=by
 unfold No.sign
 split
 split
 exact zBL h _;exact h
 split
 exact zBL h _;exact h
theorem zCN (l:List MC)(f:Fl)(h:zbF f.no.sg=0):zbF (l.foldl Fl.out f).no.sg=0:=by
 induction l generalizing f with
 | nil=>exact h
 | cons m l ih=>exact ih (f.out m) (zBM h m)
theorem zCO (f:Fl){a:Ac}(b:0<=a.p)(h:zbF f.no.sg=0):zbF (f.does a).no.sg=0:=by
 refine zBS (P:=λg=>zbF g.no.sg=0) a h (λp _=>⟨?_,?_,?_⟩) ?_ (λt=>?_) (λt=>?_) ?_ (λ_=>⟨?_,?_,λ_=>?_⟩) b;rw[zBb];exact h;rw[zBb];exact h;rw[zBb];exact h;rw[zfw,zlo];exact h;rw[zCd];exact h;exact zcq (P:=λg=>zbF g.no.sg=0) _ _ h (λm=>by rw[zew];exact h);rw[zgl];exact h;exact h;exact zCN _ (f.set a.i { f.node a.i with wai:=[],syn:=(zae (f.node a.i).recs).length }) h;exact h
theorem zC6 (l:List Ac)(f:Fl)(c:∀a∈l,a.ok)(h:zbF f.no.sg=0):zbF (f.run l).no.sg=0:=by
 induction l generalizing f with
 | nil=>exact h
 | cons a l ih=>exact ih (f.does a) (λb d=>c b (mC_ _ d)) (zCO f (a:=a) (c a (by simp)).2.2.2.2.1 h)
theorem zCf {o:No}{c:CV}(h:zzQ o c)(j:zbF o.sg=0)(f:-1<=o.bad/\o.bad<=3):zfl o.sg o.bad c.au c.rd c.f c.d c.vl=0:=by
 have d:∀v,v=c.au\/v∈c.vl->zdI o.sg o.bad c.au c.rd c.d v=false:=λv b=>by
  unfold zdI;rcases h.2 v b with e|e;simp[e];simp[e]
 unfold zfl;rw[zw4 j f,iN_ (λg=>g rfl),h.1,iN_ (λg=>g rfl),iN_];simp only[Bool.or_eq_true,not_or,aT_,not_exists,not_and];exact⟨by rw[d _ (.inl rfl)];decide,λv b=>by rw[d v (.inr b)];decide⟩
structure zDi (w w':World)(e:Ending)(B s:Nat)(ls:List Ct)(c:CV):Prop where
 told:e=.returned (I_ (za8 (zI ls) c))
 below:Below B w w'
 own:(za8 (zI ls) c≠0/\zgz w' B s ls)\/(za8 (zI ls) c=0/\∃x:Ct,x.v=c/\zgz w' B s (ls++[x]))
theorem zB0 (d:List Ct)(B s:Nat)(c:Ct)(w:World)(hs:zgz w B s d)(U:B<=w.heap.size)(Z:za7 w c)(hT:za2 w) :
  Calls prog 19 #[P_ s 0,.agg (crow_ c)] w λe w'=>zDi w w' e B s d c.v:=by
 obtain⟨vc,vd,ds,l,ab,aO⟩:=hs.out;obtain⟨D,E,N,O,R,f,al⟩:=l.at ab aO;subst R f;obtain⟨i,hi,aS,aU,aW⟩:=info_parts zoI;obtain⟨i',aN,aT,aV,aX⟩:=info_parts zhc;have aE:Hid _:=ab;have ad:Hid (ds.length=d.length):=al.at'.len;have H:=(bR_ w.heap.size w).alloc (nR_ _) (.cells (crow_ c) 59);have r0:=hN_ w (.cells (crow_ c) 59);go_in;go_wp2_with fail
 generalize w.alloc (.cells (crow_ c) 59)=W0 at H r0|-;refine(znk d s D E N O ds c W0 (al.below H) (Z.below H)).mono ?_;rintro _ w1⟨rfl,am⟩;dsimp only;have j:=zm H am;have y:=zk am r0;have aC:Hid (zgz w1 B s d):=hs.below j;by_cases hx:za8 (zI d) c.v=0
 .have A:Hid _:=hx;obtain⟨T,f2,f3⟩:=zg5 hx;rw[zbv]at f3;have ai:=zfO (vl:=c.vl) (by rw[Ct.f_v];exact T);have ac:=zea (Z.below j).hat ai (hT.below j);obtain⟨m1,m2,m3,m4,m5⟩:=zow T;have az:Hid (∀W:World,B_ w W->_):=λW hW=>znM c W (Z.below hW) m1 m2 (by omega) m4 m5;rw[hx];clear hx T f2 ai m1 m2 m3 m4 m5 ab hs;have d0:=zb y 0 _ rfl;have d1:=zb y 1 _ rfl;have d2:=zb y 2 _ rfl;have d3:=zb y 3 _ rfl;go_wp2_with fail
  refine ac.mono ?_;rintro e w2⟨b,o,aM,an,au⟩;subst o;dsimp only;clear ac d0 d1 d2 d3;have I:=zm j an;have z:=zk an y;have L:=l.below I;have V:B<=w2.heap.size:=nT_ U I.size;have Y:b<w2.heap.size:=zgg au (by intro h;have m:=zbD c.au c.rd c.bl c.pl;rw[h]at m;simp at m) b 0 rfl;have a3:s<w.heap.size:=ze l.box;have a2:w.heap.size<=b:=nT_ j.size aM;have aA:Hid ((zaE c.au c.rd c.bl c.pl).length=32):=zbD _ _ _ _;have aB:Hid (zaE c.au c.rd c.bl c.pl=c.v.d):=c.d_v;have ao:=L.box;have k0:=zb ao 0 _ rfl;have aY:=dC_ k0;have e0:=zb z 0 _ rfl;have R:=zb z 1 _ rfl;have f:=zb z 2 _ rfl;have e3:=zb z 3 _ rfl;have e4:=zb z 4 _ rfl;have aI:(Value.slice D d.length E).ownBlock≠some s:=zc2 L.rc ao (by decide);have aF:Hid _:=eO_ func34;go_wp2_with fail
  go_region_law (first
   | (refine zdF rfl 34 _ _ rfl [.agg (crow_ c)] rfl aF.out (λu w9=>∃x:Ct,u=.agg (crow_ x)/\x.v=c.v/\za7 w9 x/\(∀b,zfq x b->w2.heap.size<=b)/\B_ w2 w9) ((az.out w2.drew I.drew).mono (λe w9 ⟨x,o,h1,h2,h3,h4⟩=>⟨_,o,x,rfl,h1,h2,h3,zbE h4⟩)) ?_;rintro u w4⟨x,rfl,ay,aw,ax,X⟩;have aa:=L.below X;have C:=aa.box;have m0:=zb C 0 _ rfl;have aZ:(w4.alloc (.cells (crow_ x) 59)).cell? (p_ s 0)=some (.slice D d.length E):=zb (zR C) 0 _ rfl;have aR:B<=w4.heap.size:=nT_ V X.size)
   | (refine zcc rfl _ _ 33 rfl B 59 i (.agg #[I_ 0,I_ 0,O_,O_,O_]) 5 88 underlying33 hi aS aU aW rfl (by decide) (.slice D d.length E) d.length (ctv d) rfl (oA_ aa.rc _) (p_ w4.heap.size 0) 1 1 [I_ x.au,I_ x.rd,.slice x.ba x.bl.length x.bc,.slice x.pa x.pl.length x.pc,.slice x.va x.vl.length x.vc] rfl rfl (zag _ _ _) (by intro u t;simp at t;rcases t with rfl|rfl|rfl|rfl|rfl<;>rfl) (by unfold maxLen;omega) (by omega) (zB aR _) ?_;intro v6 w6 aq G6;have x2:=G6.row (zR C) aI;have a0:=zb x2 0 _ rfl;have a1:=zd x2 0;obtain⟨F,G,aP⟩:=zH aq;subst aP))
  all_goals
   obtain⟨r,J,ak,ah⟩:=L.moreC V X aw ax G6 aq;have av:zg (w6.setCell (p_ s 0) (.slice F (d.length+1) G)) (some (p_ b 0)) 32 (zaE c.au c.rd c.bl c.pl):=zfU au (λq so _ e=>by
    cases e;exact ak b Y (by omega) (λf=>by have:=(l.rc.lt b f).2;omega))
   have aj:Hid (∀g so,some (p_ b 0:Addr)=some (p_ g so)->B<=g/\g<(w6.setCell (p_ s 0) (.slice F (d.length+1) G)).heap.size/\g≠s/\(Value.slice F (d.length+1) G).ownBlock≠some g/\(Value.slice N d.length O).ownBlock≠some g):=by
    show ∀g,_;intro g so e;cases e;exact⟨by omega,nL_ Y J.size,by omega,λf=>by have:=(l.rc.lt b (ah b Y f)).2;omega,λf=>by have:=(l.rd.lt b f).2;omega⟩
   have ae:Hid (x.v=c.v):=ay;clear a0 a1 x2 ak ah ay ax aw m0 aZ C aa k0 aY e0 R f e3 e4;go_upto_region 8 with fail
   generalize w6.setCell (p_ s 0) (.slice F (d.length+1) G)=X7 at r J av aj|-;have af:B<=X7.heap.size:=nT_ V J.size;have M:=r.box;have n1:=zb M 1 _ rfl;have aJ:(Value.slice N d.length O).ownBlock≠some s:=zc2 r.rd M (by decide);have aK:=ad.out;go_wp2_with (at_builtin;refine wpList_append_own_at _ rfl _ _ 39 rfl B 60 i' (O_) 1 24 underlying39 aN aT aV aX rfl (by decide) _ ds.length (pv ds) rfl (oA_ r.rd _) (p_ X7.heap.size 0) 1 1 [.slice (some (p_ b 0)) 32 32] rfl rfl (zag _ _ _) (by intro u t;simp at t;subst t;rfl) (by unfold maxLen;omega) (by omega) (zB af _) ?_;intro v8 w8 ar aL _ aG;have G8:=zV.of aL aG;have x8:=G8.row (zR M) aJ;have a5:=zb x8 1 _ rfl;have a6:=zd x8 1;obtain⟨ga,gc,aQ⟩:=zH ar;subst aQ)
   obtain⟨ap,aH⟩:=r.moreD (p:=⟨some (p_ b 0),32,zaE c.au c.rd c.bl c.pl⟩) af (bR_ _ _) av aj.out G8 (by simpa[zi.val,aA.out]using ar);have aD:Hid (zT (ds++[(⟨some (p_ b 0),32,zaE c.au c.rd c.bl c.pl⟩:zi)])=(zI (d++[x])).map CV.d):=by
    show _=_;have m:=aE.out;simp only[zT,zI,List.map_append,List.map_cons,List.map_nil]at m|-;rw[m,aB.out,ae.out]
   have ag:Below B w (w8.setCell (p_ s 1) (.slice ga (ds.length+1) gc)):=((I.mono U).trans J).trans aH;clear aK;rw[ad.out]at ap ag;go_wp2_with fail
   go_ret;exact⟨zt A.out.symm,ag,.inr ⟨A.out,x,ae.out,⟨_,_,_,ap,aD.out,by simp;omega⟩⟩⟩
 have A:Hid _:=hx;have a4:(za8 (zI d) c.v != 0)=true:=by simpa using hx
 have HS:Hid (za8 (zI d) c.v=za8 (zI d) c.v):=rfl;generalize hE:za8 (zI d) c.v=x at*;have HE:Hid _:=hE;clear hE hx;go_wp2_with fail
 go_ret;exact⟨zt HE.out.symm,j.mono U,.inl ⟨by rw[HE.out];exact A.out,aC.out⟩⟩
structure zDe (w w':World)(e:Ending)(ls:List Ct):Prop where
 below:B_ w w'
 out:(zbV (zI ls)=12/\e=.returned (.tuple #[.pointer none,I_ 12]))\/(zbV (zI ls)=0/\∃(s:Nat) (ks:List Ct),e=.returned (.tuple #[P_ s 0,I_ 0])/\zI ks=zI ls/\zgz w' w.heap.size s ks)
theorem zCB (w:World)(B s:Nat)(h:R_ w s #[O_,O_] 68)(d:B<=s):zgz w B s []:=
 ⟨O_,O_,[],⟨h,d,oN_ _ _ _ _,oN_ _ _ _ _,(λc b=>by cases b),(λc b=>by cases b),(λc b=>by cases b),(λc b=>by cases b)⟩,rfl,nZ_ _⟩
theorem zCC (b:List Ct)(f:Q_)(n l:Nat)(w:World)(hn:n=b.length)(p:zy5 w f l b)(U:za2 w) :
  Calls prog 12 #[.agg #[.slice f n l]] w λe w'=>zDe w w' e b:=by
 subst hn;have ag:=p.le;have ai:=p.max;refine kW_ ?A0 ?_;exact w.alloc (.cells #[.slice f b.length l] 44);refine kO_ ?B0 ?_;exact Obj.cells #[O_,O_] 68;have H:B_ w ((?A0).alloc ?B0):=((bR_ _ _).alloc (nR_ _) _).alloc (by rw[zG];omega) _;have C:((?A0).alloc ?B0).heap[w.heap.size+1]? = some (.cells #[O_,O_] 68 (0,0)):=by
  have:=hN_ ?A0 ?B0;rw[zG]at this;exact this
 have L:=hX_ w (.cells #[.slice f b.length l] 44) ?B0;have HC:Hid (∀W:World,B_ w W->zba W f b):=by
  show ∀W,_;exact λW o=>p.certs.below o
 have HE:Hid (∀W:World,B_ w W->∀c∈b,za7 W c):=by
  show ∀W,_;exact λW o c hc=>(p.each c hc).below o
 have HT:Hid (∀W:World,B_ w W->za2 W):=by
  show ∀W,_;exact λW o=>U.below o
 have aj:=p.small;clear p U;have O:=zb L 0 _ rfl;go_in;go_wp2_with fail
 generalize (?A0).alloc ?B0=W0 at H L C O|-;generalize hS:w.heap.size+1=S at C|-;have ad:w.heap.size<=S:=by omega
 clear hS O L;go_loopw [12] (λj wr=>∃(m:Nat) (d:List Ct),m<=b.length/\j=I_ m/\Hid (zI d=(zI b).take m/\∀k,k<m->za8 ((zI b).take k) (zaM (zI b) k)=0)/\zgz wr w.heap.size S d/\B_ w wr) (λj _=>b.length-(intOf j).toNat)
 case atStart=>exact⟨0,[],nZ_ _,rfl,⟨rfl,λk z=>by omega⟩,zCB _ _ _ C ad,H⟩
 case round=>
  clear H C;obtain⟨m,d,hm,rfl,q,J,I⟩:=hrel;by_cases hlt:m<b.length
  .obtain⟨sb,so,rfl,c0,c1,c2,c3,c4⟩:=(HC.out wr I).at m hlt;have ah:(m:Int)<b.length:=by omega
   have ab:Hid (∀W:World,B_ w W->za7 W (b[m])):=by
    show ∀W,_;exact λW o=>HE.out W o _ (gM_ hlt)
   have M:Hid (zaM (zI b) m=(b[m]).v):=zk4 b m hlt;have ac:Hid ((zI b).take (m+1)=(zI b).take m++[(b[m]).v]):=by
    show _=_;rw[tS_ (by simp[zI];exact hlt)];simp[zI]
   generalize b[m]=s at*;have t:=(bR_ wr.heap.size wr).alloc (nR_ _) (.cells (crow_ s) 59);have Z:=hN_ wr (.cells (crow_ s) 59);go_wp2_with fail
   generalize wr.alloc (.cells (crow_ s) 59)=G at t Z|-;have u:=zm I t;refine(zB0 d w.heap.size S s G (J.below t) u.size (ab.out G u) (HT.out G u)).mono ?_;intro e D r;have X:=r.told;have V:=r.below;have A:=r.own;rw[q.out.1,<-M.out]at X A;have R:B_ w D:=u.trans V;clear r Z c0 c1 c2 c3 c4 J t V;subst X;dsimp only;have E:Hid (za8 ((zI b).take m) (zaM (zI b) m)≠0->zbV (zI b)=12):=by
    show _->_;exact λh=>zCy (by rw[zbv];exact hlt) h
   have F:Hid (za8 ((zI b).take m) (zaM (zI b) m)=0->∀k,k<m+1->za8 ((zI b).take k) (zaM (zI b) k)=0):=by
    show _->_;intro h k z;rcases lG_ k m with g|g;exact q.out.2 k g;obtain rfl:k=m:=by omega
    exact h
   generalize za8 ((zI b).take m) (zaM (zI b) m)=x at*;by_cases hx:x=0
   .have HN:Hid _:=F.out hx;have HO:Hid (∃y:Ct,y.v=zaM (zI b) m/\zgz D w.heap.size S (d++[y])):=by
     show ∃y,_;rcases A with⟨h,_⟩|⟨_,h⟩;exact absurd hx h;exact h
    subst hx;clear F E A;go_wp2_with fail
    go_roundw
    case rel=>
     obtain⟨y,ae,af⟩:=HO.out;have T:∃(B:Nat) (Y:List Ct),B<=b.length/\(Value.int .i64 ((m:Int)+1))=I_ B/\Hid (zI Y=(zI b).take B/\∀k,k<B->za8 ((zI b).take k) (zaM (zI b) k)=0)/\zgz D w.heap.size S Y/\B_ w D:=
      ⟨m+1,d++[y],by omega,by go_num,⟨by rw[ac.out,<-q.out.1,<-M.out,<-ae];simp[zI],HN.out⟩,af,R⟩
     first|exact T|((repeat apply Exists.intro);exact⟨T,rfl⟩)
    case measure=>simp[intOf];omega
   have aa:Hid (zbV (zI b)=12):=E.out hx;have ak:(x != 0)=true:=by simpa using hx
   clear F E A;go_wp2_with fail
   go_ret2;exact⟨R,.inl ⟨aa.out,rfl⟩⟩
  obtain rfl:m=b.length:=by omega
  have N:Hid (zbV (zI b)=0/\zI d=zI b):=by
   show _/\_;refine⟨zvz (λk z=>q.out.2 k (by rw[zbv]at z;exact z)),?_⟩;rw[q.out.1,tL_ (by rw[zbv];exact nR_ _)]
  go_wp2_with fail
  go_ret2;exact⟨I,.inr ⟨N.out.1,S,d,rfl,N.out.2,J⟩⟩
variable {ds:List zi}
theorem zC7 {l:List CV}(h:zT ds=l.map CV.d):∀p∈ds,p.bs.length<=140737488355328:=by
 intro p f;have b:p.bs∈l.map CV.d:=by rw[<-h];exact mM_.2 ⟨p,f,rfl⟩
 obtain⟨c,_,d⟩:=mM_.1 b;rw[<-d,c.d_length]
 decide
structure zDj (w w':World)(e:Ending)(l:List CV)(rd:Int):Prop where
 below:B_ w w'
 out:(zbV l=12/\e=.returned (.tuple #[O_,I_ 12]))\/(zbV l=0/\∃ma mc ms,e=.returned (.tuple #[.slice ma (List.length ms) mc,I_ 0])/\zT ms=dgF l rd/\zx w' ma mc ms/\za1 w.heap.size ma ms)
theorem zBc (b:List Ct)(g:Q_)(n c:Nat)(rd:Int)(w:World)(hn:n=b.length)(Z:zy5 w g c b)(U:za2 w) :
  Calls prog 8 #[.agg #[.slice g n c],I_ rd] w λe w'=>zDj w w' e (zI b) rd:=by
 subst hn;have j:=(bR_ w.heap.size w).alloc (nR_ _) (.cells #[.slice g b.length c] 44);go_in;go_wp2_with fail
 generalize w.alloc (.cells #[.slice g b.length c] 44)=G at j|-;refine(zCC b g _ c G rfl (Z.below j) (U.below j)).mono ?_;intro e w1 o;have X:=o.below;have T:=o.out;clear o;have l:=zm j X;rcases T with⟨d,f⟩|⟨d,s,ks,f,y,B⟩
 .have m:Hid _:=d;clear d;subst f;dsimp only;go_wp2_with fail
  go_ret2;exact⟨l,.inl ⟨m.out,rfl⟩⟩
 have m:Hid _:=d;have D:Hid _:=y;clear d y;subst f;dsimp only;obtain⟨vc,vd,ds,A,q,aa⟩:=B.out;obtain⟨H,I,J,L,M,N,V⟩:=A.at q aa;subst M N;have C:∀p∈ds,p.bs.length<=140737488355328:=zC7 q;have E:=zBE ks s H I J L ds rd w1 V C;clear C q B A;go_wp2_with fail
 refine E.mono ?_;rintro e w2⟨ma,mc,ms,f,u,R,z,Y⟩;have F:Hid _:=u;clear u;subst f;dsimp only;have O:=zm l Y;go_wp2_with fail
 go_ret2;exact⟨O,.inr ⟨m.out,ma,mc,ms,rfl,by rw[F.out,D.out],R,⟨λr t e=>nT_ l.size (z.row r t e),λp hp r t e=>nT_ l.size (z.each p hp r t e)⟩⟩⟩
theorem zC8 {x:Vm}(h:zfX w x)(I:x.ls.length<=400):zy5 w x.ca x.cc x.ls:=by
 rcases h.rc.2 with⟨e,f⟩|⟨g,q,D,e,E,F,r,s,G,H⟩;have y:x.ls=[]:=eN_ f;have m:x.cc=0:=by cases x;simp at e;exact e.2.2
 exact⟨by rw[f];exact nZ_ _,by rw[m];decide,by rw[f];decide,.inl m,⟨.inl y⟩,h.ec⟩;have c:x.ca=some (p_ g 0)/\x.cc=q:=by simp at e;exact⟨e.1,e.2⟩
 refine⟨by rw[c.2];exact r,by rw[c.2];unfold maxLen at s;omega,by omega,.inr ⟨g,0,c.1⟩,⟨.inr ⟨g,0,c.1,λj o=>?_⟩⟩,h.ec⟩;obtain⟨b,l,d⟩:=zei h.rc o (show(x.ls[j]).cs.length=5 from rfl) (λt u=>zfx _ j t o u);obtain rfl:g=b:=by rw[c.1]at l;simpa using l
 have p:=d 0 _ rfl;have z:=d 1 _ rfl;have A:=d 2 _ rfl;have B:=d 3 _ rfl;have C:=d 4 _ rfl;simp only[Nat.add_zero]at p;rw[zA_];exact⟨p,z,A,B,C⟩
theorem zCP {l:List CV}(h:zbV l=0):l.length<=400:=by
 unfold zbV at h
 split at h
 cases h
 rename_i g
 simp only[not_or]at g;omega
theorem zBN {c:CV}(h:c.hf=0):(zcE c.slot).onTape.length<=325:=by
 have k:=zk7 (m:=(zcE c.slot).mv.m) (ss:=[]) (bl:=[]) (pl:=[]) (cbl:=[]) (cpl:=[]) (ds:=c.slot.2.2) (vl:=[]) rfl (by rw[ziQ rfl];exact zAp h);show(MV.onTape (zcE c.slot).mv).length<=325;rw[zlH];show 2+([_,_,_]++zcG _ _ _ _ _ _ _ _).length<=325;rw[lP_];have k:(zcG (zcE c.slot).mv.m (zcE c.slot).mv.ss (zcE c.slot).mv.bl (zcE c.slot).mv.pl (zcE c.slot).mv.cbl (zcE c.slot).mv.cpl (zcE c.slot).mv.ds (zcE c.slot).mv.vl).length<=320:=k;simp only[List.length_cons,List.length_nil];omega
theorem zBO {c:CV}(h:c.f=0):(zdh c).onTape.length<=325:=by
 have k:=zk7 (m:=(zdh c).mv.m) (ss:=[]) (bl:=[]) (pl:=[]) (cbl:=pz c.bl) (cpl:=pz c.pl) (ds:=[]) (vl:=c.vl) rfl (by rw[ziR rfl];exact h);show(MV.onTape (zdh c).mv).length<=325;rw[zlH];show 2+([_,_,_]++zcG _ _ _ _ _ _ _ _).length<=325;rw[lP_];have k:(zcG (zdh c).mv.m (zdh c).mv.ss (zdh c).mv.bl (zdh c).mv.pl (zdh c).mv.cbl (zdh c).mv.cpl (zdh c).mv.ds (zdh c).mv.vl).length<=320:=k;simp only[List.length_cons,List.length_nil];omega
def Kof (l:List MC):Kn:=l.foldl Kn.rcl Kn.z
structure Wt (i:Int)(l:List MC):Prop where
 tape:(zae l).length<=325*((Kof l).sh.length+(Kof l).tab.length+(Kof l).dag.length)
 tab:(Kof l).tab.length<=400
 dag:(Kof l).dag.length<=400
 own:∀t∈(Kof l).tab,t.1=i->t.2.1<=(Kof l).own.rd
def zl4 (i:Int)(n:Nd):Prop:=(n.nu=i/\zdf i n)/\∀l,l <+: n.recs->Wt i l
theorem zl4.now {n:Nd}(h:zl4 i n):Wt i n.recs/\Kof n.recs=n.k:=⟨h.2 _ (List.prefix_refl _),h.1.2.symm⟩
theorem zA7 {n:Nd}{m:MC}{k:Kn}(h:zl4 i n)(e:n.k.rcl m=k)(u:m.onTape.length<=325)(s:n.k.sh.length+n.k.tab.length+n.k.dag.length+1<=k.sh.length+k.tab.length+k.dag.length)
  (p:k.tab.length<=400) (g:k.dag.length<=400) (o:∀t∈k.tab,t.1=i->t.2.1<=k.own.rd):zl4 i (n.log m k):=by
 have d:=zdm (m:=m) h.1.2 e;have c:Kof (n.recs++[m])=k:=(show k=_ from d).symm;refine⟨⟨h.1.1,d⟩,λl b=>?_⟩;have b:l <+: n.recs++[m]:=b;rcases List.prefix_concat_iff.1 b with rfl|b;obtain⟨q,j⟩:=h.now;have f:=q.tape;rw[j]at f;refine⟨?_,by rw[c];exact p,by rw[c];exact g,by rw[c];exact o⟩;rw[c];have r:(zae (n.recs++[m])).length=(zae n.recs).length+m.onTape.length:=by simp[zae]
 omega;exact h.2 l b
theorem zBk:∀(k:Nat) (l:List MC),zeo k l <+: l
 | _,[]=>List.prefix_refl _
 | k,m::l=>by
  rw[zeo]
  split
  .exact(List.cons_prefix_cons).2 ⟨rfl,zBk _ l⟩
  .exact List.nil_prefix
theorem zCQ:zc5 (λ_=>True) zl4 where
 step:=λi o a b D _ s h=>by
  obtain⟨B,I⟩:=h.now
  have C:=B.tab;have y:=B.dag;have q:=B.own
  rw[I]at C y q
  rcases s with⟨d,m,M,_,rfl⟩|⟨b,f,_,rfl⟩|⟨x,f,rfl⟩|⟨c,f,rfl⟩|⟨r,f,_,L,_,rfl⟩|⟨_,_,_,_,rfl⟩|⟨_,_,rfl⟩|⟨_,rfl⟩
  .unfold Nd.send;split<;>exact h
  .have H:b.f=0:=by unfold zbG at f;simp only[Bool.and_eq_true,dE_]at f;exact f.1.1
   exact zA7 h (zmN f) (zCL H) (by show _<=(a.k.sh++[b]).length+_+_;rw[lP_];simp only[List.length_cons,List.length_nil];omega) C y q
  .rcases zgf f.cast with⟨g,_⟩|⟨g,_,u⟩
   .have:=f.more;rw[g]at this;omega
   .refine zA7 h (by rw[zmP,g]) (zBN f.hf) ?_ ?_ y ?_
    .show _<=_+((zaf a.k.tab x).1).length+_
     rw[g,lP_];simp only[List.length_cons,List.length_nil];omega
    .show((zaf a.k.tab x).1).length<=400
     rw[g,lP_];simp only[List.length_cons,List.length_nil];omega
    .show ∀t∈(zaf a.k.tab x).1,_
     rw[g]
     intro t j e
     rcases mA_.1 j with j|j
     .exact q t j e
     .rw[mS_.1 j]at e
      exact absurd (e.trans h.1.1.symm) f.other
  .unfold Nd.proofs at f
   simp only[Bool.and_eq_true,dE_]at f
   obtain⟨z,_,u⟩:=zg5 f.1.1
   exact zA7 h (zmQ f.1.1) (zBO z) (by show _<=_+_+(a.k.dag++[c]).length;rw[lP_];simp only[List.length_cons,List.length_nil];omega) C (by show(a.k.dag++[c]).length<=400;rw[lP_];simp only[List.length_cons,List.length_nil];omega) q
  .have A:(a.header r).slot.1=i/\(a.header r).slot.2.1=r:=⟨h.1.1,rfl⟩
   rcases zgf f with⟨_,t,z,G,u,_⟩|⟨g,_,u⟩
   .have:=q t z (G.trans A.1)
    rw[u,A.2]at this
    omega
   .have h':zl4 i (a.log (zcl (a.header r)) { a.k with tab:=(zaf a.k.tab (a.header r)).1,own:=a.header r,slot:=(a.header r).slot }):=by
     refine zA7 h (zmO rfl (zgU f).2.1 f) (zBI (zgU f).2.1) ?_ ?_ y ?_
     .show _<=_+((zaf a.k.tab (a.header r)).1).length+_;rw[g,lP_];simp only[List.length_cons,List.length_nil];omega
     .show((zaf a.k.tab (a.header r)).1).length<=400;rw[g,lP_];simp only[List.length_cons,List.length_nil];omega
     .show ∀t∈(zaf a.k.tab (a.header r)).1,_->_<=(a.header r).rd;rw[g];intro t j e;have N:(a.header r).rd=r:=rfl;rcases mA_.1 j with j|j
      .have:=q t j e;omega
      .rw[mS_.1 j,A.2];exact Int.le_refl _
    exact⟨⟨h'.1.1,h'.1.2⟩,h'.2⟩
  all_goals exact⟨⟨h.1.1,h.1.2⟩,h.2⟩
 crash:=λi n p D J h=>by
  obtain⟨f,_,_,F,_⟩:=zc8 n p;refine⟨⟨f.trans h.1.1,zib.crash i n p D J h.1.2⟩,λl E=>h.2 l ?_⟩;rw[F]at E;exact E.trans (zBk _ _)
 up:=λi n _ h=>⟨⟨h.1.1,h.1.2⟩,h.2⟩
 synced:=λi n _ h=>⟨⟨h.1.1,h.1.2⟩,h.2⟩
 sub:=λi n t _ _ _ h=>⟨⟨h.1.1,h.1.2⟩,h.2⟩
theorem zDk (r:Int):zah zl4 (Fl.z r):=⟨rfl,λi b=>by
 rw[zf1 r i b]
 refine⟨⟨rfl,rfl⟩,λl c=>?_⟩
 obtain rfl:=List.prefix_nil.1 c
 exact⟨nR_ _,by decide,by decide,λt d=>by cases d⟩⟩
theorem zl4.room {n:Nd}(h:zl4 i n)(l:n.k.sh.length<=400){m:MC}(j:m.onTape.length<=325):n.room m=true:=by
 obtain⟨b,g⟩:=h.now;have c:=b.tape;have d:=b.tab;have f:=b.dag;rw[g]at c d f;unfold Nd.room;exact dT_ (by omega)
theorem zC9 (r:Int)(l:List Ac)(c:∀a∈l,a.ok){i:Int}(b:0<=i/\i<4):zl4 i (((Fl.z r).run l).node i):=
 (zah.run zCQ l (zcn.z r) (zDk r) c (λ_ _ _=>trivial)).2 i b
variable {j:Int}
def Gd (b i:Int):Prop:=(0<=i/\i<4)/\i≠b
def gds (b:Int):L_:=[0,1,2,3].filter λj=>decide (j≠b)
theorem zAg {b:Int}:j∈gds b↔Gd b j:=by
 unfold gds Gd;rw[List.mem_filter];simp only[List.mem_cons,List.not_mem_nil,or_false,dE_]
 constructor
 rintro⟨h,g⟩;exact⟨by omega,g⟩;rintro⟨h,g⟩;exact⟨by omega,g⟩
theorem zAH {b:Int}(h:-1<=b/\b<=3):b=-1\/b=0\/b=1\/b=2\/b=3:=by omega
theorem zBe {b:Int}(h:-1<=b/\b<=3):3<=(gds b).length/\(gds b).length<=4/\(gds b).Nodup:=by
 rcases zAH h with e|e|e|e|e<;>subst e<;>decide
def Pz (b:Int):Nat->List (L_)
 | 0=>[]
 | s+1=>(gds b).map λj=>(⟨j,(s:Int)+1,[],Pz b s,[]⟩:CV).d
def Hx (b:Int)(r:Nat)(j:Int):CV:=⟨j,(r:Int)+1,[],Pz b r,[]⟩
theorem zzK (b:Int)(r:Nat):Pz b (r+1)=(gds b).map λj=>(Hx b r j).d:=rfl
abbrev NC (b:Int):Prop:=((List.range 6).flatMap λk=>Pz b (k+1)).Nodup
theorem zDa {α β:Type}{g:α->β}{l:List α}(h:(l.map g).Nodup):∀{x y:α},x∈l->y∈l->g x=g y->x=y:=by
 induction l with
 | nil=>intro x y b;cases b
 | cons a l ih=>
  rw[List.map_cons,List.nodup_cons]at h;intro x y b c e;rcases List.mem_cons.1 b with p|p<;>rcases List.mem_cons.1 c with q|q;rw[p,q];exact absurd (mM_.2 ⟨y,q,by rw[<-e,p]⟩) h.1;exact absurd (mM_.2 ⟨x,p,by rw[e,q]⟩) h.1;exact ih h.2 p q e
theorem zCD {α:Type}{f:Nat->List α}:∀{l:List Nat},(l.flatMap f).Nodup->∀{r s:Nat} {x:α},r∈l->s∈l->x∈f r->x∈f s->r=s:=by
 intro l
 induction l with
 | nil=>intro _ r s x d;cases d
 | cons a l ih=>
  intro h r s x d m b c;rw[List.flatMap_cons,List.nodup_append]at h;obtain⟨_,j,g⟩:=h;rcases List.mem_cons.1 d with p|p<;>rcases List.mem_cons.1 m with q|q;rw[p,q];exact absurd rfl (g x (by rw[<-p];exact b) x (List.mem_flatMap.2 ⟨s,q,c⟩));exact absurd rfl (g x (by rw[<-q];exact c) x (List.mem_flatMap.2 ⟨r,p,b⟩));exact ih j p q b c
theorem zBm {α:Type}{f:Nat->List α}{l:List Nat}(h:(l.flatMap f).Nodup){r:Nat}(b:r∈l):(f r).Nodup:=by
 induction l with
 | nil=>cases b
 | cons a l ih=>
  rw[List.flatMap_cons,List.nodup_append]at h;rcases List.mem_cons.1 b with rfl|b;exact h.1;exact ih h.2.1 b
theorem NC.inj {b:Int}(h:NC b){r s:Nat}{j k:Int}(f:r<6)(l:s<6)(c:Gd b j)(d:Gd b k)(e:(Hx b r j).d=(Hx b s k).d):r=s/\j=k:=by
 have m:(Hx b r j).d∈Pz b (r+1):=by rw[zzK];exact mM_.2 ⟨j,zAg.2 c,rfl⟩
 have o:(Hx b r j).d∈Pz b (s+1):=by rw[e,zzK];exact mM_.2 ⟨k,zAg.2 d,rfl⟩
 obtain rfl:=zCD h (List.mem_range.2 f) (List.mem_range.2 l) m o;exact⟨rfl,zDa (g:=λj=>(Hx b r j).d) (zBm h (List.mem_range.2 f)) (zAg.2 c) (zAg.2 d) e⟩
theorem zBy {b:Int}(f:-1<=b/\b<=3)(r:Nat):(Pz b r).length<=4/\(0<r->3<=(Pz b r).length):=by
 obtain⟨c,d,_⟩:=zBe f;cases r with
 | zero=>exact⟨nZ_ _,λh=>by omega⟩
 | succ r=>rw[zzK,List.length_map];exact⟨d,λ_=>c⟩
theorem zDb {a c:CV}(h:txL a.d=txL c.d):a.d=c.d:=(zx1 (CV.d_u8 a) (CV.d_u8 c)).1 h
theorem zDc {b:Int}(h:NC b){r:Nat}(d:r<=6):Apt (Pz b r):=by
 cases r with
 | zero=>exact List.Pairwise.nil
 | succ r=>
  have c:(Pz b (r+1)).Nodup:=zBm h (List.mem_range.2 (by omega));rw[zzK]at c|-;unfold Apt;rw[List.Nodup,List.pairwise_map]at c;rw[List.pairwise_map];exact c.imp λg e=>g (zDb e)
theorem zAV {b:Int}(m:-1<=b/\b<=3)(h:NC b){r:Nat}(p:r<=6){j:Int}(o:Gd b j):(Hx b r j).hf=0:=by
 obtain⟨t,s⟩:=zBy m r;have f:(pz (Pz b r)).length=(Pz b r).length:=by simp[pz]
 have l:∀d∈Pz b r,d.length=32:=λd c=>by
  cases r with
  | zero=>cases c
  | succ r=>rw[zzK]at c;obtain⟨k,_,rfl⟩:=mM_.1 c;exact zbD _ _ _ _
 have q:zb8 (pz [])=0:=rfl;show zO j ((r:Int)+1) (pz []) (pz (Pz b r))=0;unfold zO;rw[iN_ (by have:=o.1;omega),iN_ (by rw[f];show ¬(3<0\/_);omega),iN_ (by rw[q];decide),zCA l (zDc h p),iN_ (by decide),f];unfold zb9;rw[iN_];rintro(⟨e,g⟩|⟨e,g⟩);have:r=0:=by omega
 subst this;exact absurd g (by show ¬0<0;omega);have:=s (by omega);omega
structure Leg (b:Int)(A:Nat)(c:CV):Prop where
 au:Gd b c.au
 f:c.f=0
 rd:∃r:Nat,r<A/\c.rd=(r:Int)+1/\c.bl=[]/\c.pl=Pz b r
theorem Leg.mono {b:Int}{A:Nat}{c:CV}(h:Leg b A c)(g:A<=B):Leg b B c:=by
 obtain⟨r,f,d⟩:=h.rd;exact⟨h.au,h.f,r,by omega,d⟩
theorem Leg.hx {b:Int}{A:Nat}{c:CV}(h:Leg b A c):∃r:Nat,r<A/\c.rd=(r:Int)+1/\c.pl=Pz b r/\c.d=(Hx b r c.au).d:=by
 obtain⟨r,j,d,g,f⟩:=h.rd;refine⟨r,j,d,f,?_⟩;obtain⟨au,rd,bl,pl,vl⟩:=c;dsimp only at d g f;subst d g f
 rfl
theorem zAF {b:Int}{A:Nat}{l:List CV}(o:∀c∈l,Leg b A c){j:Int}{r:Nat}(h:0<=cOf l j ((r:Int)+1)):∃m,m<l.length/\(cOf l j ((r:Int)+1))=(m:Int)/\(zaM l m).rd=(r:Int)+1/\(zaM l m).d=(Hx b r j).d/\r<A/\Gd b j:=by
 obtain⟨z,B⟩:=zlB l j ((r:Int)+1);have f:(cOf l j ((r:Int)+1)).toNat<l.length:=by omega
 have d:=zoq _ _ h;have d:zfp l j ((r:Int)+1) (cOf l j ((r:Int)+1)).toNat=true:=d;unfold zfp at d;obtain⟨u,y⟩:=of_decide_eq_true d;refine⟨_,f,by omega,y,?_⟩;obtain⟨s,t,C,D,p⟩:=(o _ (zz3 f)).hx;have q:s=r:=by omega
 subst q;have g:=(o _ (zz3 f)).au;rw[u]at p g;exact⟨p,t,g⟩
theorem zCE {b:Int}(z:NC b){A:Nat}(H:A<=6){l:List CV}(o:∀c∈l,Leg b A c){r:Nat}(h:∀j,Gd b j->∀s:Nat,s+1=r->0<=cOf l j ((s:Int)+1)):zdz l ((r:Int)+1) (Pz b r)=0:=by
 refine(zB1 (m:=(Pz b r).length) λk p=>?_).1;cases r with
 | zero=>exact absurd p (by show ¬k<0;omega)
 | succ s=>
  have g:(Pz b (s+1)).getD k []∈Pz b (s+1):=by simp[List.getD,p]
  generalize (Pz b (s+1)).getD k []=d at g;rw[zzK]at g;obtain⟨j,f,rfl⟩:=mM_.1 g;have f:=zAg.1 f;obtain⟨m,B,_,I,C,J,_⟩:=zAF o (h j f s rfl);have q:0<=pOf l (Hx b s j).d:=by rw[<-C];exact(zCh B).1
  refine zCg q ?_;obtain⟨F,G⟩:=zrC l (Hx b s j).d;have u:(pOf l (Hx b s j).d).toNat<l.length:=by omega
  have y:zmi l (Hx b s j).d (pOf l (Hx b s j).d).toNat=true:=zoq _ _ q;unfold zmi at y;have e:=zDb (of_decide_eq_true y);obtain⟨t,L,D,M,E⟩:=(o _ (zz3 u)).hx;rw[E]at e;obtain⟨rfl,_⟩:=z.inj (by omega) (by omega) (o _ (zz3 u)).au f e;rw[D];omega
theorem zB3 {b:Int}{A:Nat}{l:List CV}(d:∀c∈l,Leg b A c){r:Nat}(h:∀j,Gd b j->0<=cOf l j ((r:Int)+1)):dgF l ((r:Int)+1)=Pz b (r+1):=by
 have o:∀j:Int,0<=j/\j<4->(0<=cOf l j ((r:Int)+1)↔j≠b):=λj f=>⟨λg=>by obtain⟨_,_,_,_,_,_,m⟩:=zAF d g;exact m.2,λg=>h j ⟨f,g⟩⟩;have t:∀j:Int,0<=cOf l j ((r:Int)+1)->(zaM l (cOf l j ((r:Int)+1)).toNat).d=(Hx b r j).d:=λj g=>by
  obtain⟨m,_,p,_,q,_⟩:=zAF d g;rw[p];exact q
 have s:∀n:Nat,n<=4->zc6 l ((r:Int)+1) n=(((List.range n).map λ(x:Nat)=>(x:Int)).filter λj=>decide (j≠b)).map λj=>(Hx b r j).d:=by
  intro n
  induction n with
  | zero=>intro _;rfl
  | succ n ih=>
   intro u;rw[zc6,ih (by omega),List.range_succ,List.map_append,List.filter_append,List.map_append];have k:=o (n:Int) (by omega);by_cases e:(n:Int)=b;rw[iN_ (λg=>(k.1 g) e)];simp[e];rw[iP_ (k.2 e),t _ (k.2 e)];simp[e]
 rw[dgF,s 4 (nR_ _),zzK]
 rfl
theorem k2 {P:Prop}:(2:Int)=1->P:=λh=>absurd h (by decide)
theorem k3 {P:Prop}:(3:Int)=1->P:=λh=>absurd h (by decide)
theorem k4 {P:Prop}:(4:Int)=1->P:=λh=>absurd h (by decide)
theorem k5 {P:Prop}:(5:Int)=1->P:=λh=>absurd h (by decide)
variable {au:Int}
theorem zAY (n:Nd)(d:Int)(m:MC):(n.send d m).txs=n.txs:=by unfold Nd.send;split<;>rfl
theorem zB4 {nx:Int}(b:zaO nx []=0)(c:0<=au/\au<4):zb4 nx [] au≠0:=by
 rw[zlA b,zcV,iN_ (by omega),iP_ (show([]:Z_).length=0 from rfl)]
 decide
theorem zAA:∀(n:Nat) (l:List Nat),l.Nodup->(∀x∈l,x<n)->l.length<=n
 | 0,l,_,h=>by
  cases l with
  | nil=>exact nR_ _
  | cons x l=>exact absurd (h x (by simp)) (by omega)
 | n+1,l,hd,h=>by
  by_cases hm:n∈l
  .have c:=zAA n (l.erase n) (hd.erase n) (λx b=>by
    have d:=(List.Nodup.mem_erase_iff hd).1 b
    have:=h x d.2;omega)
   rw[List.length_erase_of_mem hm]at c
   omega
  .have:=zAA n l hd (λx b=>by
    have:=h x b
    have:x≠n:=λe=>hm (by rw[<-e];exact b)
    omega)
   omega
theorem zCR {b:Int}{A:Nat}(h:zdt l=0)(f:∀s∈l,∃j r,Gd b j/\r<A/\s=(Hx b r j).slot):l.length<=4*A+4:=by
 have C:(l.map λs:SV=>s.1.toNat+4*s.2.1.toNat).Nodup:=by
  rw[List.Nodup,List.pairwise_map,List.pairwise_iff_getElem];intro x y c g G e;obtain⟨j,r,d,_,t⟩:=f _ (gM_ c);obtain⟨k,s,E,_,u⟩:=f _ (gM_ g);have z:zd1 l x=l[x]:=by simp[zd1,c]
  have B:zd1 l y=l[y]:=by simp[zd1,g]
  have H:=d.1;have I:=E.1;have m:(l[x]).1=j:=by rw[t];rfl
  have o:(l[y]).1=k:=by rw[u];rfl
  have p:(l[x]).2.1=(r:Int)+1:=by rw[t];rfl
  have q:(l[y]).2.1=(s:Int)+1:=by rw[u];rfl
  rw[m,o,p,q]at e;exact zz0 h g G (by rw[z,B,m,o];omega) (by rw[z,B,p,q];omega)
 have D:=zAA (4*A+4) _ C (λx c=>by
  obtain⟨s,F,rfl⟩:=mM_.1 c;obtain⟨j,r,d,J,rfl⟩:=f s F;have:=d.1;show j.toNat+4*((r:Int)+1).toNat<_;omega)
 rwa [List.length_map]at D
theorem zCS {l:List CV}(h:zbV l=0){x y:Nat}(p:y<l.length)(o:x<y)(d:(zaM l x).au=(zaM l y).au)(f:(zaM l x).rd=(zaM l y).rd):False:=by
 have b:zgH l y=false:=by
  unfold zbV at h
  split at h
  cases h
  rename_i g
  simp only[not_or,Bool.not_eq_true]at g;have:=List.any_eq_false.1 g.2 y (List.mem_range.2 p)
  simpa using this
 unfold zgH at b;simp only[Bool.or_eq_false_iff,decide_eq_false_iff_not,ne_eq,Decidable.not_not]at b;have j:=zoy b.2;have m:x<(l.take y).length:=by rw[lT9_];omega
 have c:zfp (l.take y) (zaM l y).au (zaM l y).rd x=false:=zqP _ _ j x m;rw[zfp,zBY l y x o,dT_ ⟨d,f⟩]at c;cases c
theorem zCT {b:Int}{A:Nat}{l:List CV}(h:zbV l=0)(d:∀c∈l,Leg b A c):l.length<=4*A+4:=by
 have t:(l.map λc:CV=>c.au.toNat+4*c.rd.toNat).Nodup:=by
  rw[List.Nodup,List.pairwise_map,List.pairwise_iff_getElem];intro x y f g z e;have B:=(d _ (gM_ f)).au.1;have C:=(d _ (gM_ g)).au.1;obtain⟨r,_,j,_⟩:=(d _ (gM_ f)).rd;obtain⟨s,_,m,_⟩:=(d _ (gM_ g)).rd;have o:zaM l x=l[x]:=by simp[zaM,f]
  have p:zaM l y=l[y]:=by simp[zaM,g]
  rw[j,m]at e;exact zCS h g z (by rw[o,p];omega) (by rw[o,p,j,m];omega)
 have u:=zAA (4*A+4) _ t (λx f=>by
  obtain⟨c,q,rfl⟩:=mM_.1 f;have:=(d c q).au.1;obtain⟨r,D,j,_⟩:=(d c q).rd;show c.au.toNat+4*c.rd.toNat<_;omega)
 rwa [List.length_map]at u
theorem zAS {b:Int}(y:-1<=b/\b<=3)(D:NC b){A:Nat}(G:A<=6){l:List SV}(f:zdt l=0)(d:∀s∈l,∃j r,Gd b j/\r<A/\s=(Hx b r j).slot){j:Int}{r:Nat}(C:Gd b j)(E:r<=6):(zaf l (Hx b r j)).2.2=0:=by
 have B:zO j ((r:Int)+1) (pz []) (pz (Pz b r))=0:=zAV y D E C;have z:(za6 l (j,(r:Int)+1,zaE j ((r:Int)+1) (pz []) (pz (Pz b r)))).2=0:=by
  cases hm:zbp l j ((r:Int)+1) l.length with
  | none=>
   have F:=zCR f d;rw[zjL hm (by omega)]
  | some m=>
   obtain⟨t,u,_⟩:=zrN hm;obtain⟨o,c⟩:=ztA u;obtain⟨k,s,_,_,e⟩:=d _ (zvC t);have p:k=j:=by rw[<-o,e];rfl
   have q:s=r:=by rw[e]at c;have:((s:Int)+1)=(r:Int)+1:=c;omega
   rw[ziG hm (by rw[e,p,q];rfl)]
 show(zcL l j ((r:Int)+1) (pz []) (pz (Pz b r))).2.2=0;unfold zcL;rw[iN_ (λg=>g f),iN_ (λg=>g B),iN_ (λg=>g z)]
theorem zBz {b:Int}(o:-1<=b/\b<=3)(p:NC b){A:Nat}(m:A<=6){l:List SV}(t:zdt l=0)(d:∀s∈l,∃j r,Gd b j/\r<A/\s=(Hx b r j).slot){j:Int}{r:Nat}(f:Gd b j)(q:r<A):∀s∈(zaf l (Hx b r j)).1,∃j r,Gd b j/\r<A/\s=(Hx b r j).slot:=by
 intro s c;rcases zgf (zAS o p m t d f (by omega:r<=6))with⟨g,_⟩|⟨g,_⟩;rw[g]at c;exact d s c;rw[g]at c;rcases mA_.1 c with h|h;exact d s h;exact⟨j,r,f,q,mS_.1 h⟩
theorem zBn {o:No}(d:zbF o.sg=0)(b:-1<=o.bad/\o.bad<=3){i:Int}{s:SV}(c:gF (i,s.1,s.2.1,s.2.2)=0)(h:(i,s)∈o.sg):o.signed i s=true:=by
 unfold No.signed;rw[zlw (zw4 d b) c];simp[h]
theorem zBs {b:Int}(c:-1<=b/\b<=3)(g:NC b){r:Nat}(l:r<=6){i j:Int}(d:Gd b i)(f:Gd b j):gF (i,(Hx b r j).slot.1,(Hx b r j).slot.2.1,(Hx b r j).slot.2.2)=0:=by
 have h:=zAp (zAV c g l f);unfold gF zhD;rw[iN_ (by have:=d.1;show ¬¬(0<=i/\i<4);omega)];exact h
theorem zCF {l:L_}(c:l.length=3)(b:l.Nodup)(h:∀v∈l,0<=v/\v<4):zep (zhH l)=0/\(zhH l).length=3:=by
 match l,c with
 | [x,y,z],_=>
  have d:=h x (by simp);have f:=h y (by simp);have g:=h z (by simp);have j:∀x∈([0,1,2,3]:L_),∀y∈([0,1,2,3]:L_),∀z∈([0,1,2,3]:L_),[x,y,z].Nodup->zep (zhH [x,y,z])=0/\(zhH [x,y,z]).length=3:=by decide
  have zsL:∀v:Int,0<=v/\v<4->v∈([0,1,2,3]:L_):=λv m=>by
   simp only[List.mem_cons,List.not_mem_nil,or_false];omega
  exact j x (zsL x d) y (zsL y f) z (zsL z g) b
theorem zCG (x v:Int)(l:L_):v∈zmt x l↔v=x\/v∈l:=by
 induction l with
 | nil=>simp[zmt]
 | cons y l ih=>
  rw[zmt]
  split
  simp
  rw[List.mem_cons,ih,List.mem_cons]
  constructor
  rintro(h|h|h)<;>simp[h];rintro(h|h|h)<;>simp[h]
theorem zCl (v:Int)(l:L_):v∈zhH l↔v∈l:=by
 induction l with
 | nil=>rfl
 | cons y l ih=>
  show v∈zmt y (zhH l)↔_;rw[zCG,ih,List.mem_cons]
structure Snd (P:MC->Prop)(k:Nat)(n n':Nd):Prop where
 kn:n'.k=n.k
 vot:n'.vot=n.vot
 nu:n'.nu=n.nu
 up:n'.up=n.up
 tx:n'.txs=n.txs
 wai:∃e,n'.wai=n.wai++e/\e.length<=k/\∀x∈e,P x
theorem Snd.refl (P:MC->Prop)(k:Nat)(n:Nd):Snd P k n n:=⟨rfl,rfl,rfl,rfl,rfl,[],by simp,nZ_ _,λx b=>by cases b⟩
theorem zBf (n:Nd)(d:Int)(m:MC):(n.send d m).up=n.up:=by unfold Nd.send;split<;>rfl
theorem Snd.send {P:MC->Prop}{n b:Nd}(h:Snd P k n b){d:Int}{m:MC}(j:P (m.ft n.nu d)):Snd P (k+1) n (b.send d m):=by
 obtain⟨e,c,o,f⟩:=h.wai;refine⟨(ze2 _ _ _).trans h.kn,(zge _ _ _).trans h.vot,(zmu _ _ _).trans h.nu,(zBf _ _ _).trans h.up,(zAY _ _ _).trans h.tx,?_⟩;unfold Nd.send
 split
 exact⟨e,c,by omega,f⟩;refine⟨e++[m.ft n.nu d],?_,by rw[lP_];simp;omega,λx l=>?_⟩;show b.wai++[m.ft b.nu d]=_;rw[h.nu,c,List.append_assoc];rcases mA_.1 l with g|g;exact f x g;rw[mS_.1 g];exact j
theorem Snd.to {P:MC->Prop}{n b:Nd}(h:Snd P k n b){m:MC}:∀j:Nat,(∀d:Nat,d<j->P (m.ft n.nu d))->Snd P (k+j) n (b.sendTo m j)
 | 0,_=>h
 | j+1,hp=>(Snd.to h j (λd c=>hp d (by omega))).send (hp j (by omega))
theorem Snd.tell {P:MC->Prop}{n:Nd}{fr:Int}:∀(l:List CV) {k:Nat} {b:Nd},Snd P k n b->(∀c∈l,c.bl=[]/\P ((zdh c).ft n.nu fr))->Snd P (k+l.length) n (b.tell fr l)
 | [],_,_,h,_=>h
 | c::l,k,b,h,hl=>by
  obtain⟨d,f⟩:=hl c (by simp)
  have e:b.tell fr (c::l)=(b.send fr (zdh c)).tell fr l:=by
   show(b.tellC fr c).tell fr l=_;unfold Nd.tellC;rw[d];rfl
  rw[e];have:=Snd.tell l (h.send f) (λx g=>hl x (mC_ _ g));rw[List.length_cons];rw[show k+(l.length+1)=k+1+l.length by omega];exact this
def MsW (b:Int)(A:Nat)(i:Int)(o:No)(x:MC):Prop:=
 x.fr=i/\((x.ki=2/\∃r,r<A/\x.h=Hx b r i)\/(x.ki=3/\∃j r,Gd b j/\r<A/\x.s=(Hx b r j).slot)\/(x.ki=4/\Leg b A x.ct/\zzQ o x.ct)\/x.ki=5)
def MsA (b:Int)(A B C:Nat)(o:No)(x:MC):Prop:=
 Gd b x.fr/\((x.ki=2/\∃r,r<A/\x.h=Hx b r x.fr/\(x.fr,x.h.slot)∈o.sg)\/(x.ki=3/\(∃j r,Gd b j/\r<B/\x.s=(Hx b r j).slot)/\(x.fr,x.s)∈o.sg)\/(x.ki=4/\Leg b C x.ct/\zzQ o x.ct)\/x.ki=5)
structure NB (b:Int)(L:Nat)(i:Int)(n:Nd):Prop where
 nu:n.nu=i
 up:n.up=true
 sh:n.k.sh=[]
 tx:n.txs=[]
 leg:∀c∈n.k.dag,Leg b (L+1) c
 all:∀j,Gd b j->∀r:Nat,r<L->0<=cOf n.k.dag j ((r:Int)+1)
 uq:zbV n.k.dag=0
 tab:∀s∈n.k.tab,∃j r,Gd b j/\r<L+1/\s=(Hx b r j).slot
structure NO (b:Int)(L:Nat)(i:Int)(o:No)(n:Nd):Prop where
 own:n.k.own=Hx b L i
 slot:n.k.slot=(Hx b L i).slot
 vin:i∈n.vot
 vnd:n.vot.Nodup
 vgd:∀v∈n.vot,Gd b v/\(v,(Hx b L i).slot)∈o.sg
 few:n.vot.length<3\/0<=cOf n.k.dag i ((L:Int)+1)
theorem NB.snd {b:Int}{L:Nat}{n c:Nd}{P:MC->Prop}(h:NB b L i n)(s:Snd P k n c):NB b L i c:=
 ⟨s.nu.trans h.nu,s.up.trans h.up,by rw[s.kn];exact h.sh,s.tx.trans h.tx,by rw[s.kn];exact h.leg,by rw[s.kn];exact h.all,by rw[s.kn];exact h.uq,by rw[s.kn];exact h.tab⟩
theorem NO.snd {b:Int}{L:Nat}{o:No}{n c:Nd}{P:MC->Prop}(h:NO b L i o n)(s:Snd P k n c):NO b L i o c:=
 ⟨by rw[s.kn];exact h.own,by rw[s.kn];exact h.slot,by rw[s.vot];exact h.vin,by rw[s.vot];exact h.vnd,by rw[s.vot];exact h.vgd,by rw[s.vot,s.kn];exact h.few⟩
structure Gen (b i:Int)(o:No)(n:Nd):Prop where
 hb:-1<=b/\b<=3
 bad:o.bad=b
 sg:zbF o.sg=0
 wt:zl4 i n
 kg:zji n.k
 pr:∀c∈n.k.dag,zzQ o c
theorem Gen.room {b:Int}{o:No}{n:Nd}(g:Gen b i o n)(d:n.k.sh=[]){m:MC}(c:m.onTape.length<=325):n.room m=true:=g.wt.room (by rw[d];exact nZ_ _) c
structure Res (b:Int)(L:Nat)(i:Int)(o:No)(w:Nat)(vt:Bool)(n n':Nd):Prop where
 nb:NB b L i n'
 no:NO b L i o n'
 wai:∃e,n'.wai=n.wai++e/\e.length<=w/\∀x∈e,MsW b (L+1) i o x/\((x.ki=4/\x.ct∈n'.k.dag)\/(x.ki=3/\vt=true))
theorem NB.par {b:Int}{L:Nat}{n:Nd}(h:NB b L i n)(d:NC b)(f:L<=5){r:Nat}(g:r<L+1):zdz n.k.dag ((r:Int)+1) (Pz b r)=0:=
 zCE d (by omega:L+1<=6) h.leg (λj c s l=>h.all j c s (by omega))
theorem zCn {b:Int}{L:Nat}{o:No}{n:Nd}(p:NC b)(J:L<=5)(g:Gen b i o n)(h:NB b L i n)(f:NO b L i o n){j:Int}{r:Nat}(l:Gd b j)(y:r<L+1)(O:(j,(Hx b r j).slot)∈o.sg) :
  Res b L i o 1 true n (n.hearO o (Hx b r j))/\(n.hearO o (Hx b r j)).k.dag=n.k.dag/\(n.hearO o (Hx b r j)).vot=n.vot/\(j≠i->n.wai.length<400->(zcE (Hx b r j).slot).ft i j∈(n.hearO o (Hx b r j)).wai):=by
 by_cases e:j=i;have G:n.hearO o (Hx b r j)=n:=by
  unfold Nd.hearO;rw[iP_ (.inl (by show j=n.nu;rw[h.nu];exact e))]
 rw[G];exact⟨⟨h,f,[],by simp,nZ_ _,λx u=>by cases u⟩,rfl,rfl,λg=>absurd e g⟩;have N:n.k.knows (Hx b r j)=true:=by
  unfold Kn.knows;show(([]:List (L_)).all _&&decide (zdz n.k.dag ((r:Int)+1) (Pz b r)=0))=true;rw[h.par p J y];rfl
 have C:=zAV g.hb p (by omega:r<=6) l;have R:o.signed (Hx b r j).au (Hx b r j).slot=true:=zBn g.sg (by rw[g.bad];exact g.hb) (zBs g.hb p (by omega) l l) O;have M:=zAS g.hb p (by omega:L+1<=6) g.kg.tab h.tab l (by omega:r<=6);have T:=zBz g.hb p (by omega:L+1<=6) g.kg.tab h.tab l y;have B:∀c:Nd,NB b L i c->NO b L i o c->c.wai=n.wai->c.k.dag=n.k.dag->c.vot=n.vot->Res b L i o 1 true n (c.send (Hx b r j).au (zcE (Hx b r j).slot))/\(c.send (Hx b r j).au (zcE (Hx b r j).slot)).k.dag=n.k.dag/\(c.send (Hx b r j).au (zcE (Hx b r j).slot)).vot=n.vot/\(j≠i->n.wai.length<400->(zcE (Hx b r j).slot).ft i j∈(c.send (Hx b r j).au (zcE (Hx b r j).slot)).wai):=by
  intro c t D z E F;have s:=(Snd.refl (λx=>MsW b (L+1) i o x/\x.ki=3) 0 c).send (d:=(Hx b r j).au) (m:=zcE (Hx b r j).slot) ⟨⟨t.nu,.inr (.inl ⟨rfl,j,r,l,y,rfl⟩)⟩,rfl⟩;obtain⟨e,H,I,A⟩:=s.wai;refine⟨⟨t.snd s,D.snd s,e,by rw[H,z],I,λx u=>⟨(A x u).1,.inr ⟨(A x u).2,rfl⟩⟩⟩,by rw[s.kn,E],by rw[s.vot,F],λU V=>?_⟩;unfold Nd.send;rw[iN_ (by rw[t.nu,z];show ¬(j=i\/_);omega)];show _∈c.wai++[(zcE (Hx b r j).slot).ft c.nu (Hx b r j).au];rw[t.nu];exact mA_.2 (.inr (mS_.2 rfl))
 unfold Nd.hearO;rw[iN_ (by
  rintro(q|q|q|q)
  .exact e (by rw[<-h.nu];exact q)
  .rw[N]at q;cases q
  .exact q C
  .rw[R]at q;cases q),iN_ (λq=>q M)]
 split
 rw[iP_ (g.room h.sh (zBN C))];refine B _ ⟨h.nu,h.up,h.sh,h.tx,h.leg,h.all,h.uq,T⟩ ⟨f.own,f.slot,f.vin,f.vnd,f.vgd,f.few⟩ rfl rfl rfl;exact B n h f rfl rfl rfl
variable {rd:Int}
theorem Res.same {b:Int}{L:Nat}{o:No}{n:Nd}{w:Nat}{f:Bool}(h:NB b L i n)(c:NO b L i o n):Res b L i o w f n n:=⟨h,c,[],by simp,nZ_ _,λx d=>by cases d⟩
theorem zAZ {l:List CV}{c:CV}(h:0<=cOf l au rd):0<=cOf (l++[c]) au rd:=by rw[zox,iP_ h];exact h
theorem zBQ {l:List CV}{c:CV}:0<=cOf (l++[c]) c.au c.rd:=by
 rw[zox]
 split
 assumption
 rw[iP_ ⟨rfl,rfl⟩];omega
theorem zBR {b:Int}{L:Nat}{n:Nd}(g:NC b)(f:L<=5)(h:NB b L i n){c:CV}(d:Leg b (L+1) c)(o:cOf n.k.dag c.au c.rd<0):za8 n.k.dag c=0:=by
 obtain⟨r,j,l,s,m⟩:=d.rd;have p:=zCT h.uq h.leg;unfold za8 zfc;rw[iN_ (λq=>q d.f),iN_ (show ¬0<=cOf n.k.dag c.au c.rd by omega),l,m,h.par g f j,iN_ (λq=>q rfl),iN_ (by omega)]
theorem NB.add {b:Int}{L:Nat}{n:Nd}(h:NB b L i n){c:CV}(d:Leg b (L+1) c)(l:za8 n.k.dag c=0):NB b L i (n.log (zdh c) { n.k with dag:=n.k.dag++[c] }):=
 ⟨h.nu,h.up,h.sh,h.tx,(λx m=>by
  rcases mA_.1 (show x∈n.k.dag++[c]from m)with q|q
  .exact h.leg x q
  .rw[mS_.1 q];exact d),(λj f r g=>zAZ (h.all j f r g)),zvM h.uq l,h.tab⟩
theorem NO.add {b:Int}{L:Nat}{o:No}{n:Nd}(h:NO b L i o n)(c:CV):NO b L i o (n.log (zdh c) { n.k with dag:=n.k.dag++[c] }):=
 ⟨h.own,h.slot,h.vin,h.vnd,h.vgd,h.few.imp id zAZ⟩
theorem Gen.proofs {b:Int}{o:No}{n:Nd}(g:Gen b i o n)(j:n.k.sh=[]){c:CV}(f:za8 n.k.dag c=0)(d:zzQ o c):n.proofs o c=true:=by
 unfold Nd.proofs No.proven;rw[g.room j (zBO d.1),dT_ f,dT_ (zCf d g.sg (by rw[g.bad];exact g.hb))]
 rfl
theorem zCo {b:Int}{L:Nat}{o:No}{n:Nd}(p:NC b)(m:L<=5)(g:Gen b i o n)(h:NB b L i n)(j:NO b L i o n){c:CV}(d:Leg b (L+1) c)(s:zzQ o c) :
  Res b L i o 0 false n (n.hearP o c)/\0<=cOf (n.hearP o c).k.dag c.au c.rd/\(n.hearP o c).vot=n.vot/\(Leg b L c->n.hearP o c=n):=by
 rcases Int.lt_or_le (cOf n.k.dag c.au c.rd) 0 with h0|h0;have l:=zBR p m h d h0;have e:n.hearP o c=n.log (zdh c) { n.k with dag:=n.k.dag++[c] }:=by
  unfold Nd.hearP;rw[iP_ (g.proofs h.sh l s)]
 rw[e];refine⟨⟨h.add d l,j.add c,[],by simp[Nd.log],nR_ _,λx t=>by cases t⟩,zBQ,rfl,λf=>?_⟩;obtain⟨r,u,y,_⟩:=f.rd;have:=h.all _ f.au r u;rw[<-y]at this;omega;have e:n.hearP o c=n:=by
  unfold Nd.hearP Nd.proofs;have:za8 n.k.dag c≠0:=by
   intro q;have:=zoy (zg5 q).2.1;omega
  rw[iN_];simp[this]
 rw[e];exact⟨Res.same h j,h0,rfl,λ_=>rfl⟩
theorem zB5 (l:List CV)(r:Int):(zjU l r).length<=8:=by unfold zjU;rw[lT9_];omega
theorem zCp {b:Int}{L:Nat}{o:No}{n:Nd}(g:Gen b i o n)(h:NB b L i n)(q:NO b L i o n)(fr r:Int):Res b L i o 8 false n (n.hearW fr r)/\(n.hearW fr r).k.dag=n.k.dag/\(n.hearW fr r).vot=n.vot:=by
 have s:=Snd.tell (P:=λx=>MsW b (L+1) i o x/\x.ki=4/\x.ct∈n.k.dag) (n:=n) (fr:=fr) (zjU n.k.dag r) (Snd.refl _ 0 n) (λc p=>by
  have f:=zrP p;have l:=h.leg c f;obtain⟨_,_,_,e,_⟩:=l.rd;exact⟨e,⟨h.nu,.inr (.inr (.inl ⟨rfl,l,g.pr c f⟩))⟩,rfl,f⟩)
 obtain⟨e,m,t,d⟩:=s.wai;have:=zB5 n.k.dag r;exact⟨⟨h.snd s,q.snd s,e,m,by omega,λx j=>⟨(d x j).1,.inl ⟨(d x j).2.1,by show _∈(n.tell fr _).k.dag;rw[s.kn];exact(d x j).2.2⟩⟩⟩,by show(n.tell fr _).k.dag=_;rw[s.kn],s.vot⟩
theorem zAI (m:MC){n:Nd}{d:Nat}(f:(d:Int)≠n.nu):∀j:Nat,d<j->n.wai.length+j<=400->m.ft n.nu d∈(n.sendTo m j).wai
 | 0,h,_=>absurd h (by omega)
 | j+1,h,hl=>by
  obtain⟨g,b⟩:=zCe n m j
  show _∈((n.sendTo m j).send (j:Int) m).wai
  by_cases e:d=j
  .subst e
   unfold Nd.send
   rw[iN_ (by rw[b];omega),b]
   exact mA_.2 (.inr (mS_.2 rfl))
  .obtain⟨e,c,_⟩:=zBj (n.sendTo m j) (j:Int) m
   rw[c]
   exact mA_.2 (.inl (zAI m f j (by omega) (by omega)))
theorem zCH (n:Nd)(m:MC):n.send n.nu m=n:=by unfold Nd.send;rw[iP_ (.inl rfl)]
theorem zBr (n:Nd)(m:MC)(h:0<=n.nu/\n.nu<4):(n.sendAll m).wai.length<=n.wai.length+3:=by
 have f:=λ(a:Nd) (d:Int)=>zBJ a d m;have b:=λ(a:Nd) (d:Int)=>zmu a d m;have c:∀(a:Nd) (d:Int),a.nu=d->(a.send d m).wai=a.wai:=λa d e=>by rw[<-e,zCH]
 show((((n.send 0 m).send 1 m).send 2 m).send 3 m).wai.length<=_;have g:=f n 0;have j:=f (n.send 0 m) 1;have l:=f ((n.send 0 m).send 1 m) 2;have o:=f (((n.send 0 m).send 1 m).send 2 m) 3;rcases(by omega:n.nu=0\/n.nu=1\/n.nu=2\/n.nu=3)with e|e|e|e;rw[c n 0 e]at g;have:=cA_ List.length (c n 0 e);omega;have:=cA_ List.length (c (n.send 0 m) 1 (by rw[b,e]));omega;have:=cA_ List.length (c ((n.send 0 m).send 1 m) 2 (by rw[b,b,e]));omega;have:=cA_ List.length (c (((n.send 0 m).send 1 m).send 2 m) 3 (by rw[b,b,b,e]));omega
theorem zCq {b:Int}{L:Nat}{o:No}{n:Nd}(T:NC b)(hL:L<=5)(hi:Gd b i)(g:Gen b i o n)(h:NB b L i n)(l:NO b L i o n){fr j:Int}{r:Nat}(Y:Gd b fr)(H:Gd b j)(hr:r<L+1)(hs:(fr,(Hx b r j).slot)∈o.sg) :
  Res b L i o 3 false n (n.hearV o fr (Hx b r j).slot)/\(r<L->n.hearV o fr (Hx b r j).slot=n)/\(r=L->j=i->fr∈(n.hearV o fr (Hx b r j).slot).vot\/0<=cOf (n.hearV o fr (Hx b r j).slot).k.dag i ((L:Int)+1)) /\
  ((n.hearV o fr (Hx b r j).slot).k.dag=n.k.dag\/∃c,(n.hearV o fr (Hx b r j).slot).k.dag=n.k.dag++[c]/\c.au=i/\c.rd=(L:Int)+1/\Leg b (L+1) c/\zzQ o c/\(n.wai.length<=390->∀k:Nat,k<4->(k:Int)≠i->(zdh c).ft i k∈(n.hearV o fr (Hx b r j).slot).wai)):=by
 have af:o.signed fr (Hx b r j).slot=true:=zBn g.sg (by rw[g.bad];exact g.hb) (zBs g.hb T (by omega) Y H) hs;unfold Nd.hearV;by_cases hc:(Hx b r j).slot≠n.k.slot\/0<=cOf n.k.dag (Hx b r j).slot.1 (Hx b r j).slot.2.1\/fr∈n.vot\/o.signed fr (Hx b r j).slot=false;rw[iP_ hc];refine⟨Res.same h l,λ_=>rfl,λp O=>?_,.inl rfl⟩;subst p O;rcases hc with q|q|q|q;exact absurd l.slot.symm q;exact .inr q;exact .inl q;rw[af]at q;cases q;rw[iN_ hc];have D:(Hx b r j).slot=n.k.slot:=by rcases Decidable.em ((Hx b r j).slot=n.k.slot)with q|q;exact q;exact absurd (.inl q) hc
 have J:¬0<=cOf n.k.dag (Hx b r j).slot.1 (Hx b r j).slot.2.1:=λq=>hc (.inr (.inl q));have c3:¬fr∈n.vot:=λq=>hc (.inr (.inr (.inl q)));rw[l.slot]at D;have p:r=L:=by
  have:((r:Int)+1)=(L:Int)+1:=cA_ (λs:SV=>s.2.1) D;omega
 have O:j=i:=cA_ (λs:SV=>s.1) D;clear D;subst p O;have J:¬0<=cOf n.k.dag j ((r:Int)+1):=J;have I:∀v∈n.vot++[fr],Gd b v/\(v,(Hx b r j).slot)∈o.sg:=λv z=>by
  rcases mA_.1 z with q|q;exact l.vgd v q;rw[mS_.1 q];exact⟨Y,hs⟩
 have U:(n.vot++[fr]).Nodup:=by
  rw[List.nodup_append];refine⟨l.vnd,by simp,λx A y hy e=>?_⟩;rw[mS_.1 hy]at e;exact c3 (by rw[<-e];exact A)
 have ag:n.vot.length<3:=by rcases l.few with q|q;exact q;exact absurd q J
 split
 rename_i X
 refine⟨⟨⟨h.nu,h.up,h.sh,h.tx,h.leg,h.all,h.uq,h.tab⟩,⟨l.own,l.slot,mA_.2 (.inl l.vin),U,I,.inl (by show(n.vot++[fr]).length<3;rw[lP_];exact X)⟩,[],by simp,nZ_ _,λx A=>by cases A⟩,λq=>by omega,λ_ _=>.inl (by show fr∈n.vot++[fr];simp),.inl rfl⟩
 rename_i X
 have ad:(n.vot++[fr]).length=3:=by rw[lP_];show n.vot.length+1=3;omega
 obtain⟨v1,v2⟩:=zCF ad U (λv z=>(I v z).1.1);have ab:({ n with vot:=n.vot++[fr] }:Nd).cert=⟨j,(r:Int)+1,[],Pz b r,zhH (n.vot++[fr])⟩:=by
  show { n.k.own with vl:=zhH (n.vot++[fr]) }=_;rw[l.own];rfl
 rw[ab];obtain⟨c,u⟩:∃c:CV,c=⟨j,(r:Int)+1,[],Pz b r,zhH (n.vot++[fr])⟩:=⟨_,rfl⟩;have C:c.au=j:=by rw[u]
 have F:c.rd=(r:Int)+1:=by rw[u]
 have V:c.f=0:=by
  have hf:zO j ((r:Int)+1) (pz []) (pz (Pz b r))=0:=zAV g.hb T (by omega:r<=6) H;rw[u];show zap j ((r:Int)+1) (pz []) (pz (Pz b r)) (zhH (n.vot++[fr]))=0;unfold zap;rw[hf,iN_ (λq=>q rfl),v2,iN_ (by decide)];exact v1
 have E:Leg b (r+1) c:=⟨by rw[C];exact H,V,r,by omega,F,by rw[u],by rw[u]⟩;have M:zzQ o c:=by
  refine⟨V,λv z=>.inr ?_⟩;have z:v∈n.vot++[fr]:=by
   rcases z with q|q;rw[q,C];exact mA_.2 (.inl l.vin);rw[u]at q;exact(zCl v _).1 q
  rw[u];exact(I v z).2
 rw[<-u];have aa:za8 n.k.dag c=0:=zBR T hL h E (by rw[C,F];omega);have Z:({ n with vot:=n.vot++[fr] }:Nd).proofs o c=true:=g.proofs h.sh aa M;rw[iP_ Z];have hP:({ n with vot:=n.vot++[fr] }:Nd).hearP o c=({ n with vot:=n.vot++[fr] }:Nd).log (zdh c) { n.k with dag:=n.k.dag++[c] }:=by
  unfold Nd.hearP;rw[iP_ Z]
 rw[hP];obtain⟨f,p⟩:∃f,f=({ n with vot:=n.vot++[fr] }:Nd).log (zdh c) { n.k with dag:=n.k.dag++[c] }:=⟨_,rfl⟩;rw[<-p];have k0:0<=cOf (n.k.dag++[c]) j ((r:Int)+1):=by rw[<-C,<-F];exact zBQ
 have t:=h.add E aa;have B:NB b r j f:=by rw[p];exact⟨t.nu,t.up,t.sh,t.tx,t.leg,t.all,t.uq,t.tab⟩
 have b2:NO b r j o f:=by rw[p];exact⟨l.own,l.slot,mA_.2 (.inl l.vin),U,I,.inr k0⟩
 have w1:f.wai=n.wai:=by rw[p];rfl
 have N:f.k.dag=n.k.dag++[c]:=by rw[p];rfl
 have s:=Snd.to (P:=λx=>(MsW b (r+1) j o x/\x.ki=4/\x.ct=c)) (Snd.refl _ 0 f) (m:=zdh c) 4 (λd hd=>⟨⟨B.nu,.inr (.inr (.inl ⟨rfl,E,M⟩))⟩,rfl,rfl⟩);have ae:(f.sendAll (zdh c)).wai.length<=f.wai.length+3:=zBr f (zdh c) (by rw[B.nu];exact H.1);obtain⟨e,G,f2,R⟩:=s.wai;have G:(f.sendAll (zdh c)).wai=f.wai++e:=G;refine⟨⟨B.snd s,b2.snd s,e,by rw[<-w1];exact G,by rw[G,lP_]at ae;omega,λx A=>⟨(R x A).1,.inl ⟨(R x A).2.1,by rw[(R x A).2.2];show c∈(f.sendAll (zdh c)).k.dag;rw[zAM,N];simp⟩⟩⟩,λq=>by omega,λ_ _=>.inr (by show 0<=cOf (f.sendAll (zdh c)).k.dag _ _;rw[zAM,N];exact k0),.inr ⟨c,by show(f.sendAll (zdh c)).k.dag=_;rw[zAM,N],C,F,E,M,λhw k hk ac=>?_⟩⟩;have:=zAI (zdh c) (n:=f) (d:=k) (by rw[B.nu];exact ac) 4 hk (by rw[w1];omega);rw[B.nu]at this;exact this
end Go.Proofs.YtgjogjbkbomcmaaGreatDoor
