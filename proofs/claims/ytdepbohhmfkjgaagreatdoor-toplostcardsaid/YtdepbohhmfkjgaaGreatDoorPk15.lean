import Derived.Deep.RegionHeld2
import Derived.Test.YtdepbohhmfkjgaaGreatDoorPk14
set_option maxRecDepth 100000
set_option maxHeartbeats 4000000
namespace Go.Proofs.YtdepbohhmfkjgaaGreatDoor
open Go.RowKit Tryz
variable {w w':World}{n cap:Nat}{sa:Option Addr}{bs:List Int}
def zbC (n:Nat)(sy:Int):Bool:=decide (n≤400000∧0≤sy∧sy≤n)
def zeC (n:Nat)(sy keep:Int):Nat:=if keep<n-sy then (sy+keep).toNat else n
def ze2 (n:Nat)(sy keep:Int):Int:=if zbC n sy then (if keep<0 then 2 else 0) else 12
def zex (n:Nat)(sy keep:Int):Nat:=if zbC n sy∧0≤keep then zeC n sy keep else 0
def zhH (n:Nat)(sy:Int):Int:=if zbC n sy then 0 else 12
def zgA (n:Nat)(sy:Int):Nat:=if zbC n sy then n else 0
theorem zcb {sy:Int}:zbC n sy=true↔n≤400000∧0≤sy∧sy≤n:=by simp[zbC]
theorem zhI {sy:Int}(h:¬(n≤400000∧0≤sy∧sy≤n)):zbC n sy=false:=dF_ h
theorem zmU {sy keep:Int}(h:0≤sy):zeC n sy keep≤n:=by
 unfold zeC
 split
 ·have:=h;omega
 ·exact nR_ _
theorem zf.takeT (h:zf w sa cap bs)(m c:Nat)(q:m≤bs.length)(o:m≤c)(p:c≤cap)(f:sa=Option.none→c=0):zf w sa c (bs.take m):=by
 refine ⟨by simp;omega,by have:=h.max;omega,?_,f,?_⟩
 ·rcases h.some with e|e
  ·exact .inl (by omega)
  ·exact .inr e
 ·rcases h.bytes with b|⟨g,l,rfl,b⟩
  ·exact .inl (by rw[b];simp)
  ·refine .inr ⟨g,l,rfl,fun j d=>?_⟩;rw[lT9_] at d;rw[b j (by omega)];simp[List.getD,show j<m by omega]
structure zdd (w w':World)(e:Ending)(bs:List Int)(sy er:Int):Prop where
 out:∃ ra rc,e=.returned (.tuple #[.agg #[.slice ra bs.length rc,I_ sy],I_ er])∧zf w' ra rc bs∧(∀ sb so,ra=some ⟨sb,so,none⟩→w.heap.size≤sb∧sb<w'.heap.size)∧B_ w w'
theorem zfC (w:World):zf w none 0 []:=⟨nR_ _,by decide,.inl rfl,fun _=>rfl,.inl rfl⟩
theorem zdd.bad (b:Int)(c:B_ w w'):zdd w w' (.returned (.tuple #[.agg #[O_,I_ 0],I_ b])) [] 0 b:=
 ⟨none,0,rfl,zfC _,(fun _ _ e=>by cases e),c⟩
theorem zf.setCellT (h:zf w sa cap bs)(b j:Nat)(v:Value)(m:∀ c d,sa=Option.some ⟨c,d,Option.none⟩→b≠c):zf (w.setCell ⟨b,j,Option.none⟩ v) sa cap bs:=by
 refine ⟨h.le,h.max,h.some,h.nil,?_⟩;rcases h.bytes with f|⟨c,d,rfl,g⟩
 ·exact .inl f
 ·exact .inr ⟨c,d,rfl,fun k l=>(World.cell?_setCell_far _ _ _ _ (m c d rfl)).trans (g k l)⟩
theorem zgB (f:Option Addr)(n d:Nat)(sy:Int)(w:World)(g:n≤140737488355328) :
  Calls prog 130 #[.agg #[.slice f n d,I_ sy]] w fun e w'=>e=.returned (.bool (zbC n sy))∧B_ w w':=by
 have c:=zO w (.cells #[.slice f n d,I_ sy] 98);by_cases h1:(n:Int)≤400000;by_cases h2:0≤sy;by_cases h3:sy≤n;have b:Hid (zbC n sy=true):=zcb.2 ⟨by omega,h2,h3⟩
 rotate_left
 have b:Hid (zbC n sy=false):=zhI (by omega)
 rotate_left
 have b:Hid (zbC n sy=false):=zhI (by omega)
 rotate_left
 have b:Hid (zbC n sy=false):=zhI (by omega)
 rotate_left
 all_goals
  go_in;go_wp2_with fail
  go_ret;exact ⟨by rw[b.out];rfl,c⟩
theorem zgS (bs:List Int)(c:Option Addr)(n d k:Nat)(j sy:Int)(w:World)(D:n=bs.length)(m:zf w c d bs)(C:k≤bs.length)(N:bs.length≤140737488355328) :
  Calls prog 131 #[.agg #[.slice c n d,I_ j],I_ k,I_ sy] w fun e w'=>∃ g rc,e=.returned (.agg #[.slice g k rc,I_ sy])∧zf w' g rc (bs.take k)∧(∀ b f,g=some ⟨b,f,none⟩→w.heap.size≤b∧b<w'.heap.size)∧B_ w w':=by
 subst D;have O:=m.le;refine kO_ ?A0 ?_;exact Obj.cells #[.slice c bs.length d,I_ j] 98;refine kO_ ?B0 ?_;exact Obj.cells #[O_,I_ 0] 98;have l:B_ w ((w.alloc ?A0).alloc ?B0):=((bR_ _ _).alloc (nR_ _) _).alloc (by simp) _;have F:=hX_ w ?A0 ?B0;have r:=hY_ w ?A0 ?B0;have t:c=none→k=0:=fun h=>by have:=m.nil h;omega
 have p:=zd4 (bs.take k) c k k _ (by simp;omega) ((m.below l).takeT k k C (nR_ _) (by omega) t) (by rw[lT9_];omega);have A:Hid ((bs.take k).length=k):=by show _=_;rw[lT9_];omega
 rw[A.out] at p;have M:(k:Int)≤d:=by omega
 have L:(0:Int)≤k:=by omega
 clear t m;go_in;go_wp2_with fail
 generalize (w.alloc ?A0).alloc ?B0=G at l F r p ⊢;refine p.mono ?_;rintro e T ⟨g,rc,B,E,q,s⟩;subst B;dsimp only;have o:=zn s r;have u:=zb o 0 (O_) rfl;have y:=zb o 1 (I_ 0) rfl;have H:=zd o 0;have I:=zd o 1;have R:=ze r;go_wp2_with fail
 refine bodyPost_ret (v:=.agg #[.slice g k rc,I_ sy]) (by simp[results,results131,go_sem,u,y]) rfl ⟨g,rc,rfl,?_,?_,?_⟩
 ·exact (E.setCellT _ _ _ (fun b f e=>by have:=(q b f e).1;omega)).setCellT _ _ _ (fun b f e=>by have:=(q b f e).1;omega)
 ·intro b f e;obtain ⟨J,z⟩:=q b f e;exact ⟨by omega,by simpa using z⟩
 ·exact ((l.trans (s.mono l.size)).setCell (by simp) _).setCell (by simp) _
variable {base:Nat}{xs:List Value}
def zfM (n:Nat)(sy X:Int)(L:Nat):Int:=if zbC n sy then (if X≠0 then X else if 400000<n+2+L then 6 else 0) else 12
def zhJ (bs:List Int)(F:Int)(B:List Int):List Int:=if F=0 then bs++[(B.length:Int) / 256,(B.length:Int) % 256]++B else []
def zhK (sy F:Int):Int:=if F=0 then sy else 0
theorem zrj {B:List Int}{sy F b:Int}(d:F=b)(c:b≠0)(f:B_ w w'):zdd w w' (.returned (.tuple #[.agg #[O_,I_ 0],I_ b])) (zhJ bs F B) (zhK sy F) F:=by
 subst d;rw[zhJ,zhK,if_neg c,if_neg c];exact zdd.bad _ f
structure zpD (w w':World)(e:Ending)(bs:List Int)(sy er:Int):Prop where
 is:zdd w w' e bs sy er
 own:er=0→∃ ra rc,e=.returned (.tuple #[.agg #[.slice ra bs.length rc,I_ sy],I_ er])∧w'.ownsRow w.heap.size 5 1 (.slice ra bs.length rc) bs.length (ub bs)
theorem zhL {B:List Int}{sy F b:Int}(d:F=b)(c:b≠0)(f:B_ w w'):zpD w w' (.returned (.tuple #[.agg #[O_,I_ 0],I_ b])) (zhJ bs F B) (zhK sy F) F:=
 ⟨zrj d c f,fun h=>absurd (d.symm.trans h) c⟩
theorem zaH {e:TypeId}{s:Nat}{v:Value}(h:w.ownsRow base e s v n xs)(b j:Nat)(x:Value)(m:v.ownBlock≠some b):(w.setCell ⟨b,j,none⟩ x).ownsRow base e s v n xs:=by
 obtain ⟨l,c⟩:=h;refine ⟨l,?_⟩;rcases c with c|⟨g,d,f,rfl,p,o,r⟩
 ·exact .inl c
 ·exact .inr ⟨g,d,f,rfl,p,(hO_ w ⟨b,j,none⟩ g x (fun e=>m (by rw[Value.ownBlock];simpa using e))).trans o,r⟩
theorem zb5 {c:Nat}{e:TypeId}{s:Nat}{v:Value}(h:w.ownsRow base e s v n xs)(m:c≤base):w.ownsRow c e s v n xs:=by
 obtain ⟨j,b⟩:=h;refine ⟨j,?_⟩;rcases b with b|⟨g,d,f,rfl,o,l,r⟩
 ·exact .inl b
 ·exact .inr ⟨g,d,f,rfl,by omega,l,r⟩
theorem zkf {o:Obj}{a:Addr}{v:Value}(h:w.cell? a=some v):(w.alloc o).cell? a=some v:=by
 have b:a.block<w.heap.size:=bL_ h;exact (((bR_ w.heap.size w).alloc (nR_ _) o).cell b).trans h
theorem zhd (m:Msg)(bs:List Int)(c:Option Addr)(n l:Nat)(sy X:Int)(B:List Int)(w:World)(hn:n=bs.length)(hs:zf w c l bs)(hl:bs.length≤140737488355328)(hX:X≠0→B=[])(O:X=0→0<B.length)(ag:B.length≤4000)
  (HE:∀ W:World,B_ w W→Calls prog 203 #[.agg (mrow_ m)] W fun e w'=>∃ v,e=.returned (.tuple #[v,I_ X])∧w'.ownsRow W.heap.size 5 1 v B.length (ub B)∧B_ W w') :
  Calls prog 165 #[.agg #[.slice c n l,I_ sy],.agg (mrow_ m)] w fun e w'=>zpD w w' e (zhJ bs (zfM bs.length sy X B.length) B) (zhK sy (zfM bs.length sy X B.length)) (zfM bs.length sy X B.length):=by
 subst hn;have ao:Hid (∀ W:World,B_ w W→Calls prog 203 #[.agg (mrow_ m)] W fun e w'=>∃ v,e=.returned (.tuple #[v,I_ X])∧w'.ownsRow W.heap.size 5 1 v B.length (ub B)∧B_ W w'):=HE;clear HE;have HS:Hid (zf w c l bs):=hs;have aI:=hs.le;refine kW_ ?A0 ?_;exact (w.alloc (.cells #[.slice c bs.length l,I_ sy] 98)).alloc (.cells (mrow_ m) 71);refine kO_ ?B0 ?_;exact Obj.cells #[O_,I_ 0] 98;have hA:B_ w ((?A0).alloc ?B0):=(((bR_ _ _).alloc (nR_ _) _).alloc (by simp) _).alloc (by simp;omega) _;have r0:=zP (o:=.cells #[O_,I_ 0] 98) (hX_ w (.cells #[.slice c bs.length l,I_ sy] 98) (.cells (mrow_ m) 71));have r1:=zP (o:=.cells #[O_,I_ 0] 98) (hY_ w (.cells #[.slice c bs.length l,I_ sy] 98) (.cells (mrow_ m) 71));have r2:=zb8 ?A0 ?B0 (w.heap.size+1+1) (by simp);have hM:=zgB c bs.length l sy ((?A0).alloc ?B0) hl;have d:zfM bs.length sy X B.length=if zbC bs.length sy then (if X≠0 then X else if 400000<bs.length+2+B.length then 6 else 0) else 12:=rfl;generalize zfM bs.length sy X B.length=F at d ⊢;have M:Hid _:=d;clear d hs;go_in;go_wp2_with fail
 generalize (?A0).alloc ?B0=W0 at hA r0 r1 r2 hM ⊢;refine hM.mono ?_;rintro _ w1 ⟨rfl,H⟩;dsimp only;have N:=zq hA H;have p0:=zn H r0;have p1:=zn H r1;have t:=zn H r2;clear hM r0 r1 r2 H hA;cases ht:zbC bs.length sy with
 | false=>
  have d:Hid (F=12):=by show _=_;rw[M.out,ht];rfl
  have E:=zb t 0 (O_) rfl;have G:=zb t 1 (I_ 0) rfl;have f0:=zd t 0;have f1:=zd t 1;clear ht;go_wp2_with fail
  refine bP_ (v:=.tuple #[.agg #[O_,I_ 0],I_ 12]) (by simp[results,results165,go_sem,E,G]) rfl (zhL d.out (by decide) ?_);exact (N.setCell (by simp;omega) _).setCell (by simp;omega) _
 | true=>
  obtain ⟨t1,J,t3⟩:=zcb.1 ht;go_wp2_with (refine wpList_load_row rfl 71 _ rfl (w.heap.size+1) rfl 71 _ (0,0) _ p1 underlying71 rfl zch ?_)
  refine (ao.out w1 N).mono ?_;rintro e w2 ⟨v,he,ho,ab⟩;subst he;dsimp only;have s:=zq N ab;have V:=zn ab p0;have p:=zn ab t;have aJ:w.heap.size+1+1<w1.heap.size:=ze t;clear p0 p1 t;by_cases hx:X=0
  ·have aa:=O hx;obtain ⟨ra,rc,U,-,ak⟩:=zdZ ho;subst U;have c0:=zb V 0 (.slice c bs.length l) rfl;subst hx;by_cases hbig:400000<bs.length+2+B.length
   ·have d:Hid (F=6):=by show _=_;rw[M.out,ht];simp[hbig]
    have ax:(400000:Int)<(bs.length:Int)+2+(B.length:Int):=by omega
    have E:=zb p 0 (O_) rfl;have G:=zb p 1 (I_ 0) rfl;have f0:=zd p 0;have f1:=zd p 1;clear ht hX O aa hbig;go_wp2_with fail
    refine bP_ (v:=.tuple #[.agg #[O_,I_ 0],I_ 6]) (by simp[results,results165,go_sem,E,G]) rfl (zhL d.out (by decide) ?_);exact (s.setCell (by simp;omega) _).setCell (by simp;omega) _
   ·have d:Hid (F=0):=by show _=_;rw[M.out,ht];simp[hbig]
    have ax:¬(400000:Int)<(bs.length:Int)+2+(B.length:Int):=by omega
    have af:Hid (bs.length+2+B.length≤400000):=by show _≤_;omega
    have aL:(bs.length:Int)≤l:=by omega
    have aK:(0:Int)≤bs.length:=by omega
    have aG:(0:Int)≤B.length:=by omega
    have aH:(B.length:Int)≤4000:=by omega
    have HL:Hid (0<B.length∧B.length≤4000):=⟨aa,ag⟩;obtain ⟨i,hi,al,am,an⟩:=info_parts zdI;have T:=HS.out.below s;clear ht hX O aa hbig ag t1;have ay:w.heap.size<w2.heap.size:=ze V;have az:w.heap.size+1+1<w2.heap.size:=ze p;have aq:Hid (c=none→bs.length=0∧bs.length=0):=by
     show _→_;intro h;have:=T.nil h;have:=T.le;omega
    have ap:Hid (∀ b,c=some b→∀ j u,(ub bs)[j]? = some u→w2.cell? (b.add j)=some u):=by
     show ∀ _,_;intro b hb j u f;have r:j<bs.length:=by
      rcases Nat.lt_or_ge j bs.length with g|g
      ·exact g
      ·rw[List.getElem?_eq_none (by rw[zbY];exact g)] at f;cases f
     rcases T.bytes with h|⟨D,so,e,h⟩
     ·rw[h] at r;simp at r
     ·rw[hb] at e;cases e;rw[zaN,h j r];simp[ub,r] at f;simp[r,f]
    obtain ⟨y,C,aC,ae⟩:∃ y C,ra=some ⟨y,C,none⟩∧∀ j,j<B.length→C_ w2 y (C+j) (.int .u8 (B.getD j 0)):=by
     rcases ak.bytes with h|h
     ·rw[h] at HL;exact absurd HL.out.1 (by simp)
     ·exact h
    subst aC;have aD:y<w2.heap.size:=bL_ (ae 0 HL.out.1);have ar:Hid (∀ j u,(ub B)[j]? = some u→w2.cell? ((⟨y,C,none⟩:Addr).add j)=some u):=by
     show ∀ _,_;intro j u f;have r:j<B.length:=by
      rcases Nat.lt_or_ge j B.length with g|g
      ·exact g
      ·rw[List.getElem?_eq_none (by rw[zbY];exact g)] at f;cases f
     rw[zaN,ae j r];simp[ub,r] at f;simp[r,f]
    clear ae T ak N ho;go_wp2_with (at_builtin;refine wpList_append_grows _ rfl _ _ 64 rfl 5 i (.int .u8 0) 1 1 underlying64 hi al am an rfl (by decide) c bs.length bs.length (ub bs) rfl aq.out (by rw[zbY];omega) (fun b hb j u f=>(zkf (ap.out b hb j u f))) ⟨w2.heap.size,0,none⟩ 2 2 [.int .u8 ((B.length:Int) / 256),.int .u8 ((B.length:Int) % 256)] rfl rfl (z8 _ _ _) (zcU [_,_]) (by omega) (by unfold maxLen;omega) (by omega) ?_;intro Y Z ai ah;have z:B_ w2 Z:=((bR_ _ _).alloc (nR_ _) _).trans ((zfS ah).mono (zz (nR_ _) _)))
    have s0:=(z.block _ ay).trans V;have s2:=(z.block _ az).trans p;have c1:=zb s0 1 (I_ sy) rfl;have av:=zq s z;have R:Z.ownsRow w2.heap.size 5 1 Y (bs.length+2) (ub (bs++[(B.length:Int) / 256,(B.length:Int) % 256])):=by
     have:=ownsRow_base' ai (zz (nR_ w2.heap.size) (.cells #[.int .u8 ((B.length:Int) / 256),.int .u8 ((B.length:Int) % 256)] 5))
     simpa[ub] using this
    have aA:Y.ownBlock≠some w.heap.size:=fun e=>by have:=(R.lt _ e).1;omega
    have aB:Y.ownBlock≠some (w.heap.size+1+1):=fun e=>by have:=(R.lt _ e).1;omega
    have au:Hid (∀ j u,(ub B)[j]? = some u→Z.drew.cell? ((⟨y,C,none⟩:Addr).add j)=some u):=by
     show ∀ _,_;intro j u f;have h1:=ar.out j u f;exact (z.cell (by simpa[zaN] using aD)).trans h1
    clear ai ah c0 V p;have aM:¬w.heap.size+1+1=w.heap.size:=by omega
    go_region_held3 (fun w'=>C_ w' w.heap.size 1 (I_ sy)) (go_keep) ((refine zbZ rfl _ _ 64 rfl w2.heap.size 5 i (.int .u8 0) 1 1 underlying64 hi al am an rfl (by decide) Y (bs.length+2) _ rfl R.drew ⟨y,C,none⟩ B.length rc (ub B) rfl (by rw[zbY];omega) au.out (zcU B) (by have:=af.out;unfold maxLen;omega) (by have:=af.out;omega) z.size ?_;intro v4 L aj G4;have t0:=G4.row s0 aA;have J:=G4.row s2 aB;have g1:C_ L w.heap.size 1 (I_ sy):=zb t0 1 _ rfl;have e0:C_ L (w.heap.size+1+1) 0 (O_):=zb J 0 _ rfl;have e1:C_ L (w.heap.size+1+1) 1 (I_ 0):=zb J 1 _ rfl;have k0:=zd J 0;have k1:=zd J 1;obtain ⟨za,zc,rfl⟩:=zC aj))
    all_goals
     have ad:L.ownsRow w2.heap.size 5 1 (.slice za (bs.length+2+B.length) zc) (bs.length+2+B.length) (ub (bs++[(B.length:Int) / 256,(B.length:Int) % 256]++B)):=by simpa[ub] using aj
     have A:=G4.below (base:=w2.heap.size) z.size (fun q e=>(R.lt q e).1);go_wp2_with fail
     obtain ⟨xa,xc,U,ac,aE⟩:=zdZ ad;have I:=ad.lt;simp only[Value.slice.injEq,true_and] at U;obtain ⟨rfl,rfl⟩:=U;have hE:zhJ bs F B=bs++[(B.length:Int) / 256,(B.length:Int) % 256]++B:=by rw[zhJ,if_pos d.out]
     have hS:zhK sy F=sy:=by rw[zhK,if_pos d.out]
     have aF:=A.size;rw[hE,hS,d.out];refine bP_ (v:=.tuple #[.agg #[.slice za (bs.length+2+B.length) zc,I_ sy],I_ 0]) (by simp[results,results165,go_sem,e0,e1]) rfl ⟨⟨za,zc,by rw[←ac],?_,?_,?_⟩,fun _=>⟨za,zc,by rw[←ac],?_⟩⟩
     ·exact (aE.setCellT _ _ _ (fun D so e=>by have:=(I D (by rw[e];rfl)).1;omega)).setCellT _ _ _ (fun D so e=>by have:=(I D (by rw[e];rfl)).1;omega)
     ·intro D so e;have:=I D (by rw[e];rfl);exact ⟨by have:=s.size;omega,by simpa using this.2⟩
     ·have aw:Below w2.heap.size Z L:=⟨A.os,A.tape,A.output,A.size,A.block⟩;exact ((av.trans (aw.mono s.size)).setCell (by simp;omega) _).setCell (by simp;omega) _
     ·rw[←ac];exact zb5 (zaH (zaH ad _ _ _ (fun e=>by have:=(I _ e).1;omega)) _ _ _ (fun e=>by have:=(I _ e).1;omega)) s.size
  ·have d:Hid (F=X):=by show _=_;rw[M.out,ht];simp[hx]
   have E:=zb p 0 (O_) rfl;have G:=zb p 1 (I_ 0) rfl;have f0:=zd p 0;have f1:=zd p 1;clear ht hX O;go_wp2_with fail
   refine bP_ (v:=.tuple #[.agg #[O_,I_ 0],I_ X]) (by simp[results,results165,go_sem,E,G]) rfl (zhL d.out hx ?_);exact (s.setCell (by simp;omega) _).setCell (by simp;omega) _
theorem zkZ (m:Msg)(bs:List Int)(c:Option Addr)(n b:Nat)(sy X:Int)(B:List Int)(w:World)(o:n=bs.length)(p:zf w c b bs)(l:bs.length≤140737488355328)(g:X≠0→B=[])(j:X=0→0<B.length)(f:B.length≤4000)
  (d:∀ W:World,B_ w W→Calls prog 203 #[.agg (mrow_ m)] W fun e w'=>∃ v,e=.returned (.tuple #[v,I_ X])∧w'.ownsRow W.heap.size 5 1 v B.length (ub B)∧B_ W w') :
  Calls prog 165 #[.agg #[.slice c n b,I_ sy],.agg (mrow_ m)] w fun e w'=>zdd w w' e (zhJ bs (zfM bs.length sy X B.length) B) (zhK sy (zfM bs.length sy X B.length)) (zfM bs.length sy X B.length):=
 (zhd m bs c n b sy X B w o p l g j f d).mono (fun _ _ h=>h.is)
def MV.onTape (x:MV):List Int:=[(x.bytes.length:Int) / 256,(x.bytes.length:Int) % 256]++x.bytes
theorem zaK.len {x:MV}(h:zaK x)(b:x.m.sdn=x.ds.length):3≤x.bytes.length∧x.bytes.length≤323:=by
 have:=zjN b h.car;simp[MV.bytes,zd5];omega
theorem zkg (x:MV):x.onTape.length=2+x.bytes.length:=by simp[MV.onTape];omega
theorem zk0 (x:MV)(bs:List Int)(d:Option Addr)(n c:Nat)(sy:Int)(w:World)(p:n=bs.length)(q:zf w d c bs)(b:MAt w x)(f:zaK x)(j:0≤sy∧sy≤bs.length)(r:bs.length+2+x.bytes.length≤400000) :
  Calls prog 165 #[.agg #[.slice d n c,I_ sy],.agg (mrow_ x.m)] w fun e w'=>zpD w w' e (bs++x.onTape) sy 0:=by
 obtain ⟨s,t⟩:=f.len b.dn;have m:∀ W:World,B_ w W→Calls prog 203 #[.agg (mrow_ x.m)] W fun e w'=>∃ v,e=.returned (.tuple #[v,I_ 0])∧w'.ownsRow W.heap.size 5 1 v x.bytes.length (ub x.bytes)∧B_ W w':=fun W g=>by
  have h:=zmT x.m x.ss x.bl x.pl x.cbl x.cpl x.ds x.vl W (b.at'.below g) (b.dig.below g) b.dn;have l:zcq x.m (zL x.m (zB x.m x.ss x.bl x.pl x.cbl x.cpl x.vl))=0:=f.rec0;rw[l] at h;exact h
 have h:=zhd x.m bs d n c sy 0 x.bytes w p q (by omega) (fun h=>absurd rfl h) (fun _=>by omega) (by omega) m;have o:zfM bs.length sy 0 x.bytes.length=0:=by
  rw[zfM,if_pos (zcb.2 ⟨by omega,j.1,j.2⟩),if_neg (by simp),if_neg (by omega)]
 rw[o,zhJ,if_pos rfl,zhK,if_pos rfl,List.append_assoc] at h;exact h
theorem zpE (x:MV)(bs:List Int)(c:Option Addr)(n b:Nat)(sy:Int)(w:World)(j:n=bs.length)(l:zf w c b bs)(f:MAt w x)(d:zaK x)(m:0≤sy∧sy≤bs.length)(g:bs.length+2+x.bytes.length≤400000) :
  Calls prog 165 #[.agg #[.slice c n b,I_ sy],.agg (mrow_ x.m)] w fun e w'=>zdd w w' e (bs++x.onTape) sy 0:=
 (zk0 x bs c n b sy w j l f d m g).mono (fun _ _ h=>h.is)
variable {B:Nat}{w2:World}{v1:Value}{ms:List MV}
theorem zi2:(prog.info? 71).map (fun i=>(i.zero,i.size,i.bytes))=some (some (.agg mz_),19,264):=by kernel_rfl
def zcs (m:Msg):List Value:=((mrow_ m):Array Value).toList
theorem zdx (m:Msg):(zcs m).length=19:=rfl
def zU (ms:List MV):List Value:=ms.flatMap fun x=>zcs x.m
theorem zde (ms:List MV):(zU ms).length=ms.length*19:=by
 induction ms with
 | nil=>rfl
 | cons x l ih=>simp only[zU,List.flatMap_cons,lP_] at ih ⊢;rw[ih,zdx];simp;omega
theorem zey (ms:List MV)(x:MV):zU (ms++[x])=zU ms++zcs x.m:=by simp[zU]
theorem zrk (ms:List MV)(k:Nat)(b:k<ms.length)(j:Nat)(c:j<19):(zU ms)[k*19+j]? = (zcs (ms[k]).m)[j]?:=by
 induction ms generalizing k with
 | nil=>simp at b
 | cons x l ih=>
  cases k with
  | zero=>
   simp only[zU,List.flatMap_cons,Nat.zero_mul,Nat.zero_add,List.getElem_cons_zero];rw[List.getElem?_append_left (by rw[zdx];exact c)]
  | succ k=>
   simp only[zU,List.flatMap_cons,List.getElem_cons_succ];rw[List.getElem?_append_right (by rw[zdx];omega),zdx,show (k+1)*19+j-19=k*19+j by omega];exact ih k (by simpa using b)
theorem zeL (m:Msg):∀ u∈zcs m,u.oneCell'=true:=by
 intro u b;simp[zcs] at b;rcases b with rfl|rfl|rfl|rfl|rfl|rfl|rfl|rfl|rfl|rfl|rfl|rfl|rfl|rfl|rfl|rfl|rfl|rfl|rfl<;>rfl
def zcK (w:World)(B:Nat)(v:Value)(ms:List MV):Prop:=∀ x∈ms,MAt w x∧zaK x∧zbH (fun k=>B≤k∧v.ownBlock≠some k) x
theorem zcK.below {v:Value}(h:zcK w B v ms)(c:B_ w w'):zcK w' B v ms:=fun x b=>⟨(h x b).1.below c,(h x b).2.1,(h x b).2.2⟩
theorem zcK.more {l:World}{v:Value}{x:MV}{o:Obj}{e:TypeId}{D:Nat}(h:zcK w B v ms)(E:B≤w.heap.size)(A:w.ownsRow B e D v n xs)(j:B_ w w2)(q:MAt w2 x)(C:zaK x)(z:zbH (fun k=>w.heap.size≤k) x)(G:zR (w2.alloc o) v l v1):zcK l B v1 (ms++[x]):=by
 have u:B_ w2 (w2.alloc o):=(bR_ _ _).alloc (nR_ _) _;have F:=j.size;have p:(w2.alloc o).heap.size=w2.heap.size+1:=by simp
 have r:∀ y:MV,MAt w2 y→zbH (fun k=>(B≤k∧v.ownBlock≠some k)∧k<w2.heap.size) y→MAt l y∧zbH (fun k=>B≤k∧v1.ownBlock≠some k) y:=fun y c f=>by
  refine ⟨(c.below u).stays (G:=fun k=>(B≤k∧v.ownBlock≠some k)∧k<w2.heap.size) (fun k d=>G.grown.block k (by rw[p];omega) (fun e=>d.1.2 e.symm)) f,f.mono (fun k d=>⟨d.1.1,fun e=>?_⟩)⟩;rcases G.fresh k e with g|g
  ·exact d.1.2 g
  ·rw[p] at g;have:=d.2;omega
 intro y c;rcases List.mem_append.1 c with c|c
 ·obtain ⟨m,s,t⟩:=h y c;obtain ⟨a,b⟩:=r y (m.below j) (t.lt (m.below j));exact ⟨a,s,b⟩
 ·obtain rfl:y=x:=by simpa using c
  have f:zbH (fun k=>B≤k∧v.ownBlock≠some k) y:=z.mono (fun k d=>⟨by omega,fun e=>by have:=(A.lt k e).2;omega⟩);obtain ⟨a,b⟩:=r y q (f.lt q);exact ⟨a,C,b⟩
def zu (ms:List MV):List Int:=ms.flatMap MV.onTape
theorem ze3 (ms:List MV)(x:MV):zu (ms++[x])=zu ms++x.onTape:=by simp[zu]
def zpF (w:World)(sa:Option Addr)(ms:List MV):Prop:=ms=[]∨∃ sb so,sa=some ⟨sb,so,none⟩∧∀ (k:Nat) (hk:k<ms.length),w.rangeAt sb (so+k*19) (zcs (ms[k]).m)
theorem zeD {v:Value}(h:w.ownsRow base 71 19 v n (zU ms)):∃ l b,v=.slice l n b∧n=ms.length∧n≤b∧b≤maxLen∧zpF w l ms:=by
 have d:n=ms.length:=by have:=h.1;rw[zde] at this;omega
 rcases h.2 with ⟨rfl,s⟩|⟨g,b,t,rfl,f⟩
 ·exact ⟨none,0,by rw[s],d,by omega,by decide,.inl (eN_ (by omega))⟩
 ·refine ⟨some ⟨g,0,none⟩,b,rfl,d,?_,?_,.inr ⟨g,0,rfl,fun k q j v c=>?_⟩⟩
  ·obtain ⟨_,_,m,_⟩:=f;exact m
  ·obtain ⟨_,_,_,o,_⟩:=f;exact o
  ·have p:j<19:=by
    rcases Nat.lt_or_ge j 19 with g|g
    ·exact g
    ·rw[List.getElem?_eq_none (by rw[zdx];exact g)] at c;cases c
   have r:k*19+j<n*19:=by omega
   rw[show 0+k*19+j=k*19+j by omega,World.ownsRow.cellAt h (k*19+j) r,zrk ms k q j p,c]
def CV.slot (h:CV):SV:=(h.au,h.rd,h.d)
def CV.z:CV:=⟨0,0,[],[],[]⟩
def MC.z:MC:=⟨0,0,0,0,0,[],0,0,[],[],0,0,[],0,0,[],[],[],0⟩
def zeH (b:BW):MC:=⟨0,0,1,b.au,b.nu,b.ss,0,0,[],[],0,0,[],0,0,[],[],[],0⟩
def zer (h:CV):MC:=⟨0,0,2,0,0,[],h.au,h.rd,h.bl,h.pl,0,0,[],0,0,[],[],[],0⟩
def zcx (s:SV):MC:=⟨0,0,3,0,0,[],0,0,[],[],s.1,s.2.1,s.2.2,0,0,[],[],[],0⟩
def zdh (c:CV):MC:=⟨0,0,4,0,0,[],0,0,[],[],0,0,[],c.au,c.rd,c.bl,c.pl,c.vl,0⟩
def zpG (r:Int):MC:=⟨0,0,5,0,0,[],0,0,[],[],0,0,[],0,0,[],[],[],r⟩
def MC.b (m:MC):BW:=⟨m.bau,m.bnu,m.ss⟩
def MC.h (m:MC):CV:=⟨m.hau,m.hrd,m.bl,m.pl,[]⟩
def MC.s (m:MC):SV:=(m.sau,m.srd,m.ds)
def MC.ct (m:MC):CV:=⟨m.cau,m.crd,m.cbl,m.cpl,m.vl⟩
def MC.ft (m:MC)(a b:Int):MC:={ m with fr:=a,tt:=b }
def MC.mv (m:MC):MV:=⟨⟨m.fr,m.tt,m.ki,m.bau,m.bnu,m.hau,m.hrd,m.sau,m.srd,m.cau,m.crd,m.ro,none,none,none,none,none,none,none,m.ss.length,0,m.bl.length,0,m.pl.length,0,m.ds.length,0,m.cbl.length,0,m.cpl.length,0,m.vl.length,0⟩,m.ss,pz m.bl,pz m.pl,pz m.cbl,pz m.cpl,m.ds,m.vl⟩
def MC.onTape (m:MC):List Int:=m.mv.onTape
def zaX (l:List MC):List Int:=l.flatMap MC.onTape
structure Kn where
 (sh:List BW) (tab:List SV) (dag:List CV) (own:CV) (slot:SV)
def Kn.z:Kn:=⟨[],[],[],CV.z,(0,0,[])⟩
def zcy (sh:List BW)(b:BW):Bool:=decide (b.f=0)&&!zbX sh b.d&&decide (sh.length<800)
def zak (l:List SV)(h:CV):List SV×SV×Int:=zco l h.au h.rd (pz h.bl) (pz h.pl)
def Kn.rcl (k:Kn)(m:MC):Kn:=
 if m.ki=1 then (if zcy k.sh m.b then { k with sh:=k.sh++[m.b] } else k)
 else if m.ki=2 then (if m.h.hf=0 then { k with own:=m.h,slot:=m.h.slot,tab:=if (zak k.tab m.h).2.2=0 then (zak k.tab m.h).1 else k.tab } else k)
 else if m.ki=3 then { k with tab:=k.tab++[m.s] }
 else if m.ki=4 then (if zbl k.dag m.ct=0 then { k with dag:=k.dag++[m.ct] } else k)
 else k
structure Nd where
 (nu:Int) (up:Bool) (nx:Int) (txs:List ByteArray) (k:Kn) (vot:List Int) (recs:List MC) (syn:Nat) (wai:List MC) (trn:Int)
def Nd.z (nu:Int):Nd:=⟨nu,false,1,[],Kn.z,[],[],0,[],0⟩
def Nd.room (n:Nd)(m:MC):Bool:=decide ((zaX n.recs).length+m.onTape.length≤400000)
def Nd.send (n:Nd)(to_:Int)(m:MC):Nd:=if to_=n.nu∨400≤n.wai.length then n else { n with wai:=n.wai++[m.ft n.nu to_] }
def Nd.sendTo (n:Nd)(m:MC):Nat→Nd
 | 0=>n
 | j+1=>(n.sendTo m j).send j m
def Nd.sendAll (n:Nd)(m:MC):Nd:=n.sendTo m 4
def Nd.sendD (n:Nd)(to_:Int)(d:List Int):Nd:=match bOf n.k.sh d with
 | some b=>n.send to_ (zeH b)
 | none=>n
def Nd.sendB (n:Nd)(to_:Int)(l:List (List Int)):Nd:=l.foldl (fun n d=>n.sendD to_ d) n
def Nd.log (n:Nd)(m:MC)(k:Kn):Nd:={ n with recs:=n.recs++[m],k:=k }
def Nd.hearB (n:Nd)(b:BW):Nd:=if zcy n.k.sh b&&n.room (zeH b) then n.log (zeH b) { n.k with sh:=n.k.sh++[b] } else n
def Kn.knows (k:Kn)(h:CV):Bool:=h.bl.all (zbX k.sh)&&decide (zc1 k.dag h.rd h.pl=0)
structure No where
 (bad:Int) (sg:List GV)
def No.signed (o:No)(nd:Int)(s:SV):Bool:=decide ((zb4 o.sg o.bad (nd,s.1,s.2.1,s.2.2)).2=0)&&(zb4 o.sg o.bad (nd,s.1,s.2.1,s.2.2)).1
def No.proven (o:No)(c:CV):Bool:=decide (zeB o.sg o.bad c.au c.rd c.f c.d c.vl=0)
def Nd.hearO (n:Nd)(o:No)(h:CV):Nd:=
 if h.au=n.nu∨n.k.knows h=false∨h.hf≠0∨o.signed h.au h.slot=false then n
 else if (zak n.k.tab h).2.2≠0 then n
 else if n.k.tab.length<(zak n.k.tab h).1.length then
  (if n.room (zcx h.slot) then (n.log (zcx h.slot) { n.k with tab:=(zak n.k.tab h).1 }).send h.au (zcx h.slot) else n)
 else n.send h.au (zcx h.slot)
def Nd.proofs (n:Nd)(o:No)(c:CV):Bool:=decide (zbl n.k.dag c=0)&&o.proven c&&n.room (zdh c)
def Nd.hearP (n:Nd)(o:No)(c:CV):Nd:=if n.proofs o c then n.log (zdh c) { n.k with dag:=n.k.dag++[c] } else n
def zk1 (x:Int):List Int→List Int
 | []=>[x]
 | y::l=>if x≤y then x::y::l else y::zk1 x l
def zgC (l:List Int):List Int:=l.foldr zk1 []
def Nd.cert (n:Nd):CV:={ n.k.own with vl:=zgC n.vot }
def Nd.hearV (n:Nd)(o:No)(fr:Int)(s:SV):Nd:=
 if s≠n.k.slot∨0≤cOf n.k.dag s.1 s.2.1∨fr∈n.vot∨o.signed fr s=false then n
 else if n.vot.length+1<3 then { n with vot:=n.vot++[fr] }
 else if ({ n with vot:=n.vot++[fr] }:Nd).proofs o ({ n with vot:=n.vot++[fr] }:Nd).cert
  then (({ n with vot:=n.vot++[fr] }:Nd).hearP o ({ n with vot:=n.vot++[fr] }:Nd).cert).sendAll (zdh ({ n with vot:=n.vot++[fr] }:Nd).cert)
  else { n with vot:=n.vot++[fr] }
def leC (a b:CV):Bool:=decide (a.rd<b.rd∨(a.rd=b.rd∧a.au≤b.au))
def zhM (x:CV):List CV→List CV
 | []=>[x]
 | y::l=>if leC x y then x::y::l else y::zhM x l
def zi3 (l:List CV):List CV:=l.foldr zhM []
def ziC (l:List CV)(r:Int):List CV:=(zi3 (l.filter fun c=>decide (r≤c.rd))).take 8
def Nd.tellC (n:Nd)(fr:Int)(c:CV):Nd:=(n.sendB fr c.bl).send fr (zdh c)
def Nd.tell (n:Nd)(fr:Int)(l:List CV):Nd:=l.foldl (fun n c=>n.tellC fr c) n
def Nd.hearW (n:Nd)(fr r:Int):Nd:=n.tell fr (ziC n.k.dag r)
def Nd.hear (n:Nd)(o:No)(m:MC):Nd:=
 if m.ki=1 then n.hearB m.b else if m.ki=2 then n.hearO o m.h else if m.ki=3 then n.hearV o m.fr m.s else if m.ki=4 then n.hearP o m.ct else if m.ki=5 then n.hearW m.fr m.ro else n
def Nd.gather (n:Nd):Nd:=
 if zbR n.nx n.txs n.nu≠0 then n
 else if zbX (n.hearB ⟨n.nu,n.nx,n.txs.take 4⟩).k.sh (⟨n.nu,n.nx,n.txs.take 4⟩:BW).d
  then ({ n.hearB ⟨n.nu,n.nx,n.txs.take 4⟩ with nx:=n.nx+1,txs:=n.txs.drop 4 }:Nd).sendAll (zeH ⟨n.nu,n.nx,n.txs.take 4⟩)
  else n.hearB ⟨n.nu,n.nx,n.txs.take 4⟩
def zkh (l:List CV)(r:Int):Nat→Int
 | 0=>r
 | f+1=>if 3≤zgk l r then zkh l (r+1) f else r
def zcX (l:List CV):Int:=zkh l 1 l.length
def zhe (k:Kn)(nu:Int)(d:List Int):Bool:=k.dag.any fun c=>decide (c.au=nu)&&c.bl.any fun x=>decide (zaf x=zaf d)
def zfW (k:Kn)(nu:Int)(acc:List (List Int))(b:BW):List (List Int):=if acc.length=3 then acc else if b.au=nu∧zhe k nu b.d=false then acc++[b.d] else acc
def zbP (k:Kn)(nu:Int)(acc:List (List Int))(l:List BW):List (List Int):=l.foldl (zfW k nu) acc
def Nd.header (n:Nd)(r:Int):CV:=⟨n.nu,r,zbP n.k n.nu [] n.k.sh,dgF n.k.dag (r-1),[]⟩
def Nd.offerNew (n:Nd)(r:Int):Nd:=
 if (zak n.k.tab (n.header r)).2.2=0∧n.room (zer (n.header r))=true
  then ({ n.log (zer (n.header r)) { n.k with tab:=(zak n.k.tab (n.header r)).1,own:=n.header r,slot:=(n.header r).slot } with vot:=[n.nu] }:Nd).sendAll (zer (n.header r))
  else n
def Nd.againTo (n:Nd):Nat→Nd
 | 0=>n
 | j+1=>if (j:Int)∈n.vot then n.againTo j else ((n.againTo j).sendB j n.k.own.bl).send j (zer n.k.own)
def zcc (x:Int):Int:=(x+1) % 4
def zhN (k:Kn)(e:Int)(c:CV):Int:=if c.rd<e∧c.bl.any (fun d=>!zbX k.sh d)=true then c.rd else e
def zk (k:Kn)(e:Int)(l:List CV):Int:=l.foldl (zhN k) e
def Nd.turn (n:Nd):Int:=if zcc n.trn=n.nu then zcc (zcc n.trn) else zcc n.trn
def Nd.ask (n:Nd)(r:Int):Nd:=({ n with trn:=n.turn }:Nd).send n.turn (zpG (zk n.k (max (r-1) 1) n.k.dag))
def Nd.due (n:Nd)(r:Int):Nd:=if n.k.own.rd<r then n.offerNew r else if 0≤cOf n.k.dag n.k.own.au n.k.own.rd then n else n.againTo 4
def Nd.work (n:Nd):Nd:=(n.gather.due (zcX n.gather.k.dag)).ask (zcX n.gather.k.dag)
def zfD:Nat→List MC→List MC
 | _,[]=>[]
 | k,m::l=>if m.onTape.length≤k then m::zfD (k-m.onTape.length) l else []
def zds (nu:Int)(l:List BW):Int:=(l.foldl (fun g b=>if b.au=nu then max g b.nu else g) 0)+1
def Nd.recall (n:Nd)(m:MC):Nd:={ n with k:=n.k.rcl m,vot:=if m.ki=2∧m.h.hf=0 then [n.nu] else n.vot }
def Nd.kept (n:Nd)(keep:Int):List MC:=zfD (zeC (zaX n.recs).length n.syn keep) n.recs
def Nd.crash (n:Nd)(keep:Int):Nd:=
 let l:=(n.kept keep).foldl Nd.recall { Nd.z n.nu with recs:=n.kept keep,syn:=(zaX (n.kept keep)).length }
 { l with nx:=zds n.nu l.k.sh }
structure Fl where
 (nd:List Nd) (no:No) (away:List MC) (codes:List Int)
def Fl.node (f:Fl)(i:Int):Nd:=f.nd.getD i.toNat (Nd.z 0)
def Fl.set (f:Fl)(i:Int)(n:Nd):Fl:={ f with nd:=f.nd.set i.toNat n }
def Fl.runs (f:Fl)(i:Int):Bool:=decide (i≠f.no.bad)&&(f.node i).up
def ze5 (l:List GV)(g:GV):List GV:=if g∈l then l else if (zdD l g).2=0 then (zdD l g).1 else l
def No.sign (o:No)(m:MC):No:=
 if m.ki=2 then (if m.h.hf=0 then { o with sg:=ze5 o.sg (m.fr,m.h.slot) } else o)
 else if m.ki=3 then { o with sg:=ze5 o.sg (m.fr,m.s) } else o
def zfo (l:List MC)(m:MC):List MC:=if l.length<400 then l++[m] else l
def Fl.out (f:Fl)(m:MC):Fl:={ f with no:=f.no.sign m,away:=zfo f.away m }
def Fl.sync (f:Fl)(i:Int):Fl:=(f.node i).wai.foldl Fl.out (f.set i { f.node i with wai:=[],syn:=(zaX (f.node i).recs).length })
def Fl.come (f:Fl)(i:Int)(m:MC):Fl:=if f.runs i then f.set i ((f.node i).hear f.no m) else f
def Fl.pick (f:Fl)(k p:Int):Fl:=
 if f.away.length=0 then f
 else if k=6 then { f with away:=zfo f.away (f.away.getD (p.toNat % f.away.length) MC.z) }
 else if k=4 then ({ f with away:=f.away.eraseIdx (p.toNat % f.away.length) }:Fl).come (f.away.getD (p.toNat % f.away.length) MC.z).tt (f.away.getD (p.toNat % f.away.length) MC.z)
 else { f with away:=f.away.eraseIdx (p.toNat % f.away.length) }
def Fl.flow (f:Fl):Fl:=f.away.foldl (fun g m=>g.come m.tt m) { f with away:=[] }
def tbL (t:ByteArray):List Int:=t.toList.map fun x=>(x.toNat:Int)
def zpH (t:ByteArray):Option MC:=if zbk (tbL t)=0∧zL (pM (tbL t,false)).mv.m (pM (tbL t,false)).mv.car=0 then some (pM (tbL t,false)) else none
def Fl.forge (f:Fl)(i:Int)(t:ByteArray):Fl:=match zpH t with
 | some m=>if f.no.bad=-1 then f else f.come i m
 | none=>f
def Fl.submit (f:Fl)(i:Int)(t:ByteArray):Fl:=
 if f.runs i=false then { f with codes:=f.codes++[12] }
 else if zcI (f.node i).nx (f.node i).txs t=0 then { (f.set i { f.node i with txs:=(f.node i).txs++[t] }) with codes:=f.codes++[0] }
 else { f with codes:=f.codes++[zcI (f.node i).nx (f.node i).txs t] }
def Fl.start (f:Fl)(i:Int):Fl:=if i=f.no.bad then f else f.set i { f.node i with up:=true }
def Fl.act (f:Fl)(k i p:Int)(t:ByteArray):Fl:=
 if k=4∨k=5∨k=6 then f.pick k p
 else if k=10 then f.flow
 else if k=1 then f.submit i t
 else if k=9 then f.forge i t
 else if k=8 then f.start i
 else if k=2∨k=3∨k=7 then
  (if f.runs i then (if k=2 then f.set i (f.node i).work else if k=3 then f.sync i else f.set i ((f.node i).crash p)) else f)
 else f
def Fl.z (r:Int):Fl:=⟨[{ Nd.z 0 with up:=true },{ Nd.z 1 with up:=true },{ Nd.z 2 with up:=true },{ Nd.z 3 with up:=true }],⟨r,[]⟩,[],[]⟩
variable {U U' U1:Nat→Bool}{F o:Nat}{fc fc':Array Value}{T:TypeId}{ls:List Ct}{w1:World}{ds:List zi}{vc vd:Value}
structure MSh (w:World)(x:MV):Prop where
 b:zcG w ⟨⟨x.m.bau,x.m.bnu,x.ss⟩,x.m.bta,x.m.btc⟩
 h:HAt w x.m.hba x.m.hbc x.bl x.m.hpa x.m.hpc x.pl
 c:HAt w x.m.cba x.m.cbc x.cbl x.m.cpa x.m.cpc x.cpl
theorem MSh.sub {x:MV}(h:MSh w x)(k:Sub w w'):MSh w' x:=⟨h.b.sub k,h.h.sub k,h.c.sub k⟩
structure GM (w:World)(x:MV):Prop where
 lies:MAt w x
 ok:zL x.m x.car=0
 u8:U8M x.bl x.pl x.cbl x.cpl x.ds
 shp:MSh w x
theorem GM.sub {x:MV}(h:GM w x)(k:Sub w w'):GM w' x:=⟨h.lies.sub k,h.ok,h.u8,h.shp.sub k⟩
structure Sh where
 b:Bc
 d:zi
def Sh.cs (s:Sh):List Value:=[I_ s.b.v.au,I_ s.b.v.nu,.slice s.b.ta s.b.v.ss.length s.b.tc,.slice s.d.sa s.d.bs.length s.d.cap]
def shv:List Sh→List Value
 | []=>[]
 | s::r=>s.cs++shv r
theorem zhO (b:List Sh)(s:Sh):shv (b++[s])=shv b++s.cs:=by
 induction b with
 | nil=>simp[shv]
 | cons x r ih=>simp[shv,ih]
theorem zuK (b:List Sh)(j i:Nat)(h:j<b.length)(c:i<4):(shv b)[j*4+i]? = (b[j]).cs[i]?:=by
 induction b generalizing j with
 | nil=>cases h
 | cons x r ih=>
  cases j with
  | zero=>simp only[shv,Nat.zero_mul,Nat.zero_add,List.getElem_cons_zero];rw[List.getElem?_append_left (by simp[Sh.cs];exact c)]
  | succ j=>
   have h':j<r.length:=by simpa using h
   simp only[shv,List.getElem_cons_succ];rw[List.getElem?_append_right (by simp[Sh.cs];omega),←ih j h']
   congr 1
   simp[Sh.cs];omega
def shw (l:List Sh):List BW:=l.map (·.b.v)
structure zdt (w:World)(s:Sh):Prop where
 b:zcG w s.b
 d:zf w s.d.sa s.d.cap s.d.bs
 e:s.d.bs=s.b.v.d
theorem zdt.hid {s:Sh}(h:zdt w s)(d:∀ b c,s.b.ta=some ⟨b,c,none⟩→U b=false)(f:∀ b c,s.d.sa=some ⟨b,c,none⟩→U b=false):zdt (zo U w) s:=⟨h.b.hid d,zb3 h.d (fun b c e _=>f b c e),h.e⟩
theorem zdt.sub {x:Sh}(h:zdt w x)(k:Sub w w'):zdt w' x:=⟨h.b.sub k,h.d.sub k,h.e⟩
structure zmV (w:World)(U:Nat→Bool)(s:Nat)(vc vd:Value)(ls:List Ct)(ds:List zi):Prop where
 box:R_ w s #[vc,vd] 125
 rc:w.ownsRow 0 59 5 vc ls.length (ctv ls)
 rd:w.ownsRow 0 64 1 vd ds.length (pv ds)
 ec:∀ c∈ls,za2 (zo U w) c
 ed:∀ p∈ds,zf (zo U w) p.sa p.cap p.bs
 same:zQ ds=(zD ls).map CV.d
 ic:∀ c∈ls,∀ b,zeG c b→U b=false
structure NM where
 (nu:Int) (up:Bool) (nx:Int) (pa:Option Addr) (pc:Nat) (txs:List ByteArray)
 (sa:Option Addr) (sc:Nat) (sh:List Sh)
 (ta:Option Addr) (tc:Nat) (tab:List Sl)
 (s:Nat) (vc vd:Value) (ls:List Ct) (ds:List zi)
 (own:Ct) (slot:Sl)
 (oa:Option Addr) (oc:Nat) (vot:List Int)
 (ba:Option Addr) (bc:Nat) (ms:List MV) (syn:Nat)
 (wa:Option Addr) (wc:Nat) (wai:List MV)
 (trn:Int)
def NM.v (x:NM):Nd:=⟨x.nu,x.up,x.nx,x.txs,⟨shw x.sh,vs x.tab,zD x.ls,x.own.v,x.slot.v⟩,x.vot,x.ms.map MV.c,x.syn,x.wai.map MV.c,x.trn⟩
def NM.cs (x:NM):List Value:=[I_ x.nu,.bool x.up,I_ x.nx,.slice x.pa x.txs.length x.pc,.slice x.sa x.sh.length x.sc,.slice x.ta x.tab.length x.tc,(P_ x.s 0),I_ x.own.au,I_ x.own.rd,.slice x.own.ba x.own.bl.length x.own.bc,.slice x.own.pa x.own.pl.length x.own.pc,I_ x.slot.au,I_ x.slot.rd,.slice x.slot.p.sa x.slot.p.bs.length x.slot.p.cap,.slice x.oa x.vot.length x.oc,.slice x.ba (zu x.ms).length x.bc,I_ x.syn,.slice x.wa x.wai.length x.wc,I_ x.trn]
def zhf (fc:Array Value)(o:Nat)(x:NM):Prop:=∀ j,j<19→fc[o+j]? = x.cs[j]?
theorem zhf.set {x c:NM}(h:zhf fc o x)(l:o+19≤fc.size)(k:Nat)(g:k<19)(v:Value)(f:c.cs=x.cs.set k v):zhf (fc.setIfInBounds (o+k) v) o c:=by
 intro j b;rw[f,sI_];by_cases e:j=k
 ·subst e;have d:x.cs.length=19:=rfl;simp[show o+j<fc.size by omega,d,b]
 ·rw[if_neg (by omega),List.getElem?_set_ne (by omega)];exact h j b
def ob (a:Option Addr):Option Nat:=a.map (·.block)
theorem zcL (a:Option Addr)(n c:Nat):(Value.slice a n c).ownBlock=ob a:=by cases a<;>rfl
def NM.S (x:NM)(b:Nat):Prop:=b=x.s∨x.vc.ownBlock=some b∨x.vd.ownBlock=some b∨ob x.sa=some b∨ob x.ta=some b∨ob x.oa=some b∨ob x.wa=some b
structure zaT (n:Nd):Prop where
 nu:0≤n.nu∧n.nu<4
 pool:zaG n.nx n.txs=0
 sh:n.k.sh.length≤800
 shf:∀ b∈n.k.sh,b.f=0
 dag:zbI n.k.dag=0
 own:n.k.own.rd=0∨n.k.own.hf=0
 ovl:n.k.own.vl=[]
 vot:n.vot.length≤4∧(∀ v∈n.vot,0≤v∧v<4)∧n.vot.Nodup
 tape:(zaX n.recs).length≤400000
 syn:n.syn≤(zaX n.recs).length
 wai:n.wai.length≤400
 trn:0≤n.trn∧n.trn<4
 tab:n.k.tab.length≤400000
 u8t:∀ s∈n.k.tab,zaF s.2.2
 u8s:zaF n.k.slot.2.2
 ou8:∀ b∈n.k.own.bl++n.k.own.pl,∀ x∈b,0≤x∧x≤255
 du8:∀ c∈n.k.dag,∀ b∈c.bl++c.pl,∀ x∈b,0≤x∧x≤255
structure zae (w:World)(U:Nat→Bool)(F o:Nat)(T:TypeId)(fc:Array Value)(x:NM):Prop where
 blk:R_ w F fc T
 siz:o+19≤fc.size
 cel:zhf fc o x
 fu:U F=true
 su:∀ b,x.S b→U b=true∧b≠F
 bnd:Bnd U w
 tabs:zby (zo U w)
 etx:zbi (zo U w) x.pa x.pc x.txs
 rsh:w.ownsRow 0 137 4 (.slice x.sa x.sh.length x.sc) x.sh.length (shv x.sh)
 esh:∀ s∈x.sh,zdt (zo U w) s
 rtb:w.ownsRow 0 66 3 (.slice x.ta x.tab.length x.tc) x.tab.length (slv x.tab)
 etb:∀ s∈x.tab,zf (zo U w) s.p.sa s.p.cap s.p.bs
 stk:zmV w U x.s x.vc x.vd x.ls x.ds
 hdr:za2 (zo U w) x.own
 slt:zf (zo U w) x.slot.p.sa x.slot.p.cap x.slot.p.bs
 rvo:w.ownsRow 0 3 1 (.slice x.oa x.vot.length x.oc) x.vot.length (iv x.vot)
 tap:zf (zo U w) x.ba x.bc (zu x.ms)
 ems:∀ m∈x.ms,(∃ W,MAt W m)∧zaK m∧U8M m.bl m.pl m.cbl m.cpl m.ds
 rwa:w.ownsRow 0 71 19 (.slice x.wa x.wai.length x.wc) x.wai.length (zU x.wai)
 ewa:∀ m∈x.wai,GM (zo U w) m
 inv:zaT x.v
structure NTo (U U':Nat→Bool)(w w':World)(F o:Nat)(fc fc':Array Value)(x x':NM):Prop where
 os:w'.os=w.os
 tape:w'.tape=w.tape
 output:w'.output=w.output
 size:w.heap.size≤w'.heap.size
 block:∀ b,b<w.heap.size→¬x.S b→b≠F→w'.heap[b]? = w.heap[b]?
 us:∀ b,b<w.heap.size→U' b=U b
 new:∀ b,x'.S b→x.S b∨w.heap.size≤b
 fsz:fc'.size=fc.size
 far:∀ j,j<o∨o+19≤j→fc'[j]? = fc[j]?
theorem NTo.refl (U:Nat→Bool)(w:World)(F o:Nat)(b:Array Value)(x:NM):NTo U U w w F o b b x x:=
 ⟨rfl,rfl,rfl,nR_ _,fun _ _ _ _=>rfl,fun _ _=>rfl,fun _ h=>.inl h,rfl,fun _ _=>rfl⟩
theorem NTo.trans {d:Nat→Bool}{f l:Array Value}{x r s:NM}(h:NTo U U1 w w1 F o fc f x r)(k:NTo U1 d w1 w2 F o f l r s):NTo U d w w2 F o fc l x s:=
 ⟨k.os.trans h.os,k.tape.trans h.tape,k.output.trans h.output,nT_ h.size k.size,
  fun b c q m=>(k.block b (nL_ c h.size) (fun e=>by
   rcases h.new b e with g|g
   ·exact q g
   ·omega) m).trans (h.block b c q m),
  fun b c=>(k.us b (nL_ c h.size)).trans (h.us b c),
  fun b e=>by
   rcases k.new b e with g|g
   ·exact h.new b g
   ·exact .inr (nT_ h.size g),
  k.fsz.trans h.fsz,fun j p=>(k.far j p).trans (h.far j p)⟩
theorem NTo.goes {x g:NM}(h:NTo U U' w w' F o fc fc' x g)(d:zae w U F o T fc x):zah U U' w w':=
 ⟨h.os,h.tape,h.output,h.size,fun b f c=>h.block b f (fun e=>by have:=(d.su b e).1;rw[c] at this;cases this) (fun e=>by rw[e,d.fu] at c;cases c),h.us⟩
theorem NTo.below (U:Nat→Bool)(c:Array Value)(x:NM)(h:B_ w w'):NTo U U w w' F o c c x x:=
 ⟨h.os,h.tape,h.output,h.size,fun b d _ _=>h.block b d,fun _ _=>rfl,fun _ h=>.inl h,rfl,fun _ _=>rfl⟩
theorem zmV.keep {s:Nat}(h:zmV w U s vc vd ls ds)(j:Sub (zo U w) (zo U' w'))(m:∀ b,b<w.heap.size→U' b=U b)(f:∀ b,b=s∨vc.ownBlock=some b∨vd.ownBlock=some b→w'.heap[b]? = w.heap[b]?):zmV w' U' s vc vd ls ds:=
 ⟨(f s (.inl rfl)).trans h.box,zt h.rc (fun q e=>f q (.inr (.inl e))),zt h.rd (fun q e=>f q (.inr (.inr e))),fun c d=>(h.ec c d).sub j,fun p l=>(h.ed p l).sub j,h.same,fun c d b g=>by rw[m b (by have:=(h.ec c d).block_lt b g;rwa [zb2] at this)];exact h.ic c d b g⟩
theorem zae.below {x:NM}(h:zae w U F o T fc x)(d:B_ w w'):zae w' U F o T fc x:=by
 have c:Sub (zo U w) (zo U w'):=(zah.below U d).sub;have f:∀ b,x.S b→w'.heap[b]? = w.heap[b]?:=fun b e=>d.block b (h.bnd b (h.su b e).1);exact ⟨(d.block _ (ze h.blk)).trans h.blk,h.siz,h.cel,h.fu,h.su,h.bnd.mono d.size,h.tabs.sub c,h.etx.sub c,
  zv h.rsh d,fun s m=>(h.esh s m).sub c,zv h.rtb d,fun s m=>(h.etb s m).sub c,h.stk.keep c (fun _ _=>rfl) (fun b e=>f b (by rcases e with e|e|e;exact .inl e;exact .inr (.inl e);exact .inr (.inr (.inl e)))),
  h.hdr.sub c,h.slt.sub c,zv h.rvo d,h.tap.sub c,h.ems,zv h.rwa d,fun m e=>(h.ewa m e).sub c,h.inv⟩
def zac (w:World)(U:Nat→Bool)(F o:Nat)(T:TypeId)(fc:Array Value)(x:NM)(w':World)(n':Nd):Prop:=
 ∃ U' fc' x',zae w' U' F o T fc' x'∧NTo U U' w w' F o fc fc' x x'∧x'.v=n'
theorem zac.quiet {x:NM}(h:zae w U F o T fc x)(b:B_ w w'):zac w U F o T fc x w' x.v:=⟨U,fc,x,h.below b,NTo.below U fc x b,rfl⟩
theorem zac.after {b:Array Value}{x c:NM}{n:Nd}(k:NTo U U1 w w1 F o fc b x c)(h:zac w1 U1 F o T b c w' n):zac w U F o T fc x w' n:=by
 obtain ⟨d,f,m,g,j,l⟩:=h;exact ⟨d,f,m,g,k.trans j,l⟩
theorem NTo.box {x j:NM}(h:NTo U U' w w' F o fc fc' x j)(f:zae w U F o T fc x){b:Nat}{d:Obj}(c:w.heap[b]? = some d)(g:U b=false):w'.heap[b]? = some d:=
 ((h.goes f).block b (ze c) g).trans c
theorem NTo.hides {x f:NM}(h:NTo U U' w w' F o fc fc' x f){b:Nat}(c:b<w.heap.size)(d:U b=false):U' b=false:=(h.us b c).trans d
theorem NTo.sub {x c:NM}(h:NTo U U' w w' F o fc fc' x c)(b:zae w U F o T fc x):Sub (zo U w) (zo U' w'):=(h.goes b).sub
theorem zae.later {x:NM}(_:zae w U F o T fc x)(b:B_ w w'):Sub (zo U w) (zo U w'):=(zah.below U b).sub
theorem zae.cell {x:NM}(h:zae w U F o T fc x)(j:Nat)(v:Value)(b:x.cs[j]? = some v):C_ w F (o+j) v:=
 zb h.blk (o+j) v ((h.cel j (by
  rcases Nat.lt_or_ge j 19 with g|g
  ·exact g
  ·rw[List.getElem?_eq_none (by show 19≤j;exact g)] at b;cases b)).trans b)
theorem zae.free {x:NM}(h:zae w U F o T fc x)(j:Nat):w.frozen? ⟨F,j,none⟩=false:=zd h.blk j
theorem zaT.wai_ {n:Nd}(h:zaT n){l:List MC}(b:l.length≤400):zaT { n with wai:=l }:=⟨h.nu,h.pool,h.sh,h.shf,h.dag,h.own,h.ovl,h.vot,h.tape,h.syn,b,h.trn,h.tab,h.u8t,h.u8s,h.ou8,h.du8⟩
theorem zaT.up_ {n:Nd}(h:zaT n)(b:Bool):zaT { n with up:=b }:=⟨h.nu,h.pool,h.sh,h.shf,h.dag,h.own,h.ovl,h.vot,h.tape,h.syn,h.wai,h.trn,h.tab,h.u8t,h.u8s,h.ou8,h.du8⟩
theorem zaT.trn_ {n:Nd}(h:zaT n){t:Int}(b:0≤t∧t<4):zaT { n with trn:=t }:=⟨h.nu,h.pool,h.sh,h.shf,h.dag,h.own,h.ovl,h.vot,h.tape,h.syn,h.wai,b,h.tab,h.u8t,h.u8s,h.ou8,h.du8⟩
theorem zaT.pool_ {n:Nd}(h:zaT n){nx:Int}{l:List ByteArray}(b:zaG nx l=0):zaT { n with nx:=nx,txs:=l }:=⟨h.nu,b,h.sh,h.shf,h.dag,h.own,h.ovl,h.vot,h.tape,h.syn,h.wai,h.trn,h.tab,h.u8t,h.u8s,h.ou8,h.du8⟩
theorem zaT.vot_ {n:Nd}(h:zaT n){l:List Int}(b:l.length≤4∧(∀ v∈l,0≤v∧v<4)∧l.Nodup):zaT { n with vot:=l }:=⟨h.nu,h.pool,h.sh,h.shf,h.dag,h.own,h.ovl,b,h.tape,h.syn,h.wai,h.trn,h.tab,h.u8t,h.u8s,h.ou8,h.du8⟩
theorem zaT.tape_ {n:Nd}(h:zaT n){l:List MC}{s:Nat}(c:(zaX l).length≤400000)(b:s≤(zaX l).length):zaT { n with recs:=l,syn:=s }:=⟨h.nu,h.pool,h.sh,h.shf,h.dag,h.own,h.ovl,h.vot,c,b,h.wai,h.trn,h.tab,h.u8t,h.u8s,h.ou8,h.du8⟩
theorem zae.grew_sub {x:NM}(h:zae w U F o T fc x){a a':Option Addr}{n c d c':Nat}(G:zR w (.slice a n c) w2 (.slice a' d c'))(b:∀ q,ob a=some q→x.S q):Sub (zo U w) (zo (zaz U (ob a')) w2):=by
 have:=((zah.refl U w).grew G (fun q e=>(h.su q (b q (by rw[←zcL a n c];exact e))).1)).sub
 rwa [zcL] at this
variable {x:NM}{k c' j q n1 s1:Nat}{a':Option Addr}{w0:World}{xs1:List Value}
theorem za0 (h:R_ w F fc T)(v:Value):(w.setCell ⟨F,j,none⟩ v).heap[F]? = some (.cells (fc.setIfInBounds j v) T (0,0)):=
 ((Upd.refl h).setCell j v).here
theorem zal {b c:Nat}{v u:Value}(h:C_ w b j u)(d:b≠c):(w.setCell ⟨c,k,none⟩ v).cell? ⟨b,j,none⟩=some u:=(cB_ (hO_ w ⟨c,k,none⟩ b v d)).trans h
theorem zhg (b:Array Value)(o k:Nat)(v:Value)(d:k<19)(j:Nat)(c:j<o∨o+19≤j):(b.setIfInBounds (o+k) v)[j]? = b[j]?:=by
 rw[sI_,if_neg (by omega)]
theorem zm {a:Option Addr}{c:Nat}(h:(Value.slice a n c).ownBlock=some q):ob a=some q:=by rw[←zcL a n c];exact h
theorem zaC {a:Option Addr}(n c:Nat)(h:ob a=some q):(Value.slice a n c).ownBlock=some q:=by rw[zcL];exact h
theorem zf6 {f g p:Nat}{b c:TypeId}{r:Nat}{d:Value}{s:List Value}(j:w.ownsRow f b s1 v1 n1 xs1)(l:w.ownsRow g c r d p s)(m:b≠c)(q:Nat)(o:v1.ownBlock=some q):some q≠d.ownBlock:=fun e=>zca j l m q o e.symm
theorem zvB {c:Nat}{b t:TypeId}{cs:Array Value}(d:w.ownsRow c b s1 v1 n1 xs1)(f:w.heap[q]? = some (.cells cs t (0,0)))(g:b≠t):some q≠v1.ownBlock:=fun e=>zcE d f g e.symm
def stF (F o:Nat):World→List (Nat×Value)→World
 | w,[]=>w
 | w,p::t=>stF F o (w.setCell ⟨F,o+p.1,none⟩ p.2) t
def stA (o:Nat):Array Value→List (Nat×Value)→Array Value
 | a,[]=>a
 | a,p::t=>stA o (a.setIfInBounds (o+p.1) p.2) t
def stL:List Value→List (Nat×Value)→List Value
 | l,[]=>l
 | l,p::t=>stL (l.set p.1 p.2) t
def zjO (st:List (Nat×Value)):Bool:=st.all fun p=>decide (p.1<19)
theorem zuL (s:U' F=true):∀ (f:List (Nat×Value)) (w:World) (d:Array Value) (l:List Value),zjO f=true→zah U U' w0 w→R_ w F d T→o+19≤d.size→(∀ j,j<19→d[o+j]? = l[j]?) →
  zah U U' w0 (stF F o w f)∧(stF F o w f).heap[F]? = some (.cells (stA o d f) T (0,0))∧(stA o d f).size=d.size∧(∀ j,j<19→(stA o d f)[o+j]? = (stL l f)[j]?)∧(∀ j,j<o∨o+19≤j→(stA o d f)[j]? = d[j]?)∧(∀ b,b≠F→(stF F o w f).heap[b]? = w.heap[b]?)∧zo U' (stF F o w f)=zo U' w∧(stF F o w f).heap.size=w.heap.size:=by
 intro f
 induction f with
 | nil=>exact fun w d l _ g h _ c=>⟨g,h,rfl,c,fun _ _=>rfl,fun _ _=>rfl,rfl,rfl⟩
 | cons p t ih=>
  intro w d l q g h G c;have r:p.1<19∧zjO t=true:=by
   unfold zjO at q ⊢;rw[List.all_cons,Bool.and_eq_true,decide_eq_true_iff] at q;exact q
  obtain ⟨u,y,z,A,B,C,D,E⟩:=ih _ (d.setIfInBounds (o+p.1) p.2) (l.set p.1 p.2) r.2 (g.set s (o+p.1) p.2) (za0 h _) (by simpa using G) (by
   intro j m;rw[sI_,List.getElem?_set];by_cases e:p.1=j
   ·have k:=c p.1 r.1;rw[Array.getElem?_eq_getElem (by omega)] at k;rw[if_pos (by omega),if_pos (by omega),if_pos e,if_pos (List.getElem?_eq_some_iff.1 k.symm).1]
   ·rw[if_neg (by omega),if_neg e];exact c j m)
  exact ⟨u,y,z.trans (by simp),A,fun j m=>(B j m).trans (zhg d o p.1 _ r.1 j m),fun b n=>(C b n).trans (hO_ w ⟨F,o+p.1,none⟩ b _ n),D.trans (zbO s _ _),E.trans (by simp)⟩
structure zfX (e:TypeId)(w:World)(U:Nat→Bool)(x:NM):Prop where
 tabs:zby (zo U w)
 etx:zbi (zo U w) x.pa x.pc x.txs
 rsh:137≠e→w.ownsRow 0 137 4 (.slice x.sa x.sh.length x.sc) x.sh.length (shv x.sh)
 esh:∀ s∈x.sh,zdt (zo U w) s
 rtb:66≠e→w.ownsRow 0 66 3 (.slice x.ta x.tab.length x.tc) x.tab.length (slv x.tab)
 etb:∀ s∈x.tab,zf (zo U w) s.p.sa s.p.cap s.p.bs
 stk:zmV w U x.s x.vc x.vd x.ls x.ds
 hdr:za2 (zo U w) x.own
 slt:zf (zo U w) x.slot.p.sa x.slot.p.cap x.slot.p.bs
 rvo:3≠e→w.ownsRow 0 3 1 (.slice x.oa x.vot.length x.oc) x.vot.length (iv x.vot)
 tap:zf (zo U w) x.ba x.bc (zu x.ms)
 ems:∀ m∈x.ms,(∃ W,MAt W m)∧zaK m∧U8M m.bl m.pl m.cbl m.cpl m.ds
 rwa:71≠e→w.ownsRow 0 71 19 (.slice x.wa x.wai.length x.wc) x.wai.length (zU x.wai)
 ewa:∀ m∈x.wai,GM (zo U w) m
theorem zae.rest {e:TypeId}{v:Value}(h:zae w U F o T fc x)(g:zah U U' w w2)(f:w.ownsRow 0 e s1 v n1 xs1)(j:59≠e∧64≠e∧e≠125)(d:∀ b,x.S b→some b≠v.ownBlock→w2.heap[b]? = w.heap[b]?):zfX e w2 U' x:=by
 have c:=g.sub;refine ⟨h.tabs.sub c,h.etx.sub c,fun n=>zt h.rsh fun q i=>d q (.inr (.inr (.inr (.inl (zm i))))) (zf6 h.rsh f n q i),fun s m=>(h.esh s m).sub c,fun n=>zt h.rtb fun q i=>d q (.inr (.inr (.inr (.inr (.inl (zm i)))))) (zf6 h.rtb f n q i),fun s m=>(h.etb s m).sub c,h.stk.keep c g.us (fun b i=>?_),h.hdr.sub c,h.slt.sub c,fun n=>zt h.rvo fun q i=>d q (.inr (.inr (.inr (.inr (.inr (.inl (zm i))))))) (zf6 h.rvo f n q i),h.tap.sub c,h.ems,fun n=>zt h.rwa fun q i=>d q (.inr (.inr (.inr (.inr (.inr (.inr (zm i))))))) (zf6 h.rwa f n q i),fun s m=>(h.ewa s m).sub c⟩;rcases i with i|i|i
 ·subst i;exact d _ (.inl rfl) (zvB f h.stk.box j.2.2)
 ·exact d b (.inr (.inl i)) (zf6 h.stk.rc f j.1 b i)
 ·exact d b (.inr (.inr (.inl i))) (zf6 h.stk.rd f j.2.1 b i)
theorem zae.alter {e:TypeId}{v:Value}(d:NM)(m:List (Nat×Value))(a':Option Addr)(h:zae w U F o T fc x)(g:zah U U' w w2)(X:w.ownsRow 0 e s1 v n1 xs1)(N:59≠e∧64≠e∧e≠125)(B:∀ q,v.ownBlock=some q→x.S q)(s:∀ b,b<w.heap.size→some b≠v.ownBlock→w2.heap[b]? = w.heap[b]?)(Y:zjO m=true)(cs:d.cs=stL x.cs m)(J:Bnd U' w2)(z:∀ b,d.S b→x.S b∨ob a'=some b)(r:∀ b,ob a'=some b→U' b=true∧(x.S b∨w.heap.size≤b))(O:zaT d.v)(R:∀ W,(∀ q,ob a'=some q→W.heap[q]? = w2.heap[q]?)→zo U' W=zo U' w2→zfX e W U' x→zfX 9999 W U' d):zac w U F o T fc x (stF F o w2 m) d.v:=by
 have y:=ze h.blk;have u:U' F=true:=(g.us F y).trans h.fu;have M:R_ w2 F fc T:=(s F y (fun i=>(h.su F (B F i.symm)).2 rfl)).trans h.blk;obtain ⟨c,D,t,E,G,p,H,I⟩:=zuL u m w2 fc x.cs Y g M h.siz h.cel;have A:∀ q,x.S q∨w.heap.size≤q→q≠F:=fun q k L=>k.elim (fun k=>(h.su q k).2 L) (fun k=>by omega);have R:=R _ (fun q k=>p q (A q (r q k).2)) H (h.rest c X N (fun b i n=>(p b (h.su b i).2).trans (s b (h.bnd b (h.su b i).1) n)));have C:∀ b,d.S b→x.S b∨w.heap.size≤b:=fun b i=>(z b i).elim .inl (fun k=>(r b k).2);refine ⟨U',stA o fc m,d,⟨D,by rw[t];exact h.siz,fun j V=>by rw[cs];exact E j V,u,fun b i=>⟨?_,A b (C b i)⟩,fun b k=>by rw[I];exact J b k,R.tabs,R.etx,R.rsh (by decide),R.esh,R.rtb (by decide),R.etb,R.stk,R.hdr,R.slt,R.rvo (by decide),R.tap,R.ems,R.rwa (by decide),R.ewa,O⟩,⟨c.os,c.tape,c.output,c.size,fun b l n f=>(p b f).trans (s b l (fun i=>n (B b i.symm))),c.us,C,t,G⟩,rfl⟩;rcases z b i with k|k
 ·exact (c.us b (h.bnd b (h.su b k).1)).trans (h.su b k).1
 ·exact (r b k).1
theorem zae.more {e:TypeId}{a:Option Addr}{c d C B:Nat}{p:TypeId}{D:List Value}(f:NM)(k:Nat)(h:zae w U F o T fc x)(G:zR w (.slice a n c) w2 (.slice a' d c'))(A:w.ownsRow 0 e s1 (.slice a n c) n1 xs1)(y:w2.ownsRow 0 p C (.slice a' d c') B D)(r:59≠e∧64≠e∧e≠125)(g:∀ q,ob a=some q→x.S q)(t:k<19)(cs:f.cs=x.cs.set k (.slice a' d c'))(u:∀ b,f.S b→x.S b∨ob a'=some b)(s:zaT f.v)(R:∀ W,(∀ q,(Value.slice a' d c').ownBlock=some q→W.heap[q]? = w2.heap[q]?)→zo (zaz U (ob a')) W=zo (zaz U (ob a')) w2→zfX e W (zaz U (ob a')) x→zfX 9999 W (zaz U (ob a')) f):zac w U F o T fc x (w2.setCell ⟨F,o+k,none⟩ (.slice a' d c')) f.v:=
 h.alter f [(k,.slice a' d c')] a' (by have:=(zah.refl U w).grew G (fun q i=>(h.su q (g q (zm i))).1);rwa [zcL] at this) A r (fun q i=>g q (zm i)) (fun b l m=>G.grown.block b l m) (by simp[zjO,t]) cs (by have:=h.bnd.grew G.grown.size y;rwa [zcL] at this) u (fun b i=>⟨zd3 i,(G.fresh b (zaC _ _ i)).imp (fun j=>g b (zm j)) id⟩) s (fun W z=>R W (fun q i=>z q (zm i)))
theorem zae.put (c:NM)(d:List (Nat×Value))(h:zae w U F o T fc x)(f:B_ w w2)(m:zjO d=true)(cs:c.cs=stL x.cs d)(j:∀ b,c.S b→x.S b)(g:zaT c.v)(R:∀ W,zo U W=zo U w2→zfX 9999 W U x→zfX 9999 W U c):zac w U F o T fc x (stF F o w2 d) c.v:=
 h.alter c d none (zah.below U f) (oN_ w 0 9999 1) (by decide) (fun _ e=>by cases e) (fun b l _=>f.block b l) m cs (h.bnd.mono f.size) (fun b e=>.inl (j b e)) (fun _ e=>by cases e) g (fun W _=>R W)
theorem zae.putN {r t s:Nat}{g:TypeId}{u:List Value}(d:NM)(f:List (Nat×Value))(h:zae w U F o T fc x)(c:B_ w w2)(j:∀ q,ob a'=some q→w.heap.size≤q)(p:w2.ownsRow 0 g t (.slice a' r c') s u)(B:zjO f=true)(cs:d.cs=stL x.cs f)(z:∀ b,d.S b→x.S b∨ob a'=some b)(y:zaT d.v)(R:∀ W,W.ownsRow 0 g t (.slice a' r c') s u→zo (zaz U (ob a')) W=zo (zaz U (ob a')) w2→zfX 9999 W (zaz U (ob a')) x→zfX 9999 W (zaz U (ob a')) d):zac w U F o T fc x (stF F o w2 f) d.v:=
 h.alter d f a' ⟨c.os,c.tape,c.output,c.size,fun b m _=>c.block b m,fun b m=>by
  cases hu:U b with
  | true=>exact zau hu
  | false=>exact zbj hu (fun e=>by have:=j b e;omega)⟩ (oN_ w 0 9999 1) (by decide) (fun _ e=>by cases e) (fun b l _=>c.block b l) B cs (by have:=h.bnd.grew c.size p;rwa [zcL] at this) z (fun b i=>⟨zd3 i,.inr (j b i)⟩) y (fun W A=>R W (zt p (fun q i=>A q (zm i))))
theorem zae.more_sh {l':List Sh}(h:zae w U F o T fc x)(G:zR w (.slice x.sa x.sh.length x.sc) w2 (.slice a' l'.length c'))(ho:w2.ownsRow 0 137 4 (.slice a' l'.length c') l'.length (shv l'))(he:∀ s∈l',zdt (zo (zaz U (ob a')) w2) s)(hi:zaT ({ x with sa:=a',sc:=c',sh:=l' }:NM).v) :
  zac w U F o T fc x (w2.setCell ⟨F,o+4,none⟩ (.slice a' l'.length c')) ({ x with sa:=a',sc:=c',sh:=l' }:NM).v:=
 h.more _ 4 G h.rsh ho (by decide) (fun q e=>.inr (.inr (.inr (.inl e)))) (by decide) rfl (fun b i=>by rcases i with i|i|i|i|i|i|i<;>dsimp only at i<;>simp[NM.S,i]) hi (fun _ hq hid R=>⟨R.tabs,R.etx,fun _=>zt ho hq,fun s m=>by rw[hid];exact he s m,fun _=>R.rtb (by decide),R.etb,R.stk,R.hdr,R.slt,fun _=>R.rvo (by decide),R.tap,R.ems,fun _=>R.rwa (by decide),R.ewa⟩)
theorem zae.more_tab {l':List Sl}(h:zae w U F o T fc x)(G:zR w (.slice x.ta x.tab.length x.tc) w2 (.slice a' l'.length c'))(ho:w2.ownsRow 0 66 3 (.slice a' l'.length c') l'.length (slv l'))(he:∀ s∈l',zf (zo (zaz U (ob a')) w2) s.p.sa s.p.cap s.p.bs)(hi:zaT ({ x with ta:=a',tc:=c',tab:=l' }:NM).v) :
  zac w U F o T fc x (w2.setCell ⟨F,o+5,none⟩ (.slice a' l'.length c')) ({ x with ta:=a',tc:=c',tab:=l' }:NM).v:=
 h.more _ 5 G h.rtb ho (by decide) (fun q e=>.inr (.inr (.inr (.inr (.inl e))))) (by decide) rfl (fun b i=>by rcases i with i|i|i|i|i|i|i<;>dsimp only at i<;>simp[NM.S,i]) hi (fun _ hq hid R=>⟨R.tabs,R.etx,fun _=>R.rsh (by decide),R.esh,fun _=>zt ho hq,fun s m=>by rw[hid];exact he s m,R.stk,R.hdr,R.slt,fun _=>R.rvo (by decide),R.tap,R.ems,fun _=>R.rwa (by decide),R.ewa⟩)
theorem zae.more_vot {l':List Int}(h:zae w U F o T fc x)(G:zR w (.slice x.oa x.vot.length x.oc) w2 (.slice a' l'.length c'))(ho:w2.ownsRow 0 3 1 (.slice a' l'.length c') l'.length (iv l'))(hi:zaT ({ x with oa:=a',oc:=c',vot:=l' }:NM).v) :
  zac w U F o T fc x (w2.setCell ⟨F,o+14,none⟩ (.slice a' l'.length c')) ({ x with oa:=a',oc:=c',vot:=l' }:NM).v:=
 h.more _ 14 G h.rvo ho (by decide) (fun q e=>.inr (.inr (.inr (.inr (.inr (.inl e)))))) (by decide) rfl (fun b i=>by rcases i with i|i|i|i|i|i|i<;>dsimp only at i<;>simp[NM.S,i]) hi (fun _ hq _ R=>⟨R.tabs,R.etx,fun _=>R.rsh (by decide),R.esh,fun _=>R.rtb (by decide),R.etb,R.stk,R.hdr,R.slt,fun _=>zt ho hq,R.tap,R.ems,fun _=>R.rwa (by decide),R.ewa⟩)
theorem zae.more_wai {l':List MV}(h:zae w U F o T fc x)(G:zR w (.slice x.wa x.wai.length x.wc) w2 (.slice a' l'.length c'))(ho:w2.ownsRow 0 71 19 (.slice a' l'.length c') l'.length (zU l'))(he:∀ s∈l',GM (zo (zaz U (ob a')) w2) s)(hi:zaT ({ x with wa:=a',wc:=c',wai:=l' }:NM).v) :
  zac w U F o T fc x (w2.setCell ⟨F,o+17,none⟩ (.slice a' l'.length c')) ({ x with wa:=a',wc:=c',wai:=l' }:NM).v:=
 h.more _ 17 G h.rwa ho (by decide) (fun q e=>.inr (.inr (.inr (.inr (.inr (.inr e)))))) (by decide) rfl (fun b i=>by rcases i with i|i|i|i|i|i|i<;>dsimp only at i<;>simp[NM.S,i]) hi (fun _ hq hid R=>⟨R.tabs,R.etx,fun _=>R.rsh (by decide),R.esh,fun _=>R.rtb (by decide),R.etb,R.stk,R.hdr,R.slt,fun _=>R.rvo (by decide),R.tap,R.ems,fun _=>zt ho hq,fun s m=>by rw[hid];exact he s m⟩)
theorem zae.put_pool {nx':Int}{l':List ByteArray}(h:zae w U F o T fc x)(b:B_ w w2)(f:zbi (zo U w2) a' c' l')(c:zaT ({ x with nx:=nx',pa:=a',pc:=c',txs:=l' }:NM).v) :
  zac w U F o T fc x ((w2.setCell ⟨F,o+2,none⟩ (I_ nx')).setCell ⟨F,o+3,none⟩ (.slice a' l'.length c')) ({ x with nx:=nx',pa:=a',pc:=c',txs:=l' }:NM).v:=
 h.put _ [(2,I_ nx'),(3,.slice a' l'.length c')] b rfl rfl (fun _ i=>i) c (fun _ d R=>⟨R.tabs,(by rw[d];exact f),R.rsh,R.esh,R.rtb,R.etb,R.stk,R.hdr,R.slt,R.rvo,R.tap,R.ems,R.rwa,R.ewa⟩)
theorem zae.put_next {nx':Int}(h:zae w U F o T fc x)(b:B_ w w2)  (c:zaT ({ x with nx:=nx' }:NM).v) :
  zac w U F o T fc x (w2.setCell ⟨F,o+2,none⟩ (I_ nx')) ({ x with nx:=nx' }:NM).v:=
 h.put _ [(2,I_ nx')] b rfl rfl (fun _ i=>i) c (fun _ _ R=>⟨R.tabs,R.etx,R.rsh,R.esh,R.rtb,R.etb,R.stk,R.hdr,R.slt,R.rvo,R.tap,R.ems,R.rwa,R.ewa⟩)
theorem zae.put_tape {l':List MV}{sy:Nat}(h:zae w U F o T fc x)(b:B_ w w2)(g:zf (zo U w2) a' c' (zu l'))(f:∀ m∈l',(∃ W,MAt W m)∧zaK m∧U8M m.bl m.pl m.cbl m.cpl m.ds)(c:zaT ({ x with ba:=a',bc:=c',ms:=l',syn:=sy }:NM).v) :
  zac w U F o T fc x ((w2.setCell ⟨F,o+15,none⟩ (.slice a' (zu l').length c')).setCell ⟨F,o+16,none⟩ (I_ sy)) ({ x with ba:=a',bc:=c',ms:=l',syn:=sy }:NM).v:=
 h.put _ [(15,.slice a' (zu l').length c'),(16,I_ sy)] b rfl rfl (fun _ i=>i) c (fun _ d R=>⟨R.tabs,R.etx,R.rsh,R.esh,R.rtb,R.etb,R.stk,R.hdr,R.slt,R.rvo,(by rw[d];exact g),f,R.rwa,R.ewa⟩)
theorem zae.put_up {b':Bool}(h:zae w U F o T fc x)(b:B_ w w2)  (c:zaT ({ x with up:=b' }:NM).v) :
  zac w U F o T fc x (w2.setCell ⟨F,o+1,none⟩ (.bool b')) ({ x with up:=b' }:NM).v:=
 h.put _ [(1,.bool b')] b rfl rfl (fun _ i=>i) c (fun _ _ R=>⟨R.tabs,R.etx,R.rsh,R.esh,R.rtb,R.etb,R.stk,R.hdr,R.slt,R.rvo,R.tap,R.ems,R.rwa,R.ewa⟩)
theorem zae.put_turn {t':Int}(h:zae w U F o T fc x)(b:B_ w w2)  (c:zaT ({ x with trn:=t' }:NM).v) :
  zac w U F o T fc x (w2.setCell ⟨F,o+18,none⟩ (I_ t')) ({ x with trn:=t' }:NM).v:=
 h.put _ [(18,I_ t')] b rfl rfl (fun _ i=>i) c (fun _ _ R=>⟨R.tabs,R.etx,R.rsh,R.esh,R.rtb,R.etb,R.stk,R.hdr,R.slt,R.rvo,R.tap,R.ems,R.rwa,R.ewa⟩)
theorem zae.put_tab {l':List Sl}(h:zae w U F o T fc x)(hb:B_ w w2)(hfr:∀ q,ob a'=some q→w.heap.size≤q)(ho:w2.ownsRow 0 66 3 (.slice a' l'.length c') l'.length (slv l'))(he:∀ s∈l',zf (zo (zaz U (ob a')) w2) s.p.sa s.p.cap s.p.bs)(hi:zaT ({ x with ta:=a',tc:=c',tab:=l' }:NM).v) :
  zac w U F o T fc x (w2.setCell ⟨F,o+5,none⟩ (.slice a' l'.length c')) ({ x with ta:=a',tc:=c',tab:=l' }:NM).v:=
 h.putN _ [(5,.slice a' l'.length c')] hb hfr ho rfl rfl (fun b i=>by rcases i with i|i|i|i|i|i|i<;>dsimp only at i<;>simp[NM.S,i]) hi (fun _ hr hid R=>⟨R.tabs,R.etx,R.rsh,R.esh,fun _=>hr,(fun s m=>by rw[hid];exact he s m),R.stk,R.hdr,R.slt,R.rvo,R.tap,R.ems,R.rwa,R.ewa⟩)
theorem zae.put_own {h':Ct}{s':Sl}{l':List Int}(h:zae w U F o T fc x)(hb:B_ w w2)(hfr:∀ q,ob a'=some q→w.heap.size≤q)(ho:w2.ownsRow 0 3 1 (.slice a' l'.length c') l'.length (iv l'))(hh:za2 (zo (zaz U (ob a')) w2) h')(hs':zf (zo (zaz U (ob a')) w2) s'.p.sa s'.p.cap s'.p.bs)(hi:zaT ({ x with own:=h',slot:=s',oa:=a',oc:=c',vot:=l' }:NM).v) :
  zac w U F o T fc x ((((((((w2.setCell ⟨F,o+7,none⟩ (I_ h'.au)).setCell ⟨F,o+8,none⟩ (I_ h'.rd)).setCell ⟨F,o+9,none⟩ (.slice h'.ba h'.bl.length h'.bc)).setCell ⟨F,o+10,none⟩ (.slice h'.pa h'.pl.length h'.pc)).setCell ⟨F,o+11,none⟩ (I_ s'.au)).setCell ⟨F,o+12,none⟩ (I_ s'.rd)).setCell ⟨F,o+13,none⟩ (.slice s'.p.sa s'.p.bs.length s'.p.cap)).setCell ⟨F,o+14,none⟩ (.slice a' l'.length c')) ({ x with own:=h',slot:=s',oa:=a',oc:=c',vot:=l' }:NM).v:=
 h.putN _ [(7,I_ h'.au),(8,I_ h'.rd),(9,.slice h'.ba h'.bl.length h'.bc),(10,.slice h'.pa h'.pl.length h'.pc),(11,I_ s'.au),(12,I_ s'.rd),(13,.slice s'.p.sa s'.p.bs.length s'.p.cap),(14,.slice a' l'.length c')] hb hfr ho rfl rfl (fun b i=>by rcases i with i|i|i|i|i|i|i<;>dsimp only at i<;>simp[NM.S,i]) hi (fun _ hr hid R=>⟨R.tabs,R.etx,R.rsh,R.esh,R.rtb,R.etb,R.stk,(by rw[hid];exact hh),(by rw[hid];exact hs'),fun _=>hr,R.tap,R.ems,R.rwa,R.ewa⟩)
end Go.Proofs.YtdepbohhmfkjgaaGreatDoor
