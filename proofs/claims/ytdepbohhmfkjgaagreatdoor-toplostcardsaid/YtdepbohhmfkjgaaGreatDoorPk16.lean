import Derived.Test.YtdepbohhmfkjgaaGreatDoorPk15
set_option maxRecDepth 100000
set_option maxHeartbeats 4000000
namespace Go.Proofs.YtdepbohhmfkjgaaGreatDoor
open Go.RowKit Tryz
theorem zhP (au rd:Int)(c:Option Addr)(d:Nat)(bl:List zi)(f:Option Addr)(g:Nat)(pl:List zi)(w:World)(h:HAt w c d bl f g pl)(y:zK au rd bl pl=0)(G:zby w) :
  Calls prog 128 #[.agg #[I_ au,I_ rd,.slice c bl.length d,.slice f pl.length g]] w fun e w'=>∃ b,e=.returned (.tuple #[.agg #[I_ au,I_ rd,.slice (some ⟨b,0,none⟩) 32 32],I_ 0])∧w.heap.size≤b∧b<w'.heap.size∧zf w' (some ⟨b,0,none⟩) 32 (zay au rd bl pl)∧B_ w w':=by
 refine kO_ ?A0 ?_;exact Obj.cells #[I_ au,I_ rd,.slice c bl.length d,.slice f pl.length g] 56;refine kO_ ?B0 ?_;exact Obj.cells #[I_ 0,I_ 0,O_] 66;have l:B_ w ((w.alloc ?A0).alloc ?B0):=((bR_ _ _).alloc (nR_ _) _).alloc (by simp) _;have B:=hX_ w ?A0 ?B0;have s:((w.alloc ?A0).alloc ?B0).heap[w.heap.size+1]? = some (.cells #[I_ 0,I_ 0,O_] 66 (0,0)):=by
  have:=hN_ (w.alloc ?A0) ?B0;rw[zI] at this;exact this
 go_in;go_wp2_with fail
 generalize (w.alloc ?A0).alloc ?B0=u at l B s ⊢;refine (zdz (h.below l) y (G.below l)).mono ?_;rintro e J ⟨b,rfl,z,o,A⟩;have q:w.heap.size+1<u.heap.size:=ze s;have C:=zn o B;have j:=zn o s;have L:=zb C 0 (I_ au) rfl;have M:=zb C 1 (I_ rd) rfl;have D:=zb j 0 _ rfl;have E:=zb j 1 _ rfl;have F:=zb j 2 _ rfl;have N:=zd j 0;have O:=zd j 1;have R:=zd j 2;have H:=zq l o;have I:b<J.heap.size:=by
  rcases A.bytes with p|⟨m,t,e,p⟩
  ·have:=zbs au rd bl pl;rw[p] at this;simp at this
  ·cases e;exact bL_ (p 0 (by rw[zbs];decide))
 clear y;go_wp2_with fail
 refine bodyPost_ret (v:=.tuple #[.agg #[I_ au,I_ rd,.slice (some ⟨b,0,none⟩) 32 32],I_ 0]) (by simp[results,results128,go_sem,D,E,F]) rfl ⟨b,rfl,nT_ l.size z,by simpa using I,?_,?_⟩
 ·have r:∀ m t,(some ⟨b,0,none⟩:Option Addr)=some ⟨m,t,none⟩→u.heap.size≤m:=fun m t e=>by cases e;exact z
  exact zej (zej (zej A r _ _ _ q) r _ _ _ q) r _ _ _ q
 ·exact ((H.setCell (Nat.le_succ _) _).setCell (Nat.le_succ _) _).setCell (Nat.le_succ _) _
theorem zpI (b:List Sg)(y:Option Addr)(n A:Nat)(c:Int)(t:Sg)(w:World)(g:n=b.length)(I:b.length≤2932031007400)(J:zcf w y b)(L:zf w t.p.sa t.p.cap t.p.bs∧zaF t.p.bs) :
  Calls prog 180 #[.slice y n A,I_ c,.agg #[I_ t.nd,I_ t.au,I_ t.rd,.slice t.p.sa t.p.bs.length t.p.cap]] w fun e w'=>e=.returned (.tuple #[.bool (zb4 (zA b) c t.v).1,I_ (zb4 (zA b) c t.v).2])∧B_ w w':=by
 subst g;refine kO_ ?A0 ?_;exact Obj.cells #[I_ t.nd,I_ t.au,I_ t.rd,.slice t.p.sa t.p.bs.length t.p.cap] 227;have l:=(bR_ w.heap.size w).alloc (nR_ _) ?A0;have M:=hN_ w ?A0;go_in;go_wp2_with fail
 generalize w.alloc ?A0=O at l M ⊢;have p:=zjl b y _ A c O rfl I (J.below l);by_cases hs:zcp (zA b) c=0;rw[hs] at p
 rotate_left
 have f:Hid (zb4 (zA b) c t.v=(false,zcp (zA b) c)):=zn1 hs;generalize zcp (zA b) c=x at *;have U:(x != 0)=true:=by simpa using hs
 rotate_left
 all_goals
  refine p.mono ?_;rintro _ N ⟨rfl,q⟩;dsimp only
 ·have B:=zq l q;have o:=zn q M;have E:=zb o 0 _ rfl;have F:=zb o 1 _ rfl;have G:=zb o 2 _ rfl;have H:=zb o 3 _ rfl;have j:=zfJ t.nd t.au t.rd t.p.sa t.p.bs.length t.p.cap N
  change Calls _ _ _ _ fun e w'=>e=.returned (I_ (gF t.v))∧_ at j
  have z:Hid (zcp (zA b) c=0):=hs;clear hs p;by_cases hg:gF t.v=0;rw[hg] at j;have C:Hid (gF t.v=0):=hg;clear hg
  rotate_left
  have f:Hid (zb4 (zA b) c t.v=(false,gF t.v)):=zmO z.out hg;generalize gF t.v=x at *;have U:(x != 0)=true:=by simpa using hg
  rotate_left
  all_goals
   go_wp2_with fail
   refine j.mono ?_;rintro _ w2 ⟨rfl,s⟩;dsimp only
  ·clear E F G H j;have u:=zn s o;have E:=zb u 0 _ rfl;have F:=zb u 1 _ rfl;have G:=zb u 2 _ rfl;have H:=zb u 3 _ rfl;have m:=zq B s;by_cases g:t.nd=c
   ·have f:Hid (zb4 (zA b) c t.v=(true,0)):=by
     show _=_;rw[zj9 z.out C.out];simp[Sg.v,g]
    have T:(t.nd == c)=true:=by simpa using g
    clear g;go_wp2_with fail
    go_ret2;exact ⟨by rw[f.out];rfl,m⟩
   ·have D:=zkR b y _ A t w2 rfl I (J.below m) ⟨L.1.below m,L.2⟩;have f:Hid (zb4 (zA b) c t.v=(decide (t.v∈zA b),0)):=by
     show _=_;rw[zj9 z.out C.out];have:¬t.v.1=c:=g;simp[this]
    have T:(t.nd == c)=false:=by simpa using g
    generalize decide (t.v∈zA b)=r at D f;clear g;go_wp2_with fail
    refine D.mono ?_;rintro _ V ⟨rfl,R⟩;dsimp only;go_wp2_with fail
    go_ret2;exact ⟨by rw[f.out];rfl,m.trans (R.mono m.size)⟩
  ·go_wp2_with fail
   go_ret2;exact ⟨by rw[f.out];rfl,B.trans (s.mono B.size)⟩
 ·go_wp2_with fail
  go_ret2;exact ⟨by rw[f.out];rfl,l.trans (q.mono l.size)⟩
theorem zuM (s:Ct)(au rd:Int)(b c:Nat)(w:World)(d:C_ w b 0 (I_ au))(f:C_ w c 0 (I_ rd)) :
  Calls prog 166 #[.agg (crow_ s),(P_ b 0),(P_ c 0)] w fun e w'=>e=.returned (.bool (decide (s.au=au∧s.rd=rd)))∧B_ w w':=by
 have g:=bL_ d;have j:=bL_ f;have l:b≠w.heap.size:=by simp at g;omega
 have m:c≠w.heap.size:=by simp at j;omega
 go_in;go_wp2_with fail
 all_goals (go_ret;exact ⟨by first|(simp_all;done)|(simp_all;rfl),(bR_ _ _).alloc (nR_ _) _⟩)
theorem zl5 (b:List Ct)(r:Option Addr)(n t:Nat)(au rd:Int)(j l:Nat)(w:World)(f:n=b.length)(J:n≤3000000000000000000)(B:zaZ w r b)(u:C_ w j 0 (I_ au))(C:C_ w l 0 (I_ rd)) :
  Calls prog 167 #[.slice r n t,.func (.func 166) #[] #[P_ j 0,(P_ l 0)]] w fun e w'=>e=.returned (I_ (cOf (zD b) au rd))∧B_ w w':=by
 subst f;go_in;go_wp2_with fail
 go_loopw [8] (fun i wr=>∃ m:Nat,m≤b.length∧i=I_ m∧zaw (zeF (zD b) au rd) m=-1∧B_ w wr) (fun i _=>b.length-(intOf i).toNat)
 case atStart=>exact ⟨0,nZ_ _,rfl,rfl,bR_ _ _⟩
 case round=>
  obtain ⟨m,M,rfl,g,d⟩:=hrel;by_cases hlt:m<b.length
  ·obtain ⟨N,O,rfl,E,F,G,H,I⟩:=(B.below d).at m hlt;have p:=zsV b au rd m hlt;have y:=zr d u;have D:=zr d C;have L:(m:Int)<b.length:=by omega
   have c:Hid (decide ((b[m]).au=au∧(b[m]).rd=rd)=true→cOf (zD b) au rd=m):=by
    show _→_;intro h;exact zfh _ m _ g (by rw[p];exact h) (by rw[zbh];exact hlt)
   have o:Hid (decide ((b[m]).au=au∧(b[m]).rd=rd)=false→zaw (zeF (zD b) au rd) (m+1)=-1):=by
    show _→_;intro h;exact zfv _ m g (by rw[p];exact h)
   clear g p;generalize b[m]=s at *;go_wp2_with fail
   refine (zuM s au rd j l wr y D).mono ?_;rintro _ R ⟨rfl,z⟩;dsimp only;have q:=zq d z;generalize decide (s.au=au∧s.rd=rd)=x at *;cases x
   ·have f:Hid _:=o.out rfl;clear c o;go_wp2_with fail
    go_roundw
    case rel=>exact ⟨m+1,by omega,by go_num,f.out,q⟩
    case measure=>simp[intOf];omega
   ·have f:Hid _:=c.out rfl;clear c o;go_wp2_with fail
    go_ret;exact ⟨zp f.out.symm,q⟩
  ·obtain rfl:m=b.length:=by omega
   have c:Hid (cOf (zD b) au rd=-1):=by
    show zaw _ _=-1;rw[zbh];exact g
   clear g;go_wp2_with fail
   go_ret;exact ⟨zp c.out.symm,d⟩
theorem zrm (d:List Ct)(s:Nat)(f:Option Addr)(j:Nat)(q:Option Addr)(r:Nat)(ds:List zi)(au rd:Int)(w:World)(c:zdC w s d f j q r ds) :
  Calls prog 120 #[P_ s 0,I_ au,I_ rd] w fun e w'=>e=.returned (I_ (cOf (zD d) au rd))∧B_ w w':=by
 have B:∀ (fn:Fn) (first g:Array Value) (w:World),(Instr.makeFunc fn first g).run prog w=.ok (.func fn first g) w:=fun _ _ _ _=>rfl;have C:=c.at'.small;have y:=c.at'.certs;have u:=c.box;clear c;refine kW_ ?A0 ?_;exact (w.alloc (.cells #[I_ au] 3)).alloc (.cells #[I_ rd] 3);have b:B_ w ?A0:=((bR_ _ _).alloc (nR_ _) _).alloc (by rw[zI];omega) _;have l:(?A0).cell? ⟨w.heap.size,0,none⟩=some (I_ au):=zb (zP (hN_ w _)) 0 _ rfl;have m:(?A0).cell? ⟨w.heap.size+1,0,none⟩=some (I_ rd):=by
  have:=zgt (w.alloc (.cells #[I_ au] 3)) #[I_ rd] 3 0 _ rfl;rw[zI] at this;exact this
 have A:=zb (zP (o:=.cells #[I_ rd] 3) (zP (o:=.cells #[I_ au] 3) u)) 0 _ rfl;go_in;go_wp2_with fail
 generalize (w.alloc (.cells #[I_ au] 3)).alloc (.cells #[I_ rd] 3)=p at b l m A ⊢;refine (zl5 d f d.length j au rd _ _ p rfl (by omega) (y.below b) l m).mono ?_;rintro _ D ⟨rfl,t⟩;dsimp only;go_wp2_with fail
 go_ret;exact ⟨rfl,b.trans (t.mono b.size)⟩
theorem zmW (b ys:List Int)(f j:Option Addr)(n m c d g:Nat)(w:World)(r:n=b.length)(q:m=ys.length)(l:zf w f c b)(o:zf w j d ys)(s:C_ w g 0 (.slice j m d)) :
  Calls prog 233 #[.slice f n c,(P_ g 0)] w fun e w'=>e=.returned (.bool (decide (txL b=txL ys)))∧w=w':=by
 go_in;go_wp2_with fail
 refine (zd0 b ys _ _ _ _ _ _ w (by first|exact r|rfl) (by first|exact q|rfl) l o).mono ?_;rintro _ t ⟨rfl,rfl⟩;dsimp only;go_wp2_with fail
 go_ret;exact ⟨rfl,rfl⟩
theorem zmX (l:List CV)(ds:List zi)(u:Option Addr)(n B:Nat)(bs:List Int)(r:Option Addr)(z s g:Nat)(w:World)(G:n=ds.length)(o:zQ ds=l.map CV.d)(J:n≤3000000000000000000)(y:zbG w u ds)(F:z=bs.length)(E:zf w r s bs)(D:C_ w g 0 (.slice r z s)) :
  Calls prog 178 #[.slice u n B,.func (.func 233) #[] #[P_ g 0]] w fun e w'=>e=.returned (I_ (pOf l bs))∧w=w':=by
 subst G F;have t:Hid (ds.length=l.length):=zgP o;have A:Hid (zQ ds=l.map CV.d):=o;clear o;go_in;go_wp2_with fail
 go_loop [8] (fun i=>∃ m:Nat,m≤ds.length∧i=I_ m∧zaw (zkL l bs) m=-1) (fun i=>ds.length-(intOf i).toNat)
 case atStart=>exact ⟨0,nZ_ _,rfl,rfl⟩
 case round=>
  obtain ⟨m,M,rfl,c⟩:=hrel;by_cases hlt:m<ds.length
  ·rcases y.cells with d|⟨N,O,rfl,d⟩
   ·subst d;simp at hlt
   have I:=d m hlt;have H:=y.each (ds[m]) (gM_ hlt);have L:(m:Int)<ds.length:=by omega
   have q:=zmG A.out m hlt;have f:Hid (txL (ds[m]).bs=txL bs→pOf l bs=m):=by
    show _→_;intro h;exact zfh _ m _ c (by rw[zkL,q];simpa using h) (by rw[←t.out];exact hlt)
   have j:Hid (¬txL (ds[m]).bs=txL bs→zaw (zkL l bs) (m+1)=-1):=by
    show _→_;intro h;exact zfv _ m c (by rw[zkL,q];simpa using h)
   clear c q d;generalize ds[m]=p at *;go_wp2_with fail
   refine (zmW p.bs bs p.sa r _ _ p.cap s g w rfl rfl H E D).mono ?_;rintro _ R ⟨rfl,rfl⟩;dsimp only;by_cases h:txL p.bs=txL bs
   ·have b:Hid (pOf l bs=m):=f.out h;rw[dT_ h];clear f j h;go_wp2_with fail
    go_ret;exact ⟨zp b.out.symm,rfl⟩
   ·have b:Hid (zaw (zkL l bs) (m+1)=-1):=j.out h;rw[dF_ h];clear f j h;go_wp2_with fail
    go_round
    case rel=>exact ⟨m+1,by omega,by go_num,b.out⟩
    case measure=>simp[intOf];omega
  ·obtain rfl:m=ds.length:=by omega
   have b:Hid (pOf l bs=-1):=by
    show zaw _ _=-1;rw[←t.out];exact c
   clear c;go_wp2_with fail
   go_ret;exact ⟨zp b.out.symm,rfl⟩
theorem zk2 (f:List Ct)(s:Nat)(u:Option Addr)(y:Nat)(l:Option Addr)(m:Nat)(ds:List zi)(bs:List Int)(b:Option Addr)(q c:Nat)(w:World)(d:zdC w s f u y l m ds)(E:q=bs.length)(D:zf w b c bs) :
  Calls prog 212 #[P_ s 0,.slice b q c] w fun e w'=>e=.returned (I_ (pOf (zD f) bs))∧B_ w w':=by
 have G:∀ (fn:Fn) (first j:Array Value) (w:World),(Instr.makeFunc fn first j).run prog w=.ok (.func fn first j) w:=fun _ _ _ _=>rfl;have H:=d.at'.small;subst E;have B:Hid (f.length=ds.length):=by
  show _=_;rw[d.at'.len]
 have A:=d.at'.digs.parts;have r:Hid (zQ ds=(zD f).map CV.d):=d.at'.same;have z:=d.box;clear d;refine kV_ ?A0 ?_;exact Value.slice b bs.length c;have g:=zO w (.cells #[?A0] 64);have p:(w.alloc (.cells #[?A0] 64)).cell? ⟨w.heap.size,0,none⟩=some ?A0:=by simp
 have F:=zb (zP (o:=.cells #[?A0] 64) z) 1 _ rfl;go_in;go_wp2_with fail
 generalize w.alloc (.cells #[?A0] 64)=t at g p F ⊢;refine (zmX (zD f) ds l f.length m bs b bs.length c _ t B.out r.out (by omega) (A.below g) rfl (D.below g) p).mono ?_;rintro _ I ⟨rfl,rfl⟩;dsimp only;go_wp2_with fail
 go_ret;exact ⟨rfl,g⟩
theorem zk3 (b:List Ct)(s:Nat)(c:Option Addr)(d:Nat)(f:Option Addr)(g:Nat)(ds:List zi)(au rd:Int)(w:World)(m:zdC w s b c d f g ds) :
  Calls prog 90 #[P_ s 0,I_ au,I_ rd] w fun e w'=>e=.returned (.bool (decide (0≤cOf (zD b) au rd)))∧B_ w w':=by
 go_in;go_wp2_with fail
 refine (zrm b s c d f g ds au rd w m).mono ?_;rintro _ o ⟨rfl,j⟩;dsimp only;go_wp2_with fail
 go_ret;exact ⟨rfl,j⟩
variable {w w':World}{U:Nat→Bool}{F o:Nat}{fc:Array Value}{T:TypeId}{sa:Option Addr}{x:NM}
def zhQ (l:List BW)(d:List Int)(j:Nat):Bool:=decide (zaf (l.getD j ⟨0,0,[]⟩).d=zaf d)
def sOf (l:List BW)(d:List Int):Int:=zaw (zhQ l d) l.length
theorem zmZ {a b:List Int}:txL a=txL b↔zaf a=zaf b:=⟨fun h=>zg3 h,fun h=>by rw[txL,h];rfl⟩
theorem zbS (l:List Sh):(shw l).length=l.length:=by simp[shw]
theorem zuN (l:List Sh)(k:Nat)(h:k<l.length):(shw l).getD k ⟨0,0,[]⟩=(l[k]).b.v:=by simp[shw,List.getD,h]
theorem zrn (l:List BW)(d:List Int):(sOf l d=-1∧zbX l d=false∧bOf l d=none)∨∃ k,∃ h:k<l.length,sOf l d=k∧zbX l d=true∧bOf l d=some l[k]:=by
 have q:∀ m,m≤l.length→(zaw (zhQ l d) m=-1∧(l.take m).find? (fun b=>decide (zaf b.d=zaf d))=none)∨∃ k,∃ h:k<l.length,k<m∧zaw (zhQ l d) m=k∧(l.take m).find? (fun b=>decide (zaf b.d=zaf d))=some l[k]:=by
  intro m
  induction m with
  | zero=>intro _;exact .inl ⟨rfl,by simp⟩
  | succ m ih=>
   intro s;have j:m<l.length:=by omega
   have o:l.take (m+1)=l.take m++[l[m]]:=by rw[List.take_add_one];simp[j]
   have p:l.getD m ⟨0,0,[]⟩=l[m]:=by simp[List.getD,j]
   rcases ih (by omega) with ⟨f,c⟩|⟨k,g,r,f,c⟩
   ·by_cases hd:zaf (l[m]).d=zaf d
    ·refine .inr ⟨m,j,by omega,zfh _ m _ f (by rw[zhQ,p];exact dT_ hd) (by omega),?_⟩;rw[o,List.find?_append,c];simp[hd]
    ·refine .inl ⟨zfv _ m f (by rw[zhQ,p];exact dF_ hd),?_⟩;rw[o,List.find?_append,c];simp[hd]
   ·refine .inr ⟨k,g,by omega,?_,?_⟩
    ·rw[zaw,f];simp
    ·rw[o,List.find?_append,c];rfl
 rcases q l.length (nR_ _) with ⟨f,c⟩|⟨k,g,_,f,c⟩
 ·rw[List.take_length] at c;exact .inl ⟨f,zjG.1 c,c⟩
 ·rw[List.take_length] at c;exact .inr ⟨k,g,f,by rw[←zsY,bOf,c];rfl,c⟩
structure zgD (w:World)(sa:Option Addr)(ls:List Sh):Prop where
 cells:ls=[]∨∃ sb so,sa=some ⟨sb,so,none⟩∧∀ j (h:j<ls.length),C_ w sb (so+j*4) (I_ (ls[j]).b.v.au)∧C_ w sb (so+j*4+1) (I_ (ls[j]).b.v.nu)∧C_ w sb (so+j*4+2) (.slice (ls[j]).b.ta (ls[j]).b.v.ss.length (ls[j]).b.tc)∧C_ w sb (so+j*4+3) (.slice (ls[j]).d.sa (ls[j]).d.bs.length (ls[j]).d.cap)
 each:∀ s∈ls,zdt w s
theorem zgD.below {c:List Sh}(h:zgD w sa c)(d:B_ w w'):zgD w' sa c:=by
 have k:=Sub.below d;refine ⟨?_,fun s f=>(h.each s f).sub k⟩;rcases h.cells with h|⟨g,l,e,h⟩
 ·exact .inl h
 ·exact .inr ⟨g,l,e,fun j b=>⟨k.cell _ _ (h j b).1,k.cell _ _ (h j b).2.1,k.cell _ _ (h j b).2.2.1,k.cell _ _ (h j b).2.2.2⟩⟩
theorem zgD.at {b:List Sh}(h:zgD w sa b)(m:Nat)(f:m<b.length):∃ c d,sa=some ⟨c,d,none⟩∧C_ w c (d+m*4) (I_ (b[m]).b.v.au)∧C_ w c (d+m*4+1) (I_ (b[m]).b.v.nu)∧C_ w c (d+m*4+2) (.slice (b[m]).b.ta (b[m]).b.v.ss.length (b[m]).b.tc)∧C_ w c (d+m*4+3) (.slice (b[m]).d.sa (b[m]).d.bs.length (b[m]).d.cap):=by
 rcases h.cells with h|⟨c,d,e,h⟩
 ·subst h;simp at f
 ·exact ⟨c,d,e,h m f⟩
theorem zn6 {a:Option Addr}{c:Nat}{b:List Sh}(h:w.ownsRow 0 137 4 (.slice a b.length c) b.length (shv b))(d:∀ s∈b,zdt w s):zgD w a b:=by
 refine ⟨?_,d⟩;rcases h.2 with ⟨_,m⟩|⟨g,o,p,e,_⟩
 ·exact .inl (eN_ m)
 ·cases e;refine .inr ⟨g,0,rfl,fun j l=>?_⟩;have e:∀ i,i<4→w.cell? ⟨g,j*4+i,none⟩=(b[j]).cs[i]?:=fun i f=>by rw[World.ownsRow.cellAt h (j*4+i) (by omega),zuK b j i l f]
  simp only[Nat.zero_add];exact ⟨e 0 (by omega),e 1 (by omega),e 2 (by omega),e 3 (by omega)⟩
theorem zae.shs (h:zae w U F o T fc x):zgD w x.sa x.sh:=zn6 h.rsh (fun s m=>(h.esh s m).sub (zH U w))
theorem zpJ (s:Sh)(ys:List Int)(d:Option Addr)(f g:Nat)(w:World)(c:zdt w s)(q:zf w d f ys)(p:C_ w g 0 (.slice d ys.length f)) :
  Calls prog 197 #[.agg #[I_ s.b.v.au,I_ s.b.v.nu,.slice s.b.ta s.b.v.ss.length s.b.tc,.slice s.d.sa s.d.bs.length s.d.cap],(P_ g 0)] w fun e w'=>e=.returned (.bool (decide (zaf s.b.v.d=zaf ys)))∧B_ w w':=by
 refine kO_ ?A0 ?_;exact Obj.cells #[I_ s.b.v.au,I_ s.b.v.nu,.slice s.b.ta s.b.v.ss.length s.b.tc,.slice s.d.sa s.d.bs.length s.d.cap] 137;have b:=zO w ?A0;have j:=hN_ w ?A0;go_in;go_upto_region 1 with fail
 generalize w.alloc ?A0=l at b j ⊢;have r:=zb j 3 _ rfl;have t:=zr b p;have m:Hid (decide (txL s.d.bs=txL ys)=decide (zaf s.b.v.d=zaf ys)):=by show _=_;rw[c.e];exact decide_eq_decide.2 zmZ
 go_wp2_with fail
 refine (zd0 s.d.bs ys _ _ _ _ _ _ l rfl rfl (c.d.below b) (q.below b)).mono ?_;rintro _ u ⟨rfl,rfl⟩;dsimp only;go_wp2_with fail
 go_ret;exact ⟨by rw[m.out];rfl,b⟩
theorem zn7 (b:List Sh)(u:Option Addr)(n y:Nat)(ys:List Int)(p:Option Addr)(q g:Nat)(w:World)(f:n=b.length)(J:n≤800)(t:zgD w u b)(D:zf w p q ys)(B:C_ w g 0 (.slice p ys.length q)) :
  Calls prog 198 #[.slice u n y,.func (.func 197) #[] #[P_ g 0]] w fun e w'=>e=.returned (I_ (sOf (shw b) ys))∧B_ w w':=by
 subst f;go_in;go_wp2_with fail
 go_loopw [8] (fun i wr=>∃ m:Nat,m≤b.length∧i=I_ m∧zaw (zhQ (shw b) ys) m=-1∧B_ w wr) (fun i _=>b.length-(intOf i).toNat)
 case atStart=>exact ⟨0,nZ_ _,rfl,rfl,bR_ _ _⟩
 case round=>
  obtain ⟨m,M,rfl,j,c⟩:=hrel;by_cases hlt:m<b.length
  ·obtain ⟨N,O,rfl,F,G,H,I⟩:=(t.below c).at m hlt;have E:=(t.below c).each _ (gM_ hlt);have C:=zr c B;have L:(m:Int)<b.length:=by omega
   have o:zhQ (shw b) ys m=decide (zaf (b[m]).b.v.d=zaf ys):=by rw[zhQ,zuN b m hlt]
   have d:Hid (decide (zaf (b[m]).b.v.d=zaf ys)=true→sOf (shw b) ys=m):=by
    show _→_;intro h;exact zfh _ m _ j (by rw[o];exact h) (by rw[zbS];exact hlt)
   have l:Hid (decide (zaf (b[m]).b.v.d=zaf ys)=false→zaw (zhQ (shw b) ys) (m+1)=-1):=by
    show _→_;intro h;exact zfv _ m j (by rw[o];exact h)
   clear j o;generalize b[m]=s at *;go_wp2_with fail
   refine (zpJ s ys p q g wr E (D.below c) C).mono ?_;rintro _ R ⟨rfl,z⟩;dsimp only;have r:=zq c z;generalize decide (zaf s.b.v.d=zaf ys)=x at *;cases x
   ·have f:Hid _:=l.out rfl;clear d l;go_wp2_with fail
    go_roundw
    case rel=>exact ⟨m+1,by omega,by go_num,f.out,r⟩
    case measure=>simp[intOf];omega
   ·have f:Hid _:=d.out rfl;clear d l;go_wp2_with fail
    go_ret;exact ⟨zp f.out.symm,r⟩
  ·obtain rfl:m=b.length:=by omega
   have d:Hid (sOf (shw b) ys=-1):=by
    show zaw _ _=-1;rw[zbS];exact j
   clear j;go_wp2_with fail
   go_ret;exact ⟨zp d.out.symm,c⟩
theorem zlA (x:NM)(ys:List Int)(b:Option Addr)(j c:Nat)(w:World)(U:Nat→Bool)(F o:Nat)(T:TypeId)(q:Array Value)(h:zae w U F o T q x)(y:j=ys.length)(u:zf w b c ys) :
  Calls prog 159 #[P_ F o,.slice b j c] w fun e w'=>e=.returned (I_ (sOf (shw x.sh) ys))∧B_ w w':=by
 subst y;have A:∀ (fn:Fn) (first f:Array Value) (w:World),(Instr.makeFunc fn first f).run prog w=.ok (.func fn first f) w:=fun _ _ _ _=>rfl;refine kO_ ?A0 ?_;exact Obj.cells #[.slice b ys.length c] 64;have d:=zO w ?A0;have l:=hN_ w ?A0;have r:x.sh.length≤800:=by have:=h.inv.sh;simpa[NM.v,shw] using this
 go_in;go_upto_region 2 with fail
 generalize w.alloc ?A0=m at d l ⊢;have g:=h.below d;have z:=g.cell 4 _ rfl;have p:=zb l 0 _ rfl;go_wp2_with fail
 refine (zn7 x.sh _ _ _ ys b c _ m rfl r g.shs (u.below d) p).mono ?_;rintro _ B ⟨rfl,s⟩;dsimp only;go_wp2_with fail
 go_ret;exact ⟨rfl,d.trans (s.mono d.size)⟩
theorem zfY (x:NM)(ys:List Int)(f:Option Addr)(q g:Nat)(w:World)(U:Nat→Bool)(F o:Nat)(T:TypeId)(j:Array Value)(h:zae w U F o T j x)(t:q=ys.length)(p:zf w f g ys) :
  Calls prog 112 #[P_ F o,.slice f q g] w fun e w'=>e=.returned (.bool (!zbX (shw x.sh) ys))∧B_ w w':=by
 subst t;have c:Hid _:=zrn (shw x.sh) ys;have l:=zlA x ys f _ g w U F o T j h rfl p;generalize sOf (shw x.sh) ys=r at c l;clear h p;go_in;go_wp2_with fail
 refine l.mono ?_;rintro _ y ⟨rfl,m⟩;dsimp only;rcases c.out with ⟨rfl,b,-⟩|⟨k,-,rfl,b,-⟩;have d:Hid _:=b
 rotate_left
 have d:Hid _:=b;have u:¬((k:Int)<0):=by omega
 rotate_left
 all_goals
  clear b c;go_wp2_with fail
  go_ret;exact ⟨by rw[d.out];rfl,m⟩
structure zcN (w:World)(sa:Option Addr)(sc:Nat)(gs:List Sg):Prop where
 tab:zeo w sa sc gs
theorem zcN.sub {c:Nat}{b:List Sg}(h:zcN w sa c b)(k:Sub w w'):zcN w' sa c b:=⟨h.tab.sub k⟩
theorem zcN.below {c:Nat}{b:List Sg}(h:zcN w sa c b)(d:B_ w w'):zcN w' sa c b:=h.sub (Sub.below d)
theorem zlB (s t:Sl)(w:World)(p:zf w s.p.sa s.p.cap s.p.bs)(q:zf w t.p.sa t.p.cap t.p.bs)(r:zaF s.p.bs)(u:zaF t.p.bs) :
  Calls prog 142 #[.agg #[I_ s.au,I_ s.rd,.slice s.p.sa s.p.bs.length s.p.cap],.agg #[I_ t.au,I_ t.rd,.slice t.p.sa t.p.bs.length t.p.cap]] w fun e w'=>e=.returned (.bool (decide (s.v=t.v)))∧B_ w w':=by
 refine kO_ ?A0 ?_;exact Obj.cells #[I_ s.au,I_ s.rd,.slice s.p.sa s.p.bs.length s.p.cap] 66;refine kO_ ?B0 ?_;exact Obj.cells #[I_ t.au,I_ t.rd,.slice t.p.sa t.p.bs.length t.p.cap] 66;have b:B_ w ((w.alloc ?A0).alloc ?B0):=((bR_ _ _).alloc (nR_ _) _).alloc (by simp) _;have d:=hX_ w ?A0 ?B0;have f:=hY_ w ?A0 ?B0;go_in;go_upto_region 1 with fail
 generalize (w.alloc ?A0).alloc ?B0=l at b d f ⊢;have y:=zb d 0 _ rfl;have z:=zb d 1 _ rfl;have A:=zb d 2 _ rfl;have j:=zb f 0 _ rfl;have m:=zb f 1 _ rfl;have B:=zb f 2 _ rfl;by_cases e1:s.au=t.au
 ·by_cases e2:s.rd=t.rd;have g:=zd0 s.p.bs t.p.bs _ _ _ _ _ _ l rfl rfl (p.below b) (q.below b);have c:Hid (decide (txL s.p.bs=txL t.p.bs)=decide (s.v=t.v)):=by
   show _=_;refine decide_eq_decide.2 ?_;rw[zvw r u];simp[Sl.v,e1,e2]
  rw[←e1] at j;rw[←e2] at m;clear e1 e2;go_wp2_with fail
  refine g.mono ?_;rintro _ E ⟨rfl,rfl⟩;dsimp only;clear g
  rotate_left
  have D:(s.rd == t.rd)=false:=by simpa using e2
  have c:Hid (decide (s.v=t.v)=false):=by show _=_;exact dF_ (fun h=>e2 (congrArg (fun v=>v.2.1) h))
  rw[←e1] at j;clear e1 e2
  rotate_left
  all_goals
   go_wp2_with fail
   go_ret;exact ⟨by rw[c.out];rfl,b⟩
 ·have C:(s.au == t.au)=false:=by simpa using e1
  have c:Hid (decide (s.v=t.v)=false):=by show _=_;exact dF_ (fun h=>e1 (congrArg (fun v=>v.1) h))
  clear e1;go_wp2_with fail
  go_ret;exact ⟨by rw[c.out];rfl,b⟩
theorem zjn (c:Int)(b:List Sg)(d:Option Addr)(f:Nat)(j:Int)(s:Sl)(w:World)(t:zcN w d f b)(H:zf w s.p.sa s.p.cap s.p.bs)(I:zaF s.p.bs) :
  Calls prog 143 #[.agg #[I_ c,.slice d b.length f],I_ j,.agg #[I_ s.au,I_ s.rd,.slice s.p.sa s.p.bs.length s.p.cap]] w fun e w'=>e=.returned (.bool (No.signed ⟨c,zA b⟩ j s.v))∧B_ w w':=by
 refine kO_ ?A0 ?_;exact Obj.cells #[I_ s.au,I_ s.rd,.slice s.p.sa s.p.bs.length s.p.cap] 66;refine kO_ ?B0 ?_;exact Obj.cells #[I_ c,.slice d b.length f] 92;have g:B_ w ((w.alloc ?B0).alloc ?A0):=((bR_ _ _).alloc (nR_ _) _).alloc (by simp) _;have p:=hX_ w ?B0 ?A0;have o:=hY_ w ?B0 ?A0;have u:=t.tab.small;have m:Hid (No.signed ⟨c,zA b⟩ j s.v=(decide ((zb4 (zA b) c (Sg.v ⟨j,s.au,s.rd,s.p⟩)).2=0)&&(zb4 (zA b) c (Sg.v ⟨j,s.au,s.rd,s.p⟩)).1)):=rfl;go_in;go_upto_region 1 with fail
 generalize (w.alloc ?B0).alloc ?A0=A at g p o ⊢;have B:=zb p 0 _ rfl;have C:=zb p 1 _ rfl;have D:=zb o 0 _ rfl;have E:=zb o 1 _ rfl;have F:=zb o 2 _ rfl;have l:=zpI b d _ f c ⟨j,s.au,s.rd,s.p⟩ A rfl u (t.tab.below g).slots ⟨H.below g,I⟩;dsimp only at l;generalize zb4 (zA b) c (Sg.v ⟨j,s.au,s.rd,s.p⟩)=r at l m;obtain ⟨L,y⟩:=r;dsimp only at l m;clear u;go_wp2_with fail
 refine l.mono ?_;rintro _ M ⟨rfl,q⟩;dsimp only;clear l B C D E F;by_cases h0:y=0
 ·subst h0;go_wp2_with fail
  go_ret;exact ⟨by rw[m.out];rfl,g.trans (q.mono g.size)⟩
 ·have J:(y == 0)=false:=by simpa using h0
  have z:Hid _:=h0;clear h0;go_wp2_with fail
  go_ret;exact ⟨by rw[m.out,dF_ z.out];rfl,g.trans (q.mono g.size)⟩
theorem zn8 (d:Int)(b:List Sg)(g:Option Addr)(j:Nat)(c:Ct)(w:World)(t:zcN w g j b)(I:za2 w c)(H:zby w) :
  Calls prog 148 #[.agg #[I_ d,.slice g b.length j],.agg #[I_ c.au,I_ c.rd,.slice c.ba c.bl.length c.bc,.slice c.pa c.pl.length c.pc,.slice c.va c.vl.length c.vc]] w fun e w'=>e=.returned (.bool (No.proven ⟨d,zA b⟩ c.v))∧B_ w w':=by
 refine kO_ ?A0 ?_;exact Obj.cells #[I_ c.au,I_ c.rd,.slice c.ba c.bl.length c.bc,.slice c.pa c.pl.length c.pc,.slice c.va c.vl.length c.vc] 59;refine kO_ ?B0 ?_;exact Obj.cells #[I_ d,.slice g b.length j] 92;have f:B_ w ((w.alloc ?B0).alloc ?A0):=((bR_ _ _).alloc (nR_ _) _).alloc (by simp) _;have q:=hX_ w ?B0 ?A0;have l:=hY_ w ?B0 ?A0;have u:=t.tab.small;have o:Hid (No.proven ⟨d,zA b⟩ c.v=decide (zeB (zA b) d c.au c.rd (zai c.au c.rd c.bl c.pl c.vl) (zay c.au c.rd c.bl c.pl) c.vl=0)):=by
  show _=_;rw[Ct.f_v,Ct.d_v];rfl
 go_in;go_upto_region 1 with fail
 generalize (w.alloc ?B0).alloc ?A0=z at f q l ⊢;have A:=zb q 0 _ rfl;have B:=zb q 1 _ rfl;have C:=zb l 0 _ rfl;have D:=zb l 1 _ rfl;have E:=zb l 2 _ rfl;have F:=zb l 3 _ rfl;have G:=zb l 4 _ rfl;have m:=I.below f;have p:=zpw b g _ j d c.au c.rd c.ba c.bc c.bl c.pa c.pc c.pl c.va c.vc c.vl z rfl u (t.tab.below f).slots m.hat m.ints m.vle (H.below f);generalize zeB (zA b) d c.au c.rd (zai c.au c.rd c.bl c.pl c.vl) (zay c.au c.rd c.bl c.pl) c.vl=r at p o;clear u m;go_wp2_with fail
 refine p.mono ?_;rintro _ M ⟨rfl,s⟩;dsimp only;clear p A B C D E F G;by_cases h0:r=0
 ·subst h0;go_wp2_with fail
  go_ret;exact ⟨by rw[o.out];rfl,f.trans (s.mono f.size)⟩
 ·have L:(r == 0)=false:=by simpa using h0
  have y:Hid _:=h0;clear h0;go_wp2_with fail
  go_ret;exact ⟨by rw[o.out,dF_ y.out];rfl,f.trans (s.mono f.size)⟩
variable {rd au:Int}{k:Nat}
theorem zpK (l:List SV)(s:SV):(zaW l s=(l,0)∧∃ m,zbq l s.1 s.2.1 l.length=some m)∨zaW l s=([],7)∨zaW l s=([],6)∨(zaW l s=(l++[s],0)∧zbq l s.1 s.2.1 l.length=none∧l.length<400):=by
 cases h:zbq l s.1 s.2.1 l.length with
 | none=>
  by_cases hl:400≤l.length
  ·exact .inr (.inr (.inl (zhy h hl)))
  ·exact .inr (.inr (.inr ⟨ziv h hl,rfl,by omega⟩))
 | some m=>
  by_cases he:txL (zdA l m).2.2=txL s.2.2
  ·exact .inl ⟨zhx h he,m,rfl⟩
  ·exact .inr (.inl (zgQ h he))
theorem zro {l:List SV}(h:zbq l au rd k=none):∀ j,j<k→hit l au rd j=false:=by
 induction k with
 | zero=>intro j b;omega
 | succ k ih=>
  rw[zbq] at h;cases h1:zbq l au rd k with
  | some m=>rw[h1] at h;cases h
  | none=>
   rw[h1] at h;intro j b;rcases Nat.lt_or_ge j k with g|g
   ·exact ih h1 j g
   ·obtain rfl:j=k:=by omega
    cases h2:hit l au rd j with
    | false=>rfl
    | true=>rw[h2] at h;simp at h
theorem zpL {l:List SV}{m:Nat}(h:zbq l au rd k=some m):m<k∧hit l au rd m=true∧∀ j,j<m→hit l au rd j=false:=by
 induction k with
 | zero=>cases h
 | succ k ih=>
  rw[zbq] at h;cases h1:zbq l au rd k with
  | some n=>
   rw[h1] at h;obtain rfl:n=m:=by simpa using h
   obtain ⟨a,b,c⟩:=ih h1;exact ⟨by omega,b,c⟩
  | none=>
   rw[h1] at h;cases h2:hit l au rd k with
   | false=>rw[h2] at h;simp at h
   | true=>
    rw[h2] at h;obtain rfl:k=m:=by simpa using h
    exact ⟨by omega,h2,zro h1⟩
structure Ac where
 (k i p:Int) (t:ByteArray)
def Fl.does (f:Fl)(a:Ac):Fl:=f.act a.k a.i a.p a.t
def Fl.run (f:Fl)(l:List Ac):Fl:=l.foldl Fl.does f
theorem Fl.run_append (f:Fl)(l m:List Ac):f.run (l++m)=(f.run l).run m:=List.foldl_append
theorem zn9 {f:Fl}{a:Ac}(h:a.k=1):f.does a=f.submit a.i a.t:=by
 rw[Fl.does,Fl.act,if_neg (by omega),if_neg (by omega),if_pos h]
theorem zrp (l:List MC)(f:Fl):(l.foldl Fl.out f).codes=f.codes:=by
 induction l generalizing f with
 | nil=>rfl
 | cons m l ih=>rw[List.foldl_cons,ih];rfl
theorem zhR (f:Fl)(i:Int)(m:MC):(f.come i m).codes=f.codes:=by unfold Fl.come;split<;>rfl
def comes (f:Fl)(l:List MC):Fl:=l.foldl (fun g m=>g.come m.tt m) f
theorem zoa (l:List MC)(f:Fl):(comes f l).codes=f.codes:=by
 induction l generalizing f with
 | nil=>rfl
 | cons m l ih=>exact (ih _).trans (zhR _ _ _)
theorem zuO (f:Fl):f.flow=comes { f with away:=[] } f.away:=rfl
theorem zob {P:Fl→Prop}{f:Fl}(i:Int)(t:ByteArray)(b:P f)(c:∀ m,P (f.come i m)):P (f.forge i t):=by
 unfold Fl.forge
 split
 ·split
  ·exact b
  ·exact c _
 ·exact b
theorem zpM (f:Fl)(a:Ac):(f.does a).codes.length=f.codes.length+(if a.k=1 then 1 else 0):=by
 by_cases h1:a.k=1
 ·rw[if_pos h1,zn9 h1];unfold Fl.submit
  split
  ·simp
  ·split<;>simp
 ·rw[if_neg h1,Nat.add_zero];unfold Fl.does Fl.act
  split
  ·unfold Fl.pick
   split
   ·rfl
   ·split
    ·rfl
    ·split
     ·rw[zhR]
     ·rfl
  ·split
   ·rw[zuO,zoa]
   ·split
    ·exact zob (P:=fun g=>g.codes.length=f.codes.length) _ _ rfl (fun m=>by rw[zhR])
    ·split
     ·unfold Fl.start
      split<;>rfl
     ·split
      ·split
       ·split
        ·rfl
        ·split
         ·unfold Fl.sync;rw[zrp];rfl
         ·rfl
       ·rfl
      ·rfl
variable {w2 w1:World}{U' U1:Nat→Bool}{fc':Array Value}
theorem zae.other {g l:Nat}{r t p:NM}(y:zae w U F g T fc r)(o:zae w' U' F g T fc' t)(n:NTo U U' w w' F g fc fc' r t)(c:zae w U F l T fc p)(z:∀ b,p.S b→¬r.S b)(A:l+19≤g∨g+19≤l):zae w' U' F l T fc' p:=by
 have d:Sub (zo U w) (zo U' w'):=n.sub y;have f:∀ b,p.S b→w'.heap[b]? = w.heap[b]?:=fun b e=>n.block b (c.bnd b (c.su b e).1) (z b e) (c.su b e).2;exact ⟨o.blk,by rw[n.fsz];exact c.siz,fun j u=>(n.far (l+j) (by omega)).trans (c.cel j u),o.fu,
  fun b e=>⟨by rw[n.us b (c.bnd b (c.su b e).1)];exact (c.su b e).1,(c.su b e).2⟩,o.bnd,o.tabs,c.etx.sub d,
  zt c.rsh (fun q e=>f q (.inr (.inr (.inr (.inl (zm e)))))),fun s m=>(c.esh s m).sub d,
  zt c.rtb (fun q e=>f q (.inr (.inr (.inr (.inr (.inl (zm e))))))),fun s m=>(c.etb s m).sub d,
  c.stk.keep d n.us (fun b e=>f b (by rcases e with e|e|e;exact .inl e;exact .inr (.inl e);exact .inr (.inr (.inl e)))),
  c.hdr.sub d,c.slt.sub d,zt c.rvo (fun q e=>f q (.inr (.inr (.inr (.inr (.inr (.inl (zm e)))))))),c.tap.sub d,c.ems,
  zt c.rwa (fun q e=>f q (.inr (.inr (.inr (.inr (.inr (.inr (zm e)))))))),fun m e=>(c.ewa m e).sub d,c.inv⟩
theorem zae.goes (h:zae w U F o T fc x)(g:zah U U' w w')(f:w'.heap[F]? = w.heap[F]?)(d:∀ b,x.S b→w'.heap[b]? = w.heap[b]?)(j:Bnd U' w'):zae w' U' F o T fc x:=by
 have c:Sub (zo U w) (zo U' w'):=g.sub;have l:F<w.heap.size:=ze h.blk;exact ⟨f.trans h.blk,h.siz,h.cel,by rw[g.us F l];exact h.fu,
  fun b e=>⟨by rw[g.us b (h.bnd b (h.su b e).1)];exact (h.su b e).1,(h.su b e).2⟩,j,h.tabs.sub c,h.etx.sub c,
  zt h.rsh (fun q e=>d q (.inr (.inr (.inr (.inl (zm e)))))),fun s m=>(h.esh s m).sub c,
  zt h.rtb (fun q e=>d q (.inr (.inr (.inr (.inr (.inl (zm e))))))),fun s m=>(h.etb s m).sub c,
  h.stk.keep c g.us (fun b e=>d b (by rcases e with e|e|e;exact .inl e;exact .inr (.inl e);exact .inr (.inr (.inl e)))),
  h.hdr.sub c,h.slt.sub c,zt h.rvo (fun q e=>d q (.inr (.inr (.inr (.inr (.inr (.inl (zm e)))))))),h.tap.sub c,h.ems,
  zt h.rwa (fun q e=>d q (.inr (.inr (.inr (.inr (.inr (.inr (zm e)))))))),fun m e=>(h.ewa m e).sub c,h.inv⟩
theorem zae.cellF (h:zae w U F o T fc x)(j:Nat)(v:Value)(g:o+19≤j):zae (w.setCell ⟨F,j,none⟩ v) U F o T (fc.setIfInBounds j v) x:=by
 refine kW_ ?A0 ?_;exact w.setCell ⟨F,j,none⟩ v;have f:zah U U w ?A0:=(zah.refl U w).set h.fu j v;have c:Sub (zo U w) (zo U ?A0):=f.sub;have d:∀ b,x.S b→(?A0).heap[b]? = w.heap[b]?:=fun b e=>hO_ w ⟨F,j,none⟩ b v (h.su b e).2;exact ⟨za0 h.blk v,by simpa using h.siz,fun k d=>by
   rw[sI_,if_neg (by omega)];exact h.cel k d,h.fu,h.su,h.bnd.mono (by simp),h.tabs.sub c,h.etx.sub c,
  zt h.rsh (fun q e=>d q (.inr (.inr (.inr (.inl (zm e)))))),fun s m=>(h.esh s m).sub c,
  zt h.rtb (fun q e=>d q (.inr (.inr (.inr (.inr (.inl (zm e))))))),fun s m=>(h.etb s m).sub c,
  h.stk.keep c (fun _ _=>rfl) (fun b e=>d b (by rcases e with e|e|e;exact .inl e;exact .inr (.inl e);exact .inr (.inr (.inl e)))),
  h.hdr.sub c,h.slt.sub c,zt h.rvo (fun q e=>d q (.inr (.inr (.inr (.inr (.inr (.inl (zm e)))))))),h.tap.sub c,h.ems,
  zt h.rwa (fun q e=>d q (.inr (.inr (.inr (.inr (.inr (.inr (zm e)))))))),fun m e=>(h.ewa m e).sub c,h.inv⟩
structure FM where
 (x:Nat→NM) (bad:Int) (ga:Option Addr) (gc:Nat) (gs:List Sg)
 (aa:Option Addr) (ac:Nat) (aw:List MV) (ca:Option Addr) (cc:Nat) (cs:List Int)
def FM.v (m:FM):Fl:=⟨[(m.x 0).v,(m.x 1).v,(m.x 2).v,(m.x 3).v],⟨m.bad,zA m.gs⟩,m.aw.map MV.c,m.cs⟩
structure zG (w:World)(U:Nat→Bool)(F:Nat)(fc:Array Value)(m:FM):Prop where
 nd:∀ i,i<4→zae w U F (i*19) 104 fc (m.x i)
 siz:fc.size=80
 nu:∀ i:Nat,i<4→(m.x i).nu=i
 sep:∀ i j,i<4→j<4→i≠j→∀ b,(m.x i).S b→¬(m.x j).S b
 bad:-1≤m.bad∧m.bad≤3
 c76:fc[76]? = some (I_ m.bad)
 c77:fc[77]? = some (.slice m.ga m.gs.length m.gc)
 c78:fc[78]? = some (.slice m.aa m.aw.length m.ac)
 c79:fc[79]? = some (.slice m.ca m.cs.length m.cc)
 sg:zcN (zo U w) m.ga m.gc m.gs
 raw:w.ownsRow 0 71 19 (.slice m.aa m.aw.length m.ac) m.aw.length (zU m.aw)
 uaw:∀ q,ob m.aa=some q→U q=true∧q≠F∧∀ i,i<4→¬(m.x i).S q
 eaw:∀ a∈m.aw,GM (zo U w) a
 law:m.aw.length≤400
 rco:w.ownsRow 0 50 1 (.slice m.ca m.cs.length m.cc) m.cs.length (iv m.cs)
 uco:∀ q,ob m.ca=some q→U q=true∧q≠F∧(∀ i,i<4→¬(m.x i).S q)∧ob m.aa≠some q
def FM.set (m:FM)(i:Nat)(y:NM):FM:={ m with x:=fun j=>if j=i then y else m.x j }
theorem FM.set_here (m:FM)(i:Nat)(y:NM):(m.set i y).x i=y:=if_pos rfl
theorem FM.set_there (m:FM){i j:Nat}(y:NM)(h:j≠i):(m.set i y).x j=m.x j:=if_neg h
theorem FM.set_v (m:FM)(i:Nat)(y:NM)(b:i<4):(m.set i y).v=m.v.set i y.v:=by
 have:i=0∨i=1∨i=2∨i=3:=by omega
 rcases this with e|e|e|e<;>subst e<;>rfl
theorem FM.node_v (m:FM)(i:Nat)(b:i<4):m.v.node i=(m.x i).v:=by
 have:i=0∨i=1∨i=2∨i=3:=by omega
 rcases this with e|e|e|e<;>subst e<;>rfl
structure FTo (U U':Nat→Bool)(w w':World):Prop where
 os:w'.os=w.os
 tape:w'.tape=w.tape
 output:w'.output=w.output
 size:w.heap.size≤w'.heap.size
 block:∀ b,b<w.heap.size→U b=false→w'.heap[b]? = w.heap[b]?
 us:∀ b,b<w.heap.size→U b=false→U' b=false
theorem FTo.refl (U:Nat→Bool)(w:World):FTo U U w w:=⟨rfl,rfl,rfl,nR_ _,fun _ _ _=>rfl,fun _ _ h=>h⟩
theorem FTo.trans {f:Nat→Bool}(h:FTo U U1 w w1)(k:FTo U1 f w1 w2):FTo U f w w2:=
 ⟨k.os.trans h.os,k.tape.trans h.tape,k.output.trans h.output,nT_ h.size k.size,
  fun b c d=>(k.block b (nL_ c h.size) (h.us b c d)).trans (h.block b c d),
  fun b c d=>k.us b (nL_ c h.size) (h.us b c d)⟩
theorem zah.fto (h:zah U U' w w'):FTo U U' w w':=⟨h.os,h.tape,h.output,h.size,h.block,fun b c d=>(h.us b c).trans d⟩
theorem FTo.below (U:Nat→Bool)(h:B_ w w'):FTo U U w w':=(zah.below U h).fto
theorem FTo.sub (h:FTo U U' w w'):Sub (zo U w) (zo U' w'):=by
 refine ⟨by rw[zb2,zb2];exact h.size,fun a v e=>?_⟩;obtain ⟨d,b⟩:=zgz e;have c:=World.block_lt_of_cell? _ _ b;rw[cB_ (zcT (h.us _ c d)),cB_ (h.block _ c d)];exact b
theorem FTo.box (h:FTo U U' w w'){b:Nat}{d:Obj}(c:w.heap[b]? = some d)(f:U b=false):w'.heap[b]? = some d:=(h.block b (ze c) f).trans c
theorem FTo.owns (h:FTo U U' w w'){base n:Nat}{e:TypeId}{s:Nat}{v:Value}{c:List Value}(b:w.ownsRow base e s v n c)(d:∀ q,v.ownBlock=some q→U q=false):w'.ownsRow base e s v n c:=zt b (fun q e=>h.block q (b.lt q e).2 (d q e))
def zY (w:World)(U:Nat→Bool)(F:Nat)(w':World)(f:Fl):Prop:=
 ∃ U' fc' m',zG w' U' F fc' m'∧FTo U U' w w'∧m'.v=f
theorem zY.refl {m:FM}(h:zG w U F fc m):zY w U F w m.v:=⟨U,fc,m,h,FTo.refl _ _,rfl⟩
theorem zY.after {f:Fl}(k:FTo U U1 w w1)(h:zY w1 U1 F w' f):zY w U F w' f:=by
 obtain ⟨b,c,l,d,g,j⟩:=h;exact ⟨b,c,l,d,k.trans g,j⟩
theorem zG.below {m:FM}(h:zG w U F fc m)(b:B_ w w'):zG w' U F fc m:=
 have c:Sub (zo U w) (zo U w'):=(zah.below U b).sub
 ⟨fun i f=>(h.nd i f).below b,h.siz,h.nu,h.sep,h.bad,h.c76,h.c77,h.c78,h.c79,h.sg.sub c,zv h.raw b,h.uaw,fun a d=>(h.eaw a d).sub c,h.law,zv h.rco b,h.uco⟩
theorem zY.quiet {m:FM}(h:zG w U F fc m)(b:B_ w w'):zY w U F w' m.v:=⟨U,fc,m,h.below b,FTo.below U b,rfl⟩
theorem zG.node {m:FM}(h:zG w U F fc m){i:Nat}(l:i<4){y:NM}(B:zae w' U' F (i*19) 104 fc' y)(n:NTo U U' w w' F (i*19) fc fc' (m.x i) y)(G:y.nu=i):zG w' U' F fc' (m.set i y):=by
 have A:Sub (zo U w) (zo U' w'):=n.sub (h.nd i l);have z:∀ j,j<4→∀ b,(m.x j).S b→b<w.heap.size:=fun j f b e=>(h.nd j f).bnd b ((h.nd j f).su b e).1;have s:∀ k,76≤k→fc'[k]? = fc[k]?:=fun k r=>n.far k (.inr (by omega));have H:∀ q,ob m.aa=some q→w'.heap[q]? = w.heap[q]?:=fun q e=>by
  obtain ⟨a,b,c⟩:=h.uaw q e;exact n.block q ((h.nd i l).bnd q a) (c i l) b
 have I:∀ q,ob m.ca=some q→w'.heap[q]? = w.heap[q]?:=fun q e=>by
  obtain ⟨a,b,c,_⟩:=h.uco q e;exact n.block q ((h.nd i l).bnd q a) (c i l) b
 have C:∀ q,q<w.heap.size→(∀ j,j<4→¬(m.x j).S q)→∀ j,j<4→¬((m.set i y).x j).S q:=fun q p u j f=>by
  by_cases e:j=i
  ·subst e;rw[FM.set_here];intro D;rcases n.new q D with g|g
   ·exact u j f g
   ·omega
  ·rw[FM.set_there _ _ e];exact u j f
 refine ⟨fun j f=>?_,by rw[n.fsz];exact h.siz,fun j f=>?_,fun j k f r t b o=>?_,h.bad,by rw[s 76 (by omega)];exact h.c76,by rw[s 77 (by omega)];exact h.c77,by rw[s 78 (by omega)];exact h.c78,by rw[s 79 (by omega)];exact h.c79,h.sg.sub A,
  zt h.raw (fun q e=>H q (zm e)),fun q e=>?_,fun a E=>(h.eaw a E).sub A,h.law,zt h.rco (fun q e=>I q (zm e)),fun q e=>?_⟩
 ·by_cases e:j=i
  ·subst e;rw[FM.set_here];exact B
  ·rw[FM.set_there _ _ e];exact (h.nd i l).other B n (h.nd j f) (h.sep j i f l e) (by omega)
 ·by_cases e:j=i
  ·subst e;rw[FM.set_here];exact G
  ·rw[FM.set_there _ _ e];exact h.nu j f
 ·by_cases e1:j=i
  ·subst e1;rw[FM.set_here] at o;rw[FM.set_there _ _ (fun e=>t e.symm)];intro g;rcases n.new b o with k1|k1
   ·exact h.sep j k f r t b k1 g
   ·have:=z k r b g;omega
  ·rw[FM.set_there _ _ e1] at o;by_cases e2:k=i
   ·subst e2;rw[FM.set_here];intro g;rcases n.new b g with k1|k1
    ·exact h.sep j k f r t b o k1
    ·have:=z j f b o;omega
   ·rw[FM.set_there _ _ e2];exact h.sep j k f r t b o
 ·obtain ⟨a,b,c⟩:=h.uaw q e;have p:=(h.nd i l).bnd q a;exact ⟨by rw[n.us q p];exact a,b,C q p c⟩
 ·obtain ⟨a,b,c,d⟩:=h.uco q e;have p:=(h.nd i l).bnd q a;exact ⟨by rw[n.us q p];exact a,b,C q p c,d⟩
theorem zG.acts {m:FM}(h:zG w U F fc m){i:Nat}(b:i<4){n:Nd}(l:zac w U F (i*19) 104 fc (m.x i) w' n)(o:n.nu=i):zY w U F w' (m.v.set i n):=by
 obtain ⟨f,g,y,j,c,d⟩:=l;refine ⟨f,g,m.set i y,h.node b j c (by rw[←o,←d];rfl),(c.goes (h.nd i b)).fto,?_⟩;rw[FM.set_v m i y b,d]
theorem zG.cell {m:FM}(h:zG w U F fc m)(j:Nat){v:Value}(b:fc[j]? = some v):C_ w F j v:=zb (h.nd 0 (by decide)).blk j v b
theorem zG.free {m:FM}(h:zG w U F fc m)(j:Nat):w.frozen? ⟨F,j,none⟩=false:=zd (h.nd 0 (by decide)).blk j
theorem zG.bnd {m:FM}(h:zG w U F fc m):Bnd U w:=(h.nd 0 (by decide)).bnd
theorem zG.fu {m:FM}(h:zG w U F fc m):U F=true:=(h.nd 0 (by decide)).fu
theorem zG.later {m:FM}(_:zG w U F fc m)(b:B_ w w'):Sub (zo U w) (zo U w'):=(zah.below U b).sub
theorem zae.less {f:Nat→Bool}(h:zae w U F o T fc x)(l:∀ b,f b=true→U b=true)(q:f F=true)(r:∀ b,x.S b→f b=true):zae w f F o T fc x:=by
 have no:∀ b,U b=false→f b=false:=fun b g=>by
  cases e:f b with
  | false=>rfl
  | true=>rw[l b e] at g;cases g
 have d:Sub (zo U w) (zo f w):=FTo.sub ⟨rfl,rfl,rfl,nR_ _,fun _ _ _=>rfl,fun b _ g=>no b g⟩;exact ⟨h.blk,h.siz,h.cel,q,fun b e=>⟨r b e,(h.su b e).2⟩,fun b e=>h.bnd b (l b e),h.tabs.sub d,h.etx.sub d,h.rsh,fun s m=>(h.esh s m).sub d,h.rtb,fun s m=>(h.etb s m).sub d,
  ⟨h.stk.box,h.stk.rc,h.stk.rd,fun c j=>(h.stk.ec c j).sub d,fun p t=>(h.stk.ed p t).sub d,h.stk.same,fun c j b g=>no b (h.stk.ic c j b g)⟩,
  h.hdr.sub d,h.slt.sub d,h.rvo,h.tap.sub d,h.ems,h.rwa,fun m e=>(h.ewa m e).sub d,h.inv⟩
def zcY (U:Nat→Bool)(q:Option Nat)(b:Nat):Bool:=U b&&decide (q≠some b)
theorem ziD (U:Nat→Bool)(q:Option Nat)(w:World):FTo U (zcY U q) w w:=⟨rfl,rfl,rfl,nR_ _,fun _ _ _=>rfl,fun b _ c=>by simp[zcY,c]⟩
theorem zkj (U:Nat→Bool)(b:Nat):zcY U (some b) b=false:=by simp[zcY]
theorem zG.shows {m:FM}(h:zG w U F fc m)(q:Option Nat)(o:q≠some F)(p:∀ i,i<4→∀ b,q=some b→¬(m.x i).S b)(r:∀ b,q=some b→ob m.aa≠some b)(s:∀ b,q=some b→ob m.ca≠some b):zG w (zcY U q) F fc m:=by
 have f:Sub (zo U w) (zo (zcY U q) w):=(ziD U q w).sub;have on:∀ b,U b=true→q≠some b→zcY U q b=true:=fun b j l=>by simp[zcY,j,l]
 exact ⟨fun i c=>(h.nd i c).less (fun b d=>by simp only[zcY,Bool.and_eq_true] at d;exact d.1) (on F h.fu o) (fun b e=>on b ((h.nd i c).su b e).1 (fun g=>p i c b g e)),
  h.siz,h.nu,h.sep,h.bad,h.c76,h.c77,h.c78,h.c79,h.sg.sub f,h.raw,fun b e=>⟨on b (h.uaw b e).1 (fun g=>r b g e),(h.uaw b e).2⟩,fun a e=>(h.eaw a e).sub f,h.law,h.rco,
  fun b e=>⟨on b (h.uco b e).1 (fun g=>s b g e),(h.uco b e).2⟩⟩
end Go.Proofs.YtdepbohhmfkjgaaGreatDoor
