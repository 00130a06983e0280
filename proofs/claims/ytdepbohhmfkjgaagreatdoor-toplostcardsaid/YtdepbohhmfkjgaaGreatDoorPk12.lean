import Derived.Test.YtdepbohhmfkjgaaGreatDoorPk8
set_option maxRecDepth 100000
set_option maxHeartbeats 4000000
namespace Go.Proofs.YtdepbohhmfkjgaaGreatDoor
open Go.RowKit Tryz
variable {ss:List ByteArray}{k:Nat}
theorem zhB (s:ByteArray)(w:World)(f:s.size≤maxLen) :
  Calls prog 106 #[.string s] w fun e w'=>e=.returned (.bool (zbA s))∧w=w':=by
 unfold maxLen at f;by_cases h1:1≤s.size
 ·have c:(1:Int)≤s.size:=by omega
  by_cases h2:s.size≤20;have d:(s.size:Int)≤20:=by omega
  have b:Hid (zbA s=true):=by show _=_;simp[zbA,h1,h2]
  rotate_left
  have d:¬(s.size:Int)≤20:=by omega
  have b:Hid (zbA s=false):=by show _=_;simp[zbA,h2]
  rotate_left
  all_goals
   go_in;go_wp2_with fail
   go_ret;exact ⟨zS b.out.symm,rfl⟩
 ·have c:¬(1:Int)≤s.size:=by omega
  have b:Hid (zbA s=false):=by show _=_;simp[zbA,h1]
  go_in;go_wp2_with fail
  go_ret;exact ⟨zS b.out.symm,rfl⟩
theorem zrg (h:k<ss.length):ss.take (k+1)=ss.take k++[ss.getD k ByteArray.empty]:=by
 rw[tS_ h];simp[List.getD,h]
theorem zrh (ss:List ByteArray)(j:Option Addr)(n l:Nat)(s:ByteArray)(w:World)(q:n=ss.length)(p:n≤maxLen)(f:zas w j ss) :
  Calls prog 150 #[.slice j n l,.string s] w fun e w'=>∃ r:Int,e=.returned (I_ r)∧(0≤r↔s∈ss)∧w=w':=by
 subst q;unfold maxLen at p;go_in;go_wp2_with fail
 go_loop [8] (fun i=>∃ k:Nat,k≤ss.length∧i=I_ k∧Hid (s ∉ ss.take k)) (fun i=>ss.length-(intOf i).toNat)
 case atStart=>exact ⟨0,nZ_ _,rfl,by show ¬_;simp⟩
 case round=>
  obtain ⟨k,z,rfl,d⟩:=hrel;by_cases hlt:k<ss.length
  ·rcases f.cells with b|⟨B,C,rfl,b⟩
   ·subst b;simp at hlt
   have A:(k:Int)<ss.length:=by omega
   have y:=b k hlt;have u:Hid (ss.take (k+1)=ss.take k++[ss.getD k ByteArray.empty]):=zrg hlt;have o:Hid (ss.getD k ByteArray.empty∈ss):=by show _∈_;rw[zg4 hlt];exact gM_ hlt
   clear b f;generalize ss.getD k ByteArray.empty=x at *;by_cases he:s.toList=x.toList
   ·have c:Hid (s=x):=zg3 he;have m:(s.toList == x.toList)=true:=by simp[he]
    clear he;go_wp2_with fail
    go_ret;exact ⟨(k:Int),rfl,⟨fun _=>by rw[c.out];exact o.out,fun _=>by omega⟩,rfl⟩
   ·have c:Hid (s ∉ ss.take (k+1)):=by
     show ¬_;rw[u.out];intro h;rcases List.mem_append.1 h with g|g
     ·exact d.out g
     ·exact he (by rw[show s=x by simpa using g])
    have m:(s.toList == x.toList)=false:=by simp[he]
    clear he;go_wp2_with fail
    go_round
    case rel=>exact ⟨k+1,by omega,by go_num,c⟩
    case measure=>simp[intOf];omega
  ·obtain rfl:k=ss.length:=by omega
   have t:Hid (s ∉ ss):=by have:=d.out;rwa [tL_ (nR_ _)] at this
   go_wp2_with fail
   go_ret;exact ⟨-1,rfl,⟨fun h=>by omega,fun h=>absurd h t.out⟩,rfl⟩
theorem ziy (ss:List ByteArray)(f:Option Addr)(n l:Nat)(s:ByteArray)(w:World)(o:n=ss.length)(m:n≤maxLen)(p:zas w f ss) :
  Calls prog 107 #[.slice f n l,.string s] w fun e w'=>e=.returned (.bool (inS s ss))∧w=w':=by
 have j:=zrh ss f n l s w o m p;clear o m p;by_cases h:s∈ss;have c:Hid (inS s ss=true):=zmC h
 rotate_left
 have c:Hid (inS s ss=false):=zlt h
 rotate_left
 all_goals
  go_in;go_wp2_with fail
  refine j.mono ?_;rintro e t ⟨r,d,b,rfl⟩;subst d;dsimp only
 have q:0≤r:=b.2 h
 rotate_left
 have q:¬0≤r:=fun g=>h (b.1 g)
 rotate_left
 all_goals
  clear b;go_wp2_with fail
  go_ret;exact ⟨zS c.out.symm,rfl⟩
def zdc (ss:List ByteArray)(t:ByteArray):Int:=if zbA t=false then 1 else if inS t ss=true then 7 else if 40≤ss.length then 6 else 0
def zcw (nx:Int)(ss:List ByteArray)(au:Int):Int:=if ¬(0≤au∧au<4) then 2 else if ss.length=0 then 8 else if 1048576<nx then 6 else 0
theorem zpx (nx:Int)(f:Option Addr)(n d:Nat)(ss:List ByteArray)(t:ByteArray)(w:World)(m:n=ss.length)(o:zbi w f d ss)(r:t.size≤maxLen) :
  Calls prog 85 #[.agg #[I_ nx,.slice f n d],.string t] w fun e w'=>e=.returned (I_ (zdc ss t))∧B_ w w':=by
 have s:=o.le;have q:=o.max;refine kO_ ?A0 ?_;exact Obj.cells #[I_ nx,.slice f n d] 94;have l:=(bR_ w.heap.size w).alloc (nR_ _) ?A0;have c:=zhB t (w.alloc ?A0) r;have j:=ziy ss f n d t (w.alloc ?A0) m (by omega) (o.strs.below l);unfold maxLen at q;cases h1:zbA t with
 | false=>
  have b:Hid (zdc ss t=1):=by show _=_;rw[zdc,if_pos h1]
  rw[h1] at c;clear h1 m;go_in;go_wp2_with (go_at_call 106;refine c.mono ?_;rintro e g ⟨rfl,rfl⟩)
  go_ret;exact ⟨zp b.out.symm,l⟩
 | true=>
  rw[h1] at c;cases h2:inS t ss with
  | true=>
   have b:Hid (zdc ss t=7):=by show _=_;rw[zdc,if_neg (by simp[h1]),if_pos h2]
   rw[h2] at j;clear h1 h2 m;go_in;go_wp2_with (first|(go_at_call 106;refine c.mono ?_;rintro e g ⟨rfl,rfl⟩)|(go_at_call 107;refine j.mono ?_;rintro e g ⟨rfl,rfl⟩))
   go_ret;exact ⟨zp b.out.symm,l⟩
  | false=>
   rw[h2] at j;by_cases h3:40≤n;have b:Hid (zdc ss t=6):=by show _=_;rw[zdc,if_neg (by simp[h1]),if_neg (by simp[h2]),if_pos (by omega)]
   have p:(40:Int)≤n:=by omega
   rotate_left
   have b:Hid (zdc ss t=0):=by show _=_;rw[zdc,if_neg (by simp[h1]),if_neg (by simp[h2]),if_neg (by omega)]
   have p:¬(40:Int)≤n:=by omega
   rotate_left
   all_goals
    clear h1 h2 m;go_in;go_wp2_with (first|(go_at_call 106;refine c.mono ?_;rintro e g ⟨rfl,rfl⟩)|(go_at_call 107;refine j.mono ?_;rintro e g ⟨rfl,rfl⟩))
    go_ret;exact ⟨zp b.out.symm,l⟩
theorem zri (nx:Int)(g:Option Addr)(n f:Nat)(ss:List ByteArray)(au:Int)(w:World)(d:n=ss.length)(j:n≤maxLen) :
  Calls prog 157 #[.agg #[I_ nx,.slice g n f],I_ au] w fun e w'=>e=.returned (I_ (zcw nx ss au))∧B_ w w':=by
 have c:=(bR_ w.heap.size w).alloc (nR_ _) (.cells #[I_ nx,.slice g n f] 94);unfold maxLen at j;by_cases h0:au<0;have b:Hid (zcw nx ss au=2):=by show _=_;rw[zcw,if_pos (by omega)]
 clear d
 rotate_left
 by_cases h1:4≤au;have b:Hid (zcw nx ss au=2):=by show _=_;rw[zcw,if_pos (by omega)]
 clear d
 rotate_left
 by_cases h2:n=0;have b:Hid (zcw nx ss au=8):=by show _=_;rw[zcw,if_neg (by omega),if_pos (by omega)]
 clear d;subst h2
 rotate_left
 have l:((n:Int) == 0)=false:=beq_eq_false_iff_ne.2 (by omega);by_cases h3:1048576<nx;have b:Hid (zcw nx ss au=6):=by show _=_;rw[zcw,if_neg (by omega),if_neg (by omega),if_pos h3]
 clear d
 rotate_left
 have b:Hid (zcw nx ss au=0):=by show _=_;rw[zcw,if_neg (by omega),if_neg (by omega),if_neg h3]
 clear d
 rotate_left
 all_goals
  go_in;go_wp2_with fail
  go_ret;exact ⟨zp b.out.symm,c⟩
variable {w w':World}{au:Int}{t:ByteArray}
theorem zjm (nx:Int)(ss:List ByteArray):zaG nx ss=0∨zaG nx ss=12:=by
 unfold zaG;split
 ·exact .inr rfl
 ·split
  ·exact .inl rfl
  ·exact .inr rfl
def zcI (nx:Int)(ss:List ByteArray)(t:ByteArray):Int:=if zaG nx ss=0 then zdc ss t else 12
def zjL (nx:Int)(ss:List ByteArray)(t:ByteArray):List ByteArray:=if zcI nx ss t=0 then ss++[t] else []
def zkT (nx:Int)(ss:List ByteArray)(t:ByteArray):Int:=if zcI nx ss t=0 then nx else 0
def zbR (nx:Int)(ss:List ByteArray)(au:Int):Int:=if zaG nx ss=0 then zcw nx ss au else 12
def zka (nx:Int)(ss:List ByteArray)(au:Int):List ByteArray:=if zbR nx ss au=0 then ss.take 4 else []
def zkb (nx:Int)(ss:List ByteArray)(au:Int):List ByteArray:=if zbR nx ss au=0 then ss.drop 4 else []
def zmg (nx:Int)(ss:List ByteArray)(au:Int):Int:=if zbR nx ss au=0 then nx+1 else 0
def zmh (nx:Int)(ss:List ByteArray)(au:Int):Int:=if zbR nx ss au=0 then au else 0
def zkc (nx:Int)(ss:List ByteArray)(au:Int):Int:=if zbR nx ss au=0 then nx else 0
structure zfB (w w':World)(e:Ending)(nx:Int)(ss:List ByteArray)(t:ByteArray):Prop where
 out:∃ v,e=.returned (.tuple #[.agg #[I_ (zkT nx ss t),v],I_ (zcI nx ss t)])∧w'.ownsRow w.heap.size 9 1 v (zjL nx ss t).length (sv (zjL nx ss t))∧B_ w w'
theorem zfB.bad {nx b:Int}(d:zcI nx ss t=b)(c:b≠0)(f:B_ w w'):zfB w w' (.returned (.tuple #[.agg #[I_ 0,O_],I_ b])) nx ss t:=by
 subst d;refine ⟨O_,?_,?_,f⟩
 ·rw[zkT,if_neg c]
 ·rw[zjL,if_neg c];exact oN_ _ _ _ _
theorem zfB.good {nx:Int}{v:Value}(b:zcI nx ss t=0)(d:k=ss.length+1)(f:w'.ownsRow w.heap.size 9 1 v k (sv (ss++[t])))(c:B_ w w'):zfB w w' (.returned (.tuple #[.agg #[I_ nx,v],I_ 0])) nx ss t:=by
 subst d;refine ⟨v,?_,?_,c⟩
 ·rw[zkT,if_pos b,b]
 ·rw[zjL,if_pos b,lP_];exact f
structure ze1 (w w':World)(e:Ending)(nx:Int)(ss:List ByteArray)(au:Int):Prop where
 out:∃ v u,e=.returned (.tuple #[.agg #[I_ (zmg nx ss au),v],.agg #[I_ (zmh nx ss au),I_ (zkc nx ss au),u],I_ (zbR nx ss au)])∧w'.ownsRow w.heap.size 9 1 v (zkb nx ss au).length (sv (zkb nx ss au))∧w'.ownsRow w.heap.size 9 1 u (zka nx ss au).length (sv (zka nx ss au))∧B_ w w'
theorem ze1.bad {nx c:Int}(d:zbR nx ss au=c)(b:c≠0)(f:B_ w w'):ze1 w w' (.returned (.tuple #[.agg #[I_ 0,O_],.agg #[I_ 0,I_ 0,O_],I_ c])) nx ss au:=by
 subst d;refine ⟨O_,O_,?_,?_,?_,f⟩
 ·rw[zmg,zmh,zkc,if_neg b,if_neg b,if_neg b]
 ·rw[zkb,if_neg b];exact oN_ _ _ _ _
 ·rw[zka,if_neg b];exact oN_ _ _ _ _
theorem ze1.good {nx:Int}{v u:Value}{m:Nat}(b:zbR nx ss au=0)(d:k=(ss.drop 4).length)(f:m=(ss.take 4).length)(g:w'.ownsRow w.heap.size 9 1 v k (sv (ss.drop 4)))(j:w'.ownsRow w.heap.size 9 1 u m (sv (ss.take 4)))(c:B_ w w'):ze1 w w' (.returned (.tuple #[.agg #[I_ (nx+1),v],.agg #[I_ au,I_ nx,u],I_ 0])) nx ss au:=by
 subst d f;refine ⟨v,u,?_,?_,?_,c⟩
 ·rw[zmg,zmh,zkc,if_pos b,if_pos b,if_pos b,b]
 ·rw[zkb,if_pos b];exact g
 ·rw[zka,if_pos b];exact j
theorem ztg {nx:Int}(h:zaG nx ss≠0):zcI nx ss t=12:=by rw[zcI,if_neg h]
theorem zly {nx:Int}(h:zaG nx ss=0):zcI nx ss t=zdc ss t:=by rw[zcI,if_pos h]
theorem zlz {nx:Int}(h:zaG nx ss≠0):zbR nx ss au=12:=by rw[zbR,if_neg h]
theorem zkd {nx:Int}(h:zaG nx ss=0):zbR nx ss au=zcw nx ss au:=by rw[zbR,if_pos h]
theorem ziz {nx:Int}(h:zaG nx ss=0):1≤nx∧nx≤1048577∧ss.length≤40∧zdL ss=true:=by
 unfold zaG at h
 split at h
 ·cases h
 ·rename_i c
  split at h
  ·rename_i b
   exact ⟨by omega,by omega,by omega,b⟩
  ·cases h
variable {rd:Int}{l:List CV}
theorem zth (l:List CV)(c:CV)(au rd:Int):cOf (l++[c]) au rd=if 0≤cOf l au rd then cOf l au rd else if c.au=au∧c.rd=rd then (l.length:Int) else -1:=by
 have b:zaw (zeF (l++[c]) au rd) l.length=zaw (zeF l au rd) l.length:=zpj _ _ _ (fun j f=>by
  have e:zaD (l++[c]) j=zaD l j:=by simp[zaD,List.getD,List.getElem?_append_left f]
  rw[zeF,zeF,e])
 have d:zeF (l++[c]) au rd l.length=decide (c.au=au∧c.rd=rd):=by
  have e:zaD (l++[c]) l.length=c:=by simp[zaD]
  rw[zeF,e]
 rw[cOf,show (l++[c]).length=l.length+1 by simp,zaw,b,d];show (if 0≤cOf l au rd then cOf l au rd else _)=_;simp only[decide_eq_true_eq]
theorem zkU (l:List CV)(r:Int):(dgF l r).length=(if 0≤cOf l 0 r then 1 else 0)+(if 0≤cOf l 1 r then 1 else 0)+(if 0≤cOf l 2 r then 1 else 0)+(if 0≤cOf l 3 r then 1 else 0):=by
 have h:∀ n:Nat,(zcH l r (n+1)).length=(zcH l r n).length+(if 0≤cOf l (n:Int) r then 1 else 0):=fun n=>by
  rw[zcH]
  split<;>simp
 rw[dgF,h 3,h 2,h 1,h 0];simp[zcH]
def zgk (l:List CV)(r:Int):Nat:=(l.filter fun c=>decide (c.rd=r)).length
theorem ziA (l:List CV)(c:CV)(r:Int):zgk (l++[c]) r=zgk l r+(if c.rd=r then 1 else 0):=by
 simp only[zgk,List.filter_append,lP_];by_cases h:c.rd=r<;>simp[h]
theorem zuJ (l:List CV)(c:CV)(r:Int)(h:cOf l c.au c.rd<0)(m:0≤c.au∧c.au<4):(dgF (l++[c]) r).length=(dgF l r).length+(if c.rd=r then 1 else 0):=by
 have d:∀ a:Int,(if 0≤cOf (l++[c]) a r then 1 else 0:Nat)=(if 0≤cOf l a r then 1 else 0)+(if c.au=a∧c.rd=r then 1 else 0):=fun a=>by
  rw[zth];by_cases h1:0≤cOf l a r
  ·have b:¬(c.au=a∧c.rd=r):=fun ⟨f,g⟩=>by rw[f,g] at h;omega
   simp[h1,b]
  ·by_cases b:c.au=a∧c.rd=r
   ·rw[if_neg h1,if_pos b,if_neg h1,if_pos b,if_pos (by omega)]
   ·rw[if_neg h1,if_neg b,if_neg h1,if_neg b,if_neg (by decide)]
 rw[zkU,zkU,d,d,d,d];by_cases hr:c.rd=r
 ·have j:c.au=0∨c.au=1∨c.au=2∨c.au=3:=by omega
  rcases j with e|e|e|e<;>simp[e,hr]<;>omega
 ·simp[hr]
theorem zti {c:CV}(h:c.f=0):0≤c.au∧c.au<4:=(za7 (zeW (vl:=c.vl) h)).1
theorem ztj {pl:List (List Int)}(h:zen l au rd pl=0):cOf l au rd<0:=by
 rw[zen] at h
 split at h
 ·cases h
 ·omega
theorem zmP (h:zbI l=0)(r:Int)(k:Nat)(d:k≤l.length):(dgF (l.take k) r).length=zgk (l.take k) r:=by
 induction k with
 | zero=>rw[List.take_zero,zkU];rfl
 | succ k ih=>
  have c:k<l.length:=by omega
  have b:=(zfw h).2 k c;simp only[zfI,Bool.or_eq_false_iff,decide_eq_false_iff_not,ne_eq,Decidable.not_not] at b;have e:l.take (k+1)=l.take k++[zaD l k]:=by
   rw[tS_ c];simp[zaD,c]
  rw[e,zuJ _ _ _ (ztj b.2) (zti b.1),ziA,ih (by omega)]
theorem zoO (h:zbI l=0)(r:Int):(dgF l r).length=zgk l r:=by
 have:=zmP h r l.length (nR_ _)
 rwa [List.take_length] at this
def zbl (l:List CV)(c:CV):Int:=if c.f≠0 then c.f else if zen l c.au c.rd c.pl≠0 then zen l c.au c.rd c.pl else if 400≤l.length then 6 else 0
theorem zg6 {c:CV}(h:zbl l c=0):c.f=0∧zen l c.au c.rd c.pl=0∧l.length<400:=by
 rw[zbl] at h;by_cases h1:c.f=0
 ·rw[if_neg (fun g=>g h1)] at h;by_cases h2:zen l c.au c.rd c.pl=0
  ·rw[if_neg (fun g=>g h2)] at h;by_cases h3:400≤l.length
   ·rw[if_pos h3] at h;cases h
   ·exact ⟨h1,h2,by omega⟩
  ·rw[if_pos h2] at h;exact absurd h h2
 ·rw[if_pos h1] at h;exact absurd h h1
theorem ztk (h:∀ k,k<l.length→zbl (l.take k) (zaD l k)=0):zbI l=0:=by
 have f:∀ k,k<l.length→zfI l k=false:=fun k j=>by
  obtain ⟨b,c,_⟩:=zg6 (h k j);simp[zfI,b,c]
 refine zuv l ?_ f;rcases Nat.lt_or_ge 400 l.length with g|g
 ·obtain ⟨_,_,d⟩:=zg6 (h 400 g);rw[lT9_] at d;omega
 ·exact g
theorem zjM (au rd:Int)(bl pl:List zi)(g:bl.length≤4)(j:pl.length≤4)(b:∀ p∈bl,p.bs.length=32)(c:∀ p∈pl,p.bs.length=32):(zaQ au rd bl pl).length≤300:=by
 have d:=zdo bl b;have f:=zdo pl c;simp[zaQ,rd3,za6];omega
def zdW (au rd:Int)(bl pl:List zi)(vl:List Int):List Int:=zaQ au rd bl pl++[(vl.length:Int)]++vl
theorem zmQ (base:Nat)(v:Value)(k:Nat)(bs:List Int)(au rd:Int)(l:Option Addr)(s r:Nat)(bl:List zi)(q:Option Addr)(y u:Nat)(pl:List zi)(d:Option Addr)(vn z:Nat)(vl:List Int)(w:World)(ha:0≤au∧au<4)(hr:0≤rd∧rd≤1048576)(Y:s=bl.length)(af:y=pl.length)(aB:vn=vl.length)(X:bl.length≤4)(ae:pl.length≤4)(aF:vl.length≤4)(V:∀ p∈bl,p.bs.length=32)(ad:∀ p∈pl,p.bs.length=32)(aA:∀ x∈vl,0≤x∧x<4)
  (am:zy w l r bl) (ao:zeE w v l bl) (an:zy w q u pl) (ap:zeE w v q pl) (hI:zav w d vl) (aw:∀ c f,d=some ⟨c,f,none⟩→c<w.heap.size∧v.ownBlock≠some c)
  (o:w.ownsRow base 5 1 v k (ub bs)) (E:base≤w.heap.size) (hk:k≤80000) :
  Calls prog 35 #[v,.agg #[I_ au,I_ rd,.slice l s r,.slice q y u,.slice d vn z]] w fun e w'=>∃ I,e=.returned I∧w'.ownsRow base 5 1 I (k+(zdW au rd bl pl vl).length) (ub (bs++zdW au rd bl pl vl))∧zR w v w' I:=by
 subst aB;obtain ⟨i,hi,ai,aj,ak⟩:=info_parts zdI;have ah:v.ownBlock≠some w.heap.size:=fun e=>by have:=(o.lt _ e).2;omega
 refine kO_ ?A0 ?_;exact Obj.cells #[I_ au,I_ rd,.slice l s r,.slice q y u,.slice d vl.length z] 59;have N:=zO w ?A0;have R:=zfe base v k bs au rd l s r bl q y u pl _ ha hr Y af X ae V ad (am.below N) (ao.alloc ?A0) (an.below N) (ap.alloc _) (oA_ o _) (zz E _) hk;have aE:=zjM au rd bl pl X ae V ad;clear Y af;go_in;go_wp2_with fail
 refine R.mono ?_;rintro e w1 ⟨v1,rfl,ax,A⟩;have F:=A.row (hN_ w _) ah;have c4:=zb F 4 (.slice d vl.length z) rfl;have az:v1.ownBlock≠some w.heap.size:=fun e=>by
  rcases A.fresh _ e with g|g
  ·exact ah g
  ·rw[zI] at g;omega
 have J:=A.alloc;clear R A;have O:zdW au rd bl pl vl=zaQ au rd bl pl++[(vl.length:Int)]++vl:=rfl;generalize zaQ au rd bl pl=b at *;have HC:Hid (zdW au rd bl pl vl=b++[(vl.length:Int)]++vl):=O;clear O;go_wp2_with (at_builtin;refine wpList_append_own_at _ rfl _ _ 64 rfl base 5 i (.int .u8 0) 1 1 underlying64 hi ai aj ak rfl (by decide) _ (k+b.length) _ rfl (oA_ ax _) ⟨w1.heap.size,0,none⟩ 1 1 [.int .u8 (vl.length:Int)] rfl rfl (z8 _ _ _) (zcU [_]) (by unfold maxLen;omega) (by omega) (zz (nT_ E J.grown.size) _) ?_;intro v2 w2 ab aa _ U;have M:=(zR.of aa U).alloc;have r2:=M.row F az;have d4:C_ w2 w.heap.size 4 (.slice d vl.length z):=zb r2 4 _ rfl)
 have ac:w2.ownsRow base 5 1 v2 (k+b.length+1) (ub (bs++b++[(vl.length:Int)])):=by simpa[ub] using ab
 have L:=J.trans M;clear ab aa U c4 F;go_loopw [21,0] (fun j t wr=>∃ (m:Nat) (C:Value),m≤vl.length∧j=I_ m∧C=t∧wr.ownsRow base 5 1 C (k+b.length+1+m) (ub (bs++b++[(vl.length:Int)]++vl.take m))∧zR w v wr C) (fun j _ _=>vl.length-(intOf j).toNat)
 case atStart=>exact ⟨0,_,nZ_ _,rfl,rfl,by simpa using ac,L⟩
 case round=>
  clear ac L r2 d4;obtain ⟨m,C,hm,rfl,rfl,o,G⟩:=hrel;by_cases hlt:m<vl.length
  ·obtain ⟨c,f,rfl,Z⟩:∃ c f,d=some ⟨c,f,none⟩∧∀ j,j<vl.length→C_ w c (f+j) (I_ (vl.getD j 0)):=by
    rcases hI.cells with h|h
    ·rw[h] at hlt;simp at hlt
    ·exact h
   have D:=Z m hlt;have ck:C_ wr c (f+m) (I_ (vl.getD m 0)):=(cB_ (G.grown.block c (bL_ D) (fun e=>(aw c f rfl).2 e.symm))).trans D;obtain ⟨aC,aD⟩:=aA (vl.getD m 0) (by simp[List.getD,hlt]);have ag:Hid (vl.take (m+1)=vl.take m++[vl.getD m 0]):=by
    show _=_;rw[tS_ hlt];simp only[List.getD,List.getElem?_eq_getElem hlt,Option.getD_some]
   have av:(m:Int)<vl.length:=by omega
   clear Z D;generalize vl.getD m 0=x at ck ag aC aD;have al:base≤wr.heap.size:=nT_ E G.grown.size;go_wp2_with (at_builtin;refine wpList_append_own_at _ rfl _ _ 64 rfl base 5 i (.int .u8 0) 1 1 underlying64 hi ai aj ak rfl (by decide) _ (k+b.length+1+m) _ rfl (oA_ o _) ⟨wr.heap.size,0,none⟩ 1 1 [.int .u8 x] rfl rfl (z8 _ _ _) (zcU [_]) (by unfold maxLen;omega) (by omega) (zz al _) ?_;intro v5 w5 ay ar _ aq)
   go_roundw
   case rel=>
    have T:∃ (B:Nat) (H:Value),B≤vl.length∧(Value.int .i64 ((m:Int)+1))=I_ B∧H=v5∧w5.ownsRow base 5 1 H (k+b.length+1+B) (ub (bs++b++[(vl.length:Int)]++vl.take B))∧zR w v w5 H:=
     ⟨m+1,v5,by omega,by go_num,rfl,by rw[ag.out,←List.append_assoc];exact zqK ay,G.trans (zR.of ar aq).alloc⟩
    first|exact T|((repeat apply Exists.intro);exact ⟨T,rfl⟩)
   case measure=>simp[intOf];omega
  ·obtain rfl:m=vl.length:=by omega
   rw[tL_ (nR_ _)] at o;have av:¬(vl.length:Int)<vl.length:=by omega
   go_wp2_with fail
   go_ret;refine ⟨_,rfl,?_,G⟩;rw[HC.out,show k+(b++[(vl.length:Int)]++vl).length=k+b.length+1+vl.length by simp;omega,show bs++(b++[(vl.length:Int)]++vl)=bs++b++[(vl.length:Int)]++vl by simp];exact o
variable {n:Nat}{bl pl cbl cpl:List zi}{vl:List Int}
def zcj (m:Msg)(ss:List ByteArray)(bl pl cbl cpl:List zi)(ds vl:List Int):List Int:=if m.ki=1 then zbK m.bau m.bnu ss else if m.ki=2 then zaQ m.hau m.hrd bl pl else if m.ki=3 then [m.sau]++rd3 m.srd++ds else if m.ki=4 then zdW m.cau m.crd cbl cpl vl else rd3 m.ro
def zd5 (m:Msg)(ss:List ByteArray)(bl pl cbl cpl:List zi)(ds vl:List Int):List Int:=[m.ki,m.fr,m.tt]++zcj m ss bl pl cbl cpl ds vl
theorem zcg {m:Msg}{e:Int}(h:zL m e=0):(0≤m.fr∧m.fr<4)∧(0≤m.tt∧m.tt<4)∧e=0∧zaj (zZ m)=true:=by
 unfold zL at h
 split at h
 ·cases h
 ·rename_i d
  split at h
  ·rename_i b;exact absurd h b
  ·rename_i b
   split at h
   ·rename_i c
    exact ⟨by omega,by omega,by simpa using b,c⟩
   ·cases h
theorem zgR {m:Msg}{e:Int}(d:0≤m.fr∧m.fr<4)(f:0≤m.tt∧m.tt<4)(b:e=0)(c:zaj (zZ m)=true):zL m e=0:=by
 rw[zL,if_neg (by omega),if_neg (by simp[b]),if_pos c]
theorem zcJ {m:Msg}(h:zB m ss bl pl cbl cpl vl=0):m.ki=1∨m.ki=2∨m.ki=3∨m.ki=4∨m.ki=5:=by
 unfold zB at h
 repeat' split at h
 all_goals first|(cases h;done)|omega
theorem zgl (h:za4 au rd n=0):(0≤au∧au<4)∧(1≤rd∧rd≤1048576)∧n=32:=by
 unfold za4 at h
 split at h
 ·cases h
 ·split at h
  ·cases h
  ·exact ⟨by omega,by omega,by omega⟩
theorem ztl (vl:List Int)(k:Nat)(h:vTo vl k=0):∀ j,j<k→vAt vl j=0:=by
 induction k with
 | zero=>intro j c;omega
 | succ k ih=>
  rw[vTo] at h
  split at h
  ·rename_i b;exact absurd h b
  ·rename_i b
   intro j c;rcases Nat.lt_or_ge j k with g|g
   ·exact ih (by simpa using b) j g
   ·obtain rfl:j=k:=by omega
    exact h
theorem zhC (h:zai au rd bl pl vl=0):zK au rd bl pl=0∧vl.length≤4∧3≤vl.length∧∀ x∈vl,0≤x∧x<4:=by
 unfold zai at h
 split at h
 ·rename_i b;exact absurd h b
 ·rename_i b
  split at h
  ·cases h
  ·rename_i o
   unfold zdN at h
   split at h
   ·rename_i c;exact absurd h c
   ·rename_i c
    split at h
    ·cases h
    ·refine ⟨by simpa using b,by omega,by omega,fun x m=>?_⟩;obtain ⟨j,f,rfl⟩:=List.getElem_of_mem m;have d:=ztl vl vl.length (by simpa using c) j f;rw[vAt] at d
     split at d
     ·cases d
     ·rename_i g
      have l:vl.getD j 0=vl[j]:=by simp[List.getD,f]
      rw[l] at g;omega
theorem zg7 {m:Msg}(h:m.ki=1)(ss:List ByteArray)(bl pl cbl cpl:List zi)(ds vl:List Int):zcj m ss bl pl cbl cpl ds vl=zbK m.bau m.bnu ss:=by simp[zcj,h]
theorem zg8 {m:Msg}(h:m.ki=2)(ss:List ByteArray)(bl pl cbl cpl:List zi)(ds vl:List Int):zcj m ss bl pl cbl cpl ds vl=zaQ m.hau m.hrd bl pl:=by simp[zcj,h]
theorem zg9 {m:Msg}(h:m.ki=3)(ss:List ByteArray)(bl pl cbl cpl:List zi)(ds vl:List Int):zcj m ss bl pl cbl cpl ds vl=[m.sau]++rd3 m.srd++ds:=by simp[zcj,h]
theorem zha {m:Msg}(h:m.ki=4)(ss:List ByteArray)(bl pl cbl cpl:List zi)(ds vl:List Int):zcj m ss bl pl cbl cpl ds vl=zdW m.cau m.crd cbl cpl vl:=by simp[zcj,h]
theorem zhb {m:Msg}(h:m.ki=5)(ss:List ByteArray)(bl pl cbl cpl:List zi)(ds vl:List Int):zcj m ss bl pl cbl cpl ds vl=rd3 m.ro:=by simp[zcj,h]
theorem zhD {m:Msg}(h:m.ki=1)(ss:List ByteArray)(bl pl cbl cpl:List zi)(vl:List Int):zB m ss bl pl cbl cpl vl=zba m.bau m.bnu ss:=by simp[zB,h]
theorem zhE {m:Msg}(h:m.ki=2)(ss:List ByteArray)(bl pl cbl cpl:List zi)(vl:List Int):zB m ss bl pl cbl cpl vl=zK m.hau m.hrd bl pl:=by simp[zB,h]
theorem zhF {m:Msg}(h:m.ki=3)(ss:List ByteArray)(bl pl cbl cpl:List zi)(vl:List Int):zB m ss bl pl cbl cpl vl=za4 m.sau m.srd m.sdn:=by simp[zB,h]
theorem zhG {m:Msg}(h:m.ki=4)(ss:List ByteArray)(bl pl cbl cpl:List zi)(vl:List Int):zB m ss bl pl cbl cpl vl=zai m.cau m.crd cbl cpl vl:=by simp[zB,h]
theorem zmR {m:Msg}(h:m.ki=5)(ss:List ByteArray)(bl pl cbl cpl:List zi)(vl:List Int):zB m ss bl pl cbl cpl vl=if 1≤m.ro∧m.ro≤1048576 then 0 else 2:=by simp[zB,h]
theorem zjN {m:Msg}{ds:List Int}(o:m.sdn=ds.length)(h:zB m ss bl pl cbl cpl vl=0):(zcj m ss bl pl cbl cpl ds vl).length≤320:=by
 rcases zcJ h with k|k|k|k|k
 ·rw[zhD k] at h;obtain ⟨_,_,c,b⟩:=zim h;have:=zkN ss (fun s j=>(b s j).2);rw[zg7 k];simp[zbK,rd3];omega
 ·rw[zhE k] at h;obtain ⟨_,_,c,b,d,f⟩:=za7 h;have:=zjM m.hau m.hrd bl pl (by omega) b d f;rw[zg8 k];omega
 ·rw[zhF k] at h;obtain ⟨_,_,c⟩:=zgl h;rw[zg9 k];simp[rd3];omega
 ·rw[zhG k] at h;obtain ⟨g,l,_,_⟩:=zhC h;obtain ⟨_,_,c,b,d,f⟩:=za7 g;have:=zjM m.cau m.crd cbl cpl (by omega) b d f;rw[zha k];simp[zdW];omega
 ·rw[zhb k];simp[rd3]
def MV.bytes (x:MV):List Int:=zd5 x.m x.ss x.bl x.pl x.cbl x.cpl x.ds x.vl
theorem zaK.check {x:MV}(h:zaK x):zL x.m x.car=0:=zgR (by rw[h.fr];omega) (by rw[h.tt];omega) h.car h.emp
end Go.Proofs.YtdepbohhmfkjgaaGreatDoor
