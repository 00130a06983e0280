import Derived.Test.YtpnpikpmdfipfaaGreatDoorPk5
set_option maxRecDepth 100000
set_option maxHeartbeats 4000000
namespace Go.Proofs.YtpnpikpmdfipfaaGreatDoor
open Go.RowKit Tryz
variable {ss:Z_}{k:Nat}
theorem ziK (s:ByteArray)(w:World)(f:s.size<=maxLen) :
  Calls prog 59 #[.string s] w λe w'=>e=.returned (.bool (zbM s))/\w=w':=by
 unfold maxLen at f;by_cases h1:1<=s.size
 .have c:(1:Int)<=s.size:=by omega
  by_cases h2:s.size<=20;have d:(s.size:Int)<=20:=by omega
  have b:Hid (zbM s=true):=by show _=_;simp[zbM,h1,h2]
  rotate_left
  have d:¬(s.size:Int)<=20:=by omega
  have b:Hid (zbM s=false):=by show _=_;simp[zbM,h2]
  rotate_left
  all_goals
   go_in;go_wp2_with fail
   go_ret;exact⟨zN b.out.symm,rfl⟩
 have c:¬(1:Int)<=s.size:=by omega
 have b:Hid (zbM s=false):=by show _=_;simp[zbM,h1]
 go_in;go_wp2_with fail
 go_ret;exact⟨zN b.out.symm,rfl⟩
theorem ztt (h:k<ss.length):ss.take (k+1)=ss.take k++[ss.getD k ByteArray.empty]:=by
 rw[tS_ h];simp[List.getD,h]
theorem ztu (ss:Z_)(j:Q_)(n l:Nat)(s:ByteArray)(w:World)(q:n=ss.length)(p:n<=maxLen)(f:zas w j ss) :
  Calls prog 104 #[.slice j n l,.string s] w λe w'=>∃r:Int,e=.returned (I_ r)/\(0<=r↔s∈ss)/\w=w':=by
 subst q;unfold maxLen at p;go_in;go_wp2_with fail
 go_loop [8] (λi=>∃k:Nat,k<=ss.length/\i=I_ k/\Hid (s ∉ ss.take k)) (λi=>ss.length-(intOf i).toNat)
 case atStart=>exact⟨0,nZ_ _,rfl,by show ¬_;simp⟩
 case round=>
  obtain⟨k,z,rfl,d⟩:=hrel;by_cases hlt:k<ss.length
  .rcases f.cells with b|⟨B,C,rfl,b⟩;subst b;simp at hlt;have A:(k:Int)<ss.length:=by omega
   have y:=b k hlt;have u:Hid (ss.take (k+1)=ss.take k++[ss.getD k ByteArray.empty]):=ztt hlt;have o:Hid (ss.getD k ByteArray.empty∈ss):=by show _∈_;rw[zif hlt];exact gM_ hlt
   clear b f;generalize ss.getD k ByteArray.empty=x at*;by_cases he:s.toList=x.toList
   .have c:Hid (s=x):=zhf he;have m:(s.toList == x.toList)=true:=by simp[he]
    clear he;go_wp2_with fail
    go_ret;exact⟨(k:Int),rfl,⟨λ_=>by rw[c.out];exact o.out,λ_=>by omega⟩,rfl⟩
   have c:Hid (s ∉ ss.take (k+1)):=by
    show ¬_;rw[u.out];intro h;rcases mA_.1 h with g|g;exact d.out g;exact he (by rw[show s=x by simpa using g])
   have m:(s.toList == x.toList)=false:=by simp[he]
   clear he;go_wp2_with fail
   go_round
   case rel=>exact⟨k+1,by omega,by go_num,c⟩
   case measure=>simp[intOf];omega
  obtain rfl:k=ss.length:=by omega
  have t:Hid (s ∉ ss):=by have:=d.out;rwa [tL_ (nR_ _)]at this
  go_wp2_with fail
  go_ret;exact⟨-1,rfl,⟨λh=>by omega,λh=>absurd h t.out⟩,rfl⟩
theorem zjO (ss:Z_)(f:Q_)(n l:Nat)(s:ByteArray)(w:World)(o:n=ss.length)(m:n<=maxLen)(p:zas w f ss) :
  Calls prog 60 #[.slice f n l,.string s] w λe w'=>e=.returned (.bool (inS s ss))/\w=w':=by
 have j:=ztu ss f n l s w o m p;clear o m p;by_cases h:s∈ss;have c:Hid (inS s ss=true):=zon h
 rotate_left
 have c:Hid (inS s ss=false):=zm2 h
 rotate_left
 all_goals
  go_in;go_wp2_with fail
  refine j.mono ?_;rintro e t⟨r,d,b,rfl⟩;subst d;dsimp only
 have q:=b.2 h
 rotate_left
 have q:¬0<=r:=λg=>h (b.1 g)
 rotate_left
 all_goals
  clear b;go_wp2_with fail
  go_ret;exact⟨zN c.out.symm,rfl⟩
def zdK (ss:Z_)(t:ByteArray):Int:=if zbM t=false then 1 else if inS t ss=true then 7 else if 40<=ss.length then 6 else 0
def zcV (nx:Int)(ss:Z_)(au:Int):Int:=if ¬(0<=au/\au<4)then 2 else if ss.length=0 then 8 else if 1048576<nx then 6 else 0
theorem zrA (nx:Int)(f:Q_)(n d:Nat)(ss:Z_)(t:ByteArray)(w:World)(m:n=ss.length)(o:zbu w f d ss)(r:t.size<=maxLen) :
  Calls prog 39 #[.agg #[I_ nx,.slice f n d],.string t] w λe w'=>e=.returned (I_ (zdK ss t))/\B_ w w':=by
 have s:=o.le;have q:=o.max;refine kO_ ?A0 ?_;exact Obj.cells #[I_ nx,.slice f n d] 55;have l:=(bR_ w.heap.size w).alloc (nR_ _) ?A0;have c:=ziK t (w.alloc ?A0) r;have j:=zjO ss f n d t (w.alloc ?A0) m (by omega) (o.strs.below l);unfold maxLen at q;cases h1:zbM t with
 | false=>
  have b:Hid (zdK ss t=1):=by show _=_;rw[zdK,iP_ h1]
  rw[h1]at c;clear h1 m;go_in;go_wp2_with (go_at_call 59;refine c.mono ?_;rintro e g⟨rfl,rfl⟩)
  go_ret;exact⟨zt b.out.symm,l⟩
 | true=>
  rw[h1]at c;cases h2:inS t ss with
  | true=>
   have b:Hid (zdK ss t=7):=by show _=_;rw[zdK,iN_ (by simp[h1]),iP_ h2]
   rw[h2]at j;clear h1 h2 m;go_in;go_wp2_with (first|(go_at_call 59;refine c.mono ?_;rintro e g⟨rfl,rfl⟩)|(go_at_call 60;refine j.mono ?_;rintro e g⟨rfl,rfl⟩))
   go_ret;exact⟨zt b.out.symm,l⟩
  | false=>
   rw[h2]at j;by_cases h3:40<=n;have b:Hid (zdK ss t=6):=by show _=_;rw[zdK,iN_ (by simp[h1]),iN_ (by simp[h2]),iP_ (by omega)]
   have p:(40:Int)<=n:=by omega
   rotate_left
   have b:Hid (zdK ss t=0):=by show _=_;rw[zdK,iN_ (by simp[h1]),iN_ (by simp[h2]),iN_ (by omega)]
   have p:¬(40:Int)<=n:=by omega
   rotate_left
   all_goals
    clear h1 h2 m;go_in;go_wp2_with (first|(go_at_call 59;refine c.mono ?_;rintro e g⟨rfl,rfl⟩)|(go_at_call 60;refine j.mono ?_;rintro e g⟨rfl,rfl⟩))
    go_ret;exact⟨zt b.out.symm,l⟩
theorem ztv (nx:Int)(g:Q_)(n f:Nat)(ss:Z_)(au:Int)(w:World)(d:n=ss.length)(j:n<=maxLen) :
  Calls prog 119 #[.agg #[I_ nx,.slice g n f],I_ au] w λe w'=>e=.returned (I_ (zcV nx ss au))/\B_ w w':=by
 have c:=(bR_ w.heap.size w).alloc (nR_ _) (.cells #[I_ nx,.slice g n f] 55);unfold maxLen at j;by_cases h0:au<0;have b:Hid (zcV nx ss au=2):=by show _=_;rw[zcV,iP_ (by omega)]
 clear d
 rotate_left
 by_cases h1:4<=au;have b:Hid (zcV nx ss au=2):=by show _=_;rw[zcV,iP_ (by omega)]
 clear d
 rotate_left
 by_cases h2:n=0;have b:Hid (zcV nx ss au=8):=by show _=_;rw[zcV,iN_ (by omega),iP_ (by omega)]
 clear d;subst h2
 rotate_left
 have l:((n:Int) == 0)=false:=beq_eq_false_iff_ne.2 (by omega);by_cases h3:1048576<nx;have b:Hid (zcV nx ss au=6):=by show _=_;rw[zcV,iN_ (by omega),iN_ (by omega),iP_ h3]
 clear d
 rotate_left
 have b:Hid (zcV nx ss au=0):=by show _=_;rw[zcV,iN_ (by omega),iN_ (by omega),iN_ h3]
 clear d
 rotate_left
 all_goals
  go_in;go_wp2_with fail
  go_ret;exact⟨zt b.out.symm,c⟩
variable {w w':World}{au:Int}{t:ByteArray}
theorem zkH (nx:Int)(ss:Z_):zaO nx ss=0\/zaO nx ss=12:=by
 unfold zaO;split;exact .inr rfl
 split
 exact .inl rfl;exact .inr rfl
def zcD (nx:Int)(ss:Z_)(t:ByteArray):Int:=if zaO nx ss=0 then zdK ss t else 12
def zk3 (nx:Int)(ss:Z_)(t:ByteArray):Z_:=if zcD nx ss t=0 then ss++[t]else []
def zmh (nx:Int)(ss:Z_)(t:ByteArray):Int:=if zcD nx ss t=0 then nx else 0
def zb4 (nx:Int)(ss:Z_)(au:Int):Int:=if zaO nx ss=0 then zcV nx ss au else 12
def zlx (nx:Int)(ss:Z_)(au:Int):Z_:=if zb4 nx ss au=0 then ss.take 4 else []
def zly (nx:Int)(ss:Z_)(au:Int):Z_:=if zb4 nx ss au=0 then ss.drop 4 else []
def znX (nx:Int)(ss:Z_)(au:Int):Int:=if zb4 nx ss au=0 then nx+1 else 0
def znY (nx:Int)(ss:Z_)(au:Int):Int:=if zb4 nx ss au=0 then au else 0
def zlz (nx:Int)(ss:Z_)(au:Int):Int:=if zb4 nx ss au=0 then nx else 0
structure zgu (w w':World)(e:Ending)(nx:Int)(ss:Z_)(t:ByteArray):Prop where
 out:∃v,e=.returned (.tuple #[.agg #[I_ (zmh nx ss t),v],I_ (zcD nx ss t)])/\w'.ownsRow w.heap.size 9 1 v (zk3 nx ss t).length (sv (zk3 nx ss t))/\B_ w w'
theorem zgu.bad {nx b:Int}(d:zcD nx ss t=b)(c:b≠0)(f:B_ w w'):zgu w w' (.returned (.tuple #[.agg #[I_ 0,O_],I_ b])) nx ss t:=by
 subst d;refine⟨O_,?_,?_,f⟩;rw[zmh,iN_ c];rw[zk3,iN_ c];exact oN_ _ _ _ _
theorem zgu.good {nx:Int}{v:Value}(b:zcD nx ss t=0)(d:k=ss.length+1)(f:w'.ownsRow w.heap.size 9 1 v k (sv (ss++[t])))(c:B_ w w'):zgu w w' (.returned (.tuple #[.agg #[I_ nx,v],I_ 0])) nx ss t:=by
 subst d;refine⟨v,?_,?_,c⟩;rw[zmh,iP_ b,b];rw[zk3,iP_ b,lP_];exact f
structure zfN (w w':World)(e:Ending)(nx:Int)(ss:Z_)(au:Int):Prop where
 out:∃v u,e=.returned (.tuple #[.agg #[I_ (znX nx ss au),v],.agg #[I_ (znY nx ss au),I_ (zlz nx ss au),u],I_ (zb4 nx ss au)])/\w'.ownsRow w.heap.size 9 1 v (zly nx ss au).length (sv (zly nx ss au))/\w'.ownsRow w.heap.size 9 1 u (zlx nx ss au).length (sv (zlx nx ss au))/\B_ w w'
theorem zfN.bad {nx c:Int}(d:zb4 nx ss au=c)(b:c≠0)(f:B_ w w'):zfN w w' (.returned (.tuple #[.agg #[I_ 0,O_],.agg #[I_ 0,I_ 0,O_],I_ c])) nx ss au:=by
 subst d;refine⟨O_,O_,?_,?_,?_,f⟩;rw[znX,znY,zlz,iN_ b,iN_ b,iN_ b];rw[zly,iN_ b];exact oN_ _ _ _ _;rw[zlx,iN_ b];exact oN_ _ _ _ _
theorem zfN.good {nx:Int}{v u:Value}{m:Nat}(b:zb4 nx ss au=0)(d:k=(ss.drop 4).length)(f:m=(ss.take 4).length)(g:w'.ownsRow w.heap.size 9 1 v k (sv (ss.drop 4)))(j:w'.ownsRow w.heap.size 9 1 u m (sv (ss.take 4)))(c:B_ w w'):zfN w w' (.returned (.tuple #[.agg #[I_ (nx+1),v],.agg #[I_ au,I_ nx,u],I_ 0])) nx ss au:=by
 subst d f;refine⟨v,u,?_,?_,?_,c⟩;rw[znX,znY,zlz,iP_ b,iP_ b,iP_ b,b];rw[zly,iP_ b];exact g;rw[zlx,iP_ b];exact j
theorem zvv {nx:Int}(h:zaO nx ss≠0):zcD nx ss t=12:=by rw[zcD,iN_ h]
theorem zm3 {nx:Int}(h:zaO nx ss=0):zcD nx ss t=zdK ss t:=by rw[zcD,iP_ h]
theorem zm4 {nx:Int}(h:zaO nx ss≠0):zb4 nx ss au=12:=by rw[zb4,iN_ h]
theorem zlA {nx:Int}(h:zaO nx ss=0):zb4 nx ss au=zcV nx ss au:=by rw[zb4,iP_ h]
theorem zjP {nx:Int}(h:zaO nx ss=0):1<=nx/\nx<=1048577/\ss.length<=40/\zen ss=true:=by
 unfold zaO at h
 split at h
 cases h
 rename_i c
 split at h
 rename_i b
 exact⟨by omega,by omega,by omega,b⟩;cases h
variable {rd:Int}
theorem zox (l:List CV)(c:CV)(au rd:Int):cOf (l++[c]) au rd=if 0<=cOf l au rd then cOf l au rd else if c.au=au/\c.rd=rd then(l.length:Int)else -1:=by
 have b:zaC (zfp (l++[c]) au rd) l.length=zaC (zfp l au rd) l.length:=zrB _ _ _ (λj f=>by
  have e:zaM (l++[c]) j=zaM l j:=by simp[zaM,List.getD,List.getElem?_append_left f]
  rw[zfp,zfp,e])
 have d:zfp (l++[c]) au rd l.length=decide (c.au=au/\c.rd=rd):=by
  have e:zaM (l++[c]) l.length=c:=by simp[zaM]
  rw[zfp,e]
 rw[cOf,show(l++[c]).length=l.length+1 by simp,zaC,b,d];show(if 0<=cOf l au rd then cOf l au rd else _)=_;simp only[dE_]
theorem zml (l:List CV)(r:Int):(dgF l r).length=(if 0<=cOf l 0 r then 1 else 0)+(if 0<=cOf l 1 r then 1 else 0)+(if 0<=cOf l 2 r then 1 else 0)+(if 0<=cOf l 3 r then 1 else 0):=by
 have h:∀n:Nat,(zc6 l r (n+1)).length=(zc6 l r n).length+(if 0<=cOf l (n:Int) r then 1 else 0):=λn=>by
  rw[zc6]
  split<;>simp
 rw[dgF,h 3,h 2,h 1,h 0];simp[zc6]
def zhn (l:List CV)(r:Int):Nat:=(l.filter λc=>decide (c.rd=r)).length
theorem zjQ (l:List CV)(c:CV)(r:Int):zhn (l++[c]) r=zhn l r+(if c.rd=r then 1 else 0):=by
 simp only[zhn,List.filter_append,lP_];by_cases h:c.rd=r<;>simp[h]
theorem zw8 (l:List CV)(c:CV)(r:Int)(h:cOf l c.au c.rd<0)(m:0<=c.au/\c.au<4):(dgF (l++[c]) r).length=(dgF l r).length+(if c.rd=r then 1 else 0):=by
 have d:∀a:Int,(if 0<=cOf (l++[c]) a r then 1 else 0:Nat)=(if 0<=cOf l a r then 1 else 0)+(if c.au=a/\c.rd=r then 1 else 0):=λa=>by
  rw[zox];by_cases h1:0<=cOf l a r;have b:¬(c.au=a/\c.rd=r):=λ⟨f,g⟩=>by rw[f,g]at h;omega
  simp[h1,b];by_cases b:c.au=a/\c.rd=r;rw[iN_ h1,iP_ b,iN_ h1,iP_ b,iP_ (by omega)];rw[iN_ h1,iN_ b,iN_ h1,iN_ b,iN_ (by decide)]
 rw[zml,zml,d,d,d,d];by_cases hr:c.rd=r;have j:c.au=0\/c.au=1\/c.au=2\/c.au=3:=by omega
 rcases j with e|e|e|e<;>simp[e,hr]<;>omega;simp[hr]
theorem zvy {c:CV}(h:c.f=0):0<=c.au/\c.au<4:=(zbi (zfO (vl:=c.vl) h)).1
theorem zoy {l:List CV}{pl:List (L_)}(h:zfc l au rd pl=0):cOf l au rd<0:=by
 rw[zfc]at h
 split at h
 cases h;omega
theorem zoz {l:List CV}(h:zbV l=0)(r:Int)(k:Nat)(d:k<=l.length):(dgF (l.take k) r).length=zhn (l.take k) r:=by
 induction k with
 | zero=>rw[List.take_zero,zml];rfl
 | succ k ih=>
  have c:k<l.length:=by omega
  have b:=(zgw h).2 k c;simp only[zgH,Bool.or_eq_false_iff,decide_eq_false_iff_not,ne_eq,Decidable.not_not]at b;have e:l.take (k+1)=l.take k++[zaM l k]:=by
   rw[tS_ c];simp[zaM,c]
  rw[e,zw8 _ _ _ (zoy b.2) (zvy b.1),zjQ,ih (by omega)]
theorem zqQ {l:List CV}(h:zbV l=0)(r:Int):(dgF l r).length=zhn l r:=by
 have:=zoz h r l.length (nR_ _)
 rwa [List.take_length]at this
def za8 (l:List CV)(c:CV):Int:=if c.f≠0 then c.f else if zfc l c.au c.rd c.pl≠0 then zfc l c.au c.rd c.pl else if 400<=l.length then 6 else 0
theorem zg5 {l:List CV}{c:CV}(h:za8 l c=0):c.f=0/\zfc l c.au c.rd c.pl=0/\l.length<400:=by
 rw[za8]at h;by_cases h1:c.f=0;rw[iN_ (λg=>g h1)]at h;by_cases h2:zfc l c.au c.rd c.pl=0;rw[iN_ (λg=>g h2)]at h;by_cases h3:400<=l.length;rw[iP_ h3]at h;cases h;exact⟨h1,h2,by omega⟩;rw[iP_ h2]at h;exact absurd h h2;rw[iP_ h1]at h;exact absurd h h1
theorem zvz {l:List CV}(h:∀k,k<l.length->za8 (l.take k) (zaM l k)=0):zbV l=0:=by
 have f:∀k,k<l.length->zgH l k=false:=λk j=>by
  obtain⟨b,c,_⟩:=zg5 (h k j);simp[zgH,b,c]
 refine zw6 l ?_ f;rcases lG_ 400 l.length with g|g;obtain⟨_,_,d⟩:=zg5 (h 400 g);rw[lT9_]at d;omega;exact g
theorem zk6 (au rd:Int)(bl pl:List zi)(g:bl.length<=4)(j:pl.length<=4)(b:∀p∈bl,p.bs.length=32)(c:∀p∈pl,p.bs.length=32):(zaZ au rd bl pl).length<=300:=by
 have d:=zdY bl b;have f:=zdY pl c;simp[zaZ,rd3,zbh];omega
def zeE (au rd:Int)(bl pl:List zi)(vl:L_):L_:=zaZ au rd bl pl++[(vl.length:Int)]++vl
theorem zoA (base:Nat)(v:Value)(k:Nat)(bs:L_)(au rd:Int)(l:Q_)(s r:Nat)(bl:List zi)(q:Q_)(y u:Nat)(pl:List zi)(d:Q_)(vn z:Nat)(vl:L_)(w:World)(ha:0<=au/\au<4)(hr:0<=rd/\rd<=1048576)(Y:s=bl.length)(af:y=pl.length)(aB:vn=vl.length)(X:bl.length<=4)(ae:pl.length<=4)(aF:vl.length<=4)(V:∀p∈bl,p.bs.length=32)(ad:∀p∈pl,p.bs.length=32)(aA:∀x∈vl,0<=x/\x<4)
  (am:zx w l r bl) (ao:zfo w v l bl) (an:zx w q u pl) (ap:zfo w v q pl) (hI:zax w d vl) (aw:∀c f,d=some (p_ c f)->c<w.heap.size/\v.ownBlock≠some c)
  (o:w.ownsRow base 5 1 v k (ub bs)) (E:base<=w.heap.size) (hk:k<=80000) :
  Calls prog 229 #[v,.agg #[I_ au,I_ rd,.slice l s r,.slice q y u,.slice d vn z]] w λe w'=>∃I,e=.returned I/\w'.ownsRow base 5 1 I (k+(zeE au rd bl pl vl).length) (ub (bs++zeE au rd bl pl vl))/\zV w v w' I:=by
 subst aB;obtain⟨i,hi,ai,aj,ak⟩:=info_parts zek;have ah:v.ownBlock≠some w.heap.size:=λe=>by have:=(o.lt _ e).2;omega
 refine kO_ ?A0 ?_;exact Obj.cells #[I_ au,I_ rd,.slice l s r,.slice q y u,.slice d vl.length z] 88;have N:=zC w ?A0;have R:=zf8 base v k bs au rd l s r bl q y u pl _ ha hr Y af X ae V ad (am.below N) (ao.alloc ?A0) (an.below N) (ap.alloc _) (oA_ o _) (zB E _) hk;have aE:=zk6 au rd bl pl X ae V ad;clear Y af;go_in;go_wp2_with fail
 refine R.mono ?_;rintro e w1⟨v1,rfl,ax,A⟩;have F:=A.row (hN_ w _) ah;have c4:=zb F 4 (.slice d vl.length z) rfl;have az:v1.ownBlock≠some w.heap.size:=λe=>by
  rcases A.fresh _ e with g|g;exact ah g;rw[zG]at g;omega
 have J:=A.alloc;clear R A;have O:zeE au rd bl pl vl=zaZ au rd bl pl++[(vl.length:Int)]++vl:=rfl;generalize zaZ au rd bl pl=b at*;have HC:Hid (zeE au rd bl pl vl=b++[(vl.length:Int)]++vl):=O;clear O;go_wp2_with (at_builtin;refine wpList_append_own_at _ rfl _ _ 61 rfl base 5 i (.int .u8 0) 1 1 underlying61 hi ai aj ak rfl (by decide) _ (k+b.length) _ rfl (oA_ ax _) (p_ w1.heap.size 0) 1 1 [.int .u8 (vl.length:Int)] rfl rfl (zag _ _ _) (zds [_]) (by unfold maxLen;omega) (by omega) (zB (nT_ E J.grown.size) _) ?_;intro v2 w2 ab aa _ U;have M:=(zV.of aa U).alloc;have r2:=M.row F az;have d4:C_ w2 w.heap.size 4 (.slice d vl.length z):=zb r2 4 _ rfl)
 have ac:w2.ownsRow base 5 1 v2 (k+b.length+1) (ub (bs++b++[(vl.length:Int)])):=by simpa[ub]using ab
 have L:=J.trans M;clear ab aa U c4 F;go_loopw [21,0] (λj t wr=>∃(m:Nat) (C:Value),m<=vl.length/\j=I_ m/\C=t/\wr.ownsRow base 5 1 C (k+b.length+1+m) (ub (bs++b++[(vl.length:Int)]++vl.take m))/\zV w v wr C) (λj _ _=>vl.length-(intOf j).toNat)
 case atStart=>exact⟨0,_,nZ_ _,rfl,rfl,by simpa using ac,L⟩
 case round=>
  clear ac L r2 d4;obtain⟨m,C,hm,rfl,rfl,o,G⟩:=hrel;by_cases hlt:m<vl.length
  .obtain⟨c,f,rfl,Z⟩:∃c f,d=some (p_ c f)/\∀j,j<vl.length->C_ w c (f+j) (I_ (vl.getD j 0)):=by
    rcases hI.cells with h|h;rw[h]at hlt;simp at hlt;exact h
   have D:=Z m hlt;have ck:=(cB_ (G.grown.block c (bL_ D) (λe=>(aw c f rfl).2 e.symm))).trans D;obtain⟨aC,aD⟩:=aA (vl.getD m 0) (by simp[List.getD,hlt]);have ag:Hid (vl.take (m+1)=vl.take m++[vl.getD m 0]):=by
    show _=_;rw[tS_ hlt];simp only[List.getD,List.getElem?_eq_getElem hlt,Option.getD_some]
   have av:(m:Int)<vl.length:=by omega
   clear Z D;generalize vl.getD m 0=x at ck ag aC aD;have al:=nT_ E G.grown.size;go_wp2_with (at_builtin;refine wpList_append_own_at _ rfl _ _ 61 rfl base 5 i (.int .u8 0) 1 1 underlying61 hi ai aj ak rfl (by decide) _ (k+b.length+1+m) _ rfl (oA_ o _) (p_ wr.heap.size 0) 1 1 [.int .u8 x] rfl rfl (zag _ _ _) (zds [_]) (by unfold maxLen;omega) (by omega) (zB al _) ?_;intro v5 w5 ay ar _ aq)
   go_roundw
   case rel=>
    have T:∃(B:Nat) (H:Value),B<=vl.length/\(Value.int .i64 ((m:Int)+1))=I_ B/\H=v5/\w5.ownsRow base 5 1 H (k+b.length+1+B) (ub (bs++b++[(vl.length:Int)]++vl.take B))/\zV w v w5 H:=
     ⟨m+1,v5,by omega,by go_num,rfl,by rw[ag.out,<-List.append_assoc];exact zsZ ay,G.trans (zV.of ar aq).alloc⟩
    first|exact T|((repeat apply Exists.intro);exact⟨T,rfl⟩)
   case measure=>simp[intOf];omega
  obtain rfl:m=vl.length:=by omega
  rw[tL_ (nR_ _)]at o;have av:¬(vl.length:Int)<vl.length:=by omega
  go_wp2_with fail
  go_ret;refine⟨_,rfl,?_,G⟩;rw[HC.out,show k+(b++[(vl.length:Int)]++vl).length=k+b.length+1+vl.length by simp;omega,show bs++(b++[(vl.length:Int)]++vl)=bs++b++[(vl.length:Int)]++vl by simp];exact o
variable {n:Nat}{vl:L_}{pl bl cbl cpl:List zi}
def zcG (m:Msg)(ss:Z_)(bl pl cbl cpl:List zi)(ds vl:L_):L_:=if m.ki=1 then zbY m.bau m.bnu ss else if m.ki=2 then zaZ m.hau m.hrd bl pl else if m.ki=3 then [m.sau]++rd3 m.srd++ds else if m.ki=4 then zeE m.cau m.crd cbl cpl vl else rd3 m.ro
def zeL (m:Msg)(ss:Z_)(bl pl cbl cpl:List zi)(ds vl:L_):L_:=[m.ki,m.fr,m.tt]++zcG m ss bl pl cbl cpl ds vl
theorem zcB {m:Msg}{e:Int}(h:zP m e=0):(0<=m.fr/\m.fr<4)/\(0<=m.tt/\m.tt<4)/\e=0/\zaq (zab m)=true:=by
 unfold zP at h
 split at h
 cases h
 rename_i d
 split at h
 rename_i b;exact absurd h b
 rename_i b
 split at h
 rename_i c
 exact⟨by omega,by omega,by simpa using b,c⟩;cases h
theorem zh0 {m:Msg}{e:Int}(d:0<=m.fr/\m.fr<4)(f:0<=m.tt/\m.tt<4)(b:e=0)(c:zaq (zab m)=true):zP m e=0:=by
 rw[zP,iN_ (by omega),iN_ (by simp[b]),iP_ c]
theorem zc7 {m:Msg}(h:zD m ss bl pl cbl cpl vl=0):m.ki=1\/m.ki=2\/m.ki=3\/m.ki=4\/m.ki=5:=by
 unfold zD at h
 repeat' split at h
 all_goals first|(cases h;done)|omega
theorem zho (h:zbf au rd n=0):(0<=au/\au<4)/\(1<=rd/\rd<=1048576)/\n=32:=by
 unfold zbf at h
 split at h
 cases h
 split at h
 cases h;exact⟨by omega,by omega,by omega⟩
theorem zvB (vl:L_)(k:Nat)(h:vTo vl k=0):∀j,j<k->vAt vl j=0:=by
 induction k with
 | zero=>intro j c;omega
 | succ k ih=>
  rw[vTo]at h
  split at h
  rename_i b;exact absurd h b
  rename_i b
  intro j c;rcases lG_ j k with g|g;exact ih (by simpa using b) j g;obtain rfl:j=k:=by omega
  exact h
theorem ziN (h:zap au rd bl pl vl=0):zO au rd bl pl=0/\vl.length<=4/\3<=vl.length/\∀x∈vl,0<=x/\x<4:=by
 unfold zap at h
 split at h
 rename_i b;exact absurd h b
 rename_i b
 split at h
 cases h
 rename_i o
 unfold zep at h
 split at h
 rename_i c;exact absurd h c
 rename_i c
 split at h
 cases h;refine⟨by simpa using b,by omega,by omega,λx m=>?_⟩;obtain⟨j,f,rfl⟩:=List.getElem_of_mem m;have d:=zvB vl vl.length (by simpa using c) j f;rw[vAt]at d
 split at d
 cases d
 rename_i g
 have l:vl.getD j 0=vl[j]:=by simp[List.getD,f]
 rw[l]at g;omega
theorem zig {m:Msg}(h:m.ki=1)(ss:Z_)(bl pl cbl cpl:List zi)(ds vl:L_):zcG m ss bl pl cbl cpl ds vl=zbY m.bau m.bnu ss:=by simp[zcG,h]
theorem zih {m:Msg}(h:m.ki=2)(ss:Z_)(bl pl cbl cpl:List zi)(ds vl:L_):zcG m ss bl pl cbl cpl ds vl=zaZ m.hau m.hrd bl pl:=by simp[zcG,h]
theorem zii {m:Msg}(h:m.ki=3)(ss:Z_)(bl pl cbl cpl:List zi)(ds vl:L_):zcG m ss bl pl cbl cpl ds vl=[m.sau]++rd3 m.srd++ds:=by simp[zcG,h]
theorem zij {m:Msg}(h:m.ki=4)(ss:Z_)(bl pl cbl cpl:List zi)(ds vl:L_):zcG m ss bl pl cbl cpl ds vl=zeE m.cau m.crd cbl cpl vl:=by simp[zcG,h]
theorem zik {m:Msg}(h:m.ki=5)(ss:Z_)(bl pl cbl cpl:List zi)(ds vl:L_):zcG m ss bl pl cbl cpl ds vl=rd3 m.ro:=by simp[zcG,h]
theorem ziO {m:Msg}(h:m.ki=1)(ss:Z_)(bl pl cbl cpl:List zi)(vl:L_):zD m ss bl pl cbl cpl vl=zbk m.bau m.bnu ss:=by simp[zD,h]
theorem ziP {m:Msg}(h:m.ki=2)(ss:Z_)(bl pl cbl cpl:List zi)(vl:L_):zD m ss bl pl cbl cpl vl=zO m.hau m.hrd bl pl:=by simp[zD,h]
theorem ziQ {m:Msg}(h:m.ki=3)(ss:Z_)(bl pl cbl cpl:List zi)(vl:L_):zD m ss bl pl cbl cpl vl=zbf m.sau m.srd m.sdn:=by simp[zD,h]
theorem ziR {m:Msg}(h:m.ki=4)(ss:Z_)(bl pl cbl cpl:List zi)(vl:L_):zD m ss bl pl cbl cpl vl=zap m.cau m.crd cbl cpl vl:=by simp[zD,h]
theorem zoB {m:Msg}(h:m.ki=5)(ss:Z_)(bl pl cbl cpl:List zi)(vl:L_):zD m ss bl pl cbl cpl vl=if 1<=m.ro/\m.ro<=1048576 then 0 else 2:=by simp[zD,h]
theorem zk7 {m:Msg}{ds:L_}(o:m.sdn=ds.length)(h:zD m ss bl pl cbl cpl vl=0):(zcG m ss bl pl cbl cpl ds vl).length<=320:=by
 rcases zc7 h with k|k|k|k|k;rw[ziO k]at h;obtain⟨_,_,c,b⟩:=zjR h;have:=zmm ss (λs j=>(b s j).2);rw[zig k];simp[zbY,rd3];omega;rw[ziP k]at h;obtain⟨_,_,c,b,d,f⟩:=zbi h;have:=zk6 m.hau m.hrd bl pl (by omega) b d f;rw[zih k];omega;rw[ziQ k]at h;obtain⟨_,_,c⟩:=zho h;rw[zii k];simp[rd3];omega;rw[ziR k]at h;obtain⟨g,l,_,_⟩:=ziN h;obtain⟨_,_,c,b,d,f⟩:=zbi g;have:=zk6 m.cau m.crd cbl cpl (by omega) b d f;rw[zij k];simp[zeE];omega;rw[zik k];simp[rd3]
def MV.bytes (x:MV):L_:=zeL x.m x.ss x.bl x.pl x.cbl x.cpl x.ds x.vl
theorem zaT.check {x:MV}(h:zaT x):zP x.m x.car=0:=zh0 (by rw[h.fr];omega) (by rw[h.tt];omega) h.car h.emp
theorem zil (au c:Int)(y:Q_)(n t:Nat)(ss:Z_)(w:World)(H:n=ss.length)(G:n<=maxLen)(u:zas w y ss) :
  Calls prog 111 #[.agg #[I_ au,I_ c,.slice y n t]] w λe w'=>e=.returned (I_ (zbk au c ss))/\B_ w w':=by
 subst H;unfold maxLen at G;by_cases ha:0<=au/\au<4
 .by_cases hr:1<=c/\c<=1048576
  .by_cases hl:ss.length<1\/4<ss.length
   .have b:Hid (zbk au c ss=1):=by show _=_;rw[zbk,iN_ (by simp[ha,hr]),iP_ hl]
    have M:¬(1<=(ss.length:Int)/\(ss.length:Int)<=4):=by omega
    rcases hl with hl|hl;have D:ss.length=0:=by omega
    rw[D]
    rotate_left
    have E:(4:Int)<ss.length:=by omega
    have F:¬(ss.length:Int)<1:=by omega
    rotate_left
    all_goals
     go_in;go_wp2_with (first|(go_at_call 63;first|(refine(zaS _ _ (by omega)).mono ?_;rintro e w'⟨rfl,rfl⟩)|(refine(zaD _ _ (by omega)).mono ?_;rintro e w'⟨rfl,rfl⟩))|(go_at_call 115;first|(refine(zbB _ _ (by omega)).mono ?_;rintro e w'⟨rfl,rfl⟩)|(refine(zbj _ _ (by omega)).mono ?_;rintro e w'⟨rfl,rfl⟩)))
     go_ret;exact⟨zt b.out.symm,(bR_ _ _).alloc (nR_ _) _⟩
   have b:Hid (zbk au c ss=if ss.all zbM then 0 else 1):=by show _=_;rw[zbk,iN_ (by simp[ha,hr]),iN_ hl]
   have E:¬(4:Int)<ss.length:=by omega
   have F:¬(ss.length:Int)<1:=by omega
   go_in;go_wp2_with (first|(go_at_call 63;first|(refine(zaS _ _ (by omega)).mono ?_;rintro e w'⟨rfl,rfl⟩)|(refine(zaD _ _ (by omega)).mono ?_;rintro e w'⟨rfl,rfl⟩))|(go_at_call 115;first|(refine(zbB _ _ (by omega)).mono ?_;rintro e w'⟨rfl,rfl⟩)|(refine(zbj _ _ (by omega)).mono ?_;rintro e w'⟨rfl,rfl⟩)))
   go_loop [28] (λi=>∃k:Nat,k<=ss.length/\i=I_ k/\∀q,q<k->zbM (ss.getD q ByteArray.empty)=true) (λi=>ss.length-(intOf i).toNat)
   case atStart=>exact⟨0,nZ_ _,rfl,λq I=>by omega⟩
   case round=>
    obtain⟨k,L,rfl,r⟩:=hrel;by_cases hlt:k<ss.length
    .rcases u.cells with l|⟨z,A,rfl,l⟩;subst l;simp at hlt;have N:(k:Int)<ss.length:=by omega
     have o:=l k hlt;have J:=(((bR_ w.heap.size w).alloc (nR_ _) (.cells #[I_ au,I_ c,.slice (some (p_ z A)) ss.length t] 86)).cell (p:=p_ z (A+k)) (bL_ o)).trans o;have O:(ss.getD k ByteArray.empty).size<=9223372036854775807:=u.size _ (by simp[List.getD,hlt]);have f:zbM (ss.getD k ByteArray.empty)=decide (1<=(ss.getD k ByteArray.empty).size/\(ss.getD k ByteArray.empty).size<=20):=rfl;have m:Hid (zbM (ss.getD k ByteArray.empty)=true->∀q,q<k+1->zbM (ss.getD q ByteArray.empty)=true):=by
      show _->_;intro h q I;rcases lG_ q k with g|g;exact r q g;obtain rfl:q=k:=by omega
      exact h
     have j:Hid (zbM (ss.getD k ByteArray.empty)=false->ss.all zbM=false):=by
      show _->_;exact zs9 ss zbM ByteArray.empty k hlt
     clear r l o;generalize ss.getD k ByteArray.empty=s at*;by_cases h1:1<=s.size
     .have B:¬(s.size:Int)<1:=by omega
      by_cases h2:s.size<=20
      .have C:¬(20:Int)<s.size:=by omega
       have d:=m.out (by rw[f];simp[h1,h2]);clear f m j;go_wp2_with fail
       go_round
       case rel=>exact⟨k+1,by omega,by go_num,d⟩
       case measure=>simp[intOf];omega
      have C:(20:Int)<s.size:=by omega
      have d:=j.out (by rw[f];simp[h2]);clear f m j;rw[d]at b;go_wp2_with fail
      go_ret;exact⟨zt (by rw[b.out];rfl),(bR_ _ _).alloc (nR_ _) _⟩
     have B:(s.size:Int)<1:=by omega
     have d:=j.out (by rw[f];simp[h1]);clear f m j;rw[d]at b;go_wp2_with fail
     go_ret;exact⟨zt (by rw[b.out];rfl),(bR_ _ _).alloc (nR_ _) _⟩
    obtain rfl:k=ss.length:=by omega
    have d:=zvc ss zbM ByteArray.empty r;rw[d]at b;go_wp2_with fail
    go_ret;exact⟨zt (by rw[b.out];rfl),(bR_ _ _).alloc (nR_ _) _⟩
  have b:Hid (zbk au c ss=2):=by show _=_;simp[zbk,hr]
  go_in;go_wp2_with (first|(go_at_call 63;first|(refine(zaS _ _ (by omega)).mono ?_;rintro e w'⟨rfl,rfl⟩)|(refine(zaD _ _ (by omega)).mono ?_;rintro e w'⟨rfl,rfl⟩))|(go_at_call 115;first|(refine(zbB _ _ (by omega)).mono ?_;rintro e w'⟨rfl,rfl⟩)|(refine(zbj _ _ (by omega)).mono ?_;rintro e w'⟨rfl,rfl⟩)))
  go_ret;exact⟨zt b.out.symm,(bR_ _ _).alloc (nR_ _) _⟩
 have b:Hid (zbk au c ss=2):=by show _=_;simp[zbk,ha]
 go_in;go_wp2_with (first|(go_at_call 63;first|(refine(zaS _ _ (by omega)).mono ?_;rintro e w'⟨rfl,rfl⟩)|(refine(zaD _ _ (by omega)).mono ?_;rintro e w'⟨rfl,rfl⟩))|(go_at_call 115;first|(refine(zbB _ _ (by omega)).mono ?_;rintro e w'⟨rfl,rfl⟩)|(refine(zbj _ _ (by omega)).mono ?_;rintro e w'⟨rfl,rfl⟩)))
 go_ret;exact⟨zt b.out.symm,(bR_ _ _).alloc (nR_ _) _⟩
theorem zoC (m:Msg)(ss:Z_)(w:World)(l:m.ki=1)(d:m.btn=ss.length)(c:m.btn<=maxLen)(o:zas w m.bta ss) :
  Calls prog 64 #[.agg #[I_ m.fr,I_ m.tt,I_ m.ki,I_ m.bau,I_ m.bnu,.slice m.bta m.btn m.btc,I_ m.hau,I_ m.hrd,.slice m.hba m.hbn m.hbc,.slice m.hpa m.hpn m.hpc,I_ m.sau,I_ m.srd,.slice m.sda m.sdn m.sdc,I_ m.cau,I_ m.crd,.slice m.cba m.cbn m.cbc,.slice m.cpa m.cpn m.cpc,.slice m.cva m.cvn m.cvc,I_ m.ro]] w λe w'=>e=.returned (I_ (zbk m.bau m.bnu ss))/\B_ w w':=by
 have f:=zC w (.cells #[I_ m.fr,I_ m.tt,I_ m.ki,I_ m.bau,I_ m.bnu,.slice m.bta m.btn m.btc,I_ m.hau,I_ m.hrd,.slice m.hba m.hbn m.hbc,.slice m.hpa m.hpn m.hpc,I_ m.sau,I_ m.srd,.slice m.sda m.sdn m.sdc,I_ m.cau,I_ m.crd,.slice m.cba m.cbn m.cbc,.slice m.cpa m.cpn m.cpc,.slice m.cva m.cvn m.cvc,I_ m.ro] 90);have b:=zil m.bau m.bnu m.bta m.btn m.btc ss _ d c (o.below f);rw[l]at b|-;clear d c;go_in;go_wp2_with fail
 refine b.mono ?_;rintro _ p⟨rfl,g⟩;dsimp only;go_wp2_with fail
 go_ret;exact⟨rfl,zS g⟩
theorem zpZ (m:Msg)(bl pl:List zi)(w:World)(g:m.ki=2)(b:m.hbn=bl.length)(c:m.hpn=pl.length)(j:zx w m.hba m.hbc bl)(p:zx w m.hpa m.hpc pl) :
  Calls prog 64 #[.agg #[I_ m.fr,I_ m.tt,I_ m.ki,I_ m.bau,I_ m.bnu,.slice m.bta m.btn m.btc,I_ m.hau,I_ m.hrd,.slice m.hba m.hbn m.hbc,.slice m.hpa m.hpn m.hpc,I_ m.sau,I_ m.srd,.slice m.sda m.sdn m.sdc,I_ m.cau,I_ m.crd,.slice m.cba m.cbn m.cbc,.slice m.cpa m.cpn m.cpc,.slice m.cva m.cvn m.cvc,I_ m.ro]] w λe w'=>e=.returned (I_ (zO m.hau m.hrd bl pl))/\B_ w w':=by
 have d:=zC w (.cells #[I_ m.fr,I_ m.tt,I_ m.ki,I_ m.bau,I_ m.bnu,.slice m.bta m.btn m.btc,I_ m.hau,I_ m.hrd,.slice m.hba m.hbn m.hbc,.slice m.hpa m.hpn m.hpc,I_ m.sau,I_ m.srd,.slice m.sda m.sdn m.sdc,I_ m.cau,I_ m.crd,.slice m.cba m.cbn m.cbc,.slice m.cpa m.cpn m.cpc,.slice m.cva m.cvn m.cvc,I_ m.ro] 90);have f:=zeB m.hau m.hrd m.hba m.hbc bl m.hpa m.hpc pl _ (j.below d) (p.below d);rw[g,<-b,<-c]at f;rw[g];clear b c;go_in;go_wp2_with fail
 refine f.mono ?_;rintro _ q⟨rfl,l⟩;dsimp only;go_wp2_with fail
 go_ret;exact⟨rfl,zS l⟩
theorem zp0 (m:Msg)(bl pl:List zi)(vl:L_)(w:World)(j:m.ki=4)(c:m.cbn=bl.length)(d:m.cpn=pl.length)(f:m.cvn=vl.length)(l:vl.length<=9000000000000000000)(o:zx w m.cba m.cbc bl)(r:zx w m.cpa m.cpc pl)(s:zax w m.cva vl) :
  Calls prog 64 #[.agg #[I_ m.fr,I_ m.tt,I_ m.ki,I_ m.bau,I_ m.bnu,.slice m.bta m.btn m.btc,I_ m.hau,I_ m.hrd,.slice m.hba m.hbn m.hbc,.slice m.hpa m.hpn m.hpc,I_ m.sau,I_ m.srd,.slice m.sda m.sdn m.sdc,I_ m.cau,I_ m.crd,.slice m.cba m.cbn m.cbc,.slice m.cpa m.cpn m.cpc,.slice m.cva m.cvn m.cvc,I_ m.ro]] w λe w'=>e=.returned (I_ (zap m.cau m.crd bl pl vl))/\B_ w w':=by
 have b:=zC w (.cells #[I_ m.fr,I_ m.tt,I_ m.ki,I_ m.bau,I_ m.bnu,.slice m.bta m.btn m.btc,I_ m.hau,I_ m.hrd,.slice m.hba m.hbn m.hbc,.slice m.hpa m.hpn m.hpc,I_ m.sau,I_ m.srd,.slice m.sda m.sdn m.sdc,I_ m.cau,I_ m.crd,.slice m.cba m.cbn m.cbc,.slice m.cpa m.cpn m.cpc,.slice m.cva m.cvn m.cvc,I_ m.ro] 90);have g:=zgG m.cau m.crd m.cba m.cbc bl m.cpa m.cpc pl m.cva m.cvc vl _ (o.below b) (r.below b) (s.below b) l;rw[j,<-c,<-d,<-f]at g;rw[j];clear c d f;go_in;go_wp2_with fail
 refine g.mono ?_;rintro _ t⟨rfl,p⟩;dsimp only;go_wp2_with fail
 go_ret;exact⟨rfl,zS p⟩
theorem zrD (m:Msg)(w:World)(b:¬(1<=m.ki/\m.ki<=5)) :
  Calls prog 64 #[.agg #[I_ m.fr,I_ m.tt,I_ m.ki,I_ m.bau,I_ m.bnu,.slice m.bta m.btn m.btc,I_ m.hau,I_ m.hrd,.slice m.hba m.hbn m.hbc,.slice m.hpa m.hpn m.hpc,I_ m.sau,I_ m.srd,.slice m.sda m.sdn m.sdc,I_ m.cau,I_ m.crd,.slice m.cba m.cbn m.cbc,.slice m.cpa m.cpn m.cpc,.slice m.cva m.cvn m.cvc,I_ m.ro]] w λe w'=>e=.returned (I_ 3)/\B_ w w':=by
 have c:¬m.ki=1:=by omega
 have d:¬m.ki=2:=by omega
 have f:¬m.ki=3:=by omega
 have g:¬m.ki=4:=by omega
 have j:¬m.ki=5:=by omega
 go_in;go_wp2_with fail
 go_ret;exact⟨rfl,(bR_ _ _).alloc (nR_ _) _⟩
theorem zrE (m:Msg)(w:World)(c:m.ki=3) :
  Calls prog 64 #[.agg #[I_ m.fr,I_ m.tt,I_ m.ki,I_ m.bau,I_ m.bnu,.slice m.bta m.btn m.btc,I_ m.hau,I_ m.hrd,.slice m.hba m.hbn m.hbc,.slice m.hpa m.hpn m.hpc,I_ m.sau,I_ m.srd,.slice m.sda m.sdn m.sdc,I_ m.cau,I_ m.crd,.slice m.cba m.cbn m.cbc,.slice m.cpa m.cpn m.cpc,.slice m.cva m.cvn m.cvc,I_ m.ro]] w λe w'=>e=.returned (I_ (zbf m.sau m.srd m.sdn))/\B_ w w':=by
 rw[c];go_in;go_wp2_with fail
 refine(zgC _ _ _ _ _ _).mono ?_;rintro e d⟨rfl,b⟩;go_wp2_with fail
 go_ret;exact⟨rfl,zS b⟩
def zkm (ro:Int):Int:=if 1<=ro/\ro<=1048576 then 0 else 2
theorem zrF (m:Msg)(w:World)(c:m.ki=5) :
  Calls prog 64 #[.agg #[I_ m.fr,I_ m.tt,I_ m.ki,I_ m.bau,I_ m.bnu,.slice m.bta m.btn m.btc,I_ m.hau,I_ m.hrd,.slice m.hba m.hbn m.hbc,.slice m.hpa m.hpn m.hpc,I_ m.sau,I_ m.srd,.slice m.sda m.sdn m.sdc,I_ m.cau,I_ m.crd,.slice m.cba m.cbn m.cbc,.slice m.cpa m.cpn m.cpc,.slice m.cva m.cvn m.cvc,I_ m.ro]] w λe w'=>e=.returned (I_ (zkm m.ro))/\B_ w w':=by
 rw[c];by_cases hr:1<=m.ro/\m.ro<=1048576;have b:Hid (zkm m.ro=0):=by show _=_;simp[zkm,hr]
 rotate_left
 have b:Hid (zkm m.ro=2):=by show _=_;simp[zkm,hr]
 rotate_left
 all_goals
  go_in;go_wp2_with (go_at_call 115;first|(refine(zbB _ _ (by omega)).mono ?_;rintro e w'⟨rfl,rfl⟩)|(refine(zbj _ _ (by omega)).mono ?_;rintro e w'⟨rfl,rfl⟩))
  go_ret;exact⟨zt b.out.symm,(bR_ _ _).alloc (nR_ _) _⟩
theorem zjT (m:Msg)(ss:Z_)(bl pl cbl cpl:List zi)(vl:L_)(w:World)(H:zeX w m ss bl pl cbl cpl vl) :
  Calls prog 42 #[.agg (mrow_ m)] w λe w'=>e=.returned (I_ (zP m (zD m ss bl pl cbl cpl vl)))/\B_ w w':=by
 refine zvb m (zD m ss bl pl cbl cpl vl) w (λh=>?_) (λc f=>?_);rcases Decidable.em (1<=m.ki/\m.ki<=5)with g|g;exact g;rw[zD,iN_ (by omega),iN_ (by omega),iN_ (by omega),iN_ (by omega),iN_ (by omega)]at h;cases h;have b:=H.below f;by_cases k1:m.ki=1;rw[zD,iP_ k1];exact zoC m ss c k1 H.e1 (by have:=H.s1;have:=H.e1;unfold maxLen;omega) b.txs;by_cases k2:m.ki=2;rw[zD,iN_ k1,iP_ k2];exact zpZ m bl pl c k2 H.e2 H.e3 b.bat b.par;by_cases k3:m.ki=3;rw[zD,iN_ k1,iN_ k2,iP_ k3];exact zrE m c k3;by_cases k4:m.ki=4;rw[zD,iN_ k1,iN_ k2,iN_ k3,iP_ k4];exact zp0 m cbl cpl vl c k4 H.e4 H.e5 H.e6 H.s6 b.cbat b.cpar b.vot;by_cases k5:m.ki=5;rw[zD,iN_ k1,iN_ k2,iN_ k3,iN_ k4,iP_ k5];have d:=zrF m c k5;rw[zkm]at d;exact d;rw[zD,iN_ k1,iN_ k2,iN_ k3,iN_ k4,iN_ k5];exact zrD m c (by omega)
def zcO (m:Msg)(e:Int):Int:=if e≠0 then e else if m.fr≠0\/m.tt≠0\/m.ki=5 then 4 else 0
theorem zgI (m:Msg)(ss:Z_)(bl pl cbl cpl:List zi)(vl:L_)(w:World)(H:zeX w m ss bl pl cbl cpl vl) :
  Calls prog 139 #[.agg (mrow_ m)] w λe w'=>e=.returned (I_ (zcO m (zP m (zD m ss bl pl cbl cpl vl))))/\B_ w w':=by
 have f:=zC w (.cells (mrow_ m) 90);have j:=hN_ w (.cells (mrow_ m) 90);have g:=zjT m ss bl pl cbl cpl vl _ (H.below f);generalize zP m (zD m ss bl pl cbl cpl vl)=R at g|-;clear H;have c:Hid (zcO m R=if R≠0 then R else if m.fr≠0\/m.tt≠0\/m.ki=5 then 4 else 0):=by show _=_;rfl
 generalize zcO m R=X at c|-;go_in;go_wp2_with (refine wL_ rfl 90 _ rfl w.heap.size rfl 90 (mrow_ m) (0,0) _ j underlying90 rfl zcC ?_)
 generalize w.alloc (.cells (mrow_ m) 90)=t at f j g|-;refine g.mono ?_;rintro _ u⟨rfl,o⟩;dsimp only;have l:=zk o j;have p:=zb l 0 (I_ m.fr) rfl;have q:=zb l 1 (I_ m.tt) rfl;have r:=zb l 2 (I_ m.ki) rfl;have d:=zm f o;clear j l f o g;generalize m.fr=a at p c|-;generalize m.tt=b at q c|-;generalize m.ki=k at r c|-;by_cases hR:R=0
 .subst hR;by_cases h0:a=0
  .by_cases h1:b=0
   .by_cases h2:k=5
    .go_wp2_with fail
     go_ret;exact⟨zt (by rw[c.out];simp[h2]),d⟩
    go_wp2_with fail
    go_ret;exact⟨zt (by rw[c.out];simp[h0,h1,h2]),d⟩
   go_wp2_with fail
   go_ret;exact⟨zt (by rw[c.out];simp[h1]),d⟩
  go_wp2_with fail
  go_ret;exact⟨zt (by rw[c.out];simp[h0]),d⟩
 go_wp2_with fail
 go_ret;exact⟨zt (by rw[c.out];simp[hR]),d⟩
theorem zaT.rec0 {x:MV}(h:zaT x):zcO x.m (zP x.m x.car)=0:=by rw[h.check,zcO];simp[h.fr,h.tt,h.ki]
theorem zrG (m:Msg)(c:Int)(w:World)(l:c≠0)
  (g:∀b,B_ w b->Calls prog 42 #[.agg #[I_ m.fr,I_ m.tt,I_ m.ki,I_ m.bau,I_ m.bnu,.slice m.bta m.btn m.btc,I_ m.hau,I_ m.hrd,.slice m.hba m.hbn m.hbc,.slice m.hpa m.hpn m.hpc,I_ m.sau,I_ m.srd,.slice m.sda m.sdn m.sdc,I_ m.cau,I_ m.crd,.slice m.cba m.cbn m.cbc,.slice m.cpa m.cpn m.cpc,.slice m.cva m.cvn m.cvc,I_ m.ro]] b λe w'=>e=.returned (I_ c)/\B_ b w') :
  Calls prog 199 #[.agg #[I_ m.fr,I_ m.tt,I_ m.ki,I_ m.bau,I_ m.bnu,.slice m.bta m.btn m.btc,I_ m.hau,I_ m.hrd,.slice m.hba m.hbn m.hbc,.slice m.hpa m.hpn m.hpc,I_ m.sau,I_ m.srd,.slice m.sda m.sdn m.sdc,I_ m.cau,I_ m.crd,.slice m.cba m.cbn m.cbc,.slice m.cpa m.cpn m.cpc,.slice m.cva m.cvn m.cvc,I_ m.ro]] w λe w'=>e=.returned (.tuple #[O_,I_ c])/\B_ w w':=by
 refine kA_ ?A0 ?_;exact #[I_ m.fr,I_ m.tt,I_ m.ki,I_ m.bau,I_ m.bnu,.slice m.bta m.btn m.btc,I_ m.hau,I_ m.hrd,.slice m.hba m.hbn m.hbc,.slice m.hpa m.hpn m.hpc,I_ m.sau,I_ m.srd,.slice m.sda m.sdn m.sdc,I_ m.cau,I_ m.crd,.slice m.cba m.cbn m.cbc,.slice m.cpa m.cpn m.cpc,.slice m.cva m.cvn m.cvc,I_ m.ro];have j:=hN_ w (.cells ?A0 90);have d:=zC w (.cells ?A0 90);go_in;go_wp2_with (refine wL_ rfl 90 _ rfl w.heap.size rfl 90 ?A0 (0,0) _ j underlying90 rfl zcC ?_)
 refine(g _ d).mono ?_;rintro e b⟨rfl,f⟩;go_wp2_with fail
 go_ret2;exact⟨rfl,zS f⟩
end Go.Proofs.YtpnpikpmdfipfaaGreatDoor
