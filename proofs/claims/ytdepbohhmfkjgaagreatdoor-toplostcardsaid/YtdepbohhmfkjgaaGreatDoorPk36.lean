import Derived.Test.YtdepbohhmfkjgaaGreatDoorPk35
set_option maxRecDepth 100000
set_option maxHeartbeats 4000000
namespace Go.Proofs.YtdepbohhmfkjgaaGreatDoor
open Go.RowKit Tryz
def zbn (ps:List zi):List (List Int):=ps.map (·.bs)
theorem zxa (b f:List zi)(I J:Option Addr)(n m c d:Nat)(w:World)(hn:n=b.length)(hm:m=f.length)(hx:n≤1000)(hy:m≤1000)(O:zy w I c b)(R:zy w J d f)(F:∀ p∈b,∀ x∈p.bs,0≤x∧x≤255)(G:∀ p∈f,∀ x∈p.bs,0≤x∧x≤255) :
  Calls prog 73 #[.slice I n c,.slice J m d] w fun e w'=>e=.returned (.bool (decide (zbn b=zbn f)))∧B_ w w':=by
 subst hn hm;by_cases hl:b.length=f.length
 ·have A:Hid (b.length=f.length):=hl;have Z:Hid _:=F;have HV:Hid _:=G;rw[←hl];clear F G hl;go_in;go_wp2_with fail
  go_loopw [5] (fun j wr=>∃ k:Nat,k≤b.length∧j=I_ k∧Hid (zbn (b.take k)=zbn (f.take k))∧B_ w wr) (fun j _=>b.length-(intOf j).toNat)
  case atStart=>exact ⟨0,nZ_ _,rfl,by show _=_;simp,bR_ _ _⟩
  case round=>
   obtain ⟨k,hk,rfl,E,g⟩:=hrel;by_cases hlt:k<b.length
   ·have t:k<f.length:=by have:=A.out;omega
    obtain ⟨l,o,rfl,C⟩:∃ l o,I=some ⟨l,o,none⟩∧∀ j (h:j<b.length),C_ w l (o+j) (.slice (b[j]).sa (b[j]).bs.length (b[j]).cap):=by
     rcases O.parts.cells with h|h
     ·subst h;simp at hlt
     ·exact h
    obtain ⟨r,s,rfl,D⟩:∃ r s,J=some ⟨r,s,none⟩∧∀ j (h:j<f.length),C_ w r (s+j) (.slice (f[j]).sa (f[j]).bs.length (f[j]).cap):=by
     rcases R.parts.cells with h|h
     ·subst h;simp at t
     ·exact h
    have ka:=(g.cell (p:=⟨l,o+k,none⟩) (bL_ (C k hlt))).trans (C k hlt);have kb:=(g.cell (p:=⟨r,s+k,none⟩) (bL_ (D k t))).trans (D k t);have ae:=(O.parts.each b[k] (gM_ hlt)).below g;have af:=(R.parts.each f[k] (gM_ t)).below g;have X:=Z.out b[k] (gM_ hlt);have Y:=HV.out f[k] (gM_ t);have ad:(k:Int)<b.length:=by omega
    have h0:(0:Int)≤k:=by omega
    clear C D;have U:Hid (zbn (b.take (k+1))=zbn (b.take k)++[(b[k]).bs]):=by show _=_;rw[zbn,tS_ hlt,List.map_append];rfl
    have V:Hid (zbn (f.take (k+1))=zbn (f.take k)++[(f[k]).bs]):=by show _=_;rw[zbn,tS_ t,List.map_append];rfl
    generalize b[k]=p at *;generalize f[k]=q at *;have N:∀ u,B_ wr u→Calls prog 54 #[.slice p.sa p.bs.length p.cap,.slice q.sa q.bs.length q.cap] u fun e w'=>e=.returned (.bool (decide (p.bs=q.bs)))∧u=w':=fun u T=>zy0 p.bs q.bs p.sa q.sa _ _ p.cap q.cap u rfl rfl (ae.below T) (af.below T) X Y;have y:Hid _:=N;clear N X Y;by_cases he:p.bs=q.bs;have H:Hid (p.bs=q.bs):=he;rw[dT_ he] at y
    rotate_left
    have H:Hid (¬p.bs=q.bs):=he;rw[dF_ he] at y
    rotate_left
    all_goals
     clear he;go_wp2_with fail
     go_region_held3 (fun w'=>C_ w' l (o+k) (.slice p.sa p.bs.length p.cap)∧C_ w' r (s+k) (.slice q.sa q.bs.length q.cap)) (go_keep) ((go_at_call 54;refine (y.out _ ?_).mono ?_;exact (bR_ _ _).drew;rintro e w8 ⟨rfl,rfl⟩))
    ·all_goals
      go_wp2_with fail
      go_roundw
      case rel=>
       have M:∃ B:Nat,B≤b.length∧(Value.int .i64 ((k:Int)+1))=I_ B∧Hid (zbn (b.take B)=zbn (f.take B))∧B_ w wr.drew:=⟨k+1,by omega,by go_num,by show _=_;rw[U.out,V.out,E.out,H.out],g.drew⟩
       first|exact M|((repeat apply Exists.intro);exact ⟨M,rfl⟩)
      case measure=>simp[intOf];omega
    ·all_goals
      go_wp2_with fail
      go_ret;refine ⟨zS (dF_ fun e=>H.out ?_).symm,g.drew⟩;have z:=U.out;have h2:=V.out;have L:zbn (b.take (k+1))=zbn (f.take (k+1)):=by
       have e':(zbn b).take (k+1)=(zbn f).take (k+1):=by rw[e]
       simpa[zbn,List.map_take] using e'
      rw[z,h2,E.out] at L;have h4:=List.append_cancel_left L
      simpa using h4
   ·obtain rfl:k=b.length:=by omega
    have ad:¬(b.length:Int)<b.length:=by omega
    have aa:Hid (zbn b=zbn f):=by
     have z:=E.out;rw[tL_ (nR_ _),tL_ (by have:=A.out;omega)] at z;exact z
    go_wp2_with fail
    go_ret;exact ⟨zS (dT_ aa.out).symm,g⟩
 ·have ac:¬(b.length:Int)=f.length:=by omega
  have A:Hid (¬zbn b=zbn f):=fun e=>hl (by have:=congrArg List.length e;simpa[zbn] using this);have ag:((b.length:Int) == (f.length:Int))=false:=beq_eq_false_iff_ne.2 ac;clear F G;go_in;go_wp2_with fail
  go_ret;exact ⟨zS (dF_ A.out).symm,bR_ _ _⟩
structure zyK (w:World)(ba:Option Addr)(bn bc:Nat)(bl:List zi)(pa:Option Addr)(pn pc:Nat)(pl:List zi):Prop where
 eb:bn=bl.length
 ep:pn=pl.length
 b3:bn≤1000
 p4:pn≤1000
 bat:zy w ba bc bl
 par:zy w pa pc pl
 bu:∀ p∈bl,∀ x∈p.bs,0≤x∧x≤255
 pu:∀ p∈pl,∀ x∈p.bs,0≤x∧x≤255
theorem zxy (au rd c l:Int)(B:Option Addr)(F D:Nat)(bl:List zi)(q:Option Addr)(u s:Nat)(pl:List zi)(C:Option Addr)(G E:Nat)(d:List zi)(r:Option Addr)(A t:Nat)(m:List zi)(w:World)(f:zyK w B F D bl q u s pl)(g:zyK w C G E d r A t m) :
  Calls prog 51 #[.agg #[I_ au,I_ rd,.slice B F D,.slice q u s],.agg #[I_ c,I_ l,.slice C G E,.slice r A t]] w fun e w'=>e=.returned (.bool (decide (au=c∧rd=l∧zbn bl=zbn d∧zbn pl=zbn m)))∧B_ w w':=by
 have H:B_ w ((w.alloc (.cells #[I_ au,I_ rd,.slice B F D,.slice q u s] 56)).alloc (.cells #[I_ c,I_ l,.slice C G E,.slice r A t] 56)):=((bR_ _ _).alloc (nR_ _) _).alloc (by simp) _;have J:∀ b,B_ w b→Calls prog 73 #[.slice B F D,.slice C G E] b fun e w'=>e=.returned (.bool (decide (zbn bl=zbn d)))∧B_ b w':=fun b h=>zxa bl d B C F G D E b f.eb g.eb f.b3 g.b3 (f.bat.below h) (g.bat.below h) f.bu g.bu;have L:∀ b,B_ w b→Calls prog 73 #[.slice q u s,.slice r A t] b fun e w'=>e=.returned (.bool (decide (zbn pl=zbn m)))∧B_ b w':=fun b h=>zxa pl m q r u A s t b f.ep g.ep f.p4 g.p4 (f.par.below h) (g.par.below h) f.pu g.pu;have I:Hid _:=J;have N:Hid _:=L;clear J L f g;have o:Hid (decide (au=c∧rd=l∧zbn bl=zbn d∧zbn pl=zbn m)=(decide (au=c∧rd=l)&&decide (zbn bl=zbn d)&&decide (zbn pl=zbn m))):=by
  show _=_;by_cases h1:au=c<;>by_cases h2:rd=l<;>by_cases h3:zbn bl=zbn d<;>simp[h1,h2,h3]
 generalize decide (zbn bl=zbn d)=x at *;generalize decide (zbn pl=zbn m)=y at *;generalize decide (au=c∧rd=l∧zbn bl=zbn d∧zbn pl=zbn m)=z at *;by_cases h1:au=c
 ·subst h1;by_cases h2:rd=l
  ·subst h2;have p:Hid (z=(x&&y)):=by have:=o.out;show _=_;simpa using this
   clear o;cases x
   all_goals
    go_in;go_wp2_with fail
    refine (I.out _ H).mono ?_;rintro e T ⟨rfl,j⟩
   ·go_wp2_with fail
    go_ret;exact ⟨zS (by rw[p.out];rfl),zV (zV j)⟩
   ·have M:=zbN j;have R:=zbN (zV j);rw[zI] at M;replace j:=zV (zV j);have U:=zb R 3 (.slice q u s) rfl;have V:=zb M 3 (.slice r A t) rfl;go_wp2_with fail
    refine (N.out _ j).mono ?_;rintro e w2 ⟨rfl,O⟩;go_wp2_with fail
    go_ret;exact ⟨zS (by rw[p.out];simp),j.trans (O.mono j.size)⟩
  ·have p:Hid (z=false):=by have:=o.out;show _=_;simpa[h2] using this
   clear o;have Y:(rd == l)=false:=by simpa using h2
   go_in;go_wp2_with fail
   go_ret;exact ⟨zS p.out.symm,H⟩
 ·have p:Hid (z=false):=by have:=o.out;show _=_;simpa[h1] using this
  clear o;have X:(au == c)=false:=by simpa using h1
  go_in;go_wp2_with fail
  go_ret;exact ⟨zS p.out.symm,H⟩
variable {qs:List zi}
structure zwY (ps qs:List zi):Prop where
 same:zbg ps qs
 u8:∀ p∈qs,∀ x∈p.bs,0≤x∧x≤255
 le:qs.length≤1000
theorem zwY.length {b:List zi}(h:zwY b qs):b.length=qs.length:=h.same.length
theorem zwY.u8' {b:List zi}(h:zwY b qs):∀ p∈b,∀ x∈p.bs,0≤x∧x≤255:=by
 intro p j x d;have c:p.bs∈b.map (·.bs):=List.mem_map_of_mem j;have g:b.map (·.bs)=qs.map (·.bs):=h.same;rw[g] at c;obtain ⟨q,l,e⟩:=List.mem_map.1 c;have f:q.bs=p.bs:=e;rw[←f] at d;exact h.u8 q l x d
theorem zxz (au rd:Int)(o:Option Addr)(p:Nat)(d:List zi)(q:Option Addr)(r:Nat)(f:List zi)(g:Option Addr)(j:Nat)(bl:List zi)(l:Option Addr)(m:Nat)(pl:List zi)(w:World)(b:zwY d bl)(c:zwY f pl)(s:zy w o p d)(t:zy w q r f)(u:zy w g j bl)(y:zy w l m pl) :
  Calls prog 51 #[.agg #[I_ au,I_ rd,.slice o bl.length p,.slice q pl.length r],.agg #[I_ au,I_ rd,.slice g bl.length j,.slice l pl.length m]] w fun e w'=>e=.returned (.bool true)∧B_ w w':=by
 have h:=zxy au rd au rd o bl.length p d q pl.length r f g bl.length j bl l pl.length m pl w ⟨b.length.symm,c.length.symm,b.le,c.le,s,t,b.u8',c.u8'⟩ ⟨rfl,rfl,b.le,c.le,u,y,b.u8,c.u8⟩;have z:decide (au=au∧rd=rd∧zbn d=zbn bl∧zbn f=zbn pl)=true:=dT_ ⟨rfl,rfl,b.same,c.same⟩;rw[z] at h;exact h
theorem zxW (vl:List Int)(o p:Option Addr)(c d:Nat)(w:World)(C:vl.length≤9000000000000000000)(u:zav w o vl)(y:zav w p vl) :
  Calls prog 52 #[.slice o vl.length c,.slice p vl.length d] w fun e w'=>e=.returned (.bool true)∧B_ w w':=by
 go_in;go_wp2_with fail
 go_loopw [5] (fun j wr=>∃ k:Nat,k≤vl.length∧j=I_ k∧B_ w wr) (fun j _=>vl.length-(intOf j).toNat)
 case atStart=>exact ⟨0,nZ_ _,rfl,bR_ _ _⟩
 case round=>
  obtain ⟨k,B,rfl,b⟩:=hrel;by_cases hlt2:k<vl.length
  ·obtain ⟨f,g,rfl,r⟩:∃ f g,o=some ⟨f,g,none⟩∧∀ j,j<vl.length→C_ wr f (g+j) (I_ (vl.getD j 0)):=by
    rcases (u.below b).cells with h|h
    ·subst h;simp at hlt2
    ·exact h
   obtain ⟨l,m,rfl,s⟩:∃ l m,p=some ⟨l,m,none⟩∧∀ j,j<vl.length→C_ wr l (m+j) (I_ (vl.getD j 0)):=by
    rcases (y.below b).cells with h|h
    ·subst h;simp at hlt2
    ·exact h
   have D:=r k hlt2;have E:=s k hlt2;have z:(k:Int)<vl.length:=by omega
   have A:(0:Int)≤k:=by omega
   clear r s;generalize vl.getD k 0=x at *;go_wp2_with fail
   go_region
   all_goals
    go_wp2_with fail
    go_roundw
    case rel=>
     have q:∃ t:Nat,t≤vl.length∧(Value.int .i64 ((k:Int)+1))=I_ t∧B_ w wr.drew:=⟨k+1,by omega,by go_num,b.drew⟩
     first|exact q|((repeat apply Exists.intro);exact ⟨q,rfl⟩)
    case measure=>simp[intOf];omega
  ·obtain rfl:k=vl.length:=by omega
   have z:¬(vl.length:Int)<vl.length:=by omega
   go_wp2_with fail
   go_ret;exact ⟨rfl,b⟩
theorem zxX (au rd:Int)(m:Option Addr)(o:Nat)(y:List zi)(p:Option Addr)(q:Nat)(z:List zi)(r:Option Addr)(s:Nat)(b:List Int)(c:Option Addr)(d:Nat)(bl:List zi)(f:Option Addr)(g:Nat)(pl:List zi)(j:Option Addr)(l:Nat)(w:World)(A:zwY y bl)(B:zwY z pl)(U:b.length≤9000000000000000000)(J:zy w m o y)(L:zy w p q z)(M:zav w r b)(N:zy w c d bl)(O:zy w f g pl)(R:zav w j b) :
  Calls prog 28 #[.agg #[I_ au,I_ rd,.slice m y.length o,.slice p z.length q,.slice r b.length s],.agg #[I_ au,I_ rd,.slice c bl.length d,.slice f pl.length g,.slice j b.length l]] w fun e w'=>e=.returned (.bool true)∧B_ w w':=by
 rw[A.length,B.length];refine kA_ ?A0 ?_;exact #[I_ au,I_ rd,.slice c bl.length d,.slice f pl.length g,.slice j b.length l];refine kO_ ?B0 ?_;exact Obj.cells #[I_ au,I_ rd,.slice m bl.length o,.slice p pl.length q,.slice r b.length s] 59;have t:B_ w ((w.alloc ?B0).alloc (.cells ?A0 59)):=((bR_ _ _).alloc (nR_ _) _).alloc (by rw[zI];omega) _;have E:=hX_ w ?B0 (.cells ?A0 59);have F:((w.alloc ?B0).alloc (.cells ?A0 59)).heap[w.heap.size+1]? = some (.cells ?A0 59 (0,0)):=by
  have:=hN_ (w.alloc ?B0) (.cells ?A0 59);rw[zI] at this;exact this
 have G:Hid _:=A;have H:Hid _:=B;clear A B;go_in;go_wp2_with fail
 generalize (w.alloc ?B0).alloc (.cells ?A0 59)=I at t E F ⊢;refine (zxz au rd m o y p q z c d bl f g pl I G.out H.out (J.below t) (L.below t) (N.below t) (O.below t)).mono ?_;rintro _ Y ⟨rfl,C⟩;dsimp only;have V:=zn C E;have X:=zn C F;have Z:=zb V 4 _ rfl;have m4:=zb X 4 _ rfl;have u:=zq t C;go_wp2_with fail
 refine (zxW b r j s l Y U (M.below u) (R.below u)).mono ?_;rintro _ w2 ⟨rfl,T⟩;dsimp only;go_wp2_with fail
 go_ret;exact ⟨rfl,u.trans (T.mono u.size)⟩
theorem zxF (b:List ByteArray)(t u:Option Addr)(n m c d:Nat)(w:World)(F:n=b.length)(E:m=b.length)(C:n≤maxLen)(A:zas w t b)(B:zas w u b) :
  Calls prog 53 #[.slice t n c,.slice u m d] w fun e w'=>e=.returned (.bool true)∧B_ w w':=by
 subst F E;unfold maxLen at C;go_in;go_wp2_with fail
 go_loopw [5] (fun j wr=>∃ k:Nat,k≤b.length∧j=I_ k∧B_ w wr) (fun j _=>b.length-(intOf j).toNat)
 case atStart=>exact ⟨0,nZ_ _,rfl,bR_ _ _⟩
 case round=>
  obtain ⟨k,H,rfl,q⟩:=hrel;by_cases hlt:k<b.length
  ·obtain ⟨f,g,rfl,r⟩:∃ f g,t=some ⟨f,g,none⟩∧∀ j,j<b.length→C_ w f (g+j) (.string (b.getD j ByteArray.empty)):=by
    rcases A.cells with h|h
    ·rw[h] at hlt;simp at hlt
    ·exact h
   obtain ⟨l,o,rfl,s⟩:∃ l o,u=some ⟨l,o,none⟩∧∀ j,j<b.length→C_ w l (o+j) (.string (b.getD j ByteArray.empty)):=by
    rcases B.cells with h|h
    ·rw[h] at hlt;simp at hlt
    ·exact h
   have I:=(q.cell (p:=⟨f,g+k,none⟩) (bL_ (r k hlt))).trans (r k hlt);have J:=(q.cell (p:=⟨l,o+k,none⟩) (bL_ (s k hlt))).trans (s k hlt);have D:(k:Int)<b.length:=by omega
   have G:(0:Int)≤k:=by omega
   clear r s;generalize b.getD k ByteArray.empty=x at *;go_wp2_with fail
   go_region_held3 (fun w'=>C_ w' f (g+k) (.string x)∧C_ w' l (o+k) (.string x)) (go_keep) (fail)
   all_goals
    go_wp2_with fail
    go_roundw
    case rel=>
     have y:∃ z:Nat,z≤b.length∧(Value.int .i64 ((k:Int)+1))=I_ z∧B_ w wr.drew:=⟨k+1,by omega,by go_num,q.drew⟩
     first|exact y|((repeat apply Exists.intro);exact ⟨y,rfl⟩)
    case measure=>simp[intOf];omega
  ·obtain rfl:k=b.length:=by omega
   have D:¬(b.length:Int)<b.length:=by omega
   go_wp2_with fail
   go_ret;exact ⟨rfl,q⟩
theorem zxG (au f:Int)(b:List ByteArray)(g j:Option Addr)(n m c d:Nat)(w:World)(q:n=b.length)(p:m=b.length)(o:n≤maxLen)(s:zas w g b)(t:zas w j b) :
  Calls prog 29 #[.agg #[I_ au,I_ f,.slice g n c],.agg #[I_ au,I_ f,.slice j m d]] w fun e w'=>e=.returned (.bool true)∧B_ w w':=by
 have l:B_ w ((w.alloc (.cells #[I_ au,I_ f,.slice g n c] 62)).alloc (.cells #[I_ au,I_ f,.slice j m d] 62)):=((bR_ _ _).alloc (nR_ _) _).alloc (by simp) _;have r:=zxF b g j n m c d _ q p o (s.below l) (t.below l);clear q p o;go_in;go_wp2_with fail
 refine r.mono ?_;rintro _ z ⟨rfl,u⟩;dsimp only;go_wp2_with fail
 go_ret;exact ⟨rfl,zV (zV u)⟩
theorem zzh (bs:List Int)(b f:Option Addr)(n m c d:Nat)(w:World)(o:n=bs.length)(l:m=bs.length)(g:zf w b c bs)(j:zf w f d bs) :
  Calls prog 54 #[.slice b n c,.slice f m d] w fun e w'=>e=.returned (.bool true)∧w=w':=by
 have p:=zf9 w b n c bs o g;have q:=zf9 w f m d bs l j;clear o l g j;go_in;go_wp2_with fail
 go_ret;exact ⟨by simp,rfl⟩
theorem zxY (au rd:Int)(bs:List Int)(b f:Option Addr)(n m c d:Nat)(w:World)(p:n=bs.length)(o:m=bs.length)(j:zf w b c bs)(l:zf w f d bs) :
  Calls prog 30 #[.agg #[I_ au,I_ rd,.slice b n c],.agg #[I_ au,I_ rd,.slice f m d]] w fun e w'=>e=.returned (.bool true)∧B_ w w':=by
 have g:B_ w ((w.alloc (.cells #[I_ au,I_ rd,.slice b n c] 66)).alloc (.cells #[I_ au,I_ rd,.slice f m d] 66)):=((bR_ _ _).alloc (nR_ _) _).alloc (by simp) _;have h:=zzh bs b f n m c d _ p o (j.below g) (l.below g);clear p o j l;go_in;go_wp2_with fail
 refine h.mono ?_;rintro e q ⟨rfl,rfl⟩;dsimp only;go_wp2_with fail
 go_ret;exact ⟨rfl,g⟩
variable {bl:List zi}
theorem zyj (b:List Sl)(j i:Nat)(h:j<b.length)(c:i<3):(slv b)[j*3+i]? = (b[j]).cs[i]?:=by
 induction b generalizing j with
 | nil=>cases h
 | cons x r ih=>
  cases j with
  | zero=>simp only[slv,Nat.zero_mul,Nat.zero_add,List.getElem_cons_zero];rw[List.getElem?_append_left (by simp[Sl.cs];exact c)]
  | succ j=>
   have h':j<r.length:=by simpa using h
   simp only[slv,List.getElem_cons_succ];rw[List.getElem?_append_right (by simp[Sl.cs];omega),←ih j h']
   congr 1
   simp[Sl.cs];omega
theorem zxZ {c:List zi}(j:zQ c=zQ bl)(d:bl.length≤1000)(g:∀ b∈zQ bl,∀ x∈b,0≤x∧x≤255):zwY c bl:=
 ⟨j,fun p f x l=>g p.bs (List.mem_map.2 ⟨p,f,rfl⟩) x l,d⟩
theorem zyL (c d:Ct)(w:World)(f:c.v=d.v)(N:d.v.f=0)(D:∀ b∈d.v.bl++d.v.pl,∀ x∈b,0≤x∧x≤255)(J:za2 w c)(L:za2 w d) :
  Calls prog 18 #[.agg (crow_ c),.agg (crow_ d)] w fun e w'=>e=.returned (.bool true)∧B_ w w':=by
 have H:Hid (c.v=d.v):=f;clear f;have l:B_ w ((w.alloc (.cells (crow_ c) 59)).alloc (.cells (crow_ d) 59)):=((bR_ _ _).alloc (nR_ _) _).alloc (by simp) _;have g:=hX_ w (.cells (crow_ c) 59) (.cells (crow_ d) 59);have j:=hY_ w (.cells (crow_ c) 59) (.cells (crow_ d) 59);go_in;go_upto_region 1 with fail
 generalize (w.alloc (.cells (crow_ c) 59)).alloc (.cells (crow_ d) 59)=r at l g j ⊢;have f:=H.out;have z:c.au=d.au:=congrArg CV.au f;have A:c.rd=d.rd:=congrArg CV.rd f;have B:zQ c.bl=zQ d.bl:=congrArg CV.bl f;have C:zQ c.pl=zQ d.pl:=congrArg CV.pl f;have m:c.vl=d.vl:=congrArg CV.vl f;obtain ⟨E,F,O,_,_⟩:=zsZ N;have u:=zxZ B E (fun b t=>D b (List.mem_append.2 (.inl t)));have y:=zxZ C F (fun b t=>D b (List.mem_append.2 (.inr t)));have o:=J.below l;have p:=L.below l;have s:=o.ints;rw[m] at s;have q:=zxX c.au c.rd c.ba c.bc c.bl c.pa c.pc c.pl c.va c.vc d.vl d.ba d.bc d.bl d.pa d.pc d.pl d.va d.vc r u y (by omega) o.hat.lb o.hat.lp s p.hat.lb p.hat.lp p.ints;rw[←m] at q;have G:Calls prog 28 #[.agg (crow_ c),.agg (crow_ d)] r fun e w'=>e=.returned (.bool true)∧B_ r w':=by
  rw[←z,←A,←m];exact q
 clear q z A B C m u y s o p E F O f;have R:=zb g 0 _ rfl;have T:=zb g 1 _ rfl;have U:=zb g 2 _ rfl;have V:=zb g 3 _ rfl;have X:=zb g 4 _ rfl;have Y:=zb j 0 _ rfl;have Z:=zb j 1 _ rfl;have b2:=zb j 2 _ rfl;have b3:=zb j 3 _ rfl;have b4:=zb j 4 _ rfl;go_wp2_with fail
 refine G.mono ?_;rintro _ w1 ⟨rfl,I⟩;dsimp only;go_wp2_with fail
 go_ret;exact ⟨rfl,l.trans (I.mono l.size)⟩
theorem zyw (c d:Bc)(w:World)(b:c.v=d.v)(s:zcG w c)(l:zcG w d) :
  Calls prog 19 #[.agg #[I_ c.v.au,I_ c.v.nu,.slice c.ta c.v.ss.length c.tc],.agg #[I_ d.v.au,I_ d.v.nu,.slice d.ta d.v.ss.length d.tc]] w fun e w'=>e=.returned (.bool true)∧B_ w w':=by
 have p:Hid (c.v=d.v):=b;clear b;refine kO_ ?A0 ?_;exact Obj.cells #[I_ c.v.au,I_ c.v.nu,.slice c.ta c.v.ss.length c.tc] 62;refine kO_ ?B0 ?_;exact Obj.cells #[I_ d.v.au,I_ d.v.nu,.slice d.ta d.v.ss.length d.tc] 62;have f:B_ w ((w.alloc ?A0).alloc ?B0):=((bR_ _ _).alloc (nR_ _) _).alloc (by simp) _;have g:=hX_ w ?A0 ?B0;have j:=hY_ w ?A0 ?B0;go_in;go_upto_region 1 with fail
 generalize (w.alloc ?A0).alloc ?B0=q at f g j ⊢;have b:=p.out;have m:=(s.below f).strs;rw[b] at m;have o:=zxG d.v.au d.v.nu d.v.ss c.ta d.ta _ _ c.tc d.tc q rfl rfl (nT_ l.le l.max) m (l.below f).strs;rw[b] at g ⊢;clear m b;have u:=zb g 0 _ rfl;have A:=zb j 0 _ rfl;have y:=zb g 1 _ rfl;have B:=zb j 1 _ rfl;have z:=zb g 2 _ rfl;have C:=zb j 2 _ rfl;go_wp2_with fail
 refine o.mono ?_;rintro _ D ⟨rfl,r⟩;dsimp only;go_wp2_with fail
 go_ret;exact ⟨rfl,f.trans (r.mono f.size)⟩
theorem zyM (c d:Sl)(w:World)(b:c.v=d.v)(q:zf w c.p.sa c.p.cap c.p.bs)(r:zf w d.p.sa d.p.cap d.p.bs) :
  Calls prog 20 #[.agg (srow_ c),.agg (srow_ d)] w fun e w'=>e=.returned (.bool true)∧B_ w w':=by
 have u:Hid (c.v=d.v):=b;clear b;have f:B_ w ((w.alloc (.cells (srow_ c) 66)).alloc (.cells (srow_ d) 66)):=((bR_ _ _).alloc (nR_ _) _).alloc (by simp) _;have g:=hX_ w (.cells (srow_ c) 66) (.cells (srow_ d) 66);have j:=hY_ w (.cells (srow_ c) 66) (.cells (srow_ d) 66);go_in;go_upto_region 1 with fail
 generalize (w.alloc (.cells (srow_ c) 66)).alloc (.cells (srow_ d) 66)=y at f g j ⊢;have b:=u.out;have o:c.au=d.au:=congrArg (fun s:SV=>s.1) b;have p:c.rd=d.rd:=congrArg (fun s:SV=>s.2.1) b;have l:c.p.bs=d.p.bs:=congrArg (fun s:SV=>s.2.2) b;have m:=q.below f;rw[l] at m;have t:=zxY d.au d.rd d.p.bs c.p.sa d.p.sa _ _ c.p.cap d.p.cap y rfl rfl m (r.below f);rw[o,p,l] at g ⊢;clear m b o p l q r;have B:=zb g 0 _ rfl;have E:=zb j 0 _ rfl;have C:=zb g 1 _ rfl;have F:=zb j 1 _ rfl;have D:=zb g 2 _ rfl;have G:=zb j 2 _ rfl;go_wp2_with fail
 refine t.mono ?_;rintro _ H ⟨rfl,z⟩;dsimp only;go_wp2_with fail
 go_ret;exact ⟨rfl,f.trans (z.mono f.size)⟩
theorem zzr:(prog.info? 59).map (·.size)=some 5:=by kernel_rfl
theorem zzs:(prog.info? 62).map (·.size)=some 3:=by kernel_rfl
theorem zzt:(prog.info? 66).map (·.size)=some 3:=by kernel_rfl
structure zew (p q:Vw):Prop where
 rd:p.rd=q.rd
 cs:p.cs=q.cs
 bs:p.bs=q.bs
 vt:p.vt=q.vt
theorem zx0 {α β:Type}{f:α→β}{l m:List α}(h:l.map f=m.map f)(k:Nat)(b:k<l.length)(c:k<m.length):f l[k]=f m[k]:=by
 have:=congrArg (fun x:List β=>x[k]?) h
 simpa[b,c] using this
theorem zft (p q:Vm)(w:World)(hp:zgq w p)(hq:zgq w q)(ho:zlh q.v)(hs:zew p.v q.v) :
  Calls prog 14 #[.agg (vrow_ p),.agg (vrow_ q)] w fun e w'=>e=.returned (.bool true)∧B_ w w':=by
 have er:p.rd=q.rd:=hs.rd;have l1:p.ls.length=q.ls.length:=by have:=congrArg List.length hs.cs;simpa[Vm.v,zD] using this
 have l2:p.bl.length=q.bl.length:=by have:=congrArg List.length hs.bs;simpa[Vm.v] using this
 have l3:p.tab.length=q.tab.length:=by have:=congrArg List.length hs.vt;simpa[Vm.v,vs] using this
 have b1:q.ls.length≤400:=zmH ho.dag;have b2:q.bl.length≤800:=by have:=ho.sh;simpa[Vm.v] using this
 have b3:q.tab.length≤400000:=by have:=ho.tab;simpa[Vm.v,vs] using this
 have HS:Hid _:=hs;have HO:Hid _:=ho;have ER:Hid (p.rd=q.rd):=er;have L1:Hid (p.ls.length=q.ls.length):=l1;have L2:Hid (p.bl.length=q.bl.length):=l2;have L3:Hid (p.tab.length=q.tab.length):=l3;clear er l1 l2 l3;have hA:B_ w ((w.alloc (.cells (vrow_ p) 42)).alloc (.cells (vrow_ q) 42)):=((bR_ _ _).alloc (nR_ _) _).alloc (by simp) _;have q0:=hX_ w (.cells (vrow_ p) 42) (.cells (vrow_ q) 42);have q1:=hY_ w (.cells (vrow_ p) 42) (.cells (vrow_ q) 42);go_in;go_upto_region 1 with fail
 generalize (w.alloc (.cells (vrow_ p) 42)).alloc (.cells (vrow_ q) 42)=W0 at hA q0 q1 ⊢;generalize w.heap.size+1=Q at q1 ⊢;generalize af:w.heap.size=P at q0 ⊢;have HP:Hid (w.heap.size=P):=af;clear af hs ho;have aw:=hp.below hA;have ax:=hq.below hA;clear hp hq;have p1:=zb q0 1 _ rfl;have p2:=zb q0 2 _ rfl;have p3:=zb q0 3 _ rfl;have p4:=zb q0 4 _ rfl;have s1:=zb q1 1 _ rfl;have s2:=zb q1 2 _ rfl;have s3:=zb q1 3 _ rfl;have s4:=zb q1 4 _ rfl;rw[ER.out] at p1;rw[L1.out] at p2;rw[L2.out] at p3;rw[L3.out] at p4;clear q0 q1;generalize aj:q.ls.length=T at p2 s2 b1 L1 ⊢;generalize ak:q.bl.length=U at p3 s3 b2 L2 ⊢;generalize al:q.tab.length=X at p4 s4 b3 L3 ⊢;have N1:Hid _:=aj;have N2:Hid _:=ak;have N3:Hid _:=al;clear aj ak al;go_wp2_with fail
 have am:=aw;have an:=ax;have ay:=p2;have aB:=p3;have aE:=p4;have aH:=s2;have aK:=s3;have aN:=s4;go_loopw [5] (fun j wr=>∃ k:Nat,k≤T∧j=I_ k∧B_ W0 wr) (fun j _=>T-(intOf j).toNat)
 case atStart=>exact ⟨0,nZ_ _,rfl,bR_ _ _⟩
 case round=>
  obtain ⟨k,hk,rfl,g⟩:=hrel;have o:=am.below g;have r:=an.below g;have z:=zr g ay;have A:=zr g aB;have B:=zr g aE;have E:=zr g aH;have F:=zr g aK;have G:=zr g aN;by_cases hlt:k<T
  ·have ae:(k:Int)<T:=by omega
   have M:k<p.ls.length:=by rw[L1.out];exact hlt
   have J:k<q.ls.length:=by rw[N1.out];exact hlt
   have L:Hid _:=(fun (V:World) (hV:B_ wr V)=>zyL (p.ls[k]) (q.ls[k]) V (zx0 (f:=Ct.v) HS.out.cs k M J) (zpl HO.out.dag _ (gM_ J)) (HO.out.du8 _ (List.mem_map.2 ⟨_,gM_ J,rfl⟩)) ((o.ec _ (gM_ M)).below hV) ((r.ec _ (gM_ J)).below hV));have Y:=o.rc;rw[L1.out] at Y;have Z:=r.rc;rw[N1.out] at Z;obtain ⟨s,ac,N⟩:=zqJ Y hlt (row:=(p.ls[k]).cs) rfl (fun t R=>zf3 p.ls k t M R);obtain ⟨u,ad,O⟩:=zqJ Z hlt (row:=(q.ls[k]).cs) rfl (fun t R=>zf3 q.ls k t J R);rw[ac] at z;rw[ad] at E;generalize p.ls[k]=c at L N;generalize q.ls[k]=d at L O;have y:=dB_ wr;have C:=dC_ z;have H:=dC_ E;have D:=zem N;have I:=zem O;go_upto_region 6 with fail
   refine wR_ (S:=fun w'=>C_ w' P 2 (.slice (some ⟨s,0,none⟩) T p.cc)∧C_ w' Q 2 (.slice (some ⟨u,0,none⟩) T q.cc)∧w'.rangeAt s (k*5) c.cs∧w'.rangeAt u (k*5) d.cs) (by kernel_rfl) ⟨C,H,D,I⟩ (fun l=>?_);generalize wr.drew=V0 at y C H D I l ⊢;refine tks_ 4 [(0,47,(P_ P 2)),(1,48,.slice (some ⟨s,0,none⟩) T p.cc),(2,49,I_ (k:Int)),(3,50,(P_ s (k*5)))] l ?_;simp only[tkf_,zg];refine tQ_ 4 51 (.agg (crow_ c)) rfl rfl (yieldsIf_load_mid (by rfl) 59 _ rfl s (k*5) rfl c.cs _ (fun w0 h=>h.2.2.1) underlying59 rfl zzr) l ?_;simp only[zg];refine tks_ 4 [(5,52,(P_ Q 2)),(6,53,.slice (some ⟨u,0,none⟩) T q.cc),(7,54,I_ (k:Int)),(8,55,(P_ u (k*5)))] l ?_;simp only[tkf_,zg];refine tQ_ 9 56 (.agg (crow_ d)) rfl rfl (yieldsIf_load_mid (by rfl) 59 _ rfl u (k*5) rfl d.cs _ (fun w0 h=>h.2.2.2) underlying59 rfl zzr) l ?_;simp only[zg];refine zE 10 rfl (fun K9 hK=>?_);refine zj rfl 57 rfl 18 [.tmp 51,.tmp 56] #[59,59] rfl [.agg (crow_ c),.agg (crow_ d)] rfl (eO_ func18) (fun v w'=>v=.bool true∧B_ V0 w') ((L.out V0 y).mono (fun e w2 h=>⟨_,h.1,rfl,h.2⟩)) ?_;rintro v V1 ⟨rfl,m⟩;have ab:=zq y m;refine hK.out _ _ ⟨zr m C,zr m H,zd1 D m,zd1 I m⟩ (fun l=>?_);simp only[zg];refine tK_ 11 58 (.bool false) rfl rfl l ?_;simp only[zg];refine wD_ (by kernel_rfl) ?_ _;have aa:=zq g ab;clear C H D I l y m o r Y Z N O z A B E F G;go_wp2_with fail
   go_roundw
   case rel=>exact ⟨k+1,by omega,by go_num,aa⟩
   case measure=>simp[intOf];omega
  ·obtain rfl:T=k:=by omega
   have ae:¬((T:Nat):Int)<(T:Nat):=by omega
   obtain ⟨W1,ag⟩:∃ W,W=wr:=⟨_,rfl⟩;rw[←ag] at g o r z A B E F G ⊢;clear ag;have aa:=zq hA g;have ao:=o;have ap:=r;have az:=z;have aC:=A;have aF:=B;have aI:=E;have aL:=F;have aO:=G;clear g o r z A B E F G hlt hk;go_wp2_with fail
   go_loopw [6] (fun j wr=>∃ k:Nat,k≤U∧j=I_ k∧B_ W1 wr) (fun j _=>U-(intOf j).toNat)
   case atStart=>exact ⟨0,nZ_ _,rfl,bR_ _ _⟩
   case round=>
    obtain ⟨k,hk,rfl,g⟩:=hrel;have o:=ao.below g;have r:=ap.below g;have z:=zr g az;have A:=zr g aC;have B:=zr g aF;have E:=zr g aI;have F:=zr g aL;have G:=zr g aO;by_cases hlt:k<U
    ·have ae:(k:Int)<U:=by omega
     have M:k<p.bl.length:=by rw[L2.out];exact hlt
     have J:k<q.bl.length:=by rw[N2.out];exact hlt
     have L:Hid _:=(fun (V:World) (hV:B_ wr V)=>zyw (p.bl[k]) (q.bl[k]) V (zx0 (f:=fun b:Bc=>b.v) HS.out.bs k M J) ((o.eb _ (gM_ M)).below hV) ((r.eb _ (gM_ J)).below hV));have Y:=o.rb;rw[L2.out] at Y;have Z:=r.rb;rw[N2.out] at Z;obtain ⟨s,ac,N⟩:=zqJ Y hlt (row:=(p.bl[k]).cs) rfl (fun t R=>zyh p.bl k t M R);obtain ⟨u,ad,O⟩:=zqJ Z hlt (row:=(q.bl[k]).cs) rfl (fun t R=>zyh q.bl k t J R);rw[ac] at A;rw[ad] at F;generalize p.bl[k]=c at L N;generalize q.bl[k]=d at L O;have y:=dB_ wr;have C:=dC_ A;have H:=dC_ F;have D:=zem N;have I:=zem O;go_upto_region 11 with fail
     refine wR_ (S:=fun w'=>C_ w' P 3 (.slice (some ⟨s,0,none⟩) U p.bc)∧C_ w' Q 3 (.slice (some ⟨u,0,none⟩) U q.bc)∧w'.rangeAt s (k*3) c.cs∧w'.rangeAt u (k*3) d.cs) (by kernel_rfl) ⟨C,H,D,I⟩ (fun l=>?_);generalize wr.drew=V0 at y C H D I l ⊢;refine tks_ 4 [(0,66,(P_ P 3)),(1,67,.slice (some ⟨s,0,none⟩) U p.bc),(2,68,I_ (k:Int)),(3,69,(P_ s (k*3)))] l ?_;simp only[tkf_,zg];refine kA_ ?A0 ?_;exact #[I_ c.v.au,I_ c.v.nu,.slice c.ta c.v.ss.length c.tc];refine tQ_ 4 70 (.agg ?A0) rfl rfl (yieldsIf_load_mid (by rfl) 62 _ rfl s (k*3) rfl c.cs _ (fun w0 h=>h.2.2.1) underlying62 rfl zzs) l ?_;simp only[zg];refine tks_ 4 [(5,71,(P_ Q 3)),(6,72,.slice (some ⟨u,0,none⟩) U q.bc),(7,73,I_ (k:Int)),(8,74,(P_ u (k*3)))] l ?_;simp only[tkf_,zg];refine kA_ ?B0 ?_;exact #[I_ d.v.au,I_ d.v.nu,.slice d.ta d.v.ss.length d.tc];refine tQ_ 9 75 (.agg ?B0) rfl rfl (yieldsIf_load_mid (by rfl) 62 _ rfl u (k*3) rfl d.cs _ (fun w0 h=>h.2.2.2) underlying62 rfl zzs) l ?_;simp only[zg];refine zE 10 rfl (fun K9 hK=>?_);refine zj rfl 76 rfl 19 [.tmp 70,.tmp 75] #[62,62] rfl [.agg ?A0,.agg ?B0] rfl (eO_ func19) (fun v w'=>v=.bool true∧B_ V0 w') ((L.out V0 y).mono (fun e w2 h=>⟨_,h.1,rfl,h.2⟩)) ?_;rintro v V1 ⟨rfl,m⟩;have ab:=zq y m;refine hK.out _ _ ⟨zr m C,zr m H,zd1 D m,zd1 I m⟩ (fun l=>?_);simp only[zg];refine tK_ 11 77 (.bool false) rfl rfl l ?_;simp only[zg];refine wD_ (by kernel_rfl) ?_ _;have aa:=zq g ab;clear C H D I l y m o r Y Z N O z A B E F G;go_wp2_with fail
     go_roundw
     case rel=>exact ⟨k+1,by omega,by go_num,aa⟩
     case measure=>simp[intOf];omega
    ·obtain rfl:U=k:=by omega
     have ae:¬((U:Nat):Int)<(U:Nat):=by omega
     obtain ⟨W2,ah⟩:∃ W,W=wr:=⟨_,rfl⟩;rw[←ah] at g o r z A B E F G ⊢;clear ah;have au:=zq aa g;have aq:=o;have ar:=r;have aA:=z;have aD:=A;have aG:=B;have aJ:=E;have aM:=F;have aP:=G;clear g o r z A B E F G hlt hk;go_wp2_with fail
     go_loopw [7] (fun j wr=>∃ k:Nat,k≤X∧j=I_ k∧B_ W2 wr) (fun j _=>X-(intOf j).toNat)
     case atStart=>exact ⟨0,nZ_ _,rfl,bR_ _ _⟩
     case round=>
      obtain ⟨k,hk,rfl,g⟩:=hrel;have o:=aq.below g;have r:=ar.below g;have z:=zr g aA;have A:=zr g aD;have B:=zr g aG;have E:=zr g aJ;have F:=zr g aM;have G:=zr g aP;by_cases hlt:k<X
      ·have ae:(k:Int)<X:=by omega
       have M:k<p.tab.length:=by rw[L3.out];exact hlt
       have J:k<q.tab.length:=by rw[N3.out];exact hlt
       have L:Hid _:=(fun (V:World) (hV:B_ wr V)=>zyM (p.tab[k]) (q.tab[k]) V (zx0 (f:=Sl.v) HS.out.vt k M J) ((o.et _ (gM_ M)).below hV) ((r.et _ (gM_ J)).below hV));have Y:=o.rt;rw[L3.out] at Y;have Z:=r.rt;rw[N3.out] at Z;obtain ⟨s,ac,N⟩:=zqJ Y hlt (row:=(p.tab[k]).cs) rfl (fun t R=>zyj p.tab k t M R);obtain ⟨u,ad,O⟩:=zqJ Z hlt (row:=(q.tab[k]).cs) rfl (fun t R=>zyj q.tab k t J R);rw[ac] at B;rw[ad] at G;generalize p.tab[k]=c at L N;generalize q.tab[k]=d at L O;have y:=dB_ wr;have C:=dC_ B;have H:=dC_ G;have D:=zem N;have I:=zem O;go_upto_region 16 with fail
       refine wR_ (S:=fun w'=>C_ w' P 4 (.slice (some ⟨s,0,none⟩) X p.tc)∧C_ w' Q 4 (.slice (some ⟨u,0,none⟩) X q.tc)∧w'.rangeAt s (k*3) c.cs∧w'.rangeAt u (k*3) d.cs) (by kernel_rfl) ⟨C,H,D,I⟩ (fun l=>?_);generalize wr.drew=V0 at y C H D I l ⊢;refine tks_ 4 [(0,85,(P_ P 4)),(1,86,.slice (some ⟨s,0,none⟩) X p.tc),(2,87,I_ (k:Int)),(3,88,(P_ s (k*3)))] l ?_;simp only[tkf_,zg];refine tQ_ 4 89 (.agg (srow_ c)) rfl rfl (yieldsIf_load_mid (by rfl) 66 _ rfl s (k*3) rfl c.cs _ (fun w0 h=>h.2.2.1) underlying66 rfl zzt) l ?_;simp only[zg];refine tks_ 4 [(5,90,(P_ Q 4)),(6,91,.slice (some ⟨u,0,none⟩) X q.tc),(7,92,I_ (k:Int)),(8,93,(P_ u (k*3)))] l ?_;simp only[tkf_,zg];refine tQ_ 9 94 (.agg (srow_ d)) rfl rfl (yieldsIf_load_mid (by rfl) 66 _ rfl u (k*3) rfl d.cs _ (fun w0 h=>h.2.2.2) underlying66 rfl zzt) l ?_;simp only[zg];refine zE 10 rfl (fun K9 hK=>?_);refine zj rfl 95 rfl 20 [.tmp 89,.tmp 94] #[66,66] rfl [.agg (srow_ c),.agg (srow_ d)] rfl (eO_ func20) (fun v w'=>v=.bool true∧B_ V0 w') ((L.out V0 y).mono (fun e w2 h=>⟨_,h.1,rfl,h.2⟩)) ?_;rintro v V1 ⟨rfl,m⟩;have ab:=zq y m;refine hK.out _ _ ⟨zr m C,zr m H,zd1 D m,zd1 I m⟩ (fun l=>?_);simp only[zg];refine tK_ 11 96 (.bool false) rfl rfl l ?_;simp only[zg];refine wD_ (by kernel_rfl) ?_ _;have aa:=zq g ab;clear C H D I l y m o r Y Z N O z A B E F G;go_wp2_with fail
       go_roundw
       case rel=>exact ⟨k+1,by omega,by go_num,aa⟩
       case measure=>simp[intOf];omega
      ·obtain rfl:X=k:=by omega
       have ae:¬((X:Nat):Int)<(X:Nat):=by omega
       obtain ⟨W3,ai⟩:∃ W,W=wr:=⟨_,rfl⟩;rw[←ai] at g o r z A B E F G ⊢;clear ai;have av:=zq au g;clear g o r hlt hk;go_wp2_with fail
       go_ret;exact ⟨rfl,av⟩
end Go.Proofs.YtdepbohhmfkjgaaGreatDoor
