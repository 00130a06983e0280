import Derived.Shelf.Strings.BuilderK
import Derived.Shelf.Strings.Search1
import Derived.Shelf.Strconv.Itoa3
import Derived.Shelf.Strconv.AtoiAll
import Derived.Lib.AppendIntMem
import Derived.Lib.ItoaLen
import Derived.Deep.CutBlock
import Derived.Test.YtfikffhlfoidjaaGreatDoorPk18
set_option maxRecDepth 100000
set_option maxHeartbeats 4000000
namespace Go.Proofs.YtfikffhlfoidjaaGreatDoor
open Go.RowKit _root_.Go.Proofs.Tryz
variable {w w':World}
theorem Upd.drew {b:Nat}{o:Obj}(h:Upd b o w w'):Upd b o w w'.drew:=⟨h.os,h.tape,h.output,h.size,h.block,h.here⟩
theorem zpd (a:Bc)(b:List Bc):bcl (a::b)=a.cs++bcl b:=by simp[bcl]
theorem zrb (l:List Bc)(j i:Nat)(h:j<l.length)(b:i<3):(bcl l)[j*3+i]? = (l[j]).cs[i]?:=by
 induction l generalizing j with
 | nil=>cases h
 | cons x r ih=>
  cases j with
  | zero=>
   rw[zpd,Nat.zero_mul,zA_,List.getElem?_append_left (by simp[Bc.cs];exact b)];rfl
  | succ j=>
   have h':j<r.length:=by simpa using h
   rw[zpd,List.getElem?_append_right (by simp[Bc.cs];omega)];have e:(j+1)*3+i-x.cs.length=j*3+i:=by simp[Bc.cs];omega
   rw[e,ih j h'];rfl
variable {o:Nat}
theorem zdd {b:Nat}{cs:List Value}(h:w.rangeAt b o cs)(d:B_ w w'):w'.rangeAt b o cs:=λj v c=>(d.cell (p:=p_ b (o+j)) (bL_ (h j v c))).trans (h j v c)
theorem zde {b:Nat}{cs:List Value}(h:w.rangeAt b o cs):w.drew.rangeAt b o cs:=λj v c=>h j v c
theorem zex.vm {o:Om}(h:zex w o):∀i,i<4->zfX w (o.y i):=zsL h.e0 h.e1 h.e2 h.e3
theorem zjd.vw {o:Om}(h:zjd o):∀i,i<4->zlk (o.y i).v:=zsL h.v0 h.v1 h.v2 h.v3
theorem ziw {o:Om}{f:Fl}(h:o.v=f.told):o.gs.length=f.no.sg.length:=by
 have e:(zA o.gs).length=f.no.sg.length:=cA_ (λx:Ou=>x.sg.length) h;rw[zgj]at e;exact e
theorem zcA {o:Om}{f:Fl}(h:o.v=f.told):o.aw=f.away.length:=cA_ (λx:Ou=>x.aw) h
theorem zxO (bs:L_)(b f:Q_)(n m c d:Nat)(w:World)(o:n=bs.length)(l:m=bs.length)(g:zg w b c bs)(j:zg w f d bs) :
  Calls prog 66 #[.slice b n c,.slice f m d] w λe w'=>e=.returned (.bool true)/\w=w':=by
 have p:=zd8 w b n c bs o g;have q:=zd8 w f m d bs l j;clear o l g j;go_in;go_wp2_with fail
 go_ret;exact⟨by simp,rfl⟩
theorem zww (b ys:L_)(f g:Q_)(n m c d:Nat)(w:World)(p:n=b.length)(o:m=ys.length)(j:zg w f c b)(l:zg w g d ys)(q:∀x∈b,0<=x/\x<=255)(r:∀x∈ys,0<=x/\x<=255) :
  Calls prog 66 #[.slice f n c,.slice g m d] w λe w'=>e=.returned (.bool (decide (b=ys)))/\w=w':=by
 have t:=zd8 w f n c b p j;have u:=zd8 w g m d ys o l;have s:Hid (((zai b).toList == (zai ys).toList)=decide (b=ys)):=by
  show _=_;by_cases h:b=ys;simp[h];rw[dF_ h,beq_eq_false_iff_ne];exact λe=>h (ziD q r (zhf e))
 clear p o j l q r;generalize zai b=A at*;generalize zai ys=B at*;go_in;go_wp2_with fail
 go_ret;exact⟨zN (by rw[<-s.out]),rfl⟩
def za0 (ps:List zi):List (L_):=ps.map (·.bs)
theorem zju (b f:List zi)(I J:Q_)(n m c d:Nat)(w:World)(hn:n=b.length)(hm:m=f.length)(hx:n<=1000)(hy:m<=1000)(O:zx w I c b)(R:zx w J d f)(F:∀p∈b,∀x∈p.bs,0<=x/\x<=255)(G:∀p∈f,∀x∈p.bs,0<=x/\x<=255) :
  Calls prog 92 #[.slice I n c,.slice J m d] w λe w'=>e=.returned (.bool (decide (za0 b=za0 f)))/\B_ w w':=by
 subst hn hm;by_cases hl:b.length=f.length
 .have A:Hid (b.length=f.length):=hl;have Z:Hid _:=F;have HV:Hid _:=G;rw[<-hl];clear F G hl;go_in;go_wp2_with fail
  go_loopw [5] (λj wr=>∃k:Nat,k<=b.length/\j=I_ k/\Hid (za0 (b.take k)=za0 (f.take k))/\B_ w wr) (λj _=>b.length-(intOf j).toNat)
  case atStart=>exact⟨0,nZ_ _,rfl,by show _=_;simp,bR_ _ _⟩
  case round=>
   obtain⟨k,hk,rfl,E,g⟩:=hrel;by_cases hlt:k<b.length
   .have t:k<f.length:=by have:=A.out;omega
    obtain⟨l,o,rfl,C⟩:∃l o,I=some (p_ l o)/\∀j (h:j<b.length),w.cell? (p_ l (o+j))=some (.slice (b[j]).sa (b[j]).bs.length (b[j]).cap):=by
     rcases O.parts.cells with h|h;subst h;simp at hlt;exact h
    obtain⟨r,s,rfl,D⟩:∃r s,J=some (p_ r s)/\∀j (h:j<f.length),w.cell? (p_ r (s+j))=some (.slice (f[j]).sa (f[j]).bs.length (f[j]).cap):=by
     rcases R.parts.cells with h|h;subst h;simp at t;exact h
    have ka:=(g.cell (p:=p_ l (o+k)) (bL_ (C k hlt))).trans (C k hlt);have kb:=(g.cell (p:=p_ r (s+k)) (bL_ (D k t))).trans (D k t);have ae:=(O.parts.each b[k] (gM_ hlt)).below g;have af:=(R.parts.each f[k] (gM_ t)).below g;have X:=Z.out b[k] (gM_ hlt);have Y:=HV.out f[k] (gM_ t);have ad:(k:Int)<b.length:=by omega
    have h0:(0:Int)<=k:=by omega
    clear C D;have U:Hid (za0 (b.take (k+1))=za0 (b.take k)++[(b[k]).bs]):=by show _=_;rw[za0,tS_ hlt,List.map_append];rfl
    have V:Hid (za0 (f.take (k+1))=za0 (f.take k)++[(f[k]).bs]):=by show _=_;rw[za0,tS_ t,List.map_append];rfl
    generalize b[k]=p at*;generalize f[k]=q at*;have N:∀u,B_ wr u->Calls prog 66 #[.slice p.sa p.bs.length p.cap,.slice q.sa q.bs.length q.cap] u λe w'=>e=.returned (.bool (decide (p.bs=q.bs)))/\u=w':=λu T=>zww p.bs q.bs p.sa q.sa _ _ p.cap q.cap u rfl rfl (ae.below T) (af.below T) X Y;have y:Hid _:=N;clear N X Y;by_cases he:p.bs=q.bs;have H:Hid (p.bs=q.bs):=he;rw[dT_ he]at y
    rotate_left
    have H:Hid (¬p.bs=q.bs):=he;rw[dF_ he]at y
    rotate_left
    all_goals
     clear he;go_wp2_with fail
     go_region_held3 (λw'=>w'.cell? (p_ l (o+k))=some (.slice p.sa p.bs.length p.cap)/\w'.cell? (p_ r (s+k))=some (.slice q.sa q.bs.length q.cap)) (go_keep) ((go_at_call 66;refine(y.out _ ?_).mono ?_;exact(bR_ _ _).drew;rintro e w8⟨rfl,rfl⟩))
    .all_goals
      go_wp2_with fail
      go_roundw
      case rel=>
       have M:∃B:Nat,B<=b.length/\(Value.int .i64 ((k:Int)+1))=I_ B/\Hid (za0 (b.take B)=za0 (f.take B))/\B_ w wr.drew:=⟨k+1,by omega,by go_num,by show _=_;rw[U.out,V.out,E.out,H.out],g.drew⟩
       first|exact M|((repeat apply Exists.intro);exact⟨M,rfl⟩)
      case measure=>simp[intOf];omega
    all_goals
     go_wp2_with fail
     go_ret;refine⟨zN (dF_ λe=>H.out ?_).symm,g.drew⟩;have z:=U.out;have h2:=V.out;have L:za0 (b.take (k+1))=za0 (f.take (k+1)):=by
      have e':(za0 b).take (k+1)=(za0 f).take (k+1):=by rw[e]
      simpa[za0,List.map_take]using e'
     rw[z,h2,E.out]at L;have h4:=List.append_cancel_left L
     simpa using h4
   obtain rfl:k=b.length:=by omega
   have ad:¬(b.length:Int)<b.length:=by omega
   have aa:Hid (za0 b=za0 f):=by
    have z:=E.out;rw[tL_ (nR_ _),tL_ (by have:=A.out;omega)]at z;exact z
   go_wp2_with fail
   go_ret;exact⟨zN (dT_ aa.out).symm,g⟩
 have ac:¬(b.length:Int)=f.length:=by omega
 have A:Hid (¬za0 b=za0 f):=λe=>hl (by have:=cA_ List.length e;simpa[za0]using this);have ag:((b.length:Int) == (f.length:Int))=false:=beq_eq_false_iff_ne.2 ac;clear F G;go_in;go_wp2_with fail
 go_ret;exact⟨zN (dF_ A.out).symm,bR_ _ _⟩
structure zuS (w:World)(ba:Q_)(bn bc:Nat)(bl:List zi)(pa:Q_)(pn pc:Nat)(pl:List zi):Prop where
 eb:bn=bl.length
 ep:pn=pl.length
 b3:bn<=1000
 p4:pn<=1000
 bat:zx w ba bc bl
 par:zx w pa pc pl
 bu:∀p∈bl,∀x∈p.bs,0<=x/\x<=255
 pu:∀p∈pl,∀x∈p.bs,0<=x/\x<=255
theorem zmK (au rd c l:Int)(B:Q_)(F D:Nat)(bl:List zi)(q:Q_)(u s:Nat)(pl:List zi)(C:Q_)(G E:Nat)(d:List zi)(r:Q_)(A t:Nat)(m:List zi)(w:World)(f:zuS w B F D bl q u s pl)(g:zuS w C G E d r A t m) :
  Calls prog 63 #[.agg #[I_ au,I_ rd,.slice B F D,.slice q u s],.agg #[I_ c,I_ l,.slice C G E,.slice r A t]] w λe w'=>e=.returned (.bool (decide (au=c/\rd=l/\za0 bl=za0 d/\za0 pl=za0 m)))/\B_ w w':=by
 have H:B_ w ((w.alloc (.cells #[I_ au,I_ rd,.slice B F D,.slice q u s] 68)).alloc (.cells #[I_ c,I_ l,.slice C G E,.slice r A t] 68)):=((bR_ _ _).alloc (nR_ _) _).alloc (by simp) _;have J:∀b,B_ w b->Calls prog 92 #[.slice B F D,.slice C G E] b λe w'=>e=.returned (.bool (decide (za0 bl=za0 d)))/\B_ b w':=λb h=>zju bl d B C F G D E b f.eb g.eb f.b3 g.b3 (f.bat.below h) (g.bat.below h) f.bu g.bu;have L:∀b,B_ w b->Calls prog 92 #[.slice q u s,.slice r A t] b λe w'=>e=.returned (.bool (decide (za0 pl=za0 m)))/\B_ b w':=λb h=>zju pl m q r u A s t b f.ep g.ep f.p4 g.p4 (f.par.below h) (g.par.below h) f.pu g.pu;have I:Hid _:=J;have N:Hid _:=L;clear J L f g;have o:Hid (decide (au=c/\rd=l/\za0 bl=za0 d/\za0 pl=za0 m)=(decide (au=c/\rd=l)&&decide (za0 bl=za0 d)&&decide (za0 pl=za0 m))):=by
  show _=_;by_cases h1:au=c<;>by_cases h2:rd=l<;>by_cases h3:za0 bl=za0 d<;>simp[h1,h2,h3]
 generalize decide (za0 bl=za0 d)=x at*;generalize decide (za0 pl=za0 m)=y at*;generalize decide (au=c/\rd=l/\za0 bl=za0 d/\za0 pl=za0 m)=z at*;by_cases h1:au=c
 .subst h1;by_cases h2:rd=l
  .subst h2;have p:Hid (z=(x&&y)):=by have:=o.out;show _=_;simpa using this
   clear o;cases x
   all_goals
    go_in;go_wp2_with fail
    refine(I.out _ H).mono ?_;rintro e T⟨rfl,j⟩
   .go_wp2_with fail
    go_ret;exact⟨zN (by rw[p.out];rfl),zS (zS j)⟩
   have M:=zbK j;have R:=zbK (zS j);rw[zG]at M;replace j:=zS (zS j);have U:=zb R 3 (.slice q u s) rfl;have V:=zb M 3 (.slice r A t) rfl;go_wp2_with fail
   refine(N.out _ j).mono ?_;rintro e w2⟨rfl,O⟩;go_wp2_with fail
   go_ret;exact⟨zN (by rw[p.out];simp),j.trans (O.mono j.size)⟩
  have p:Hid (z=false):=by have:=o.out;show _=_;simpa[h2]using this
  clear o;have Y:(rd == l)=false:=by simpa using h2
  go_in;go_wp2_with fail
  go_ret;exact⟨zN p.out.symm,H⟩
 have p:Hid (z=false):=by have:=o.out;show _=_;simpa[h1]using this
 clear o;have X:(au == c)=false:=by simpa using h1
 go_in;go_wp2_with fail
 go_ret;exact⟨zN p.out.symm,H⟩
variable {qs:List zi}
structure zg2 (ps qs:List zi):Prop where
 same:zbm ps qs
 u8:∀p∈qs,∀x∈p.bs,0<=x/\x<=255
 le:qs.length<=1000
theorem zg2.length {b:List zi}(h:zg2 b qs):b.length=qs.length:=h.same.length
theorem zg2.u8' {b:List zi}(h:zg2 b qs):∀p∈b,∀x∈p.bs,0<=x/\x<=255:=by
 intro p j x d;have c:p.bs∈b.map (·.bs):=List.mem_map_of_mem j;have g:b.map (·.bs)=qs.map (·.bs):=h.same;rw[g]at c;obtain⟨q,l,e⟩:=mM_.1 c;have f:q.bs=p.bs:=e;rw[<-f]at d;exact h.u8 q l x d
theorem zmL (au rd:Int)(o:Q_)(p:Nat)(d:List zi)(q:Q_)(r:Nat)(f:List zi)(g:Q_)(j:Nat)(bl:List zi)(l:Q_)(m:Nat)(pl:List zi)(w:World)(b:zg2 d bl)(c:zg2 f pl)(s:zx w o p d)(t:zx w q r f)(u:zx w g j bl)(y:zx w l m pl) :
  Calls prog 63 #[.agg #[I_ au,I_ rd,.slice o bl.length p,.slice q pl.length r],.agg #[I_ au,I_ rd,.slice g bl.length j,.slice l pl.length m]] w λe w'=>e=.returned (.bool true)/\B_ w w':=by
 have h:=zmK au rd au rd o bl.length p d q pl.length r f g bl.length j bl l pl.length m pl w ⟨b.length.symm,c.length.symm,b.le,c.le,s,t,b.u8',c.u8'⟩ ⟨rfl,rfl,b.le,c.le,u,y,b.u8,c.u8⟩;have z:decide (au=au/\rd=rd/\za0 d=za0 bl/\za0 f=za0 pl)=true:=dT_ ⟨rfl,rfl,b.same,c.same⟩;rw[z]at h;exact h
theorem zpx (vl:L_)(o p:Q_)(c d:Nat)(w:World)(C:vl.length<=9000000000000000000)(u:zax w o vl)(y:zax w p vl) :
  Calls prog 64 #[.slice o vl.length c,.slice p vl.length d] w λe w'=>e=.returned (.bool true)/\B_ w w':=by
 go_in;go_wp2_with fail
 go_loopw [5] (λj wr=>∃k:Nat,k<=vl.length/\j=I_ k/\B_ w wr) (λj _=>vl.length-(intOf j).toNat)
 case atStart=>exact⟨0,nZ_ _,rfl,bR_ _ _⟩
 case round=>
  obtain⟨k,B,rfl,b⟩:=hrel;by_cases hlt2:k<vl.length
  .obtain⟨f,g,rfl,r⟩:∃f g,o=some (p_ f g)/\∀j,j<vl.length->C_ wr f (g+j) (I_ (vl.getD j 0)):=by
    rcases(u.below b).cells with h|h;subst h;simp at hlt2;exact h
   obtain⟨l,m,rfl,s⟩:∃l m,p=some (p_ l m)/\∀j,j<vl.length->C_ wr l (m+j) (I_ (vl.getD j 0)):=by
    rcases(y.below b).cells with h|h;subst h;simp at hlt2;exact h
   have D:=r k hlt2;have E:=s k hlt2;have z:(k:Int)<vl.length:=by omega
   have A:(0:Int)<=k:=by omega
   clear r s;generalize vl.getD k 0=x at*;go_wp2_with fail
   go_region
   all_goals
    go_wp2_with fail
    go_roundw
    case rel=>
     have q:∃t:Nat,t<=vl.length/\(Value.int .i64 ((k:Int)+1))=I_ t/\B_ w wr.drew:=⟨k+1,by omega,by go_num,b.drew⟩
     first|exact q|((repeat apply Exists.intro);exact⟨q,rfl⟩)
    case measure=>simp[intOf];omega
  obtain rfl:k=vl.length:=by omega
  have z:¬(vl.length:Int)<vl.length:=by omega
  go_wp2_with fail
  go_ret;exact⟨rfl,b⟩
theorem zpy (au rd:Int)(l:Q_)(m:Nat)(u:List zi)(o:Q_)(p:Nat)(y:List zi)(q:Q_)(r:Nat)(zl:L_)(b:Q_)(c:Nat)(bl:List zi)(d:Q_)(f:Nat)(pl:List zi)(g:Q_)(j:Nat)(w:World)(z:zg2 u bl)(A:zg2 y pl)(T:zl.length<=9000000000000000000)(I:zx w l m u)(J:zx w o p y)(L:zax w q zl)(M:zx w b c bl)(N:zx w d f pl)(O:zax w g zl) :
  Calls prog 36 #[.agg #[I_ au,I_ rd,.slice l u.length m,.slice o y.length p,.slice q zl.length r],.agg #[I_ au,I_ rd,.slice b bl.length c,.slice d pl.length f,.slice g zl.length j]] w λe w'=>e=.returned (.bool true)/\B_ w w':=by
 rw[z.length,A.length];refine kA_ ?A0 ?_;exact #[I_ au,I_ rd,.slice b bl.length c,.slice d pl.length f,.slice g zl.length j];refine kO_ ?B0 ?_;exact Obj.cells #[I_ au,I_ rd,.slice l bl.length m,.slice o pl.length p,.slice q zl.length r] 71;have s:B_ w ((w.alloc ?B0).alloc (.cells ?A0 71)):=((bR_ _ _).alloc (nR_ _) _).alloc (by rw[zG];omega) _;have D:=hX_ w ?B0 (.cells ?A0 71);have E:((w.alloc ?B0).alloc (.cells ?A0 71)).heap[w.heap.size+1]? = some (.cells ?A0 71 (0,0)):=by
  have:=hN_ (w.alloc ?B0) (.cells ?A0 71);rw[zG]at this;exact this
 have F:Hid _:=z;have G:Hid _:=A;clear z A;go_in;go_wp2_with fail
 generalize (w.alloc ?B0).alloc (.cells ?A0 71)=H at s D E|-;refine(zmL au rd l m u o p y b c bl d f pl H F.out G.out (I.below s) (J.below s) (M.below s) (N.below s)).mono ?_;rintro _ X⟨rfl,B⟩;dsimp only;have U:=zk B D;have V:=zk B E;have Y:=zb U 4 _ rfl;have Z:=zb V 4 _ rfl;have t:=zm s B;go_wp2_with fail
 refine(zpx zl q g r j X T (L.below t) (O.below t)).mono ?_;rintro _ w2⟨rfl,R⟩;dsimp only;go_wp2_with fail
 go_ret;exact⟨rfl,t.trans (R.mono t.size)⟩
theorem znT (b:Z_)(t u:Q_)(n m c d:Nat)(w:World)(F:n=b.length)(E:m=b.length)(C:n<=maxLen)(A:zas w t b)(B:zas w u b) :
  Calls prog 65 #[.slice t n c,.slice u m d] w λe w'=>e=.returned (.bool true)/\B_ w w':=by
 subst F E;unfold maxLen at C;go_in;go_wp2_with fail
 go_loopw [5] (λj wr=>∃k:Nat,k<=b.length/\j=I_ k/\B_ w wr) (λj _=>b.length-(intOf j).toNat)
 case atStart=>exact⟨0,nZ_ _,rfl,bR_ _ _⟩
 case round=>
  obtain⟨k,H,rfl,q⟩:=hrel;by_cases hlt:k<b.length
  .obtain⟨f,g,rfl,r⟩:∃f g,t=some (p_ f g)/\∀j,j<b.length->w.cell? (p_ f (g+j))=some (.string (b.getD j ByteArray.empty)):=by
    rcases A.cells with h|h;rw[h]at hlt;simp at hlt;exact h
   obtain⟨l,o,rfl,s⟩:∃l o,u=some (p_ l o)/\∀j,j<b.length->w.cell? (p_ l (o+j))=some (.string (b.getD j ByteArray.empty)):=by
    rcases B.cells with h|h;rw[h]at hlt;simp at hlt;exact h
   have I:=(q.cell (p:=p_ f (g+k)) (bL_ (r k hlt))).trans (r k hlt);have J:=(q.cell (p:=p_ l (o+k)) (bL_ (s k hlt))).trans (s k hlt);have D:(k:Int)<b.length:=by omega
   have G:(0:Int)<=k:=by omega
   clear r s;generalize b.getD k ByteArray.empty=x at*;go_wp2_with fail
   go_region_held3 (λw'=>w'.cell? (p_ f (g+k))=some (.string x)/\w'.cell? (p_ l (o+k))=some (.string x)) (go_keep) (fail)
   all_goals
    go_wp2_with fail
    go_roundw
    case rel=>
     have y:∃z:Nat,z<=b.length/\(Value.int .i64 ((k:Int)+1))=I_ z/\B_ w wr.drew:=⟨k+1,by omega,by go_num,q.drew⟩
     first|exact y|((repeat apply Exists.intro);exact⟨y,rfl⟩)
    case measure=>simp[intOf];omega
  obtain rfl:k=b.length:=by omega
  have D:¬(b.length:Int)<b.length:=by omega
  go_wp2_with fail
  go_ret;exact⟨rfl,q⟩
theorem znU (au f:Int)(b:Z_)(g j:Q_)(n m c d:Nat)(w:World)(q:n=b.length)(p:m=b.length)(o:n<=maxLen)(s:zas w g b)(t:zas w j b) :
  Calls prog 37 #[.agg #[I_ au,I_ f,.slice g n c],.agg #[I_ au,I_ f,.slice j m d]] w λe w'=>e=.returned (.bool true)/\B_ w w':=by
 have l:B_ w ((w.alloc (.cells #[I_ au,I_ f,.slice g n c] 74)).alloc (.cells #[I_ au,I_ f,.slice j m d] 74)):=((bR_ _ _).alloc (nR_ _) _).alloc (by simp) _;have r:=znT b g j n m c d _ q p o (s.below l) (t.below l);clear q p o;go_in;go_wp2_with fail
 refine r.mono ?_;rintro _ z⟨rfl,u⟩;dsimp only;go_wp2_with fail
 go_ret;exact⟨rfl,zS (zS u)⟩
theorem zpz (au rd:Int)(bs:L_)(b f:Q_)(n m c d:Nat)(w:World)(p:n=bs.length)(o:m=bs.length)(j:zg w b c bs)(l:zg w f d bs) :
  Calls prog 38 #[.agg #[I_ au,I_ rd,.slice b n c],.agg #[I_ au,I_ rd,.slice f m d]] w λe w'=>e=.returned (.bool true)/\B_ w w':=by
 have g:B_ w ((w.alloc (.cells #[I_ au,I_ rd,.slice b n c] 77)).alloc (.cells #[I_ au,I_ rd,.slice f m d] 77)):=((bR_ _ _).alloc (nR_ _) _).alloc (by simp) _;have h:=zxO bs b f n m c d _ p o (j.below g) (l.below g);clear p o j l;go_in;go_wp2_with fail
 refine h.mono ?_;rintro e q⟨rfl,rfl⟩;dsimp only;go_wp2_with fail
 go_ret;exact⟨rfl,g⟩
variable {bl:List zi}
theorem zrf (b:List Sl)(j i:Nat)(h:j<b.length)(c:i<3):(slv b)[j*3+i]? = (b[j]).cs[i]?:=by
 induction b generalizing j with
 | nil=>cases h
 | cons x r ih=>
  cases j with
  | zero=>simp only[slv,Nat.zero_mul,zA_,List.getElem_cons_zero];rw[List.getElem?_append_left (by simp[Sl.cs];exact c)]
  | succ j=>
   have h':j<r.length:=by simpa using h
   simp only[slv,List.getElem_cons_succ];rw[List.getElem?_append_right (by simp[Sl.cs];omega),<-ih j h']
   congr 1
   simp[Sl.cs];omega
theorem zpA {c:List zi}(j:zT c=zT bl)(d:bl.length<=1000)(g:∀b∈zT bl,∀x∈b,0<=x/\x<=255):zg2 c bl:=
 ⟨j,λp f x l=>g p.bs (mM_.2 ⟨p,f,rfl⟩) x l,d⟩
theorem zuT (c d:Ct)(w:World)(f:c.v=d.v)(N:d.v.f=0)(D:∀b∈d.v.bl++d.v.pl,∀x∈b,0<=x/\x<=255)(J:za7 w c)(L:za7 w d) :
  Calls prog 18 #[.agg #[I_ c.au,I_ c.rd,.slice c.ba c.bl.length c.bc,.slice c.pa c.pl.length c.pc,.slice c.va c.vl.length c.vc],.agg #[I_ d.au,I_ d.rd,.slice d.ba d.bl.length d.bc,.slice d.pa d.pl.length d.pc,.slice d.va d.vl.length d.vc]] w λe w'=>e=.returned (.bool true)/\Below w.heap.size w w':=by
 have H:Hid (c.v=d.v):=f;clear f;refine kA_ ?A0 ?_;exact #[I_ c.au,I_ c.rd,.slice c.ba c.bl.length c.bc,.slice c.pa c.pl.length c.pc,.slice c.va c.vl.length c.vc];refine kA_ ?B0 ?_;exact #[I_ d.au,I_ d.rd,.slice d.ba d.bl.length d.bc,.slice d.pa d.pl.length d.pc,.slice d.va d.vl.length d.vc];have l:Below w.heap.size w ((w.alloc (.cells ?A0 71)).alloc (.cells ?B0 71)):=((bR_ _ _).alloc (nR_ _) _).alloc (by simp) _;have g:=hX_ w (.cells ?A0 71) (.cells ?B0 71);have j:=hY_ w (.cells ?A0 71) (.cells ?B0 71);go_in;go_upto_region 1 with fail
 generalize (w.alloc (.cells ?A0 71)).alloc (.cells ?B0 71)=m at l g j|-;have f:=H.out;have z:c.au=d.au:=cA_ CV.au f;have A:c.rd=d.rd:=cA_ CV.rd f;have B:zT c.bl=zT d.bl:=cA_ CV.bl f;have C:zT c.pl=zT d.pl:=cA_ CV.pl f;have o:c.vl=d.vl:=cA_ CV.vl f;obtain⟨E,F,O,_,_⟩:=zow N;have u:=zpA B E (λb t=>D b (mA_.2 (.inl t)));have y:=zpA C F (λb t=>D b (mA_.2 (.inr t)));have p:=J.below l;have q:=L.below l;have s:=p.ints;rw[o]at s;have r:=zpy c.au c.rd c.ba c.bc c.bl c.pa c.pc c.pl c.va c.vc d.vl d.ba d.bc d.bl d.pa d.pc d.pl d.va d.vc m u y (by omega) p.hat.lb p.hat.lp s q.hat.lb q.hat.lp q.ints;rw[<-o]at r;have G:Calls prog 36 #[.agg ?A0,.agg ?B0] m λe w'=>e=.returned (.bool true)/\Below m.heap.size m w':=by
  rw[<-z,<-A,<-o];exact r
 clear r z A B C o u y s p q E F O f;have R:=zb g 0 _ rfl;have T:=zb g 1 _ rfl;have U:=zb g 2 _ rfl;have V:=zb g 3 _ rfl;have X:=zb g 4 _ rfl;have Y:=zb j 0 _ rfl;have Z:=zb j 1 _ rfl;have b2:=zb j 2 _ rfl;have b3:=zb j 3 _ rfl;have b4:=zb j 4 _ rfl;go_wp2_with fail
 refine G.mono ?_;rintro _ w1⟨rfl,I⟩;dsimp only;go_wp2_with fail
 go_ret;exact⟨rfl,l.trans (I.mono l.size)⟩
theorem zsM (c d:Bc)(w:World)(b:c.v=d.v)(s:zcN w c)(l:zcN w d) :
  Calls prog 19 #[.agg #[I_ c.v.au,I_ c.v.nu,.slice c.ta c.v.ss.length c.tc],.agg #[I_ d.v.au,I_ d.v.nu,.slice d.ta d.v.ss.length d.tc]] w λe w'=>e=.returned (.bool true)/\Below w.heap.size w w':=by
 have p:Hid (c.v=d.v):=b;clear b;refine kO_ ?A0 ?_;exact Obj.cells #[I_ c.v.au,I_ c.v.nu,.slice c.ta c.v.ss.length c.tc] 74;refine kO_ ?B0 ?_;exact Obj.cells #[I_ d.v.au,I_ d.v.nu,.slice d.ta d.v.ss.length d.tc] 74;have f:Below w.heap.size w ((w.alloc ?A0).alloc ?B0):=((bR_ _ _).alloc (nR_ _) _).alloc (by simp) _;have g:=hX_ w ?A0 ?B0;have j:=hY_ w ?A0 ?B0;go_in;go_upto_region 1 with fail
 generalize (w.alloc ?A0).alloc ?B0=q at f g j|-;have b:=p.out;have m:=(s.below f).strs;rw[b]at m;have o:=znU d.v.au d.v.nu d.v.ss c.ta d.ta _ _ c.tc d.tc q rfl rfl (nT_ l.le l.max) m (l.below f).strs;rw[b]at g|-;clear m b;have u:=zb g 0 _ rfl;have A:=zb j 0 _ rfl;have y:=zb g 1 _ rfl;have B:=zb j 1 _ rfl;have z:=zb g 2 _ rfl;have C:=zb j 2 _ rfl;go_wp2_with fail
 refine o.mono ?_;rintro _ D⟨rfl,r⟩;dsimp only;go_wp2_with fail
 go_ret;exact⟨rfl,f.trans (r.mono f.size)⟩
theorem zuU (c d:Sl)(w:World)(b:c.v=d.v)(q:zg w c.p.sa c.p.cap c.p.bs)(r:zg w d.p.sa d.p.cap d.p.bs) :
  Calls prog 20 #[.agg #[I_ c.au,I_ c.rd,.slice c.p.sa c.p.bs.length c.p.cap],.agg #[I_ d.au,I_ d.rd,.slice d.p.sa d.p.bs.length d.p.cap]] w λe w'=>e=.returned (.bool true)/\Below w.heap.size w w':=by
 have u:Hid (c.v=d.v):=b;clear b;refine kO_ ?A0 ?_;exact Obj.cells #[I_ c.au,I_ c.rd,.slice c.p.sa c.p.bs.length c.p.cap] 77;refine kO_ ?B0 ?_;exact Obj.cells #[I_ d.au,I_ d.rd,.slice d.p.sa d.p.bs.length d.p.cap] 77;have f:Below w.heap.size w ((w.alloc ?A0).alloc ?B0):=((bR_ _ _).alloc (nR_ _) _).alloc (by simp) _;have g:=hX_ w ?A0 ?B0;have j:=hY_ w ?A0 ?B0;go_in;go_upto_region 1 with fail
 generalize (w.alloc ?A0).alloc ?B0=y at f g j|-;have b:=u.out;have o:c.au=d.au:=cA_ (λs:SV=>s.1) b;have p:c.rd=d.rd:=cA_ (λs:SV=>s.2.1) b;have l:c.p.bs=d.p.bs:=cA_ (λs:SV=>s.2.2) b;have m:=q.below f;rw[l]at m;have t:=zpz d.au d.rd d.p.bs c.p.sa d.p.sa _ _ c.p.cap d.p.cap y rfl rfl m (r.below f);rw[o,p,l]at g|-;clear m b o p l q r;have B:=zb g 0 _ rfl;have E:=zb j 0 _ rfl;have C:=zb g 1 _ rfl;have F:=zb j 1 _ rfl;have D:=zb g 2 _ rfl;have G:=zb j 2 _ rfl;go_wp2_with fail
 refine t.mono ?_;rintro _ H⟨rfl,z⟩;dsimp only;go_wp2_with fail
 go_ret;exact⟨rfl,f.trans (z.mono f.size)⟩
theorem zyO:(prog.info? 71).map (·.size)=some 5:=by kernel_rfl
theorem zyP:(prog.info? 74).map (·.size)=some 3:=by kernel_rfl
theorem zyQ:(prog.info? 77).map (·.size)=some 3:=by kernel_rfl
structure zcx (p q:Vw):Prop where
 rd:p.rd=q.rd
 cs:p.cs=q.cs
 bs:p.bs=q.bs
 vt:p.vt=q.vt
theorem zpB {α β:Type}{f:α->β}{l m:List α}(h:l.map f=m.map f)(k:Nat)(b:k<l.length)(c:k<m.length):f l[k]=f m[k]:=by
 have:=cA_ (λx:List β=>x[k]?) h
 simpa[b,c]using this
theorem zdC (p q:Vm)(w:World)(hp:zfX w p)(hq:zfX w q)(ho:zlk q.v)(hs:zcx p.v q.v) :
  Calls prog 9 #[.agg #[.bool p.up,I_ p.rd,.slice p.ca p.ls.length p.cc,.slice p.ba p.bl.length p.bc,.slice p.ta p.tab.length p.tc,.slice p.pa p.txs.length p.pc],.agg #[.bool q.up,I_ q.rd,.slice q.ca q.ls.length q.cc,.slice q.ba q.bl.length q.bc,.slice q.ta q.tab.length q.tc,.slice q.pa q.txs.length q.pc]] w λe w'=>e=.returned (.bool true)/\Below w.heap.size w w':=by
 have er:p.rd=q.rd:=hs.rd;have l1:p.ls.length=q.ls.length:=by have:=cA_ List.length hs.cs;simpa[Vm.v,zI]using this
 have l2:p.bl.length=q.bl.length:=by have:=cA_ List.length hs.bs;simpa[Vm.v]using this
 have l3:p.tab.length=q.tab.length:=by have:=cA_ List.length hs.vt;simpa[Vm.v,vs]using this
 have b1:q.ls.length<=400:=zlE ho.dag;have b2:q.bl.length<=800:=by have:=ho.sh;simpa[Vm.v]using this
 have b3:q.tab.length<=400000:=by have:=ho.tab;simpa[Vm.v,vs]using this
 have HS:Hid _:=hs;have HO:Hid _:=ho;have ER:Hid (p.rd=q.rd):=er;have L1:Hid (p.ls.length=q.ls.length):=l1;have L2:Hid (p.bl.length=q.bl.length):=l2;have L3:Hid (p.tab.length=q.tab.length):=l3;clear er l1 l2 l3;refine kO_ ?A0 ?_;exact Obj.cells #[.bool p.up,I_ p.rd,.slice p.ca p.ls.length p.cc,.slice p.ba p.bl.length p.bc,.slice p.ta p.tab.length p.tc,.slice p.pa p.txs.length p.pc] 44;refine kO_ ?B0 ?_;exact Obj.cells #[.bool q.up,I_ q.rd,.slice q.ca q.ls.length q.cc,.slice q.ba q.bl.length q.bc,.slice q.ta q.tab.length q.tc,.slice q.pa q.txs.length q.pc] 44;have hA:Below w.heap.size w ((w.alloc ?A0).alloc ?B0):=((bR_ _ _).alloc (nR_ _) _).alloc (by simp) _;have q0:=hX_ w ?A0 ?B0;have q1:=hY_ w ?A0 ?B0;go_in;go_upto_region 1 with fail
 generalize (w.alloc ?A0).alloc ?B0=W0 at hA q0 q1|-;generalize w.heap.size+1=Q at q1|-;generalize ag:w.heap.size=P at q0|-;have HP:Hid (w.heap.size=P):=ag;clear ag hs ho;have ax:=hp.below hA;have ay:=hq.below hA;clear hp hq;have p1:=zb q0 1 _ rfl;have p2:=zb q0 2 _ rfl;have p3:=zb q0 3 _ rfl;have p4:=zb q0 4 _ rfl;have s1:=zb q1 1 _ rfl;have s2:=zb q1 2 _ rfl;have s3:=zb q1 3 _ rfl;have s4:=zb q1 4 _ rfl;rw[ER.out]at p1;rw[L1.out]at p2;rw[L2.out]at p3;rw[L3.out]at p4;clear q0 q1;generalize ak:q.ls.length=U at p2 s2 b1 L1|-;generalize al:q.bl.length=X at p3 s3 b2 L2|-;generalize am:q.tab.length=Y at p4 s4 b3 L3|-;have N1:Hid _:=ak;have N2:Hid _:=al;have N3:Hid _:=am;clear ak al am;go_wp2_with fail
 have an:=ax;have ao:=ay;have az:=p2;have aC:=p3;have aF:=p4;have aI:=s2;have aL:=s3;have aO:=s4;go_loopw [5] (λj wr=>∃k:Nat,k<=U/\j=I_ k/\Below W0.heap.size W0 wr) (λj _=>U-(intOf j).toNat)
 case atStart=>exact⟨0,nZ_ _,rfl,bR_ _ _⟩
 case round=>
  obtain⟨k,hk,rfl,g⟩:=hrel;have o:=an.below g;have r:=ao.below g;have z:=zr g az;have A:=zr g aC;have B:=zr g aF;have E:=zr g aI;have F:=zr g aL;have G:=zr g aO;by_cases hlt:k<U
  .have af:(k:Int)<U:=by omega
   have N:k<p.ls.length:=by rw[L1.out];exact hlt
   have J:k<q.ls.length:=by rw[N1.out];exact hlt
   have L:Hid _:=(λ(V:World) (hV:Below wr.heap.size wr V)=>zuT (p.ls[k]) (q.ls[k]) V (zpB (f:=Ct.v) HS.out.cs k N J) (znZ HO.out.dag _ (gM_ J)) (HO.out.du8 _ (mM_.2 ⟨_,gM_ J,rfl⟩)) ((o.ec _ (gM_ N)).below hV) ((r.ec _ (gM_ J)).below hV));have Z:=o.rc;rw[L1.out]at Z;have aa:=r.rc;rw[N1.out]at aa;obtain⟨s,ad,O⟩:=zei Z hlt (row:=(p.ls[k]).cs) rfl (λt T=>zfx p.ls k t N T);obtain⟨u,ae,R⟩:=zei aa hlt (row:=(q.ls[k]).cs) rfl (λt T=>zfx q.ls k t J T);rw[ad]at z;rw[ae]at E;generalize p.ls[k]=c at L O;generalize q.ls[k]=d at L R;have y:=dB_ wr;have C:=dC_ z;have H:=dC_ E;have D:=zde O;have I:=zde R;go_upto_region 6 with fail
   refine wR_ (S:=λw'=>w'.cell? (p_ P 2)=some (.slice (some (p_ s 0)) U p.cc)/\w'.cell? (p_ Q 2)=some (.slice (some (p_ u 0)) U q.cc)/\w'.rangeAt s (k*5) c.cs/\w'.rangeAt u (k*5) d.cs) (by kernel_rfl) ⟨C,H,D,I⟩ (λl=>?_);generalize wr.drew=M at y C H D I l|-;refine tks_ 4 [(0,47,(P_ P 2)),(1,48,.slice (some (p_ s 0)) U p.cc),(2,49,I_ (k:Int)),(3,50,(P_ s (k*5)))] l ?_;simp only[tkf_,zf];refine kA_ ?C0 ?_;exact #[I_ c.au,I_ c.rd,.slice c.ba c.bl.length c.bc,.slice c.pa c.pl.length c.pc,.slice c.va c.vl.length c.vc];refine tQ_ 4 51 (.agg ?C0) rfl rfl (yieldsIf_load_mid (by rfl) 71 _ rfl s (k*5) rfl c.cs _ (λw0 h=>h.2.2.1) underlying71 rfl zyO) l ?_;simp only[zf];refine tks_ 4 [(5,52,(P_ Q 2)),(6,53,.slice (some (p_ u 0)) U q.cc),(7,54,I_ (k:Int)),(8,55,(P_ u (k*5)))] l ?_;simp only[tkf_,zf];refine kA_ ?D0 ?_;exact #[I_ d.au,I_ d.rd,.slice d.ba d.bl.length d.bc,.slice d.pa d.pl.length d.pc,.slice d.va d.vl.length d.vc];refine tQ_ 9 56 (.agg ?D0) rfl rfl (yieldsIf_load_mid (by rfl) 71 _ rfl u (k*5) rfl d.cs _ (λw0 h=>h.2.2.2) underlying71 rfl zyO) l ?_;simp only[zf];refine zE 10 rfl (λK9 hK=>?_);refine zj rfl 57 rfl 18 [.tmp 51,.tmp 56] #[71,71] rfl [.agg ?C0,.agg ?D0] rfl (eO_ func18) (λv w'=>v=.bool true/\Below M.heap.size M w') ((L.out M y).mono (λe w2 h=>⟨_,h.1,rfl,h.2⟩)) ?_;rintro v V1⟨rfl,m⟩;have ac:=zm y m;refine hK.out _ _ ⟨zr m C,zr m H,zdd D m,zdd I m⟩ (λl=>?_);simp only[zf];refine zU 11 58 (.bool false) rfl rfl l ?_;simp only[zf];refine wD_ (by kernel_rfl) ?_ _;have ab:=zm g ac;clear C H D I l y m o r Z aa O R z A B E F G;go_wp2_with fail
   go_roundw
   case rel=>exact⟨k+1,by omega,by go_num,ab⟩
   case measure=>simp[intOf];omega
  obtain rfl:U=k:=by omega
  have af:¬((U:Nat):Int)<(U:Nat):=by omega
  obtain⟨W1,ah⟩:∃W,W=wr:=⟨_,rfl⟩;rw[<-ah]at g o r z A B E F G|-;clear ah;have ab:=zm hA g;have ap:=o;have aq:=r;have aA:=z;have aD:=A;have aG:=B;have aJ:=E;have aM:=F;have aP:=G;clear g o r z A B E F G hlt hk;go_wp2_with fail
  go_loopw [6] (λj wr=>∃k:Nat,k<=X/\j=I_ k/\Below W1.heap.size W1 wr) (λj _=>X-(intOf j).toNat)
  case atStart=>exact⟨0,nZ_ _,rfl,bR_ _ _⟩
  case round=>
   obtain⟨k,hk,rfl,g⟩:=hrel;have o:=ap.below g;have r:=aq.below g;have z:=zr g aA;have A:=zr g aD;have B:=zr g aG;have E:=zr g aJ;have F:=zr g aM;have G:=zr g aP;by_cases hlt:k<X
   .have af:(k:Int)<X:=by omega
    have N:k<p.bl.length:=by rw[L2.out];exact hlt
    have J:k<q.bl.length:=by rw[N2.out];exact hlt
    have L:Hid _:=(λ(V:World) (hV:Below wr.heap.size wr V)=>zsM (p.bl[k]) (q.bl[k]) V (zpB (f:=λb:Bc=>b.v) HS.out.bs k N J) ((o.eb _ (gM_ N)).below hV) ((r.eb _ (gM_ J)).below hV));have Z:=o.rb;rw[L2.out]at Z;have aa:=r.rb;rw[N2.out]at aa;obtain⟨s,ad,O⟩:=zei Z hlt (row:=(p.bl[k]).cs) rfl (λt T=>zrb p.bl k t N T);obtain⟨u,ae,R⟩:=zei aa hlt (row:=(q.bl[k]).cs) rfl (λt T=>zrb q.bl k t J T);rw[ad]at A;rw[ae]at F;generalize p.bl[k]=c at L O;generalize q.bl[k]=d at L R;have y:=dB_ wr;have C:=dC_ A;have H:=dC_ F;have D:=zde O;have I:=zde R;go_upto_region 11 with fail
    refine wR_ (S:=λw'=>w'.cell? (p_ P 3)=some (.slice (some (p_ s 0)) X p.bc)/\w'.cell? (p_ Q 3)=some (.slice (some (p_ u 0)) X q.bc)/\w'.rangeAt s (k*3) c.cs/\w'.rangeAt u (k*3) d.cs) (by kernel_rfl) ⟨C,H,D,I⟩ (λl=>?_);generalize wr.drew=M at y C H D I l|-;refine tks_ 4 [(0,66,(P_ P 3)),(1,67,.slice (some (p_ s 0)) X p.bc),(2,68,I_ (k:Int)),(3,69,(P_ s (k*3)))] l ?_;simp only[tkf_,zf];refine kA_ ?E0 ?_;exact #[I_ c.v.au,I_ c.v.nu,.slice c.ta c.v.ss.length c.tc];refine tQ_ 4 70 (.agg ?E0) rfl rfl (yieldsIf_load_mid (by rfl) 74 _ rfl s (k*3) rfl c.cs _ (λw0 h=>h.2.2.1) underlying74 rfl zyP) l ?_;simp only[zf];refine tks_ 4 [(5,71,(P_ Q 3)),(6,72,.slice (some (p_ u 0)) X q.bc),(7,73,I_ (k:Int)),(8,74,(P_ u (k*3)))] l ?_;simp only[tkf_,zf];refine kA_ ?F0 ?_;exact #[I_ d.v.au,I_ d.v.nu,.slice d.ta d.v.ss.length d.tc];refine tQ_ 9 75 (.agg ?F0) rfl rfl (yieldsIf_load_mid (by rfl) 74 _ rfl u (k*3) rfl d.cs _ (λw0 h=>h.2.2.2) underlying74 rfl zyP) l ?_;simp only[zf];refine zE 10 rfl (λK9 hK=>?_);refine zj rfl 76 rfl 19 [.tmp 70,.tmp 75] #[74,74] rfl [.agg ?E0,.agg ?F0] rfl (eO_ func19) (λv w'=>v=.bool true/\Below M.heap.size M w') ((L.out M y).mono (λe w2 h=>⟨_,h.1,rfl,h.2⟩)) ?_;rintro v V1⟨rfl,m⟩;have ac:=zm y m;refine hK.out _ _ ⟨zr m C,zr m H,zdd D m,zdd I m⟩ (λl=>?_);simp only[zf];refine zU 11 77 (.bool false) rfl rfl l ?_;simp only[zf];refine wD_ (by kernel_rfl) ?_ _;have ab:=zm g ac;clear C H D I l y m o r Z aa O R z A B E F G;go_wp2_with fail
    go_roundw
    case rel=>exact⟨k+1,by omega,by go_num,ab⟩
    case measure=>simp[intOf];omega
   obtain rfl:X=k:=by omega
   have af:¬((X:Nat):Int)<(X:Nat):=by omega
   obtain⟨W2,ai⟩:∃W,W=wr:=⟨_,rfl⟩;rw[<-ai]at g o r z A B E F G|-;clear ai;have av:=zm ab g;have ar:=o;have au:=r;have aB:=z;have aE:=A;have aH:=B;have aK:=E;have aN:=F;have aQ:=G;clear g o r z A B E F G hlt hk;go_wp2_with fail
   go_loopw [7] (λj wr=>∃k:Nat,k<=Y/\j=I_ k/\Below W2.heap.size W2 wr) (λj _=>Y-(intOf j).toNat)
   case atStart=>exact⟨0,nZ_ _,rfl,bR_ _ _⟩
   case round=>
    obtain⟨k,hk,rfl,g⟩:=hrel;have o:=ar.below g;have r:=au.below g;have z:=zr g aB;have A:=zr g aE;have B:=zr g aH;have E:=zr g aK;have F:=zr g aN;have G:=zr g aQ;by_cases hlt:k<Y
    .have af:(k:Int)<Y:=by omega
     have N:k<p.tab.length:=by rw[L3.out];exact hlt
     have J:k<q.tab.length:=by rw[N3.out];exact hlt
     have L:Hid _:=(λ(V:World) (hV:Below wr.heap.size wr V)=>zuU (p.tab[k]) (q.tab[k]) V (zpB (f:=Sl.v) HS.out.vt k N J) ((o.et _ (gM_ N)).below hV) ((r.et _ (gM_ J)).below hV));have Z:=o.rt;rw[L3.out]at Z;have aa:=r.rt;rw[N3.out]at aa;obtain⟨s,ad,O⟩:=zei Z hlt (row:=(p.tab[k]).cs) rfl (λt T=>zrf p.tab k t N T);obtain⟨u,ae,R⟩:=zei aa hlt (row:=(q.tab[k]).cs) rfl (λt T=>zrf q.tab k t J T);rw[ad]at B;rw[ae]at G;generalize p.tab[k]=c at L O;generalize q.tab[k]=d at L R;have y:=dB_ wr;have C:=dC_ B;have H:=dC_ G;have D:=zde O;have I:=zde R;go_upto_region 16 with fail
     refine wR_ (S:=λw'=>w'.cell? (p_ P 4)=some (.slice (some (p_ s 0)) Y p.tc)/\w'.cell? (p_ Q 4)=some (.slice (some (p_ u 0)) Y q.tc)/\w'.rangeAt s (k*3) c.cs/\w'.rangeAt u (k*3) d.cs) (by kernel_rfl) ⟨C,H,D,I⟩ (λl=>?_);generalize wr.drew=M at y C H D I l|-;refine tks_ 4 [(0,85,(P_ P 4)),(1,86,.slice (some (p_ s 0)) Y p.tc),(2,87,I_ (k:Int)),(3,88,(P_ s (k*3)))] l ?_;simp only[tkf_,zf];refine kA_ ?G0 ?_;exact #[I_ c.au,I_ c.rd,.slice c.p.sa c.p.bs.length c.p.cap];refine tQ_ 4 89 (.agg ?G0) rfl rfl (yieldsIf_load_mid (by rfl) 77 _ rfl s (k*3) rfl c.cs _ (λw0 h=>h.2.2.1) underlying77 rfl zyQ) l ?_;simp only[zf];refine tks_ 4 [(5,90,(P_ Q 4)),(6,91,.slice (some (p_ u 0)) Y q.tc),(7,92,I_ (k:Int)),(8,93,(P_ u (k*3)))] l ?_;simp only[tkf_,zf];refine kA_ ?H0 ?_;exact #[I_ d.au,I_ d.rd,.slice d.p.sa d.p.bs.length d.p.cap];refine tQ_ 9 94 (.agg ?H0) rfl rfl (yieldsIf_load_mid (by rfl) 77 _ rfl u (k*3) rfl d.cs _ (λw0 h=>h.2.2.2) underlying77 rfl zyQ) l ?_;simp only[zf];refine zE 10 rfl (λK9 hK=>?_);refine zj rfl 95 rfl 20 [.tmp 89,.tmp 94] #[77,77] rfl [.agg ?G0,.agg ?H0] rfl (eO_ func20) (λv w'=>v=.bool true/\Below M.heap.size M w') ((L.out M y).mono (λe w2 h=>⟨_,h.1,rfl,h.2⟩)) ?_;rintro v V1⟨rfl,m⟩;have ac:=zm y m;refine hK.out _ _ ⟨zr m C,zr m H,zdd D m,zdd I m⟩ (λl=>?_);simp only[zf];refine zU 11 96 (.bool false) rfl rfl l ?_;simp only[zf];refine wD_ (by kernel_rfl) ?_ _;have ab:=zm g ac;clear C H D I l y m o r Z aa O R z A B E F G;go_wp2_with fail
     go_roundw
     case rel=>exact⟨k+1,by omega,by go_num,ab⟩
     case measure=>simp[intOf];omega
    obtain rfl:Y=k:=by omega
    have af:¬((Y:Nat):Int)<(Y:Nat):=by omega
    obtain⟨W3,aj⟩:∃W,W=wr:=⟨_,rfl⟩;rw[<-aj]at g o r z A B E F G|-;clear aj;have aw:=zm av g;clear g o r hlt hk;go_wp2_with fail
    go_ret;exact⟨rfl,aw⟩
theorem zcx.of {p q:Vw}(h:p=q):zcx p q:=by subst h;exact⟨rfl,rfl,rfl,rfl⟩
theorem zg9 (n:Int)(w:World)(c:-9223372036854775808<=n)(d:n<=9223372036854775807) :
  Calls prog 4 #[I_ n] w λe w'=>e=.returned (I_ (pk n 5-1))/\w=w':=by
 obtain⟨j,l⟩:=zW n 5 (by decide);have b:=zbI n 5 w c d (by decide) (by decide);generalize pk n 5=N at*;have g:IntKind.i64.wrap (N-1)=N-1:=by rw[IntKind.wrap_i64];omega
 go_in;go_wp2_with fail
 refine b.mono ?_;rintro _ m⟨rfl,rfl⟩;dsimp only;go_wp2_with fail
 go_ret;exact⟨rfl,rfl⟩
open Go.Shelf
def zBv:Go.Shelf.Ren:=⟨fun|169=>14|n=>n,fun|70=>52|9=>9|0=>0|72=>55|37=>53|127=>98|3=>3|5=>5|n=>n,fun|n=>n⟩
theorem zC3:Go.Proofs.Lays.n169 prog zBv:={
 mixed:=by kernel_rfl
 f169:=func14.trans (cA_ some (by kernel_rfl))
 t0:=underlying0
 a0:=isAgg0
 z0:=sizeOf0
 v0:=zeroValue0
 t3:=underlying3
 a3:=isAgg3
 z3:=sizeOf3
 v3:=zeroValue3
 t9:=underlying9
 a9:=isAgg9
 z9:=sizeOf9
 v9:=zeroValue9
 t37:=underlying53
 a37:=isAgg53
 z37:=sizeOf53
 v37:=zeroValue53
 t70:=underlying52
 a70:=isAgg52
 z70:=sizeOf52
 v70:=zeroValue52
 t72:=underlying55
 a72:=isAgg55
 z72:=sizeOf55
 v72:=zeroValue55
 t127:=underlying98
 a127:=isAgg98
 z127:=sizeOf98
 v127:=zeroValue98 }
theorem zBS:Go.Proofs.Builder.Extra prog zBv:={
 sizeBuilder:=by kernel_rfl
 liesBuilder:=by kernel_rfl
 t5:=underlying5
 a5:=isAgg5
 z5:=sizeOf5
 v5:=zeroValue5
 infoByte:=by kernel_rfl
 cellsByte:=by kernel_rfl
 sizeByte:=by kernel_rfl
 neB5:=by decide }
def zB4:Go.Shelf.Ren:=⟨fun|171=>27|243=>50|246=>74|283=>102|284=>103|285=>104|286=>105|129=>129|317=>128|318=>130|319=>131|320=>132|337=>173|338=>174|n=>n,fun|3=>3|9=>9|2=>2|4=>4|171=>182|0=>0|53=>183|37=>53|5=>5|173=>186|212=>205|51=>188|20=>20|213=>206|46=>116|232=>288|233=>289|n=>n,fun|17=>2|18=>3|19=>4|n=>n⟩
theorem zCS:Go.Proofs.LaysM.n171 prog zB4:={
 mixed:=by kernel_rfl
 f129:=func129.trans (cA_ some (by kernel_rfl))
 f171:=func27.trans (cA_ some (by kernel_rfl))
 f243:=func50.trans (cA_ some (by kernel_rfl))
 f246:=func74.trans (cA_ some (by kernel_rfl))
 f283:=func102.trans (cA_ some (by kernel_rfl))
 f284:=func103.trans (cA_ some (by kernel_rfl))
 f285:=func104.trans (cA_ some (by kernel_rfl))
 f286:=func105.trans (cA_ some (by kernel_rfl))
 f317:=func128.trans (cA_ some (by kernel_rfl))
 f318:=func130.trans (cA_ some (by kernel_rfl))
 f319:=func131.trans (cA_ some (by kernel_rfl))
 f320:=func132.trans (cA_ some (by kernel_rfl))
 f337:=func173.trans (cA_ some (by kernel_rfl))
 f338:=func174.trans (cA_ some (by kernel_rfl))
 t0:=underlying0
 a0:=isAgg0
 z0:=sizeOf0
 v0:=zeroValue0
 t2:=underlying2
 a2:=isAgg2
 z2:=sizeOf2
 v2:=zeroValue2
 t3:=underlying3
 a3:=isAgg3
 z3:=sizeOf3
 v3:=zeroValue3
 t4:=underlying4
 a4:=isAgg4
 z4:=sizeOf4
 v4:=zeroValue4
 t5:=underlying5
 a5:=isAgg5
 z5:=sizeOf5
 v5:=zeroValue5
 t9:=underlying9
 a9:=isAgg9
 z9:=sizeOf9
 v9:=zeroValue9
 t20:=underlying20
 a20:=isAgg20
 z20:=sizeOf20
 v20:=zeroValue20
 t37:=underlying53
 a37:=isAgg53
 z37:=sizeOf53
 v37:=zeroValue53
 t46:=underlying116
 a46:=isAgg116
 z46:=sizeOf116
 v46:=zeroValue116
 t51:=underlying188
 a51:=isAgg188
 z51:=sizeOf188
 v51:=zeroValue188
 t53:=underlying183
 a53:=isAgg183
 z53:=sizeOf183
 v53:=zeroValue183
 t171:=underlying182
 a171:=isAgg182
 z171:=sizeOf182
 v171:=zeroValue182
 t173:=underlying186
 a173:=isAgg186
 z173:=sizeOf186
 v173:=zeroValue186
 t212:=underlying205
 a212:=isAgg205
 z212:=sizeOf205
 v212:=zeroValue205
 t213:=underlying206
 a213:=isAgg206
 z213:=sizeOf206
 t232:=underlying288
 a232:=isAgg288
 z232:=sizeOf288
 v232:=zeroValue288
 t233:=underlying289
 a233:=isAgg289
 z233:=sizeOf289
 v233:=zeroValue289
 g17:=by kernel_rfl
 g18:=by kernel_rfl
 g19:=by kernel_rfl
 i0:=by kernel_rfl
 i2:=by kernel_rfl
 i3:=by kernel_rfl
 i4:=by kernel_rfl
 i5:=by kernel_rfl
 i9:=by kernel_rfl
 i20:=by kernel_rfl
 i37:=by kernel_rfl
 i46:=by kernel_rfl
 i51:=by kernel_rfl
 i53:=by kernel_rfl
 i171:=by kernel_rfl
 i173:=by kernel_rfl
 i212:=by kernel_rfl
 i232:=by kernel_rfl
 i233:=by kernel_rfl
 m17:=by kernel_rfl
 m18:=by kernel_rfl
 m19:=by kernel_rfl }
def zB5:Go.Shelf.Ren:=⟨fun|172=>108|244=>133|245=>134|247=>175|279=>176|280=>177|281=>178|282=>179|287=>220|316=>221|171=>27|205=>222|321=>256|322=>257|243=>50|246=>74|283=>102|284=>103|285=>104|286=>105|129=>129|317=>128|318=>130|319=>131|320=>132|337=>173|338=>174|n=>n,fun|9=>9|3=>3|75=>92|76=>93|4=>4|5=>5|167=>244|37=>53|0=>0|85=>245|2=>2|168=>247|53=>183|175=>290|46=>116|210=>293|127=>98|145=>326|143=>324|21=>21|171=>182|173=>186|212=>205|51=>188|20=>20|213=>206|232=>288|233=>289|80=>58|n=>n,fun|15=>5|16=>6|17=>2|18=>3|19=>4|n=>n⟩
theorem zBB:Go.Proofs.LaysC.n172 prog zB5:={
 mixed:=by kernel_rfl
 f129:=func129.trans (cA_ some (by kernel_rfl))
 f171:=func27.trans (cA_ some (by kernel_rfl))
 f172:=func108.trans (cA_ some (by kernel_rfl))
 f205:=func222.trans (cA_ some (by kernel_rfl))
 f243:=func50.trans (cA_ some (by kernel_rfl))
 f244:=func133.trans (cA_ some (by kernel_rfl))
 f245:=func134.trans (cA_ some (by kernel_rfl))
 f246:=func74.trans (cA_ some (by kernel_rfl))
 f247:=func175.trans (cA_ some (by kernel_rfl))
 f279:=func176.trans (cA_ some (by kernel_rfl))
 f280:=func177.trans (cA_ some (by kernel_rfl))
 f281:=func178.trans (cA_ some (by kernel_rfl))
 f282:=func179.trans (cA_ some (by kernel_rfl))
 f283:=func102.trans (cA_ some (by kernel_rfl))
 f284:=func103.trans (cA_ some (by kernel_rfl))
 f285:=func104.trans (cA_ some (by kernel_rfl))
 f286:=func105.trans (cA_ some (by kernel_rfl))
 f287:=func220.trans (cA_ some (by kernel_rfl))
 f316:=func221.trans (cA_ some (by kernel_rfl))
 f317:=func128.trans (cA_ some (by kernel_rfl))
 f318:=func130.trans (cA_ some (by kernel_rfl))
 f319:=func131.trans (cA_ some (by kernel_rfl))
 f320:=func132.trans (cA_ some (by kernel_rfl))
 f321:=func256.trans (cA_ some (by kernel_rfl))
 f322:=func257.trans (cA_ some (by kernel_rfl))
 f337:=func173.trans (cA_ some (by kernel_rfl))
 f338:=func174.trans (cA_ some (by kernel_rfl))
 t0:=underlying0
 a0:=isAgg0
 z0:=sizeOf0
 v0:=zeroValue0
 t2:=underlying2
 a2:=isAgg2
 z2:=sizeOf2
 v2:=zeroValue2
 t3:=underlying3
 a3:=isAgg3
 z3:=sizeOf3
 v3:=zeroValue3
 t4:=underlying4
 a4:=isAgg4
 z4:=sizeOf4
 v4:=zeroValue4
 t5:=underlying5
 a5:=isAgg5
 z5:=sizeOf5
 v5:=zeroValue5
 t9:=underlying9
 a9:=isAgg9
 z9:=sizeOf9
 v9:=zeroValue9
 t20:=underlying20
 a20:=isAgg20
 z20:=sizeOf20
 v20:=zeroValue20
 t21:=underlying21
 a21:=isAgg21
 z21:=sizeOf21
 v21:=zeroValue21
 t37:=underlying53
 a37:=isAgg53
 z37:=sizeOf53
 v37:=zeroValue53
 t46:=underlying116
 a46:=isAgg116
 z46:=sizeOf116
 v46:=zeroValue116
 t51:=underlying188
 a51:=isAgg188
 z51:=sizeOf188
 v51:=zeroValue188
 t53:=underlying183
 a53:=isAgg183
 z53:=sizeOf183
 v53:=zeroValue183
 t75:=underlying92
 a75:=isAgg92
 z75:=sizeOf92
 v75:=zeroValue92
 t76:=underlying93
 a76:=isAgg93
 z76:=sizeOf93
 v76:=zeroValue93
 t85:=underlying245
 a85:=isAgg245
 z85:=sizeOf245
 v85:=zeroValue245
 t127:=underlying98
 a127:=isAgg98
 z127:=sizeOf98
 v127:=zeroValue98
 t143:=underlying324
 a143:=isAgg324
 z143:=sizeOf324
 v143:=zeroValue324
 t145:=underlying326
 a145:=isAgg326
 z145:=sizeOf326
 v145:=zeroValue326
 t167:=underlying244
 a167:=isAgg244
 z167:=sizeOf244
 v167:=zeroValue244
 t168:=underlying247
 a168:=isAgg247
 z168:=sizeOf247
 v168:=zeroValue247
 t171:=underlying182
 a171:=isAgg182
 z171:=sizeOf182
 v171:=zeroValue182
 t173:=underlying186
 a173:=isAgg186
 z173:=sizeOf186
 v173:=zeroValue186
 t175:=underlying290
 a175:=isAgg290
 z175:=sizeOf290
 v175:=zeroValue290
 t210:=underlying293
 a210:=isAgg293
 z210:=sizeOf293
 v210:=zeroValue293
 t212:=underlying205
 a212:=isAgg205
 z212:=sizeOf205
 v212:=zeroValue205
 t213:=underlying206
 a213:=isAgg206
 z213:=sizeOf206
 t232:=underlying288
 a232:=isAgg288
 z232:=sizeOf288
 v232:=zeroValue288
 t233:=underlying289
 a233:=isAgg289
 z233:=sizeOf289
 v233:=zeroValue289
 g15:=by kernel_rfl
 g16:=by kernel_rfl
 g17:=by kernel_rfl
 g18:=by kernel_rfl
 g19:=by kernel_rfl
 t80:=underlying58
 a80:=isAgg58
 z80:=sizeOf58
 v80:=zeroValue58
 i0:=by kernel_rfl
 i2:=by kernel_rfl
 i3:=by kernel_rfl
 i4:=by kernel_rfl
 i5:=by kernel_rfl
 i9:=by kernel_rfl
 i20:=by kernel_rfl
 i21:=by kernel_rfl
 i37:=by kernel_rfl
 i46:=by kernel_rfl
 i51:=by kernel_rfl
 i53:=by kernel_rfl
 i75:=by kernel_rfl
 i76:=by kernel_rfl
 i80:=by kernel_rfl
 i85:=by kernel_rfl
 i127:=by kernel_rfl
 i143:=by kernel_rfl
 i145:=by kernel_rfl
 i167:=by kernel_rfl
 i168:=by kernel_rfl
 i171:=by kernel_rfl
 i173:=by kernel_rfl
 i175:=by kernel_rfl
 i210:=by kernel_rfl
 i212:=by kernel_rfl
 i232:=by kernel_rfl
 i233:=by kernel_rfl
 m15:=by kernel_rfl
 m16:=by kernel_rfl
 m17:=by kernel_rfl
 m18:=by kernel_rfl
 m19:=by kernel_rfl
 c0:=by kernel_rfl
 c2:=by kernel_rfl
 c3:=by kernel_rfl
 c4:=by kernel_rfl
 c5:=by kernel_rfl
 c9:=by kernel_rfl
 c20:=by kernel_rfl
 c21:=by kernel_rfl
 c37:=by kernel_rfl
 c46:=by kernel_rfl
 c51:=by kernel_rfl
 c53:=by kernel_rfl
 c75:=by kernel_rfl
 c76:=by kernel_rfl
 c80:=by kernel_rfl
 c85:=by kernel_rfl
 c127:=by kernel_rfl
 c143:=by kernel_rfl
 c145:=by kernel_rfl
 c167:=by kernel_rfl
 c168:=by kernel_rfl
 c171:=by kernel_rfl
 c173:=by kernel_rfl
 c175:=by kernel_rfl
 c210:=by kernel_rfl
 c212:=by kernel_rfl
 c213:=by kernel_rfl
 c232:=by kernel_rfl
 c233:=by kernel_rfl }
def zCh:Go.Shelf.Ren:=⟨fun|217=>75|266=>106|n=>n,fun|9=>9|5=>5|3=>3|n=>n,fun|n=>n⟩
theorem zC4:Go.Proofs.Lays.n217 prog zCh:={
 mixed:=by kernel_rfl
 f217:=func75.trans (cA_ some (by kernel_rfl))
 f266:=func106.trans (cA_ some (by kernel_rfl))
 t3:=underlying3
 a3:=isAgg3
 z3:=sizeOf3
 v3:=zeroValue3
 t5:=underlying5
 a5:=isAgg5
 z5:=sizeOf5
 v5:=zeroValue5
 t9:=underlying9
 a9:=isAgg9
 z9:=sizeOf9
 v9:=zeroValue9 }
def bfC (c:UInt8)(l:List UInt8):List UInt8:=l.takeWhile λb=>b != c
def afC (c:UInt8)(l:List UInt8):List UInt8:=(l.dropWhile λb=>b != c).drop 1
def zdc (c:UInt8)(l:List UInt8):Bool:=l.any λb=>b == c
theorem zAT (c:UInt8):∀l:List UInt8,(Lib.indexByte l c=-1/\zdc c l=false/\bfC c l=l/\afC c l=[])\/∃o:Nat,Lib.indexByte l c=o/\o<l.length/\zdc c l=true/\bfC c l=l.take o/\afC c l=l.drop (o+1)
 | []=>.inl ⟨rfl,rfl,rfl,rfl⟩
 | b::l=>by
  by_cases h:b=c
  .subst h
   exact .inr ⟨0,by simp[Lib.indexByte],by simp,by simp[zdc],by simp[bfC],by simp[afC]⟩
  .have q:(b == c)=false:=by simp[h]
   have m:(b != c)=true:=by simp[h]
   rcases zAT c l with⟨g,j,d,f⟩|⟨o,g,j,d,f,p⟩
   .refine .inl ⟨by simp[Lib.indexByte,h,g],?_,?_,?_⟩
    .unfold zdc at j|-;simp only[List.any_cons,q,j,Bool.or_false]
    .unfold bfC at d|-;simp only[List.takeWhile_cons,m,if_true,d]
    .unfold afC at f|-;simpa only [List.dropWhile_cons,m,if_true]using f
   .refine .inr ⟨o+1,?_,by simpa using j,?_,?_,?_⟩
    .have r:(Lib.indexByte l c == -1)=false:=by rw[g,beq_eq_false_iff_ne];omega
     rw[Lib.indexByte,q,r,g]
     simp
    .unfold zdc at d|-;simp only[List.any_cons,d,Bool.or_true]
    .unfold bfC at f|-;simp only[List.takeWhile_cons,m,if_true,f,List.take_succ_cons]
    .unfold afC at p|-;simpa only [List.dropWhile_cons,m,if_true,List.drop_succ_cons]using p
theorem zCG (s:ByteArray)(i:Nat):s.extract 0 i=⟨(s.data.toList.take i).toArray⟩:=by
 apply zhf
 rw[ByteArray.toList_eq,ByteArray.toList_eq,ByteArray.data_extract]
 simp
theorem zCH (s:ByteArray)(i:Nat):s.extract i s.size=⟨(s.data.toList.drop i).toArray⟩:=by
 apply zhf
 rw[ByteArray.toList_eq,ByteArray.toList_eq,ByteArray.data_extract];have:s.data.toList.length=s.size:=Array.length_toList;simp[tL_,this]
theorem zA8 (s:ByteArray)(c:UInt8)(w:World) :
  Calls prog 75 #[.string s,.int .u8 (c.toNat:Int)] w λe w'=>e=.returned (I_ (Lib.indexByte s.data.toList c))/\w=w':=
 Calls.mono (Any.stringslite_IndexByte zC4 s (c.toNat:Int) w) (λe w' ⟨b,d⟩=>⟨by rw[b];simp,d.symm⟩)
theorem zCs (s:ByteArray)(c:UInt8)(w:World)(_hs:s.size<=maxLen) :
  Calls prog 51 #[.string s,.string ⟨#[c]⟩] w λe w'=>e=.returned (I_ (Lib.indexByte s.data.toList c))/\w=w':=by
 have f:=zA8 s c w;by_cases h:s.data.toList=[c]
 .have d:([c] == s.toList)=true:=by rw[ByteArray.toList_eq,h];simp
  have b:Hid (Lib.indexByte s.data.toList c=0):=by show _=_;rw[h];simp[Lib.indexByte]
  clear h;go_in;go_wp2_with fail
  go_ret;exact⟨zt b.out.symm,rfl⟩
 have d:([c] == s.toList)=false:=by
  rw[ByteArray.toList_eq,beq_eq_false_iff_ne];exact λe=>h e.symm
 clear h;generalize Lib.indexByte s.data.toList c=I at*;go_in;go_wp2_with fail
 refine f.mono ?_;rintro _ j⟨rfl,rfl⟩;dsimp only;go_wp2_with fail
 go_ret;exact⟨rfl,rfl⟩
theorem zB6 (s:ByteArray)(c:UInt8)(w:World)(q:s.size<=maxLen) :
  Calls prog 30 #[.string s,.string ⟨#[c]⟩] w λe w'=>e=.returned (.tuple #[.string ⟨(bfC c s.data.toList).toArray⟩,.string ⟨(afC c s.data.toList).toArray⟩,.bool (zdc c s.data.toList)])/\B_ w w':=by
 have j:=zCs s c w q;have t:=q;unfold maxLen at t;have m:s.data.toList.length=s.size:=Array.length_toList;rcases zAT c s.data.toList with⟨b,g,d,f⟩|⟨o,b,g,d,f,p⟩;rw[b]at j;rw[g,d,f];have r:(⟨s.data.toList.toArray⟩:ByteArray)=s:=by cases s;simp
 rw[r];clear b g d f r m
 rotate_left
 rw[b]at j;rw[d,f,p,<-zCG,<-zCH];rw[m]at g;have y:(o:Int)<=s.size:=by omega
 have z:(o:Int)+1<=s.size:=by omega
 clear b d f p m
 rotate_left
 all_goals
  go_in;go_wp2_with fail
  refine j.mono ?_;rintro _ u⟨rfl,rfl⟩;dsimp only;go_wp2_with fail
 .go_ret3;exact⟨rfl,bR_ _ _⟩
 go_region
 all_goals
  go_wp2_with fail
  go_ret3;exact⟨rfl,(bR_ _ _).drew⟩
theorem zAQ (s:ByteArray)(c:UInt8)(w:World)(j:s.size<=maxLen) :
  Calls prog 15 #[.string s,.string ⟨#[c]⟩] w λe w'=>e=.returned (.tuple #[.string ⟨(bfC c s.data.toList).toArray⟩,.string ⟨(afC c s.data.toList).toArray⟩,.bool (zdc c s.data.toList)])/\B_ w w':=by
 have d:=zB6 s c w j;generalize (⟨(bfC c s.data.toList).toArray⟩:ByteArray)=X at*;generalize (⟨(afC c s.data.toList).toArray⟩:ByteArray)=Y at*;generalize zdc c s.data.toList=b at*;go_in;go_wp2_with fail
 refine d.mono ?_;rintro _ l⟨rfl,f⟩;dsimp only;go_wp2_with fail
 go_ret3;exact⟨rfl,f⟩
theorem zAY (s:ByteArray)(c:UInt8)(w:World) :
  Calls prog 109 #[.string s,.int .u8 (c.toNat:Int)] w λe w'=>e=.returned (I_ (Lib.indexByte s.data.toList c))/\w=w':=by
 have b:=zA8 s c w;generalize Lib.indexByte s.data.toList c=I at*;generalize (c.toNat:Int)=C at*;go_in;go_wp2_with fail
 refine b.mono ?_;rintro _ f⟨rfl,rfl⟩;dsimp only;go_wp2_with fail
 go_ret;exact⟨rfl,rfl⟩
def hxd (n:Nat):UInt8:=if n<10 then UInt8.ofNat (48+n)else UInt8.ofNat (87+n)
def zfF (l:List UInt8):List UInt8:=l.flatMap λb=>[hxd (b.toNat / 16),hxd (b.toNat % 16)]
theorem zBo (l:List UInt8):(zfF l).length=2*l.length:=by
 induction l with
 | nil=>rfl
 | cons a l ih=>simp only[zfF,List.flatMap_cons,lP_,List.length_cons,List.length_nil]at ih|-;omega
theorem zCt (l:List UInt8)(b:UInt8):zfF (l++[b])=zfF l++[hxd (b.toNat / 16),hxd (b.toNat % 16)]:=by simp[zfF]
def n8 (l:List UInt8):L_:=l.map λb=>(b.toNat:Int)
theorem zBF (a b:List UInt8):n8 (a++b)=n8 a++n8 b:=by simp[n8]
theorem zCd (l:List UInt8):zai (n8 l)=⟨l.toArray⟩:=by
 apply zhf
 rw[ByteArray.toList_eq,ByteArray.toList_eq,zgr,n8,List.map_map];have:((λn:Int=>UInt8.ofNat n.toNat)∘λb:UInt8=>(b.toNat:Int))=id:=by
  funext b;simp
 rw[this];simp
theorem zBG (x:Nat)(b:x<16)(w:World) :
  (Instr.index 9 (.string ⟨#[48,49,50,51,52,53,54,55,56,57,97,98,99,100,101,102]⟩) (.int .u8 (x:Int))).run prog w=.ok (.int .u8 ((hxd x).toNat:Int)) w:=by
 have c:x=0\/x=1\/x=2\/x=3\/x=4\/x=5\/x=6\/x=7\/x=8\/x=9\/x=10\/x=11\/x=12\/x=13\/x=14\/x=15:=by omega
 clear b;rcases c with rfl|rfl|rfl|rfl|rfl|rfl|rfl|rfl|rfl|rfl|rfl|rfl|rfl|rfl|rfl|rfl<;>rfl
theorem zCi (s:ByteArray)(k:Nat)(h:k<s.size):s.data.toList.take (k+1)=s.data.toList.take k++[s[k]]:=by
 rw[tS_ (by simpa using h)];rfl
theorem zAA (s:ByteArray)(w:World)(Y:s.size<=1099511627776) :
  Calls prog 28 #[.string s] w λe w'=>e=.returned (.string ⟨(zfF s.data.toList).toArray⟩)/\B_ w w':=by
 obtain⟨i,m,u,z,A⟩:=info_parts zek;have L:∃C:X_,(Instr.makeSlice 53 (I_ 0) (I_ (2*(s.size:Int)))).run prog w=.ok (.slice (some (p_ w.heap.size 0)) 0 (2*s.size)) (w.alloc (.cells C 5))/\(w.alloc (.cells C 5)).ownsRow w.heap.size 5 1 (.slice (some (p_ w.heap.size 0)) 0 (2*s.size)) 0 []:=by
  refine⟨madeCells (Value.int .u8 0).cells (2*s.size*1),?_,?_⟩;have h:=run_make (P:=prog) w 53 5 i (.int .u8 0) underlying53 m u .i64 .i64 0 (2*(s.size:Int)) (by omega) (by omega) (by rw[A];omega) (by omega);have e:(2*(s.size:Int)).toNat=2*s.size:=by omega
  simpa[z,e]using h
  refine⟨rfl,.inr ⟨w.heap.size,2*s.size,_,rfl,nR_ _,hN_ _ _,by omega,by unfold maxLen;omega,size_madeCells _ _,by simp⟩⟩
 obtain⟨C,M,p⟩:=L;go_in;go_wp2_with fail
 have l:=zC w (.cells C 5);generalize w.alloc (.cells C 5)=U at*;go_loopw [11,3] (λj v wr=>∃k:Nat,k<=s.size/\j=I_ k/\B_ w wr/\wr.ownsRow w.heap.size 5 1 v (2*k) (ub (n8 (zfF (s.data.toList.take k))))) (λj _ _=>s.size-(intOf j).toNat)
 case atStart=>exact⟨0,nZ_ _,rfl,l,p⟩
 case round=>
  clear M p l;obtain⟨k,V,rfl,b,c⟩:=hrel;by_cases hlt:k<s.size
  .have X:(k:Int)<s.size:=by omega
   have d:Hid (n8 (zfF (s.data.toList.take (k+1)))=n8 (zfF (s.data.toList.take k))++[((hxd (s[k].toNat / 16)).toNat:Int),((hxd (s[k].toNat % 16)).toNat:Int)]):=by
    show _=_;rw[zCi s k hlt,zCt,zBF];rfl
   have R:s[k].toNat<256:=s[k].toNat_lt;have J:∀w:World,(Instr.index 9 (.string s) (I_ (k:Int))).run prog w=.ok (.int .u8 (s[k].toNat:Int)) w:=by
    intro w;have e:s[k]? = some s[k]:=getElem?_pos s k hlt;simp[Instr.index,asIntOf,e]
   generalize I:s[k].toNat=x at*;clear I;have f:=zBG (x / 16) (by omega);have g:=zBG (x % 16) (by omega);rw[show((x / 16:Nat):Int)=(x:Int) / 16 by omega]at f;rw[show((x % 16:Nat):Int)=(x:Int) % 16 by omega]at g;have F:bits .and .u8 (x:Int) 15=(x:Int) % 16:=u8_and15 x (by omega) (by omega);generalize ((hxd (x / 16)).toNat:Int)=B at f d;generalize ((hxd (x % 16)).toNat:Int)=D at g d;obtain⟨y,t⟩:∃y:Int,(x:Int)=y:=⟨_,rfl⟩;have Z:0<=y:=by omega
   have aa:y<256:=by omega
   rw[t]at f g F J;clear t R;go_wp2_with fail
   go_region_law (refine zlq rfl _ _ 53 rfl w.heap.size 5 i (.int .u8 0) 1 1 underlying53 m u z A rfl (by decide) _ (2*k) _ rfl (oA_ c.drew _) (p_ wr.heap.size 0) 2 2 [.int .u8 B,.int .u8 D] rfl rfl (zag _ _ _) (zds [_,_]) (by unfold maxLen;omega) (by omega) (zB b.size _) ?_;intro v' w1 N H)
   all_goals
    go_wp2_with fail
    go_roundw
    case rel=>
     refine⟨k+1,by omega,by go_num,Below.grown (b.drew.alloc b.size _) H (zB b.size _) (λq e=>(c.lt q e).1),?_⟩;rw[d.out,show 2*(k+1)=2*k+2 by omega]
     simpa[ub]using N
    case measure=>simp[intOf];omega
  obtain rfl:k=s.size:=by omega
  obtain⟨T,E,O,o,r⟩:=zeG c;subst O;have G:=zd8 wr T (2*s.size) E _ o r;rw[tL_ (by simp),zCd]at G;clear o r c;go_wp2_with fail
  go_ret;exact⟨rfl,b⟩
end Go.Proofs.YtfikffhlfoidjaaGreatDoor
