import Derived.Test.YtdnaljbnebnlhaaGreatDoorPk38
set_option maxRecDepth 100000
set_option maxHeartbeats 4000000
namespace Go.Proofs.YtdnaljbnebnlhaaGreatDoor
open Go.RowKit _root_.Go.Proofs.Tryz
theorem Fl.run_cons (f:Fl)(a:Ac)(l:List Ac):f.run (a::l)=(f.does a).run l:=rfl
theorem zAS {f:Fl}{a:Ac}(h:a.k=9):f.does a=f.forge a.i a.t:=by
 rw[Fl.does,Fl.act,if_neg (by omega),if_neg (by omega),if_neg (by omega),if_pos h]
theorem zhv (o:No)(m:MC):(o.sign m).bad=o.bad:=by
 unfold No.sign
 split
 .split<;>rfl
 .split<;>rfl
theorem zha (l:List MC)(f:Fl):(l.foldl Fl.out f).no.bad=f.no.bad:=by
 induction l generalizing f with
 | nil=>rfl
 | cons m l ih=>rw[List.foldl_cons,ih];exact zhv _ _
theorem zew (f:Fl)(i:Int)(m:MC):(f.come i m).no=f.no:=by unfold Fl.come;split<;>rfl
theorem zlo (l:List MC)(f:Fl):(zkP f l).no=f.no:=by
 induction l generalizing f with
 | nil=>rfl
 | cons m l ih=>exact(ih _).trans (zew _ _ _)
theorem zdQ (f:Fl)(a:Ac):(f.does a).no.bad=f.no.bad:=by
 unfold Fl.does Fl.act
 split
 .unfold Fl.pick
  split
  .rfl
  .split
   .rfl
   .split
    .rw[zew]
    .rfl
 .split
  .rw[zfw,zlo]
  .split
   .unfold Fl.submit
    split
    .rfl
    .split<;>rfl
   .split
    .exact zcq (P:=λg=>g.no.bad=f.no.bad) _ _ rfl (λm=>by rw[zew])
    .split
     .unfold Fl.start
      split<;>rfl
     .split
      .split
       .split
        .rfl
        .split
         .unfold Fl.sync;rw[zha];rfl
         .rfl
       .rfl
      .rfl
theorem zxU (l:List Ac)(f:Fl):(f.run l).no.bad=f.no.bad:=by
 induction l generalizing f with
 | nil=>rfl
 | cons a l ih=>rw[Fl.run_cons,ih,zdQ]
theorem zpd (a:Bc)(b:List Bc):bcl (a::b)=a.cs++bcl b:=by simp[bcl]
theorem zrb (l:List Bc)(j i:Nat)(h:j<l.length)(b:i<3):(bcl l)[j*3+i]? = (l[j]).cs[i]?:=by
 induction l generalizing j with
 | nil=>cases h
 | cons x r ih=>
  cases j with
  | zero=>
   rw[zpd,Nat.zero_mul,Nat.zero_add,List.getElem?_append_left (by simp[Bc.cs];exact b)];rfl
  | succ j=>
   have h':j<r.length:=by simpa using h
   rw[zpd,List.getElem?_append_right (by simp[Bc.cs];omega)];have e:(j+1)*3+i-x.cs.length=j*3+i:=by simp[Bc.cs];omega
   rw[e,ih j h'];rfl
theorem zcA {o:Om}{f:Fl}(h:o.v=f.told):o.aw=f.away.length:=congrArg (λx:Ou=>x.aw) h
theorem zzw {o:Om}{f:Fl}(h:o.v=f.told):o.cs=f.codes:=congrArg (λx:Ou=>x.cs) h
theorem zcP (r:Int)(l m:List AV):(Fl.z r).run ((l++m).map AV.ac)=((Fl.z r).run (l.map AV.ac)).run (m.map AV.ac):=by rw[List.map_append,Fl.run_append]
theorem zww (b ys:List Int)(f g:Option Addr)(n m c d:Nat)(w:World)(p:n=b.length)(o:m=ys.length)(j:zg w f c b)(l:zg w g d ys)(q:∀x∈b,0<=x/\x<=255)(r:∀x∈ys,0<=x/\x<=255) :
  Calls prog 70 #[.slice f n c,.slice g m d] w λe w'=>e=.returned (.bool (decide (b=ys)))/\w=w':=by
 have t:=zd8 w f n c b p j;have u:=zd8 w g m d ys o l;have s:Hid (((zai b).toList == (zai ys).toList)=decide (b=ys)):=by
  show _=_;by_cases h:b=ys
  .simp[h]
  .rw[dF_ h,beq_eq_false_iff_ne];exact λe=>h (ziD q r (zhf e))
 clear p o j l q r;generalize zai b=A at*;generalize zai ys=B at*;go_in;go_wp2_with fail
 go_ret;exact⟨zN (by rw[<-s.out]),rfl⟩
def za0 (ps:List zi):List (List Int):=ps.map (·.bs)
theorem zju (b f:List zi)(I J:Option Addr)(n m c d:Nat)(w:World)(hn:n=b.length)(hm:m=f.length)(hx:n<=1000)(hy:m<=1000)(O:zx w I c b)(R:zx w J d f)(F:∀p∈b,∀x∈p.bs,0<=x/\x<=255)(G:∀p∈f,∀x∈p.bs,0<=x/\x<=255) :
  Calls prog 100 #[.slice I n c,.slice J m d] w λe w'=>e=.returned (.bool (decide (za0 b=za0 f)))/\B_ w w':=by
 subst hn hm;by_cases hl:b.length=f.length
 .have A:Hid (b.length=f.length):=hl;have Z:Hid _:=F;have HV:Hid _:=G;rw[<-hl];clear F G hl;go_in;go_wp2_with fail
  go_loopw [5] (λj wr=>∃k:Nat,k<=b.length/\j=I_ k/\Hid (za0 (b.take k)=za0 (f.take k))/\B_ w wr) (λj _=>b.length-(intOf j).toNat)
  case atStart=>exact⟨0,nZ_ _,rfl,by show _=_;simp,bR_ _ _⟩
  case round=>
   obtain⟨k,hk,rfl,E,g⟩:=hrel;by_cases hlt:k<b.length
   .have t:k<f.length:=by have:=A.out;omega
    obtain⟨l,o,rfl,C⟩:∃l o,I=some ⟨l,o,none⟩/\∀j (h:j<b.length),w.cell? ⟨l,o+j,none⟩=some (.slice (b[j]).sa (b[j]).bs.length (b[j]).cap):=by
     rcases O.parts.cells with h|h
     .subst h;simp at hlt
     .exact h
    obtain⟨r,s,rfl,D⟩:∃r s,J=some ⟨r,s,none⟩/\∀j (h:j<f.length),w.cell? ⟨r,s+j,none⟩=some (.slice (f[j]).sa (f[j]).bs.length (f[j]).cap):=by
     rcases R.parts.cells with h|h
     .subst h;simp at t
     .exact h
    have ka:=(g.cell (p:=⟨l,o+k,none⟩) (bL_ (C k hlt))).trans (C k hlt);have kb:=(g.cell (p:=⟨r,s+k,none⟩) (bL_ (D k t))).trans (D k t);have ae:=(O.parts.each b[k] (gM_ hlt)).below g;have af:=(R.parts.each f[k] (gM_ t)).below g;have X:=Z.out b[k] (gM_ hlt);have Y:=HV.out f[k] (gM_ t);have ad:(k:Int)<b.length:=by omega
    have h0:(0:Int)<=k:=by omega
    clear C D;have U:Hid (za0 (b.take (k+1))=za0 (b.take k)++[(b[k]).bs]):=by show _=_;rw[za0,tS_ hlt,List.map_append];rfl
    have V:Hid (za0 (f.take (k+1))=za0 (f.take k)++[(f[k]).bs]):=by show _=_;rw[za0,tS_ t,List.map_append];rfl
    generalize b[k]=p at*;generalize f[k]=q at*;have N:∀u,B_ wr u->Calls prog 70 #[.slice p.sa p.bs.length p.cap,.slice q.sa q.bs.length q.cap] u λe w'=>e=.returned (.bool (decide (p.bs=q.bs)))/\u=w':=λu T=>zww p.bs q.bs p.sa q.sa _ _ p.cap q.cap u rfl rfl (ae.below T) (af.below T) X Y;have y:Hid _:=N;clear N X Y;by_cases he:p.bs=q.bs;have H:Hid (p.bs=q.bs):=he;rw[dT_ he]at y
    rotate_left
    have H:Hid (¬p.bs=q.bs):=he;rw[dF_ he]at y
    rotate_left
    all_goals
     clear he;go_wp2_with fail
     go_region_held3 (λw'=>w'.cell? ⟨l,o+k,none⟩=some (.slice p.sa p.bs.length p.cap)/\w'.cell? ⟨r,s+k,none⟩=some (.slice q.sa q.bs.length q.cap)) (go_keep) ((go_at_call 70;refine(y.out _ ?_).mono ?_;exact(bR_ _ _).drew;rintro e w8⟨rfl,rfl⟩))
    .all_goals
      go_wp2_with fail
      go_roundw
      case rel=>
       have M:∃B:Nat,B<=b.length/\(Value.int .i64 ((k:Int)+1))=I_ B/\Hid (za0 (b.take B)=za0 (f.take B))/\B_ w wr.drew:=⟨k+1,by omega,by go_num,by show _=_;rw[U.out,V.out,E.out,H.out],g.drew⟩
       first|exact M|((repeat apply Exists.intro);exact⟨M,rfl⟩)
      case measure=>simp[intOf];omega
    .all_goals
      go_wp2_with fail
      go_ret;refine⟨zN (dF_ λe=>H.out ?_).symm,g.drew⟩;have z:=U.out;have h2:=V.out;have L:za0 (b.take (k+1))=za0 (f.take (k+1)):=by
       have e':(za0 b).take (k+1)=(za0 f).take (k+1):=by rw[e]
       simpa[za0,List.map_take]using e'
      rw[z,h2,E.out]at L;have h4:=List.append_cancel_left L
      simpa using h4
   .obtain rfl:k=b.length:=by omega
    have ad:¬(b.length:Int)<b.length:=by omega
    have aa:Hid (za0 b=za0 f):=by
     have z:=E.out;rw[tL_ (nR_ _),tL_ (by have:=A.out;omega)]at z;exact z
    go_wp2_with fail
    go_ret;exact⟨zN (dT_ aa.out).symm,g⟩
 .have ac:¬(b.length:Int)=f.length:=by omega
  have A:Hid (¬za0 b=za0 f):=λe=>hl (by have:=congrArg List.length e;simpa[za0]using this);have ag:((b.length:Int) == (f.length:Int))=false:=beq_eq_false_iff_ne.2 ac;clear F G;go_in;go_wp2_with fail
  go_ret;exact⟨zN (dF_ A.out).symm,bR_ _ _⟩
structure zuS (w:World)(ba:Option Addr)(bn bc:Nat)(bl:List zi)(pa:Option Addr)(pn pc:Nat)(pl:List zi):Prop where
 eb:bn=bl.length
 ep:pn=pl.length
 b3:bn<=1000
 p4:pn<=1000
 bat:zx w ba bc bl
 par:zx w pa pc pl
 bu:∀p∈bl,∀x∈p.bs,0<=x/\x<=255
 pu:∀p∈pl,∀x∈p.bs,0<=x/\x<=255
theorem zmK (au rd c l:Int)(B:Option Addr)(F D:Nat)(bl:List zi)(q:Option Addr)(u s:Nat)(pl:List zi)(C:Option Addr)(G E:Nat)(d:List zi)(r:Option Addr)(A t:Nat)(m:List zi)(w:World)(f:zuS w B F D bl q u s pl)(g:zuS w C G E d r A t m) :
  Calls prog 67 #[.agg #[I_ au,I_ rd,.slice B F D,.slice q u s],.agg #[I_ c,I_ l,.slice C G E,.slice r A t]] w λe w'=>e=.returned (.bool (decide (au=c/\rd=l/\za0 bl=za0 d/\za0 pl=za0 m)))/\B_ w w':=by
 have H:B_ w ((w.alloc (.cells #[I_ au,I_ rd,.slice B F D,.slice q u s] 61)).alloc (.cells #[I_ c,I_ l,.slice C G E,.slice r A t] 61)):=((bR_ _ _).alloc (nR_ _) _).alloc (by simp) _;have J:∀b,B_ w b->Calls prog 100 #[.slice B F D,.slice C G E] b λe w'=>e=.returned (.bool (decide (za0 bl=za0 d)))/\B_ b w':=λb h=>zju bl d B C F G D E b f.eb g.eb f.b3 g.b3 (f.bat.below h) (g.bat.below h) f.bu g.bu;have L:∀b,B_ w b->Calls prog 100 #[.slice q u s,.slice r A t] b λe w'=>e=.returned (.bool (decide (za0 pl=za0 m)))/\B_ b w':=λb h=>zju pl m q r u A s t b f.ep g.ep f.p4 g.p4 (f.par.below h) (g.par.below h) f.pu g.pu;have I:Hid _:=J;have N:Hid _:=L;clear J L f g;have o:Hid (decide (au=c/\rd=l/\za0 bl=za0 d/\za0 pl=za0 m)=(decide (au=c/\rd=l)&&decide (za0 bl=za0 d)&&decide (za0 pl=za0 m))):=by
  show _=_;by_cases h1:au=c<;>by_cases h2:rd=l<;>by_cases h3:za0 bl=za0 d<;>simp[h1,h2,h3]
 generalize decide (za0 bl=za0 d)=x at*;generalize decide (za0 pl=za0 m)=y at*;generalize decide (au=c/\rd=l/\za0 bl=za0 d/\za0 pl=za0 m)=z at*;by_cases h1:au=c
 .subst h1;by_cases h2:rd=l
  .subst h2;have p:Hid (z=(x&&y)):=by have:=o.out;show _=_;simpa using this
   clear o;cases x
   all_goals
    go_in;go_wp2_with fail
    refine(I.out _ H).mono ?_;rintro e T⟨rfl,j⟩
   .go_wp2_with fail
    go_ret;exact⟨zN (by rw[p.out];rfl),zS (zS j)⟩
   .have M:=zbK j;have R:=zbK (zS j);rw[zG]at M;replace j:=zS (zS j);have U:=zb R 3 (.slice q u s) rfl;have V:=zb M 3 (.slice r A t) rfl;go_wp2_with fail
    refine(N.out _ j).mono ?_;rintro e w2⟨rfl,O⟩;go_wp2_with fail
    go_ret;exact⟨zN (by rw[p.out];simp),j.trans (O.mono j.size)⟩
  .have p:Hid (z=false):=by have:=o.out;show _=_;simpa[h2]using this
   clear o;have Y:(rd == l)=false:=by simpa using h2
   go_in;go_wp2_with fail
   go_ret;exact⟨zN p.out.symm,H⟩
 .have p:Hid (z=false):=by have:=o.out;show _=_;simpa[h1]using this
  clear o;have X:(au == c)=false:=by simpa using h1
  go_in;go_wp2_with fail
  go_ret;exact⟨zN p.out.symm,H⟩
variable {qs:List zi}
structure zg2 (ps qs:List zi):Prop where
 same:zbm ps qs
 u8:∀p∈qs,∀x∈p.bs,0<=x/\x<=255
 le:qs.length<=1000
theorem zg2.length {b:List zi}(h:zg2 b qs):b.length=qs.length:=h.same.length
theorem zg2.u8' {b:List zi}(h:zg2 b qs):∀p∈b,∀x∈p.bs,0<=x/\x<=255:=by
 intro p j x d;have c:p.bs∈b.map (·.bs):=List.mem_map_of_mem j;have g:b.map (·.bs)=qs.map (·.bs):=h.same;rw[g]at c;obtain⟨q,l,e⟩:=List.mem_map.1 c;have f:q.bs=p.bs:=e;rw[<-f]at d;exact h.u8 q l x d
theorem zmL (au rd:Int)(o:Option Addr)(p:Nat)(d:List zi)(q:Option Addr)(r:Nat)(f:List zi)(g:Option Addr)(j:Nat)(bl:List zi)(l:Option Addr)(m:Nat)(pl:List zi)(w:World)(b:zg2 d bl)(c:zg2 f pl)(s:zx w o p d)(t:zx w q r f)(u:zx w g j bl)(y:zx w l m pl) :
  Calls prog 67 #[.agg #[I_ au,I_ rd,.slice o bl.length p,.slice q pl.length r],.agg #[I_ au,I_ rd,.slice g bl.length j,.slice l pl.length m]] w λe w'=>e=.returned (.bool true)/\B_ w w':=by
 have h:=zmK au rd au rd o bl.length p d q pl.length r f g bl.length j bl l pl.length m pl w ⟨b.length.symm,c.length.symm,b.le,c.le,s,t,b.u8',c.u8'⟩ ⟨rfl,rfl,b.le,c.le,u,y,b.u8,c.u8⟩;have z:decide (au=au/\rd=rd/\za0 d=za0 bl/\za0 f=za0 pl)=true:=dT_ ⟨rfl,rfl,b.same,c.same⟩;rw[z]at h;exact h
theorem zpx (vl:List Int)(o p:Option Addr)(c d:Nat)(w:World)(C:vl.length<=9000000000000000000)(u:zax w o vl)(y:zax w p vl) :
  Calls prog 68 #[.slice o vl.length c,.slice p vl.length d] w λe w'=>e=.returned (.bool true)/\B_ w w':=by
 go_in;go_wp2_with fail
 go_loopw [5] (λj wr=>∃k:Nat,k<=vl.length/\j=I_ k/\B_ w wr) (λj _=>vl.length-(intOf j).toNat)
 case atStart=>exact⟨0,nZ_ _,rfl,bR_ _ _⟩
 case round=>
  obtain⟨k,B,rfl,b⟩:=hrel;by_cases hlt2:k<vl.length
  .obtain⟨f,g,rfl,r⟩:∃f g,o=some ⟨f,g,none⟩/\∀j,j<vl.length->wr.cell? ⟨f,g+j,none⟩=some (I_ (vl.getD j 0)):=by
    rcases(u.below b).cells with h|h
    .subst h;simp at hlt2
    .exact h
   obtain⟨l,m,rfl,s⟩:∃l m,p=some ⟨l,m,none⟩/\∀j,j<vl.length->wr.cell? ⟨l,m+j,none⟩=some (I_ (vl.getD j 0)):=by
    rcases(y.below b).cells with h|h
    .subst h;simp at hlt2
    .exact h
   have D:=r k hlt2;have E:=s k hlt2;have z:(k:Int)<vl.length:=by omega
   have A:(0:Int)<=k:=by omega
   clear r s;generalize vl.getD k 0=x at*;go_wp2_with fail
   go_region
   all_goals
    go_wp2_with fail
    go_roundw
    case rel=>
     have q:∃t:Nat,t<=vl.length/\(Value.int .i64 ((k:Int)+1))=I_ t/\B_ w wr.drew:=⟨k+1,by omega,by go_num,b.drew⟩
     first|exact q|((repeat apply Exists.intro);exact⟨q,rfl⟩)
    case measure=>simp[intOf];omega
  .obtain rfl:k=vl.length:=by omega
   have z:¬(vl.length:Int)<vl.length:=by omega
   go_wp2_with fail
   go_ret;exact⟨rfl,b⟩
theorem zpy (au rd:Int)(m:Option Addr)(o:Nat)(y:List zi)(p:Option Addr)(q:Nat)(z:List zi)(r:Option Addr)(s:Nat)(b:List Int)(c:Option Addr)(d:Nat)(bl:List zi)(f:Option Addr)(g:Nat)(pl:List zi)(j:Option Addr)(l:Nat)(w:World)(A:zg2 y bl)(B:zg2 z pl)(U:b.length<=9000000000000000000)(J:zx w m o y)(L:zx w p q z)(M:zax w r b)(N:zx w c d bl)(O:zx w f g pl)(R:zax w j b) :
  Calls prog 44 #[.agg #[I_ au,I_ rd,.slice m y.length o,.slice p z.length q,.slice r b.length s],.agg #[I_ au,I_ rd,.slice c bl.length d,.slice f pl.length g,.slice j b.length l]] w λe w'=>e=.returned (.bool true)/\B_ w w':=by
 rw[A.length,B.length];refine kA_ ?A0 ?_;exact #[I_ au,I_ rd,.slice c bl.length d,.slice f pl.length g,.slice j b.length l];refine kO_ ?B0 ?_;exact Obj.cells #[I_ au,I_ rd,.slice m bl.length o,.slice p pl.length q,.slice r b.length s] 64;have t:B_ w ((w.alloc ?B0).alloc (.cells ?A0 64)):=((bR_ _ _).alloc (nR_ _) _).alloc (by rw[zG];omega) _;have E:=hX_ w ?B0 (.cells ?A0 64);have F:((w.alloc ?B0).alloc (.cells ?A0 64)).heap[w.heap.size+1]? = some (.cells ?A0 64 (0,0)):=by
  have:=hN_ (w.alloc ?B0) (.cells ?A0 64);rw[zG]at this;exact this
 have G:Hid _:=A;have H:Hid _:=B;clear A B;go_in;go_wp2_with fail
 generalize (w.alloc ?B0).alloc (.cells ?A0 64)=I at t E F|-;refine(zmL au rd m o y p q z c d bl f g pl I G.out H.out (J.below t) (L.below t) (N.below t) (O.below t)).mono ?_;rintro _ Y⟨rfl,C⟩;dsimp only;have V:=zk C E;have X:=zk C F;have Z:=zb V 4 _ rfl;have m4:=zb X 4 _ rfl;have u:=zm t C;go_wp2_with fail
 refine(zpx b r j s l Y U (M.below u) (R.below u)).mono ?_;rintro _ w2⟨rfl,T⟩;dsimp only;go_wp2_with fail
 go_ret;exact⟨rfl,u.trans (T.mono u.size)⟩
theorem znT (b:List ByteArray)(t u:Option Addr)(n m c d:Nat)(w:World)(F:n=b.length)(E:m=b.length)(C:n<=maxLen)(A:zas w t b)(B:zas w u b) :
  Calls prog 69 #[.slice t n c,.slice u m d] w λe w'=>e=.returned (.bool true)/\B_ w w':=by
 subst F E;unfold maxLen at C;go_in;go_wp2_with fail
 go_loopw [5] (λj wr=>∃k:Nat,k<=b.length/\j=I_ k/\B_ w wr) (λj _=>b.length-(intOf j).toNat)
 case atStart=>exact⟨0,nZ_ _,rfl,bR_ _ _⟩
 case round=>
  obtain⟨k,H,rfl,q⟩:=hrel;by_cases hlt:k<b.length
  .obtain⟨f,g,rfl,r⟩:∃f g,t=some ⟨f,g,none⟩/\∀j,j<b.length->w.cell? ⟨f,g+j,none⟩=some (.string (b.getD j ByteArray.empty)):=by
    rcases A.cells with h|h
    .rw[h]at hlt;simp at hlt
    .exact h
   obtain⟨l,o,rfl,s⟩:∃l o,u=some ⟨l,o,none⟩/\∀j,j<b.length->w.cell? ⟨l,o+j,none⟩=some (.string (b.getD j ByteArray.empty)):=by
    rcases B.cells with h|h
    .rw[h]at hlt;simp at hlt
    .exact h
   have I:=(q.cell (p:=⟨f,g+k,none⟩) (bL_ (r k hlt))).trans (r k hlt);have J:=(q.cell (p:=⟨l,o+k,none⟩) (bL_ (s k hlt))).trans (s k hlt);have D:(k:Int)<b.length:=by omega
   have G:(0:Int)<=k:=by omega
   clear r s;generalize b.getD k ByteArray.empty=x at*;go_wp2_with fail
   go_region_held3 (λw'=>w'.cell? ⟨f,g+k,none⟩=some (.string x)/\w'.cell? ⟨l,o+k,none⟩=some (.string x)) (go_keep) (fail)
   all_goals
    go_wp2_with fail
    go_roundw
    case rel=>
     have y:∃z:Nat,z<=b.length/\(Value.int .i64 ((k:Int)+1))=I_ z/\B_ w wr.drew:=⟨k+1,by omega,by go_num,q.drew⟩
     first|exact y|((repeat apply Exists.intro);exact⟨y,rfl⟩)
    case measure=>simp[intOf];omega
  .obtain rfl:k=b.length:=by omega
   have D:¬(b.length:Int)<b.length:=by omega
   go_wp2_with fail
   go_ret;exact⟨rfl,q⟩
theorem znU (au f:Int)(b:List ByteArray)(g j:Option Addr)(n m c d:Nat)(w:World)(q:n=b.length)(p:m=b.length)(o:n<=maxLen)(s:zas w g b)(t:zas w j b) :
  Calls prog 45 #[.agg #[I_ au,I_ f,.slice g n c],.agg #[I_ au,I_ f,.slice j m d]] w λe w'=>e=.returned (.bool true)/\B_ w w':=by
 have l:B_ w ((w.alloc (.cells #[I_ au,I_ f,.slice g n c] 58)).alloc (.cells #[I_ au,I_ f,.slice j m d] 58)):=((bR_ _ _).alloc (nR_ _) _).alloc (by simp) _;have r:=znT b g j n m c d _ q p o (s.below l) (t.below l);clear q p o;go_in;go_wp2_with fail
 refine r.mono ?_;rintro _ z⟨rfl,u⟩;dsimp only;go_wp2_with fail
 go_ret;exact⟨rfl,zS (zS u)⟩
theorem zxO (bs:List Int)(b f:Option Addr)(n m c d:Nat)(w:World)(o:n=bs.length)(l:m=bs.length)(g:zg w b c bs)(j:zg w f d bs) :
  Calls prog 70 #[.slice b n c,.slice f m d] w λe w'=>e=.returned (.bool true)/\w=w':=by
 have p:=zd8 w b n c bs o g;have q:=zd8 w f m d bs l j;clear o l g j;go_in;go_wp2_with fail
 go_ret;exact⟨by simp,rfl⟩
theorem zpz (au rd:Int)(bs:List Int)(b f:Option Addr)(n m c d:Nat)(w:World)(p:n=bs.length)(o:m=bs.length)(j:zg w b c bs)(l:zg w f d bs) :
  Calls prog 46 #[.agg #[I_ au,I_ rd,.slice b n c],.agg #[I_ au,I_ rd,.slice f m d]] w λe w'=>e=.returned (.bool true)/\B_ w w':=by
 have g:B_ w ((w.alloc (.cells #[I_ au,I_ rd,.slice b n c] 53)).alloc (.cells #[I_ au,I_ rd,.slice f m d] 53)):=((bR_ _ _).alloc (nR_ _) _).alloc (by simp) _;have h:=zxO bs b f n m c d _ p o (j.below g) (l.below g);clear p o j l;go_in;go_wp2_with fail
 refine h.mono ?_;rintro e q⟨rfl,rfl⟩;dsimp only;go_wp2_with fail
 go_ret;exact⟨rfl,g⟩
variable {bl:List zi}
theorem zrf (b:List Sl)(j i:Nat)(h:j<b.length)(c:i<3):(slv b)[j*3+i]? = (b[j]).cs[i]?:=by
 induction b generalizing j with
 | nil=>cases h
 | cons x r ih=>
  cases j with
  | zero=>simp only[slv,Nat.zero_mul,Nat.zero_add,List.getElem_cons_zero];rw[List.getElem?_append_left (by simp[Sl.cs];exact c)]
  | succ j=>
   have h':j<r.length:=by simpa using h
   simp only[slv,List.getElem_cons_succ];rw[List.getElem?_append_right (by simp[Sl.cs];omega),<-ih j h']
   congr 1
   simp[Sl.cs];omega
theorem zpA {c:List zi}(j:bss c=bss bl)(d:bl.length<=1000)(g:∀b∈bss bl,∀x∈b,0<=x/\x<=255):zg2 c bl:=
 ⟨j,λp f x l=>g p.bs (List.mem_map.2 ⟨p,f,rfl⟩) x l,d⟩
theorem zuT (c d:Ct)(w:World)(f:c.v=d.v)(N:d.v.f=0)(D:∀b∈d.v.bl++d.v.pl,∀x∈b,0<=x/\x<=255)(J:za7 w c)(L:za7 w d) :
  Calls prog 24 #[.agg #[I_ c.au,I_ c.rd,.slice c.ba c.bl.length c.bc,.slice c.pa c.pl.length c.pc,.slice c.va c.vl.length c.vc],.agg #[I_ d.au,I_ d.rd,.slice d.ba d.bl.length d.bc,.slice d.pa d.pl.length d.pc,.slice d.va d.vl.length d.vc]] w λe w'=>e=.returned (.bool true)/\Below w.heap.size w w':=by
 have H:Hid (c.v=d.v):=f;clear f;refine kA_ ?A0 ?_;exact #[I_ c.au,I_ c.rd,.slice c.ba c.bl.length c.bc,.slice c.pa c.pl.length c.pc,.slice c.va c.vl.length c.vc];refine kA_ ?B0 ?_;exact #[I_ d.au,I_ d.rd,.slice d.ba d.bl.length d.bc,.slice d.pa d.pl.length d.pc,.slice d.va d.vl.length d.vc];have l:Below w.heap.size w ((w.alloc (.cells ?A0 64)).alloc (.cells ?B0 64)):=((bR_ _ _).alloc (nR_ _) _).alloc (by simp) _;have g:=hX_ w (.cells ?A0 64) (.cells ?B0 64);have j:=hY_ w (.cells ?A0 64) (.cells ?B0 64);go_in;go_upto_region 1 with fail
 generalize (w.alloc (.cells ?A0 64)).alloc (.cells ?B0 64)=m at l g j|-;have f:=H.out;have z:c.au=d.au:=congrArg CV.au f;have A:c.rd=d.rd:=congrArg CV.rd f;have B:bss c.bl=bss d.bl:=congrArg CV.bl f;have C:bss c.pl=bss d.pl:=congrArg CV.pl f;have o:c.vl=d.vl:=congrArg CV.vl f;obtain⟨E,F,O,_,_⟩:=zow N;have u:=zpA B E (λb t=>D b (List.mem_append.2 (.inl t)));have y:=zpA C F (λb t=>D b (List.mem_append.2 (.inr t)));have p:=J.below l;have q:=L.below l;have s:=p.ints;rw[o]at s;have r:=zpy c.au c.rd c.ba c.bc c.bl c.pa c.pc c.pl c.va c.vc d.vl d.ba d.bc d.bl d.pa d.pc d.pl d.va d.vc m u y (by omega) p.hat.lb p.hat.lp s q.hat.lb q.hat.lp q.ints;rw[<-o]at r;have G:Calls prog 44 #[.agg ?A0,.agg ?B0] m λe w'=>e=.returned (.bool true)/\Below m.heap.size m w':=by
  rw[<-z,<-A,<-o];exact r
 clear r z A B C o u y s p q E F O f;have R:=zb g 0 _ rfl;have T:=zb g 1 _ rfl;have U:=zb g 2 _ rfl;have V:=zb g 3 _ rfl;have X:=zb g 4 _ rfl;have Y:=zb j 0 _ rfl;have Z:=zb j 1 _ rfl;have b2:=zb j 2 _ rfl;have b3:=zb j 3 _ rfl;have b4:=zb j 4 _ rfl;go_wp2_with fail
 refine G.mono ?_;rintro _ w1⟨rfl,I⟩;dsimp only;go_wp2_with fail
 go_ret;exact⟨rfl,l.trans (I.mono l.size)⟩
theorem zsM (c d:Bc)(w:World)(b:c.v=d.v)(s:zcN w c)(l:zcN w d) :
  Calls prog 25 #[.agg #[I_ c.v.au,I_ c.v.nu,.slice c.ta c.v.ss.length c.tc],.agg #[I_ d.v.au,I_ d.v.nu,.slice d.ta d.v.ss.length d.tc]] w λe w'=>e=.returned (.bool true)/\Below w.heap.size w w':=by
 have p:Hid (c.v=d.v):=b;clear b;refine kO_ ?A0 ?_;exact Obj.cells #[I_ c.v.au,I_ c.v.nu,.slice c.ta c.v.ss.length c.tc] 58;refine kO_ ?B0 ?_;exact Obj.cells #[I_ d.v.au,I_ d.v.nu,.slice d.ta d.v.ss.length d.tc] 58;have f:Below w.heap.size w ((w.alloc ?A0).alloc ?B0):=((bR_ _ _).alloc (nR_ _) _).alloc (by simp) _;have g:=hX_ w ?A0 ?B0;have j:=hY_ w ?A0 ?B0;go_in;go_upto_region 1 with fail
 generalize (w.alloc ?A0).alloc ?B0=q at f g j|-;have b:=p.out;have m:=(s.below f).strs;rw[b]at m;have o:=znU d.v.au d.v.nu d.v.ss c.ta d.ta _ _ c.tc d.tc q rfl rfl (nT_ l.le l.max) m (l.below f).strs;rw[b]at g|-;clear m b;have u:=zb g 0 _ rfl;have A:=zb j 0 _ rfl;have y:=zb g 1 _ rfl;have B:=zb j 1 _ rfl;have z:=zb g 2 _ rfl;have C:=zb j 2 _ rfl;go_wp2_with fail
 refine o.mono ?_;rintro _ D⟨rfl,r⟩;dsimp only;go_wp2_with fail
 go_ret;exact⟨rfl,f.trans (r.mono f.size)⟩
theorem zuU (c d:Sl)(w:World)(b:c.v=d.v)(q:zg w c.p.sa c.p.cap c.p.bs)(r:zg w d.p.sa d.p.cap d.p.bs) :
  Calls prog 26 #[.agg #[I_ c.au,I_ c.rd,.slice c.p.sa c.p.bs.length c.p.cap],.agg #[I_ d.au,I_ d.rd,.slice d.p.sa d.p.bs.length d.p.cap]] w λe w'=>e=.returned (.bool true)/\Below w.heap.size w w':=by
 have u:Hid (c.v=d.v):=b;clear b;refine kO_ ?A0 ?_;exact Obj.cells #[I_ c.au,I_ c.rd,.slice c.p.sa c.p.bs.length c.p.cap] 53;refine kO_ ?B0 ?_;exact Obj.cells #[I_ d.au,I_ d.rd,.slice d.p.sa d.p.bs.length d.p.cap] 53;have f:Below w.heap.size w ((w.alloc ?A0).alloc ?B0):=((bR_ _ _).alloc (nR_ _) _).alloc (by simp) _;have g:=hX_ w ?A0 ?B0;have j:=hY_ w ?A0 ?B0;go_in;go_upto_region 1 with fail
 generalize (w.alloc ?A0).alloc ?B0=y at f g j|-;have b:=u.out;have o:c.au=d.au:=congrArg (λs:SV=>s.1) b;have p:c.rd=d.rd:=congrArg (λs:SV=>s.2.1) b;have l:c.p.bs=d.p.bs:=congrArg (λs:SV=>s.2.2) b;have m:=q.below f;rw[l]at m;have t:=zpz d.au d.rd d.p.bs c.p.sa d.p.sa _ _ c.p.cap d.p.cap y rfl rfl m (r.below f);rw[o,p,l]at g|-;clear m b o p l q r;have B:=zb g 0 _ rfl;have E:=zb j 0 _ rfl;have C:=zb g 1 _ rfl;have F:=zb j 1 _ rfl;have D:=zb g 2 _ rfl;have G:=zb j 2 _ rfl;go_wp2_with fail
 refine t.mono ?_;rintro _ H⟨rfl,z⟩;dsimp only;go_wp2_with fail
 go_ret;exact⟨rfl,f.trans (z.mono f.size)⟩
theorem zyO:(prog.info? 64).map (·.size)=some 5:=by kernel_rfl
theorem zyP:(prog.info? 58).map (·.size)=some 3:=by kernel_rfl
theorem zyQ:(prog.info? 53).map (·.size)=some 3:=by kernel_rfl
structure zcx (p q:Vw):Prop where
 rd:p.rd=q.rd
 cs:p.cs=q.cs
 bs:p.bs=q.bs
 vt:p.vt=q.vt
theorem zpB {α β:Type}{f:α->β}{l m:List α}(h:l.map f=m.map f)(k:Nat)(b:k<l.length)(c:k<m.length):f l[k]=f m[k]:=by
 have:=congrArg (λx:List β=>x[k]?) h
 simpa[b,c]using this
theorem zdC (p q:Vm)(w:World)(hp:zfX w p)(hq:zfX w q)(ho:zlk q.v)(hs:zcx p.v q.v) :
  Calls prog 16 #[.agg #[.bool p.up,I_ p.rd,.slice p.ca p.ls.length p.cc,.slice p.ba p.bl.length p.bc,.slice p.ta p.tab.length p.tc,.slice p.pa p.txs.length p.pc],.agg #[.bool q.up,I_ q.rd,.slice q.ca q.ls.length q.cc,.slice q.ba q.bl.length q.bc,.slice q.ta q.tab.length q.tc,.slice q.pa q.txs.length q.pc]] w λe w'=>e=.returned (.bool true)/\Below w.heap.size w w':=by
 have er:p.rd=q.rd:=hs.rd;have l1:p.ls.length=q.ls.length:=by have:=congrArg List.length hs.cs;simpa[Vm.v,zI]using this
 have l2:p.bl.length=q.bl.length:=by have:=congrArg List.length hs.bs;simpa[Vm.v]using this
 have l3:p.tab.length=q.tab.length:=by have:=congrArg List.length hs.vt;simpa[Vm.v,vs]using this
 have b1:q.ls.length<=400:=zlE ho.dag;have b2:q.bl.length<=800:=by have:=ho.sh;simpa[Vm.v]using this
 have b3:q.tab.length<=400000:=by have:=ho.tab;simpa[Vm.v,vs]using this
 have HS:Hid _:=hs;have HO:Hid _:=ho;have ER:Hid (p.rd=q.rd):=er;have L1:Hid (p.ls.length=q.ls.length):=l1;have L2:Hid (p.bl.length=q.bl.length):=l2;have L3:Hid (p.tab.length=q.tab.length):=l3;clear er l1 l2 l3;refine kO_ ?A0 ?_;exact Obj.cells #[.bool p.up,I_ p.rd,.slice p.ca p.ls.length p.cc,.slice p.ba p.bl.length p.bc,.slice p.ta p.tab.length p.tc,.slice p.pa p.txs.length p.pc] 47;refine kO_ ?B0 ?_;exact Obj.cells #[.bool q.up,I_ q.rd,.slice q.ca q.ls.length q.cc,.slice q.ba q.bl.length q.bc,.slice q.ta q.tab.length q.tc,.slice q.pa q.txs.length q.pc] 47;have hA:Below w.heap.size w ((w.alloc ?A0).alloc ?B0):=((bR_ _ _).alloc (nR_ _) _).alloc (by simp) _;have q0:=hX_ w ?A0 ?B0;have q1:=hY_ w ?A0 ?B0;go_in;go_upto_region 1 with fail
 generalize (w.alloc ?A0).alloc ?B0=W0 at hA q0 q1|-;generalize w.heap.size+1=Q at q1|-;generalize ag:w.heap.size=P at q0|-;have HP:Hid (w.heap.size=P):=ag;clear ag hs ho;have ax:=hp.below hA;have ay:=hq.below hA;clear hp hq;have p1:=zb q0 1 _ rfl;have p2:=zb q0 2 _ rfl;have p3:=zb q0 3 _ rfl;have p4:=zb q0 4 _ rfl;have s1:=zb q1 1 _ rfl;have s2:=zb q1 2 _ rfl;have s3:=zb q1 3 _ rfl;have s4:=zb q1 4 _ rfl;rw[ER.out]at p1;rw[L1.out]at p2;rw[L2.out]at p3;rw[L3.out]at p4;clear q0 q1;generalize ak:q.ls.length=U at p2 s2 b1 L1|-;generalize al:q.bl.length=X at p3 s3 b2 L2|-;generalize am:q.tab.length=Y at p4 s4 b3 L3|-;have N1:Hid _:=ak;have N2:Hid _:=al;have N3:Hid _:=am;clear ak al am;go_wp2_with fail
 have an:=ax;have ao:=ay;have az:=p2;have aC:=p3;have aF:=p4;have aI:=s2;have aL:=s3;have aO:=s4;go_loopw [5] (λj wr=>∃k:Nat,k<=U/\j=I_ k/\Below W0.heap.size W0 wr) (λj _=>U-(intOf j).toNat)
 case atStart=>exact⟨0,nZ_ _,rfl,bR_ _ _⟩
 case round=>
  obtain⟨k,hk,rfl,g⟩:=hrel;have o:=an.below g;have r:=ao.below g;have z:=zr g az;have A:=zr g aC;have B:=zr g aF;have E:=zr g aI;have F:=zr g aL;have G:=zr g aO;by_cases hlt:k<U
  .have af:(k:Int)<U:=by omega
   have N:k<p.ls.length:=by rw[L1.out];exact hlt
   have J:k<q.ls.length:=by rw[N1.out];exact hlt
   have L:Hid _:=(λ(V:World) (hV:Below wr.heap.size wr V)=>zuT (p.ls[k]) (q.ls[k]) V (zpB (f:=Ct.v) HS.out.cs k N J) (znZ HO.out.dag _ (gM_ J)) (HO.out.du8 _ (List.mem_map.2 ⟨_,gM_ J,rfl⟩)) ((o.ec _ (gM_ N)).below hV) ((r.ec _ (gM_ J)).below hV));have Z:=o.rc;rw[L1.out]at Z;have aa:=r.rc;rw[N1.out]at aa;obtain⟨s,ad,O⟩:=zei Z hlt (row:=(p.ls[k]).cs) rfl (λt T=>zfx p.ls k t N T);obtain⟨u,ae,R⟩:=zei aa hlt (row:=(q.ls[k]).cs) rfl (λt T=>zfx q.ls k t J T);rw[ad]at z;rw[ae]at E;generalize p.ls[k]=c at L O;generalize q.ls[k]=d at L R;have y:=dB_ wr;have C:=dC_ z;have H:=dC_ E;have D:=zde O;have I:=zde R;go_upto_region 6 with fail
   refine wR_ (S:=λw'=>w'.cell? ⟨P,2,none⟩=some (.slice (some ⟨s,0,none⟩) U p.cc)/\w'.cell? ⟨Q,2,none⟩=some (.slice (some ⟨u,0,none⟩) U q.cc)/\w'.rangeAt s (k*5) c.cs/\w'.rangeAt u (k*5) d.cs) (by kernel_rfl) ⟨C,H,D,I⟩ (λl=>?_);generalize wr.drew=M at y C H D I l|-;refine tks_ 4 [(0,47,(P_ P 2)),(1,48,.slice (some ⟨s,0,none⟩) U p.cc),(2,49,I_ (k:Int)),(3,50,(P_ s (k*5)))] l ?_;simp only[tkf_,zf];refine kA_ ?C0 ?_;exact #[I_ c.au,I_ c.rd,.slice c.ba c.bl.length c.bc,.slice c.pa c.pl.length c.pc,.slice c.va c.vl.length c.vc];refine tQ_ 4 51 (.agg ?C0) rfl rfl (yieldsIf_load_mid (by rfl) 64 _ rfl s (k*5) rfl c.cs _ (λw0 h=>h.2.2.1) underlying64 rfl zyO) l ?_;simp only[zf];refine tks_ 4 [(5,52,(P_ Q 2)),(6,53,.slice (some ⟨u,0,none⟩) U q.cc),(7,54,I_ (k:Int)),(8,55,(P_ u (k*5)))] l ?_;simp only[tkf_,zf];refine kA_ ?D0 ?_;exact #[I_ d.au,I_ d.rd,.slice d.ba d.bl.length d.bc,.slice d.pa d.pl.length d.pc,.slice d.va d.vl.length d.vc];refine tQ_ 9 56 (.agg ?D0) rfl rfl (yieldsIf_load_mid (by rfl) 64 _ rfl u (k*5) rfl d.cs _ (λw0 h=>h.2.2.2) underlying64 rfl zyO) l ?_;simp only[zf];refine zE 10 rfl (λK9 hK=>?_);refine zj rfl 57 rfl 24 [.tmp 51,.tmp 56] #[64,64] rfl [.agg ?C0,.agg ?D0] rfl (eO_ func24) (λv w'=>v=.bool true/\Below M.heap.size M w') ((L.out M y).mono (λe w2 h=>⟨_,h.1,rfl,h.2⟩)) ?_;rintro v V1⟨rfl,m⟩;have ac:=zm y m;refine hK.out _ _ ⟨zr m C,zr m H,zdd D m,zdd I m⟩ (λl=>?_);simp only[zf];refine zU 11 58 (.bool false) rfl rfl l ?_;simp only[zf];refine wD_ (by kernel_rfl) ?_ _;have ab:=zm g ac;clear C H D I l y m o r Z aa O R z A B E F G;go_wp2_with fail
   go_roundw
   case rel=>exact⟨k+1,by omega,by go_num,ab⟩
   case measure=>simp[intOf];omega
  .obtain rfl:U=k:=by omega
   have af:¬((U:Nat):Int)<(U:Nat):=by omega
   obtain⟨W1,ah⟩:∃W,W=wr:=⟨_,rfl⟩;rw[<-ah]at g o r z A B E F G|-;clear ah;have ab:=zm hA g;have ap:=o;have aq:=r;have aA:=z;have aD:=A;have aG:=B;have aJ:=E;have aM:=F;have aP:=G;clear g o r z A B E F G hlt hk;go_wp2_with fail
   go_loopw [6] (λj wr=>∃k:Nat,k<=X/\j=I_ k/\Below W1.heap.size W1 wr) (λj _=>X-(intOf j).toNat)
   case atStart=>exact⟨0,nZ_ _,rfl,bR_ _ _⟩
   case round=>
    obtain⟨k,hk,rfl,g⟩:=hrel;have o:=ap.below g;have r:=aq.below g;have z:=zr g aA;have A:=zr g aD;have B:=zr g aG;have E:=zr g aJ;have F:=zr g aM;have G:=zr g aP;by_cases hlt:k<X
    .have af:(k:Int)<X:=by omega
     have N:k<p.bl.length:=by rw[L2.out];exact hlt
     have J:k<q.bl.length:=by rw[N2.out];exact hlt
     have L:Hid _:=(λ(V:World) (hV:Below wr.heap.size wr V)=>zsM (p.bl[k]) (q.bl[k]) V (zpB (f:=λb:Bc=>b.v) HS.out.bs k N J) ((o.eb _ (gM_ N)).below hV) ((r.eb _ (gM_ J)).below hV));have Z:=o.rb;rw[L2.out]at Z;have aa:=r.rb;rw[N2.out]at aa;obtain⟨s,ad,O⟩:=zei Z hlt (row:=(p.bl[k]).cs) rfl (λt T=>zrb p.bl k t N T);obtain⟨u,ae,R⟩:=zei aa hlt (row:=(q.bl[k]).cs) rfl (λt T=>zrb q.bl k t J T);rw[ad]at A;rw[ae]at F;generalize p.bl[k]=c at L O;generalize q.bl[k]=d at L R;have y:=dB_ wr;have C:=dC_ A;have H:=dC_ F;have D:=zde O;have I:=zde R;go_upto_region 11 with fail
     refine wR_ (S:=λw'=>w'.cell? ⟨P,3,none⟩=some (.slice (some ⟨s,0,none⟩) X p.bc)/\w'.cell? ⟨Q,3,none⟩=some (.slice (some ⟨u,0,none⟩) X q.bc)/\w'.rangeAt s (k*3) c.cs/\w'.rangeAt u (k*3) d.cs) (by kernel_rfl) ⟨C,H,D,I⟩ (λl=>?_);generalize wr.drew=M at y C H D I l|-;refine tks_ 4 [(0,66,(P_ P 3)),(1,67,.slice (some ⟨s,0,none⟩) X p.bc),(2,68,I_ (k:Int)),(3,69,(P_ s (k*3)))] l ?_;simp only[tkf_,zf];refine kA_ ?E0 ?_;exact #[I_ c.v.au,I_ c.v.nu,.slice c.ta c.v.ss.length c.tc];refine tQ_ 4 70 (.agg ?E0) rfl rfl (yieldsIf_load_mid (by rfl) 58 _ rfl s (k*3) rfl c.cs _ (λw0 h=>h.2.2.1) underlying58 rfl zyP) l ?_;simp only[zf];refine tks_ 4 [(5,71,(P_ Q 3)),(6,72,.slice (some ⟨u,0,none⟩) X q.bc),(7,73,I_ (k:Int)),(8,74,(P_ u (k*3)))] l ?_;simp only[tkf_,zf];refine kA_ ?F0 ?_;exact #[I_ d.v.au,I_ d.v.nu,.slice d.ta d.v.ss.length d.tc];refine tQ_ 9 75 (.agg ?F0) rfl rfl (yieldsIf_load_mid (by rfl) 58 _ rfl u (k*3) rfl d.cs _ (λw0 h=>h.2.2.2) underlying58 rfl zyP) l ?_;simp only[zf];refine zE 10 rfl (λK9 hK=>?_);refine zj rfl 76 rfl 25 [.tmp 70,.tmp 75] #[58,58] rfl [.agg ?E0,.agg ?F0] rfl (eO_ func25) (λv w'=>v=.bool true/\Below M.heap.size M w') ((L.out M y).mono (λe w2 h=>⟨_,h.1,rfl,h.2⟩)) ?_;rintro v V1⟨rfl,m⟩;have ac:=zm y m;refine hK.out _ _ ⟨zr m C,zr m H,zdd D m,zdd I m⟩ (λl=>?_);simp only[zf];refine zU 11 77 (.bool false) rfl rfl l ?_;simp only[zf];refine wD_ (by kernel_rfl) ?_ _;have ab:=zm g ac;clear C H D I l y m o r Z aa O R z A B E F G;go_wp2_with fail
     go_roundw
     case rel=>exact⟨k+1,by omega,by go_num,ab⟩
     case measure=>simp[intOf];omega
    .obtain rfl:X=k:=by omega
     have af:¬((X:Nat):Int)<(X:Nat):=by omega
     obtain⟨W2,ai⟩:∃W,W=wr:=⟨_,rfl⟩;rw[<-ai]at g o r z A B E F G|-;clear ai;have av:=zm ab g;have ar:=o;have au:=r;have aB:=z;have aE:=A;have aH:=B;have aK:=E;have aN:=F;have aQ:=G;clear g o r z A B E F G hlt hk;go_wp2_with fail
     go_loopw [7] (λj wr=>∃k:Nat,k<=Y/\j=I_ k/\Below W2.heap.size W2 wr) (λj _=>Y-(intOf j).toNat)
     case atStart=>exact⟨0,nZ_ _,rfl,bR_ _ _⟩
     case round=>
      obtain⟨k,hk,rfl,g⟩:=hrel;have o:=ar.below g;have r:=au.below g;have z:=zr g aB;have A:=zr g aE;have B:=zr g aH;have E:=zr g aK;have F:=zr g aN;have G:=zr g aQ;by_cases hlt:k<Y
      .have af:(k:Int)<Y:=by omega
       have N:k<p.tab.length:=by rw[L3.out];exact hlt
       have J:k<q.tab.length:=by rw[N3.out];exact hlt
       have L:Hid _:=(λ(V:World) (hV:Below wr.heap.size wr V)=>zuU (p.tab[k]) (q.tab[k]) V (zpB (f:=Sl.v) HS.out.vt k N J) ((o.et _ (gM_ N)).below hV) ((r.et _ (gM_ J)).below hV));have Z:=o.rt;rw[L3.out]at Z;have aa:=r.rt;rw[N3.out]at aa;obtain⟨s,ad,O⟩:=zei Z hlt (row:=(p.tab[k]).cs) rfl (λt T=>zrf p.tab k t N T);obtain⟨u,ae,R⟩:=zei aa hlt (row:=(q.tab[k]).cs) rfl (λt T=>zrf q.tab k t J T);rw[ad]at B;rw[ae]at G;generalize p.tab[k]=c at L O;generalize q.tab[k]=d at L R;have y:=dB_ wr;have C:=dC_ B;have H:=dC_ G;have D:=zde O;have I:=zde R;go_upto_region 16 with fail
       refine wR_ (S:=λw'=>w'.cell? ⟨P,4,none⟩=some (.slice (some ⟨s,0,none⟩) Y p.tc)/\w'.cell? ⟨Q,4,none⟩=some (.slice (some ⟨u,0,none⟩) Y q.tc)/\w'.rangeAt s (k*3) c.cs/\w'.rangeAt u (k*3) d.cs) (by kernel_rfl) ⟨C,H,D,I⟩ (λl=>?_);generalize wr.drew=M at y C H D I l|-;refine tks_ 4 [(0,85,(P_ P 4)),(1,86,.slice (some ⟨s,0,none⟩) Y p.tc),(2,87,I_ (k:Int)),(3,88,(P_ s (k*3)))] l ?_;simp only[tkf_,zf];refine kA_ ?G0 ?_;exact #[I_ c.au,I_ c.rd,.slice c.p.sa c.p.bs.length c.p.cap];refine tQ_ 4 89 (.agg ?G0) rfl rfl (yieldsIf_load_mid (by rfl) 53 _ rfl s (k*3) rfl c.cs _ (λw0 h=>h.2.2.1) underlying53 rfl zyQ) l ?_;simp only[zf];refine tks_ 4 [(5,90,(P_ Q 4)),(6,91,.slice (some ⟨u,0,none⟩) Y q.tc),(7,92,I_ (k:Int)),(8,93,(P_ u (k*3)))] l ?_;simp only[tkf_,zf];refine kA_ ?H0 ?_;exact #[I_ d.au,I_ d.rd,.slice d.p.sa d.p.bs.length d.p.cap];refine tQ_ 9 94 (.agg ?H0) rfl rfl (yieldsIf_load_mid (by rfl) 53 _ rfl u (k*3) rfl d.cs _ (λw0 h=>h.2.2.2) underlying53 rfl zyQ) l ?_;simp only[zf];refine zE 10 rfl (λK9 hK=>?_);refine zj rfl 95 rfl 26 [.tmp 89,.tmp 94] #[53,53] rfl [.agg ?G0,.agg ?H0] rfl (eO_ func26) (λv w'=>v=.bool true/\Below M.heap.size M w') ((L.out M y).mono (λe w2 h=>⟨_,h.1,rfl,h.2⟩)) ?_;rintro v V1⟨rfl,m⟩;have ac:=zm y m;refine hK.out _ _ ⟨zr m C,zr m H,zdd D m,zdd I m⟩ (λl=>?_);simp only[zf];refine zU 11 96 (.bool false) rfl rfl l ?_;simp only[zf];refine wD_ (by kernel_rfl) ?_ _;have ab:=zm g ac;clear C H D I l y m o r Z aa O R z A B E F G;go_wp2_with fail
       go_roundw
       case rel=>exact⟨k+1,by omega,by go_num,ab⟩
       case measure=>simp[intOf];omega
      .obtain rfl:Y=k:=by omega
       have af:¬((Y:Nat):Int)<(Y:Nat):=by omega
       obtain⟨W3,aj⟩:∃W,W=wr:=⟨_,rfl⟩;rw[<-aj]at g o r z A B E F G|-;clear aj;have aw:=zm av g;clear g o r hlt hk;go_wp2_with fail
       go_ret;exact⟨rfl,aw⟩
theorem zcx.of {p q:Vw}(h:p=q):zcx p q:=by subst h;exact⟨rfl,rfl,rfl,rfl⟩
theorem zsR (r:Int)(l:List Ac):((Fl.z r).run l).no.bad=r:=zxU l _
variable {w w':World}{sa:Option Addr}{cap:Nat}{bs:List Int}{i:Int}
theorem zA4 {l:List Int}(h:∀x∈l,0<=x/\x<=255):tbL (zai l)=l:=by
 rw[tbL,ByteArray.toList_eq,zgr,List.map_map]
 conv=>rhs;rw[<-List.map_id l]
 refine List.map_congr_left λx b=>?_;have:=h x b;simp only[Function.comp,id];rw[UInt8.toNat_ofNat',Nat.mod_eq_of_lt (by omega)];omega
theorem zA7 {e:Ending}(h:zi6 w w' e bs):(∃E:Int,E≠0/\e=.returned (.tuple #[.agg mz_,I_ E])/\(zbt bs=0->¬zP (pM (bs,false)).mv.m (pM (bs,false)).mv.car=0)) \/
  ∃x:MV,e=.returned (.tuple #[.agg (mrow_ x.m),I_ 0]):=by
 rcases h.out with⟨c,b⟩|⟨c,x,m,j,o,l⟩
 .exact .inl ⟨_,c,b,λk=>absurd k c⟩
 .have f:=zv4 j;rw[m.1]at f;rcases l with⟨d,b⟩|⟨d,b⟩
  .exact .inr ⟨x,b⟩
  .exact .inl ⟨_,d,b,λ_ g=>d (by rw[<-f];exact g)⟩
theorem zA5 {f:Fl}(b:∀x∈bs,0<=x/\x<=255)(h:f.no.bad=-1\/(zbt bs=0->¬zP (pM (bs,false)).mv.m (pM (bs,false)).mv.car=0)):f.forge i (zai bs)=f:=by
 unfold Fl.forge;rcases h with h|h
 .split
  .rw[if_pos h]
  .rfl
 .have:zh2 (zai bs)=none:=by
   unfold zh2;rw[zA4 b,if_neg (λk=>h k.1 k.2)]
  rw[this]
theorem zAT {b:Int}{l:List AV}{i:Nat}(c:∀x∈bs,0<=x/\x<=255)(h:b=-1\/(zbt bs=0->¬zP (pM (bs,false)).mv.m (pM (bs,false)).mv.car=0)):(Fl.z b).run ((l++[(⟨9,i,0,zai bs⟩:AV)]).map AV.ac)=(Fl.z b).run (l.map AV.ac):=by
 rw[zcP];show((Fl.z b).run (l.map AV.ac)).does ⟨9,i,0,zai bs⟩=_;rw[zAS rfl];exact zA5 c (by rw[zsR];exact h)
theorem zAU (h:zg w sa cap bs)(m:Nat):zg w sa cap (bs.take m):=by
 refine⟨by rw[lT9_];have:=h.le;omega,h.max,h.some,h.nil,?_⟩;rcases h.bytes with e|⟨d,f,e,b⟩
 .exact .inl (by rw[e];simp)
 .refine .inr ⟨d,f,e,λj c=>?_⟩;rw[lT9_]at c;rw[b j (by omega)];simp only[List.getD];rw[List.getElem?_take_of_lt (by omega)]
theorem topForge_walk (sa:Option Addr)(aH:Nat)(rs:List Ft)(n:Int)(bs:List Int)(U:Option Addr)(Y:Nat)(tw:Int)(w:World)(bA:zfn w sa rs)(_hc_rs:rs.length<=aH)(n1:-9223372036854775808<=n)(n2:n<=9223372036854775807)(ax:zg w U Y bs)(hu:∀x∈bs,0<=x/\x<=255)(bX:Y<=140737488351232)(bn:-9223372036854775808<=tw)(bo:tw<=9223372036854775807)(hT:zcw w/\zbJ w) :
  Calls prog 6 #[.slice sa rs.length aH,I_ n,.slice U bs.length Y,I_ tw] w λe w'=>e=.returned (.bool true)/\B_ w w':=by
 have HT:Hid (∀W:World,B_ w W->zcw W/\zbJ W):=λW hW=>⟨hT.1.below hW hT.1.lt,hT.2.below hW⟩;clear hT;obtain⟨bM,bN⟩:=zW n 5 (by decide);have aF:=zg9 n w n1 n2;obtain⟨b,a8⟩:∃b,b=pk n 5-1:=⟨_,rfl⟩;have aL:-1<=b/\b<=3:=by omega
 rw[<-a8]at aF;clear a8 bM bN n1 n2;obtain⟨bK,bL⟩:=zW tw 4 (by decide);obtain⟨i,hi⟩:∃k:Nat,pk tw 4=k:=⟨(pk tw 4).toNat,by omega⟩;have Hi:Hid (∀W:World,Calls prog 17 #[I_ tw,I_ 4] W λe w'=>e=.returned (I_ (i:Int))/\W=w'):=λW=>by rw[<-hi];exact zbI tw 4 W bn bo (by decide) (by decide)
 have iB:i<4:=by omega
 clear hi bK bL bn bo;have bW:=ax.le;have bI:Option.map (λx:Addr=>x.add 0) U=U:=by
  cases U with
  | none=>rfl
  | some x=>obtain⟨x1,x2,x3⟩:=x;rfl
 go_in;go_wp2_with fail
 refine aF.mono ?_;rintro _ w0⟨rfl,rfl⟩;dsimp only;clear aF;go_wp2_with fail
 refine(zeu rs sa _ aH 40 w rfl bA (by decide)).mono ?_;rintro e bp⟨v,l,L,ho,hl,bY,H⟩;subst L;dsimp only;obtain⟨aa,ac,hv,bd,be⟩:=zbd ho hl;subst hv;have a0:Hid _:=hl;have a1:Hid _:=be;clear ho hl be;have aJ:=H;clear H;have HD:=zj0 bs U _ Y bp rfl (ax.below aJ) hu (by omega);go_upto_region 3 with fail
 go_cut [11,12] (λ_ v wx=>∃E:Int,v=I_ E/\Hid (E=0\/(zbt bs=0->¬zP (pM (bs,false)).mv.m (pM (bs,false)).mv.car=0))/\B_ bp wx)
 case first=>
  go_wp2_with fail
  refine HD.mono ?_;rintro e w2 hd;have av:=hd.below;rcases zA7 hd with⟨E,hE,L,hn⟩|⟨x,L⟩
  all_goals
   subst L;dsimp only;clear HD hd;have qz:=hN_ w2 (.cells mz_ 66)
  .have aI:B_ w2 ((w2.alloc (.cells mz_ 66)).setRow w2.heap.size mz_):=zbs w2 mz_ mz_ 66;go_wp2_with (refine wpList_store_row rfl 66 _ _ rfl w2.heap.size mz_ rfl rfl 66 _ qz sMsg' rfl (by simp[Value.oneCell']) ?_)
   go_meet
   case rel=>exact⟨E,rfl,.inr hn,av.trans (aI.mono av.size)⟩
  .have aI:B_ w2 ((w2.alloc (.cells mz_ 66)).setRow w2.heap.size (mrow_ x.m)):=zbs w2 mz_ (mrow_ x.m) 66;go_wp2_with (refine wpList_store_row rfl 66 _ _ rfl w2.heap.size (mrow_ x.m) rfl rfl 66 _ qz sMsg' rfl (by simp[Value.oneCell']) ?_)
   go_meet
   case rel=>exact⟨0,rfl,.inl rfl,av.trans (aI.mono av.size)⟩
 refine kO_ ?A0 ?_;exact Obj.cells #[O_,O_,I_ 0,O_] 28;refine kA_ ?B0 ?_;exact #[O_,O_,I_ 0,O_]
 case rest=>
  obtain⟨E,rfl,HE,aw⟩:=hcut;apply_assumption;clear HD;obtain⟨W3,a6⟩:∃W,W=wc:=⟨_,rfl⟩;rw[<-a6]at aw|-;clear a6;have ar:=zm aJ aw;have aK:=bd.below aw;clear aJ bd;clear aw;have aY:=zc4 b aL l aa _ ac W3 rfl (by omega) aK (λa ha=>(a0.out a ha).1) (HT.out W3 ar).1 (HT.out W3 ar).2;go_wp2_with fail
  refine aY.mono ?_;rintro e aE⟨x,L,bg,bh,bZ,H⟩;subst L;dsimp only;clear aY;have bt:Hid _:=bh;clear bh;have a2:=zm ar H;have a3:=aK.below H;clear ar aK;clear H;refine kO_ ?D0 ?_;exact Obj.cells #[.slice x.na 4 x.nc,.slice x.ga x.gs.length x.gc,I_ x.aw,.slice x.ca x.cs.length x.cc] 28;have am:=zC aE ?D0;have aA:=hN_ aE ?D0;go_upto_region 5 with fail
  generalize aE.alloc ?D0=G at am aA|-;generalize aE.heap.size=Bx at aA|-;have aq:=zm a2 am;have a5:=bg.below am;have bx:=a3.below am;clear a2 bg a3;clear am;obtain⟨M,hM⟩:∃M:Nat,min bs.length 4000=M:=⟨_,rfl⟩;have bC:min (bs.length:Int) 4000=(M:Int):=by omega
  have bB:(M:Int)<=Y:=by omega
  have a4:M<=4000:=by omega
  have O:zg G U Y (bs.take M):=zAU (ax.below aq) M;have aN:M=(bs.take M).length:=by rw[lT9_];omega
  obtain⟨T,au⟩:∃T,T=zai (bs.take M):=⟨_,rfl⟩;have br:Hid _:=au;have aZ:Hid (T.size<=4000):=by show _<=_;rw[au,zjb,<-aN];exact a4
  have bG:∀V:World,zg V U Y (bs.take M)->(convert 51 9 (.slice U M Y)).run prog V=.ok (.string T) V:=λV h=>by rw[au];exact zd8 V U M Y _ aN h
  clear au aN;have aO:∀a∈[(⟨9,i,0,T⟩:AV)],a.e=0/\a.t.size<=4000:=by
   intro a ha;rw[List.mem_singleton.1 ha];exact⟨zaL _ _ _ _ (by decide) (by omega) (by decide) (by have:=aZ.out;omega) (λh=>by cases h) (λ_=>rfl) (λh=>by cases h),(by show ByteArray.size T<=4000;exact aZ.out)⟩
  have aG:Hid _:=aO;have ah:Hid _:=zc9 a0.out aO;obtain⟨q,ay⟩:∃z9,z9=l++[(⟨9,i,0,T⟩:AV)]:=⟨_,rfl⟩;rw[<-ay]at ah;have al:Hid (q.length=l.length+1/\q=l++[(⟨9,i,0,T⟩:AV)]):=⟨by rw[ay];simp,ay⟩;clear aO ay;have bJ:q.length<=41:=by have:=al.out.1;omega
  have ae:Hid (B_ w G):=aq;have aX:Hid (zbq G aa l):=(bx);have af:=dB_ G;refine wR_ (S:=λw'=>zg w' U Y (bs.take M)) (by kernel_rfl) ((O.below af)) (λm=>?_);generalize G.drew=V0 at af  m ⊢;refine tks_ 9 [(0,34,I_ b),(1,35,.slice aa l.length ac),(2,36,I_ tw),(4,38,.slice U bs.length Y),(5,39,.slice U bs.length Y),(6,40,I_ bs.length),(7,41,I_ (M:Int)),(8,42,.slice U M Y),(9,43,.string T)] m ?_;simp only[tkf_,zf];clear m;refine zno (λZ ab N=>?_);refine znp (λA0 F=>?_);have bV:Hid (∀(V:World) (p:Nat) (s:Option Addr) (A:Nat) (y:Om) (g:Nat),B_ G V->(zex V y)->(Hid (y.v=((Fl.z b).run (q.map AV.ac)).told))->(zjd y)->(G.heap.size<=g)->(R_ V g #[.slice y.na 4 y.nc,.slice y.ga y.gs.length y.gc,I_ y.aw,.slice y.ca y.cs.length y.cc] 28)->Z 0 #[true,true,true,true,true,true,true,true,true,true,true,true,true,true,true,true,true,true,true,true] ((((((((((A0.put (some 37) (I_ (i:Int))).put (some 44) (.agg #[I_ 9,I_ i,I_ 0,.string T])).put (some 45) (.slice (some ⟨p,0,none⟩) 1 1)).put (some 46) (.slice s q.length A)).put (some 47) (.tuple #[.agg #[.slice y.na 4 y.nc,.slice y.ga y.gs.length y.gc,I_ y.aw,.slice y.ca y.cs.length y.cc],.bool true])).put (some 33) (.tuple #[.agg #[.slice y.na 4 y.nc,.slice y.ga y.gs.length y.gc,I_ y.aw,.slice y.ca y.cs.length y.cc],.bool true])).put (some 48) (.agg #[.slice y.na 4 y.nc,.slice y.ga y.gs.length y.gc,I_ y.aw,.slice y.ca y.cs.length y.cc])).put (some 49) (.bool true)).put (some 15) (P_ g 0)).put (some 16) (.bool true)) V):=by
   show ∀V,_;intro V p s A y g r yM yv yT gb qy;refine ab.out _ _ _ _ ?_;rw[<-F.out]
   try simp only[zf]
   refine wD_ (by kernel_rfl) ?_ _;clear ab N Z;have bw:=zm aq r;have bD:=a5.below r;have bO:=zk r aA;clear aq a5 aA
   skip
   have ap:=bw;go_upto_region 8 with fail
   by_cases hT:(E=0/\0<=b)\/4000<bs.length
   .by_cases hE:E=0
    .subst hE;by_cases bF:0<=b
     .go_wp2_with fail
      go_ret;exact⟨rfl,ap⟩
     .have aM:(4000:Int)<bs.length:=by omega
      go_wp2_with fail
      go_ret;exact⟨rfl,ap⟩
    .have bz:(E == 0)=false:=by simpa using hE
     have aM:(4000:Int)<bs.length:=by omega
     go_wp2_with fail
     go_ret;exact⟨rfl,ap⟩
   .have aM:¬(4000:Int)<bs.length:=by omega
    have bb:b=-1\/(zbt bs=0->¬zP (pM (bs,false)).mv.m (pM (bs,false)).mv.car=0):=by
     by_cases hE:E=0
     .left;omega
     .exact .inr (HE.out.resolve_left hE)
    have bf:(Fl.z b).run (q.map AV.ac)=(Fl.z b).run (l.map AV.ac):=by
     rw[al.out.2,br.out,tL_ (show bs.length<=M by omega)];exact zAT hu bb
    obtain⟨f,hf⟩:∃f,f=(Fl.z b).run (l.map AV.ac):=⟨_,rfl⟩;have ex:x.v=f.told:=by rw[bt.out,hf]
    have ey:y.v=f.told:=by rw[yv.out,bf,hf]
    have a7:y.aw=x.aw:=by rw[zcA ex,zcA ey]
    have ba:y.cs.length=x.cs.length:=by rw[zzw ex,zzw ey]
    have bq:Hid (∀i,i<4->zcx (x.y i).v (y.y i).v):=λi hi=>zcx.of (by rw[zb0 ex i hi,zb0 ey i hi]);clear ex ey hf f bf bb;go_cut [66] (λu wx=>u=.bool false/\V=wx)
    case first=>
     by_cases hE:E=0;have bF:¬0<=b:=λh=>hT (.inl ⟨hE,h⟩);subst hE
     rotate_left
     have bz:(E == 0)=false:=by simpa using hE
     rotate_left
     all_goals
      go_wp2_with fail
      all_goals
       go_meet
       case rel=>exact⟨rfl,rfl⟩
    case rest=>
     obtain⟨rfl,hw⟩:=hcut;subst hw;apply_assumption;clear hT aM bC bB bG bI ax hu HE bJ al ah aG a4 gb;go_wp2_with fail
     go_loopw [17] (λj wr=>∃k:Nat,k<=4/\j=I_ k/\B_ V wr) (λj _=>4-(intOf j).toNat)
     case atStart=>exact⟨0,nZ_ _,rfl,bR_ _ _⟩
     case round=>
      obtain⟨k,hk,rfl,aj⟩:=hrel;have an:=zk aj bO;have ao:=zk aj qy;by_cases hlt:k<4
      .have bH:(k:Int)<4:=by omega
       have aS:=bD.below aj;have aT:=yM.below aj;have HR:Hid (∀V:World,B_ wr V->Calls prog 16 #[.agg (vrow_ (x.y k)),.agg (vrow_ (y.y k))] V λe w'=>e=.returned (.bool true)/\B_ V w'):=λV hV=>zdC (x.y k) (y.y k) V ((aS.vm k hlt).below hV) ((aT.vm k hlt).below hV) (yT.vw k hlt) (bq.out k hlt);obtain⟨cb,a9,aP⟩:=aS.row hlt;obtain⟨db,bc,aQ⟩:=aT.row hlt;generalize x.y k=c at HR aP;generalize y.y k=d at HR aQ;have af:=dB_ wr;have az:wr.drew.cell? ⟨Bx,0,none⟩=some (.slice (some ⟨cb,0,none⟩) 4 x.nc):=by rw[<-a9];exact zb an 0 _ rfl
       have aC:wr.drew.cell? ⟨g,0,none⟩=some (.slice (some ⟨db,0,none⟩) 4 y.nc):=by rw[<-bc];exact zb ao 0 _ rfl
       have aB:=zde aP;have aD:=zde aQ;clear aS aT aP aQ a9 bc an ao;go_upto_region 13 with fail
       refine wR_ (S:=λw'=>w'.cell? ⟨Bx,0,none⟩=some (.slice (some ⟨cb,0,none⟩) 4 x.nc)/\w'.cell? ⟨g,0,none⟩=some (.slice (some ⟨db,0,none⟩) 4 y.nc)/\w'.rangeAt cb (k*6) c.cs/\w'.rangeAt db (k*6) d.cs) (by kernel_rfl) ⟨az,aC,aB,aD⟩ (λm=>?_);generalize wr.drew=V0 at af az aC aB aD m|-;refine tks_ 4 [(0,71,(P_ Bx 0)),(1,72,.slice (some ⟨cb,0,none⟩) 4 x.nc),(2,73,I_ (k:Int)),(3,74,(P_ cb (k*6)))] m ?_;simp only[tkf_,zf];refine tQ_ 4 75 (.agg (vrow_ c)) rfl rfl (yieldsIf_load_mid (by rfl) 47 _ rfl cb (k*6) rfl c.cs _ (λw0 h=>h.2.2.1) underlying47 rfl zck) m ?_;simp only[zf];refine tks_ 4 [(5,76,(P_ g 0)),(6,77,.slice (some ⟨db,0,none⟩) 4 y.nc),(7,78,I_ (k:Int)),(8,79,(P_ db (k*6)))] m ?_;simp only[tkf_,zf];refine tQ_ 9 80 (.agg (vrow_ d)) rfl rfl (yieldsIf_load_mid (by rfl) 47 _ rfl db (k*6) rfl d.cs _ (λw0 h=>h.2.2.2) underlying47 rfl zck) m ?_;simp only[zf];refine zE 10 rfl (λK9 B=>?_);refine zj rfl 81 rfl 16 [.tmp 75,.tmp 80] #[47,47] rfl [.agg (vrow_ c),.agg (vrow_ d)] rfl (eO_ func16) (λv w'=>v=.bool true/\B_ V0 w') ((HR.out V0 af).mono (λe w2 h=>⟨_,h.1,rfl,h.2⟩)) ?_;rintro v V1⟨rfl,ai⟩;have bE:=zm af ai;refine B.out _ _ ⟨zr ai az,zr ai aC,zdd aB ai,zdd aD ai⟩ (λm=>?_);simp only[zf];refine zU 11 82 (.bool false) rfl rfl m ?_;simp only[zf];refine wD_ (by kernel_rfl) ?_ _;have bu:=zm aj bE;clear az aC aB aD m af ai;go_wp2_with fail
       go_roundw
       case rel=>exact⟨k+1,by omega,by go_num,bu⟩
       case measure=>simp[intOf];omega
      .obtain rfl:k=4:=by omega
       have bH:¬((4:Nat):Int)<4:=by omega
       have f2:=zb an 2 (I_ x.aw) rfl;have g2:=zb ao 2 (I_ y.aw) rfl;have f3:=zb an 3 (.slice x.ca x.cs.length x.cc) rfl;have g3:=zb ao 3 (.slice y.ca y.cs.length y.cc) rfl;rw[a7]at g2;rw[ba]at g3;have bv:=zm ap aj;clear an ao hlt hk a7 ba;go_wp2_with fail
       go_ret;exact⟨by simp,bv⟩
  have bm:Hid (∀(V:World) (p:Nat) (s:Option Addr) (A:Nat) (y:Om) (g:Nat),B_ G V->(zex V y)->(Hid (y.v=((Fl.z b).run (q.map AV.ac)).told))->(zjd y)->(R_ V g ?B0 28)->(G.heap.size<=g)->Z 2 #[true,true,true,true,true,true,true,true,true,true,true,true,true,true,true,true,true,true,false,false] (((((((((A0.put (some 37) (I_ (i:Int))).put (some 44) (.agg #[I_ 9,I_ i,I_ 0,.string T])).put (some 45) (.slice (some ⟨p,0,none⟩) 1 1)).put (some 46) (.slice s q.length A)).put (some 47) (.tuple #[.agg #[.slice y.na 4 y.nc,.slice y.ga y.gs.length y.gc,I_ y.aw,.slice y.ca y.cs.length y.cc],.bool true])).put (some 33) (.tuple #[.agg #[.slice y.na 4 y.nc,.slice y.ga y.gs.length y.gc,I_ y.aw,.slice y.ca y.cs.length y.cc],.bool true])).put (some 48) (.agg #[.slice y.na 4 y.nc,.slice y.ga y.gs.length y.gc,I_ y.aw,.slice y.ca y.cs.length y.cc])).put (some 49) (.bool true)).put (some 15) (P_ g 0)) V):=by
   show ∀V,_;intro V p s A y g r yM yv yT X gb;refine ab.out _ _ _ _ ?_;rw[<-F.out]
   try simp only[zf]
   refine zE 18 rfl (λK B=>?_);refine kA_ ?E0 ?_;exact(#[.slice y.na 4 y.nc,.slice y.ga y.gs.length y.gc,I_ y.aw,.slice y.ca y.cs.length y.cc]:Array Value);have ak:=zex.put (C:=?E0) yM yT.ok X;have o:=(Upd.setRow (cs:=?E0) X).below r r.size gb;have bi:=setRow_heap V g _ ?E0 _ _ X;refine zdW rfl rfl 28 (.tmp 15) (.tmp 48) rfl g ?E0 rfl rfl 28 _ X zli rfl (by simp[Value.oneCell']) ?_;generalize V.setRow g ?E0=D at ak o bi|-;refine B.out _ _ ((O.below o)) (λm=>?_);simp only[List.setIfInBounds_toArray,List.set_cons_zero,List.set_cons_succ];refine zU 19 16 (.bool true) rfl rfl m ?_;simp only[zf];clear m;have h:=bV.out D p s A y g o ak yv yT gb bi;rw[<-F.out]at h
   (try simp only[zf]at h)
   (try simp only[zf])
   exact N.out _ _ _ _ h
  have bU:Hid (∀(V:World) (p:Nat) (s:Option Addr) (A:Nat) (y:Om),B_ G V->(zex V y)->(Hid (y.v=((Fl.z b).run (q.map AV.ac)).told))->(zjd y)->Z 3 #[true,true,true,true,true,true,true,true,true,true,true,true,true,true,true,true,true,false,false,false] ((((((((A0.put (some 37) (I_ (i:Int))).put (some 44) (.agg #[I_ 9,I_ i,I_ 0,.string T])).put (some 45) (.slice (some ⟨p,0,none⟩) 1 1)).put (some 46) (.slice s q.length A)).put (some 47) (.tuple #[.agg #[.slice y.na 4 y.nc,.slice y.ga y.gs.length y.gc,I_ y.aw,.slice y.ca y.cs.length y.cc],.bool true])).put (some 33) (.tuple #[.agg #[.slice y.na 4 y.nc,.slice y.ga y.gs.length y.gc,I_ y.aw,.slice y.ca y.cs.length y.cc],.bool true])).put (some 48) (.agg #[.slice y.na 4 y.nc,.slice y.ga y.gs.length y.gc,I_ y.aw,.slice y.ca y.cs.length y.cc])).put (some 49) (.bool true)) V):=by
   show ∀V,_;intro V p s A y r yM yv yT;refine ab.out _ _ _ _ ?_;rw[<-F.out]
   try simp only[zf]
   refine zE 17 rfl (λK B=>?_);refine zy rfl 15 rfl (P_ V.heap.size 0) (V.alloc ?A0) (by go_simp) ?_;have t:=zC V ?A0;have o:=zm r t;have J:=hN_ V ?A0;have R:=r.size;generalize hW':V.alloc ?A0=D at t o J|-;clear hW';obtain⟨g,I⟩:∃g,g=V.heap.size:=⟨_,rfl⟩;rw[<-I]at J R|-;have ad:=t;clear I;refine B.out _ _ ((O.below o)) (λm=>?_);clear m;have h:=bm.out D p s A y g o (yM.below ad) yv yT J R;rw[<-F.out]at h
   (try simp only[zf]at h)
   (try simp only[zf])
   exact N.out _ _ _ _ h
  have bl:Hid (∀(V:World) (p:Nat) (s:Option Addr) (A:Nat) (g:Nat),B_ G V->(zbq V s q)->(R_ V g ?B0 28)->(G.heap.size<=g)->Z 6 #[true,true,true,true,true,true,true,true,true,true,true,true,true,false,false,false,false,true,false,false] (((((A0.put (some 37) (I_ (i:Int))).put (some 44) (.agg #[I_ 9,I_ i,I_ 0,.string T])).put (some 45) (.slice (some ⟨p,0,none⟩) 1 1)).put (some 46) (.slice s q.length A)).put (some 15) (P_ g 0)) V):=by
   show ∀V,_;intro V p s A g r zA X gb;refine ab.out _ _ _ _ ?_;rw[<-F.out]
   try simp only[zf]
   refine zE 13 rfl (λK B=>?_);refine zj rfl 47 rfl 10 [.tmp 34,.tmp 46] #[3,31] rfl [I_ b,.slice s q.length A] rfl (eO_ func10) (λv w'=>(∃z:Om,v=.tuple #[.agg #[.slice z.na 4 z.nc,.slice z.ga z.gs.length z.gc,I_ z.aw,.slice z.ca z.cs.length z.cc],.bool true]/\zex w' z/\z.v=((Fl.z b).run (q.map AV.ac)).told/\zjd z)/\B_ V w') ((zc4 b aL q s _ A V rfl (by omega) zA (λa ha=>(ah.out a ha).1) (HT.out V (ae.out.trans (r.mono ae.out.size))).1 (HT.out V (ae.out.trans (r.mono ae.out.size))).2).mono (λe w2 h=>by obtain⟨z,L,h1,h2,h3,h4⟩:=h;exact⟨_,L,⟨z,rfl,h1,h2,h3⟩,h4⟩)) ?_;rintro v D⟨⟨y,rfl,ak,aV,aU⟩,H⟩;have o:=zm r H;refine B.out _ _ ((O.below o)) (λm=>?_);simp only[zf];refine kA_ ?F0 ?_;exact(#[.slice y.na 4 y.nc,.slice y.ga y.gs.length y.gc,I_ y.aw,.slice y.ca y.cs.length y.cc]:Array Value);refine tks_ 3 [(14,33,.tuple #[.agg ?F0,.bool true]),(15,48,.agg ?F0),(16,49,.bool true)] m ?_;simp only[tkf_,zf];clear m;have h:=bm.out D p s A y g o ak aV aU (zk H X) gb;rw[<-F.out]at h
   (try simp only[zf]at h)
   (try simp only[zf])
   exact N.out _ _ _ _ h
  have bT:Hid (∀(V:World) (p:Nat) (s:Option Addr) (A:Nat),B_ G V->(zbq V s q)->Z 7 #[true,true,true,true,true,true,true,true,true,true,true,true,true,false,false,false,false,false,false,false] ((((A0.put (some 37) (I_ (i:Int))).put (some 44) (.agg #[I_ 9,I_ i,I_ 0,.string T])).put (some 45) (.slice (some ⟨p,0,none⟩) 1 1)).put (some 46) (.slice s q.length A)) V):=by
   show ∀V,_;intro V p s A r zA;refine ab.out _ _ _ _ ?_;rw[<-F.out]
   try simp only[zf]
   refine wpAnyH_ready (rs:=[13,17]) (by kernel_rfl) (by simp) (AllReadyH.cons rfl (λK B=>?_) (AllReadyH.cons rfl (λK B=>?_) AllReadyH.nil));refine zj rfl 47 rfl 10 [.tmp 34,.tmp 46] #[3,31] rfl [I_ b,.slice s q.length A] rfl (eO_ func10) (λv w'=>(∃z:Om,v=.tuple #[.agg #[.slice z.na 4 z.nc,.slice z.ga z.gs.length z.gc,I_ z.aw,.slice z.ca z.cs.length z.cc],.bool true]/\zex w' z/\z.v=((Fl.z b).run (q.map AV.ac)).told/\zjd z)/\B_ V w') ((zc4 b aL q s _ A V rfl (by omega) zA (λa ha=>(ah.out a ha).1) (HT.out V (ae.out.trans (r.mono ae.out.size))).1 (HT.out V (ae.out.trans (r.mono ae.out.size))).2).mono (λe w2 h=>by obtain⟨z,L,h1,h2,h3,h4⟩:=h;exact⟨_,L,⟨z,rfl,h1,h2,h3⟩,h4⟩)) ?_;rintro v D⟨⟨y,rfl,ak,aV,aU⟩,H⟩;have o:=zm r H;refine B.out _ _ ((O.below o)) (λm=>?_);simp only[zf];refine kA_ ?G0 ?_;exact(#[.slice y.na 4 y.nc,.slice y.ga y.gs.length y.gc,I_ y.aw,.slice y.ca y.cs.length y.cc]:Array Value);refine tks_ 3 [(14,33,.tuple #[.agg ?G0,.bool true]),(15,48,.agg ?G0),(16,49,.bool true)] m ?_;simp only[tkf_,zf];clear m;have h:=bU.out D p s A y o ak aV aU
   rotate_left
   refine zy rfl 15 rfl (P_ V.heap.size 0) (V.alloc ?A0) (by go_simp) ?_;have t:=zC V ?A0;have o:=zm r t;have J:=hN_ V ?A0;have R:=r.size;generalize hW':V.alloc ?A0=D at t o J|-;clear hW';obtain⟨g,I⟩:∃g,g=V.heap.size:=⟨_,rfl⟩;rw[<-I]at J R|-;have ad:=t;clear I;refine B.out _ _ ((O.below o)) (λm=>?_);clear m;have h:=bl.out D p s A g o (zA.below ad) J R
   rotate_left
   all_goals
    rw[<-F.out]at h
    (try simp only[zf]at h)
    (try simp only[zf])
    exact N.out _ _ _ _ h
  have bk:Hid (∀(V:World) (p:Nat) (g:Nat),B_ G V->(R_ V p #[I_ 9,I_ i,I_ 0,.string T] 40)->(R_ V g ?B0 28)->(G.heap.size<=g)->Z 7 #[true,true,true,true,true,true,true,true,true,true,true,true,false,false,false,false,false,true,false,false] ((((A0.put (some 37) (I_ (i:Int))).put (some 44) (.agg #[I_ 9,I_ i,I_ 0,.string T])).put (some 45) (.slice (some ⟨p,0,none⟩) 1 1)).put (some 15) (P_ g 0)) V):=by
   show ∀V,_;intro V p g r qs X gb;refine ab.out _ _ _ _ ?_;rw[<-F.out]
   try simp only[zf]
   refine zE 12 rfl (λK B=>?_);refine zj rfl 46 rfl 11 [.tmp 35,.tmp 45] #[31,31] rfl [.slice aa l.length ac,.slice (some ⟨p,0,none⟩) 1 1] rfl (eO_ func11) (λv w'=>(∃s A,v=.slice s q.length A/\zbq w' s q)/\B_ V w') ((zcZ l [(⟨9,i,0,T⟩:AV)] aa _ ac (some ⟨p,0,none⟩) 1 1 V rfl rfl (aX.out.below r) (zdw qs aG.out) a1.out (λe=>by cases e) (by simp;omega)).mono (λe w2 h=>by obtain⟨v,L,ho,H⟩:=h;rw[<-al.out.2]at ho;obtain⟨qa,qc,hv,t,_⟩:=zbd ho ah.out;exact⟨v,L,⟨qa,qc,hv,t⟩,H⟩)) ?_;rintro v D⟨⟨s,A,rfl,aW⟩,H⟩;have o:=zm r H;refine B.out _ _ ((O.below o)) (λm=>?_);clear m;have h:=bl.out D p s A g o aW (zk H X) gb;rw[<-F.out]at h
   (try simp only[zf]at h)
   (try simp only[zf])
   exact N.out _ _ _ _ h
  have bS:Hid (∀(V:World) (p:Nat),B_ G V->(R_ V p #[I_ 9,I_ i,I_ 0,.string T] 40)->Z 8 #[true,true,true,true,true,true,true,true,true,true,true,true,false,false,false,false,false,false,false,false] (((A0.put (some 37) (I_ (i:Int))).put (some 44) (.agg #[I_ 9,I_ i,I_ 0,.string T])).put (some 45) (.slice (some ⟨p,0,none⟩) 1 1)) V):=by
   show ∀V,_;intro V p r qs;refine ab.out _ _ _ _ ?_;rw[<-F.out]
   try simp only[zf]
   refine wpAnyH_ready (rs:=[12,17]) (by kernel_rfl) (by simp) (AllReadyH.cons rfl (λK B=>?_) (AllReadyH.cons rfl (λK B=>?_) AllReadyH.nil));refine zj rfl 46 rfl 11 [.tmp 35,.tmp 45] #[31,31] rfl [.slice aa l.length ac,.slice (some ⟨p,0,none⟩) 1 1] rfl (eO_ func11) (λv w'=>(∃s A,v=.slice s q.length A/\zbq w' s q)/\B_ V w') ((zcZ l [(⟨9,i,0,T⟩:AV)] aa _ ac (some ⟨p,0,none⟩) 1 1 V rfl rfl (aX.out.below r) (zdw qs aG.out) a1.out (λe=>by cases e) (by simp;omega)).mono (λe w2 h=>by obtain⟨v,L,ho,H⟩:=h;rw[<-al.out.2]at ho;obtain⟨qa,qc,hv,t,_⟩:=zbd ho ah.out;exact⟨v,L,⟨qa,qc,hv,t⟩,H⟩)) ?_;rintro v D⟨⟨s,A,rfl,aW⟩,H⟩;have o:=zm r H
   rotate_left
   refine zy rfl 15 rfl (P_ V.heap.size 0) (V.alloc ?A0) (by go_simp) ?_;have t:=zC V ?A0;have o:=zm r t;have J:=hN_ V ?A0;have R:=r.size;generalize hW':V.alloc ?A0=D at t o J|-;clear hW';obtain⟨g,I⟩:∃g,g=V.heap.size:=⟨_,rfl⟩;rw[<-I]at J R|-;have ad:=t;clear I
   rotate_left
   all_goals
    refine B.out _ _ ((O.below o)) (λm=>?_);clear m
   have h:=bT.out D p s A o aW
   rotate_left
   have h:=bk.out D p g o ((ad.block _ (ze qs)).trans qs) J R
   rotate_left
   all_goals
    rw[<-F.out]at h
    (try simp only[zf]at h)
    (try simp only[zf])
    exact N.out _ _ _ _ h
  refine kO_ ?C0 ?_;exact Obj.cells #[I_ 9,I_ i,I_ 0,.string T] 40;have bj:Hid (∀(V:World) (g:Nat),B_ G V->(R_ V g ?B0 28)->(G.heap.size<=g)->Z 8 #[true,true,true,true,true,true,true,true,true,true,true,false,false,false,false,false,false,true,false,false] (((A0.put (some 37) (I_ (i:Int))).put (some 44) (.agg #[I_ 9,I_ i,I_ 0,.string T])).put (some 15) (P_ g 0)) V):=by
   show ∀V,_;intro V g r X gb;refine ab.out _ _ _ _ ?_;rw[<-F.out]
   try simp only[zf]
   refine zE 11 rfl (λK B=>?_);refine zy rfl 45 rfl (.slice (some ⟨V.heap.size,0,none⟩) 1 1) (V.alloc ?C0) (by go_simp) ?_;have t:=zC V ?C0;have o:=zm r t;have ag:=hN_ V ?C0;generalize hW':V.alloc ?C0=D at t o ag|-;clear hW';obtain⟨p,I⟩:∃p,p=V.heap.size:=⟨_,rfl⟩;rw[<-I]at ag|-;have ad:=t;clear I;refine B.out _ _ ((O.below o)) (λm=>?_);clear m;have h:=bk.out D p g o ag ((ad.block _ (ze X)).trans X) gb;rw[<-F.out]at h
   (try simp only[zf]at h)
   (try simp only[zf])
   exact N.out _ _ _ _ h
  have bR:Hid (∀(V:World),B_ G V->Z 9 #[true,true,true,true,true,true,true,true,true,true,true,false,false,false,false,false,false,false,false,false] ((A0.put (some 37) (I_ (i:Int))).put (some 44) (.agg #[I_ 9,I_ i,I_ 0,.string T])) V):=by
   show ∀V,_;intro V  r;refine ab.out _ _ _ _ ?_;rw[<-F.out]
   try simp only[zf]
   refine wpAnyH_ready (rs:=[11,17]) (by kernel_rfl) (by simp) (AllReadyH.cons rfl (λK B=>?_) (AllReadyH.cons rfl (λK B=>?_) AllReadyH.nil));refine zy rfl 45 rfl (.slice (some ⟨V.heap.size,0,none⟩) 1 1) (V.alloc ?C0) (by go_simp) ?_;have t:=zC V ?C0;have o:=zm r t;have ag:=hN_ V ?C0;generalize hW':V.alloc ?C0=D at t o ag|-;clear hW';obtain⟨p,I⟩:∃p,p=V.heap.size:=⟨_,rfl⟩;rw[<-I]at ag|-
   rotate_left
   refine zy rfl 15 rfl (P_ V.heap.size 0) (V.alloc ?A0) (by go_simp) ?_;have t:=zC V ?A0;have o:=zm r t;have J:=hN_ V ?A0;have R:=r.size;generalize hW':V.alloc ?A0=D at t o J|-;clear hW';obtain⟨g,I⟩:∃g,g=V.heap.size:=⟨_,rfl⟩;rw[<-I]at J R|-
   rotate_left
   all_goals
    have ad:=t;clear I;refine B.out _ _ ((O.below o)) (λm=>?_);clear m
   have h:=bS.out D p o ag
   rotate_left
   have h:=bj.out D g o J R
   rotate_left
   all_goals
    rw[<-F.out]at h
    (try simp only[zf]at h)
    (try simp only[zf])
    exact N.out _ _ _ _ h
  have bQ:Hid (∀(V:World) (g:Nat),B_ G V->(R_ V g ?B0 28)->(G.heap.size<=g)->Z 10 #[true,true,true,false,true,true,true,true,true,true,false,false,false,false,false,false,false,true,false,false] (A0.put (some 15) (P_ g 0)) V):=by
   show ∀V,_;intro V g r X gb;refine ab.out _ _ _ _ ?_;rw[<-F.out]
   try simp only[zf]
   refine zE 3 rfl (λK B=>?_);refine zj rfl 37 rfl 17 [.tmp 36,.const (I_ 4)] #[3,3] rfl [I_ tw,I_ 4] rfl (eO_ func17) (λv w'=>v=I_ (i:Int)/\V=w') ((Hi.out V).mono (λe w2 h=>⟨_,h.1,rfl,h.2⟩)) ?_;rintro v D⟨rfl,aR⟩;subst aR;refine B.out _ _ ((O.below r)) (λm=>?_);simp only[zf];refine zU 10 44 (.agg #[I_ 9,I_ i,I_ 0,.string T]) rfl rfl m ?_;simp only[zf];clear m;have h:=bj.out V g r X gb;rw[<-F.out]at h
   (try simp only[zf]at h)
   (try simp only[zf])
   exact N.out _ _ _ _ h
  have bP:Hid (∀(V:World),B_ G V->Z 11 #[true,true,true,false,true,true,true,true,true,true,false,false,false,false,false,false,false,false,false,false] A0 V):=by
   show ∀V,_;intro V  r;refine ab.out _ _ _ _ ?_;rw[<-F.out]
   try simp only[zf]
   refine wpAnyH_ready (rs:=[3,17]) (by kernel_rfl) (by simp) (AllReadyH.cons rfl (λK B=>?_) (AllReadyH.cons rfl (λK B=>?_) AllReadyH.nil));refine zj rfl 37 rfl 17 [.tmp 36,.const (I_ 4)] #[3,3] rfl [I_ tw,I_ 4] rfl (eO_ func17) (λv w'=>v=I_ (i:Int)/\V=w') ((Hi.out V).mono (λe w2 h=>⟨_,h.1,rfl,h.2⟩)) ?_;rintro v D⟨rfl,aR⟩;subst aR;refine B.out _ _ ((O.below r)) (λm=>?_);simp only[zf];refine zU 10 44 (.agg #[I_ 9,I_ i,I_ 0,.string T]) rfl rfl m ?_;simp only[zf];clear m;have h:=bR.out V r
   rotate_left
   refine zy rfl 15 rfl (P_ V.heap.size 0) (V.alloc ?A0) (by go_simp) ?_;have t:=zC V ?A0;have o:=zm r t;have J:=hN_ V ?A0;have R:=r.size;generalize hW':V.alloc ?A0=D at t o J|-;clear hW';obtain⟨g,I⟩:∃g,g=V.heap.size:=⟨_,rfl⟩;rw[<-I]at J R|-;have ad:=t;clear I;refine B.out _ _ ((O.below o)) (λm=>?_);clear m;have h:=bQ.out D g o J R
   rotate_left
   all_goals
    rw[<-F.out]at h
    (try simp only[zf]at h)
    (try simp only[zf])
    exact N.out _ _ _ _ h
  exact bP.out V0 af
open Go.ChangeShapes Go.WideShapes Go.ChangeAt
theorem open_bytes_cells {H : Type} {enc : TypeId × Value → H} {W : World} {fuel : Nat} {cs : List Value} {x : DataW H × List MemPlace}
    (hf : DataW.trod enc prog W 0 (fun _ => true) true fuel 51 cs = some x) :
    ∃ sa cap bs, cs = [.slice sa (List.length bs) cap] ∧ zg W sa cap bs ∧ zaN bs := by
  rcases open_ints underlying51 underlying5 cU8 hf with ⟨rfl, _⟩ | ⟨x, len0, cap0, zs, rfl, _, hl, hm, hz, _, hcell, hwz⟩
  · exact ⟨none, 0, [], rfl, ⟨Nat.le_refl _, by decide, .inl rfl, fun _ => rfl, .inl rfl⟩, fun x hx => by cases hx⟩
  · simp only [if_true] at hz
    have hlen : (zs.take len0).length = len0 := by rw [List.length_take, hz]; omega
    refine ⟨some x, cap0, zs.take len0, by rw [hlen], ?_, fun y hy => bounds_u8 (hwz y (List.mem_of_mem_take hy))⟩
    rcases Nat.eq_zero_or_pos cap0 with h0 | h0
    · subst h0
      obtain rfl : len0 = 0 := by omega
      exact ⟨by simp, hm, .inl rfl, fun _ => rfl, .inl (by simp)⟩
    · obtain ⟨b, off, rfl, hc⟩ := ints_at hcell (by omega)
      refine ⟨by omega, hm, .inr ⟨b, off, rfl⟩, (fun e => by cases e), .inr ⟨b, off, rfl, fun j hj => ?_⟩⟩
      rw [hc j (by omega)]
      have : j < len0 := by omega
      simp [List.getD, this]
theorem open_bytes {H : Type} {enc : TypeId × Value → H} {W : World} {base : Nat} {v : Value} {d : DataW H} {p : List MemPlace}
    (hv : Value.okWide prog W .any base 51 v) (h : DataW.Trod enc prog W 0 (fun _ => true) true 51 v d p) :
    ∃ sa cap bs, v = .slice sa (List.length bs) cap ∧ zg W sa cap bs ∧ zaN bs := by
  obtain ⟨a0, len0, cap0, rfl⟩ := okWide_slice underlying51 hv
  obtain ⟨fuel, hf⟩ := h
  obtain ⟨sa, cap, bs, hcs, h1, h2⟩ := open_bytes_cells hf
  simp [Value.cells] at hcs
  obtain ⟨rfl, rfl, rfl⟩ := hcs
  exact ⟨_, _, bs, rfl, h1, h2⟩
theorem bU8 : prog.bytesOf 5 = 1 := by kernel_rfl
theorem bytes_fit {H : Type} {enc : TypeId × Value → H} {W : World} {fuel : Nat} {cs : List Value} {x : DataW H × List MemPlace} {sa : Option Addr} {n cap : Nat}
    (hf : DataW.trod enc prog W 0 (fun _ => true) true fuel 51 cs = some x) (hfit : ∀ n ∈ x.1.weights prog 51, n ≤ reachBytes) (e : cs = [.slice sa n cap]) : cap ≤ 140737488351232 := by
  rcases open_ints underlying51 underlying5 cU8 hf with ⟨rfl, _⟩ | ⟨a, len, cap', zs, rfl, _, hl, hm, hz, rfl, _, _⟩
  · simp at e
    omega
  · simp at e
    obtain ⟨_, rfl, rfl⟩ := e
    have := hfit (((zs.take len).length + (zs.drop len).length) * prog.bytesOf 5) (by simp [DataW.weights, underlying51, lits])
    rw [bU8] at this
    simp only [if_true] at hz
    simp [reachBytes] at this
    omega
end Go.Proofs.YtdnaljbnebnlhaaGreatDoor
