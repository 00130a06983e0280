import Derived.Test.YtdepbohhmfkjgaaGreatDoorPk34
set_option maxRecDepth 100000
set_option maxHeartbeats 4000000
namespace Go.Proofs.YtdepbohhmfkjgaaGreatDoor
open Go.RowKit Tryz
theorem zg9 (n:Int)(w:World)(c:-9223372036854775808<=n)(d:n<=9223372036854775807) :
  Calls prog 9 #[I_ n] w λe w'=>e=.returned (I_ (pk n 5-1))/\w=w':=by
 obtain⟨j,l⟩:=zW n 5 (by decide);have b:=zbI n 5 w c d (by decide) (by decide);generalize pk n 5=N at*;have g:IntKind.i64.wrap (N-1)=N-1:=by rw[IntKind.wrap_i64];omega
 go_in;go_wp2_with fail
 refine b.mono ?_;rintro _ m⟨rfl,rfl⟩;dsimp only;go_wp2_with fail
 go_ret;exact⟨rfl,rfl⟩
theorem zcZ (l m:List AV)(c:Option Addr)(o g:Nat)(d:Option Addr)(p j:Nat)(w:World)(B:o=l.length)(E:p=m.length)(A:zbq w c l)(C:zbq w d m)(u:c=none->l.length=0/\g=0)(y:d=none->m.length=0/\j=0)(I:l.length+m.length<=100000) :
  Calls prog 11 #[.slice c o g,.slice d p j] w λe w'=>∃v,e=.returned v/\w'.ownsRow w.heap.size 29 4 v (l++m).length (avs (l++m))/\B_ w w':=by
 subst B E;have t:Hid ((l++m).length=l.length+m.length):=lP_;go_in;go_upto_region 1 with fail
 go_wp2_with (at_builtin;refine zfB rfl _ _ rfl w.heap.size _ 0 [] rfl (oN_ _ _ _ _) c l.length g l rfl rfl A u (by omega) (nR_ _) ?_)
 intro G J f r;have b:=Below.grown (bR_ w.heap.size w) r.grown (nR_ _) (λq e=>by cases e)
 (try rw[List.nil_append,Nat.zero_add]at f)
 have D:=C.below b;go_wp2_with (at_builtin;refine zfB rfl _ _ rfl w.heap.size G l.length l rfl f d m.length j m rfl rfl D y (by omega) b.size ?_)
 intro H w2 F s;have z:=Below.grown b s.grown b.size (λq e=>(f.lt q e).1);go_wp2_with fail
 go_ret;exact⟨H,rfl,by rw[t.out];exact F,z⟩
theorem zwv (r:Int)(q:-1<=r/\r<=3)(l:List AV)(b:Option Addr)(n c:Nat)(w:World)(p:n=l.length)(d:l.length<=3000)(f:zbq w b l)(g:∀a∈l,a.e=0)(j:zcw w)(m:za2 w) :
  Calls prog 17 #[I_ r,.slice b n c] w λe w'=>∃o:Om,e=.returned (.tuple #[.agg #[.slice o.na 4 o.nc,.slice o.ga o.gs.length o.gc,I_ o.aw,.slice o.ca o.cs.length o.cc],I_ 0])/\zex w' o/\o.v=((Fl.z r).run (l.map AV.ac)).told/\zjd o/\B_ w w':=
 zxJ znS r q l b n c w p d f g j m
theorem zjd.ok {o:Om}(h:zjd o):zwk o:=by
 intro v b;simp only[List.mem_cons,List.not_mem_nil,or_false]at b;rcases b with e|e|e|e<;>subst e
 .exact h.v0.dag
 .exact h.v1.dag
 .exact h.v2.dag
 .exact h.v3.dag
theorem zc4 (r:Int)(hr:-1<=r/\r<=3)(l:List AV)(C:Option Addr)(n E:Nat)(w:World)(hn:n=l.length)(h3:l.length<=3000)(hA:zbq w C l)(hE:∀a∈l,a.e=0)(p:zcw w)(hT:za2 w) :
  Calls prog 13 #[I_ r,.slice C n E] w λe w'=>∃o:Om,e=.returned (.tuple #[.agg #[.slice o.na 4 o.nc,.slice o.ga o.gs.length o.gc,I_ o.aw,.slice o.ca o.cs.length o.cc],.bool true])/\zex w' o/\o.v=((Fl.z r).run (l.map AV.ac)).told/\zjd o/\B_ w w':=by
 subst hn;have b:=zC w (.cells #[O_,O_,I_ 0,O_] 34);have q:=hN_ w (.cells #[O_,O_,I_ 0,O_] 34);go_in;go_upto_region 1 with fail
 generalize w.alloc (.cells #[O_,O_,I_ 0,O_] 34)=W0 at b q|-;have N:=zwv r hr l C _ E W0 rfl h3 (hA.below b) hE (p.below b p.lt) (hT.below b);generalize F:w.heap.size=B at q|-;have Y:Hid (w.heap.size=B):=F;clear F;go_wp2_with fail
 refine N.mono ?_;rintro e m⟨o,he,J,T,O,z⟩;subst he;dsimp only;clear N;have Z:Hid _:=T;clear T;have A:=zk z q;have H:=zm b z;refine kA_ ?A0 ?_;exact(#[.slice o.na 4 o.nc,.slice o.ga o.gs.length o.gc,I_ o.aw,.slice o.ca o.cs.length o.cc]:Array Value);have c:=zC m (.cells ?A0 34);have s:=hN_ m (.cells ?A0 34);go_upto_region 2 with fail
 generalize m.alloc (.cells ?A0 34)=u at c s|-;have X:=zk c A;have L:=J.below c;have I:=zm H c;have R:m.heap.size≠B:=λe=>by have:=ze A;omega
 generalize m.heap.size=G at s R|-;have d:=dB_ u;have t:=zk d s;have g:=zk d X;have M:=L.below d;have y:=zm I d;have D:u.drew.cell? ⟨G,0,none⟩=some (.slice o.na 4 o.nc):=zb t 0 _ rfl;refine wR_ (S:=λw'=>R_ w' G ?A0 34/\w'.cell? ⟨G,0,none⟩=some (.slice o.na 4 o.nc)) (by kernel_rfl) ⟨t,D⟩ (λf=>?_);generalize u.drew=V at t g M y D f|-;clear J L c H z b q A s X d I;refine kW_ ?B0 ?_;exact V.setRow B ?A0;have ab:zex ?B0 o:=zex.put M O.ok g;have aa:B_ w ?B0:=(Upd.setRow (cs:=?A0) g).below y y.size (by rw[Y.out];exact nR_ _);have j:=setRow_heap V B _ ?A0 _ _ g;have d0:(?B0).cell? ⟨B,0,none⟩=some (.slice o.na 4 o.nc):=zb j 0 _ rfl;have d1:(?B0).cell? ⟨B,1,none⟩=some (.slice o.ga o.gs.length o.gc):=zb j 1 _ rfl;have d2:(?B0).cell? ⟨B,2,none⟩=some (I_ o.aw):=zb j 2 _ rfl;have d3:(?B0).cell? ⟨B,3,none⟩=some (.slice o.ca o.cs.length o.cc):=zb j 3 _ rfl;have U:(?B0).heap[G]? = some (.cells ?A0 34 (0,0)):=(setRow_other V B G ?A0 R).trans t;have k2:(?B0).cell? ⟨G,0,none⟩=some (.slice o.na 4 o.nc):=zb U 0 _ rfl;clear j;refine tQ_ 0 14 (.agg ?A0) rfl rfl (Or.inl ⟨by rfl,λw0 ac=>zL 34 _ rfl G rfl 34 ?A0 (0,0) _ ac.1 underlying34 rfl zli⟩) f ?_;simp only[zf];refine tks_ 8 [(1,15,I_ 0),(2,16,.bool true),(3,17,.bool true),(4,18,(P_ G 0)),(5,19,.slice o.na 4 o.nc),(6,20,I_ 4),(7,21,.bool true),(8,22,.bool true)] f ?_;simp only[tkf_,zf];refine zE 9 rfl (λK9 p=>?_);refine zdW rfl rfl 34 (.tmp 4) (.tmp 14) rfl B ?A0 rfl rfl 34 _ g zli rfl (by simp[Value.oneCell']) ?_;refine p.out _ _ ⟨U,k2⟩ (λf=>?_);refine zU 10 5 (.bool true) rfl rfl f ?_;simp only[zf];refine wD_ (by kernel_rfl) ?_ _;go_wp2_with fail
 exact bP_ (v:=.tuple #[.agg ?A0,.bool true]) (by simp[results,results13,go_sem,d0,d1,d2,d3]) rfl ⟨o,rfl,ab,Z.out,O,aa⟩
variable {w w':World}{n o B cap:Nat}{T:TypeId}{sa:Option Addr}{xs:List Value}
theorem zdd {b:Nat}{cs:List Value}(h:w.rangeAt b o cs)(d:B_ w w'):w'.rangeAt b o cs:=λj v c=>(d.cell (p:=⟨b,o+j,none⟩) (bL_ (h j v c))).trans (h j v c)
theorem zde {b:Nat}{cs:List Value}(h:w.rangeAt b o cs):w.drew.rangeAt b o cs:=λj v c=>h j v c
theorem zei {s:Nat}(h:w.ownsRow B T s (.slice sa n cap) n xs){k:Nat}(l:k<n){row:List Value}(y:row.length=s)(m:∀t,t<s->xs[k*s+t]? = row[t]?):∃b,sa=some ⟨b,0,none⟩/\w.rangeAt b (k*s) row:=by
 have A:=h.1;rcases h.2 with⟨e,z⟩|⟨g,o,p,e,u⟩
 .omega
 .cases e;refine⟨g,rfl,λj v c=>?_⟩;have f:j<s:=by
   rcases Nat.lt_or_ge j s with q|q
   .exact q
   .rw[List.getElem?_eq_none (by omega)]at c;cases c
  have d:k*s+j<n*s:=by
   have:(k+1)*s<=n*s:=Nat.mul_le_mul_right _ l;have r:(k+1)*s=k*s+s:=Nat.succ_mul k s;omega
  rw[World.ownsRow.cellAt h (k*s+j) d,m j f];exact c
def Om.y (o:Om)(i:Nat):Vm:=if i=0 then o.y0 else if i=1 then o.y1 else if i=2 then o.y2 else o.y3
theorem zsL {P:Nat->Prop}(b:P 0)(c:P 1)(d:P 2)(f:P 3):∀i,i<4->P i
 | 0,_=>b
 | 1,_=>c
 | 2,_=>d
 | 3,_=>f
theorem zex.vm {o:Om}(h:zex w o):∀i,i<4->zfX w (o.y i):=zsL h.e0 h.e1 h.e2 h.e3
theorem zjd.vw {o:Om}(h:zjd o):∀i,i<4->zlk (o.y i).v:=zsL h.v0 h.v1 h.v2 h.v3
theorem zex.row {o:Om}(h:zex w o){i:Nat}(c:i<4):∃b,o.na=some ⟨b,0,none⟩/\w.rangeAt b (i*6) (o.y i).cs:=by
 refine zei h.nd c (by rfl) (λt d=>?_);refine zsL (P:=λi=>(vmv [o.y0,o.y1,o.y2,o.y3])[i*6+t]? = (o.y i).cs[t]?) ?_ ?_ ?_ ?_ i c
 all_goals
  rcases(by omega:t=0\/t=1\/t=2\/t=3\/t=4\/t=5)with e|e|e|e|e|e<;>subst e<;>rfl
theorem zb0 {o:Om}{f:Fl}(h:o.v=f.told):∀i,i<4->(o.y i).v=f.view ((i:Nat):Int):=
 zsL (congrArg (λx:Ou=>x.v0) h) (congrArg (λx:Ou=>x.v1) h) (congrArg (λx:Ou=>x.v2) h) (congrArg (λx:Ou=>x.v3) h)
theorem zbd {v:Value}{l:List AV}(h:w.ownsRow B 29 4 v l.length (avs l))(r:∀a∈l,a.e=0/\a.t.size<=4000):∃c f,v=.slice c l.length f/\zbq w c l/\(c=none->l.length=0/\f=0):=by
 obtain⟨j,m,d,-,-,p⟩:=zpg h (λa q=>nT_ (r a q).2 (by decide));refine⟨j,m,d,p,λe=>?_⟩;rcases h.2 with⟨b,o⟩|⟨g,s,t,b,_⟩
 .rw[d]at b;simp only[Value.slice.injEq]at b;exact⟨o,b.2.2⟩
 .rw[d]at b;cases b;cases e
theorem zdw {b:Nat}{l:List AV}(h:R_ w b ((avs l).toArray) 29)(d:∀a∈l,a.e=0/\a.t.size<=4000):zbq w (some ⟨b,0,none⟩) l:=by
 refine⟨.inr ⟨b,0,rfl,λj m=>?_⟩,λa g=>nT_ (d a g).2 (by decide)⟩;have c:∀t,t<4->w.cell? ⟨b,0+j*4+t,none⟩=(l.getD j .z).cs[t]?:=λt d=>by
  rw[<-zkr l j t m d];have f:j*4+t<(avs l).length:=by rw[zg1];omega
  rw[List.getElem?_eq_getElem f,Nat.zero_add];exact zb h (j*4+t) _ (by simp[f])
 exact⟨c 0 (by decide),c 1 (by decide),c 2 (by decide),c 3 (by decide)⟩
theorem zcP (r:Int)(l m:List AV):(Fl.z r).run ((l++m).map AV.ac)=((Fl.z r).run (l.map AV.ac)).run (m.map AV.ac):=by rw[List.map_append,Fl.run_append]
theorem zc9 {l m:List AV}(h:∀a∈l,a.e=0/\a.t.size<=4000)(k:∀a∈m,a.e=0/\a.t.size<=4000):∀a∈l++m,a.e=0/\a.t.size<=4000:=λa b=>by
 rcases List.mem_append.1 b with g|g
 .exact h a g
 .exact k a g
theorem zww (b ys:List Int)(f g:Option Addr)(n m c d:Nat)(w:World)(p:n=b.length)(o:m=ys.length)(j:zg w f c b)(l:zg w g d ys)(q:∀x∈b,0<=x/\x<=255)(r:∀x∈ys,0<=x/\x<=255) :
  Calls prog 54 #[.slice f n c,.slice g m d] w λe w'=>e=.returned (.bool (decide (b=ys)))/\w=w':=by
 have t:=zd8 w f n c b p j;have u:=zd8 w g m d ys o l;have s:Hid (((zai b).toList == (zai ys).toList)=decide (b=ys)):=by
  show _=_;by_cases h:b=ys
  .simp[h]
  .rw[dF_ h,beq_eq_false_iff_ne];exact λe=>h (ziD q r (zhf e))
 clear p o j l q r;generalize zai b=A at*;generalize zai ys=B at*;go_in;go_wp2_with fail
 go_ret;exact⟨zN (by rw[<-s.out]),rfl⟩
def za0 (ps:List zi):List (List Int):=ps.map (·.bs)
theorem zju (b f:List zi)(I J:Option Addr)(n m c d:Nat)(w:World)(hn:n=b.length)(hm:m=f.length)(hx:n<=1000)(hy:m<=1000)(O:zx w I c b)(R:zx w J d f)(F:∀p∈b,∀x∈p.bs,0<=x/\x<=255)(G:∀p∈f,∀x∈p.bs,0<=x/\x<=255) :
  Calls prog 73 #[.slice I n c,.slice J m d] w λe w'=>e=.returned (.bool (decide (za0 b=za0 f)))/\B_ w w':=by
 subst hn hm;by_cases hl:b.length=f.length
 .have A:Hid (b.length=f.length):=hl;have Z:Hid _:=F;have HV:Hid _:=G;rw[<-hl];clear F G hl;go_in;go_wp2_with fail
  go_loopw [5] (λj wr=>∃k:Nat,k<=b.length/\j=I_ k/\Hid (za0 (b.take k)=za0 (f.take k))/\B_ w wr) (λj _=>b.length-(intOf j).toNat)
  case atStart=>exact⟨0,nZ_ _,rfl,by show _=_;simp,bR_ _ _⟩
  case round=>
   obtain⟨k,hk,rfl,E,g⟩:=hrel;by_cases hlt:k<b.length
   .have t:k<f.length:=by have:=A.out;omega
    obtain⟨l,o,rfl,C⟩:∃l o,I=some ⟨l,o,none⟩/\∀j (h:j<b.length),w.cell? ⟨l,o+j,none⟩=some (.slice (b[j]).sa (b[j]).bs.length (b[j]).cap):=by
     rcases O.parts.cells with h|h
     .subst h;simp at hlt
     .exact h
    obtain⟨r,s,rfl,D⟩:∃r s,J=some ⟨r,s,none⟩/\∀j (h:j<f.length),w.cell? ⟨r,s+j,none⟩=some (.slice (f[j]).sa (f[j]).bs.length (f[j]).cap):=by
     rcases R.parts.cells with h|h
     .subst h;simp at t
     .exact h
    have ka:=(g.cell (p:=⟨l,o+k,none⟩) (bL_ (C k hlt))).trans (C k hlt);have kb:=(g.cell (p:=⟨r,s+k,none⟩) (bL_ (D k t))).trans (D k t);have ae:=(O.parts.each b[k] (gM_ hlt)).below g;have af:=(R.parts.each f[k] (gM_ t)).below g;have X:=Z.out b[k] (gM_ hlt);have Y:=HV.out f[k] (gM_ t);have ad:(k:Int)<b.length:=by omega
    have h0:(0:Int)<=k:=by omega
    clear C D;have U:Hid (za0 (b.take (k+1))=za0 (b.take k)++[(b[k]).bs]):=by show _=_;rw[za0,tS_ hlt,List.map_append];rfl
    have V:Hid (za0 (f.take (k+1))=za0 (f.take k)++[(f[k]).bs]):=by show _=_;rw[za0,tS_ t,List.map_append];rfl
    generalize b[k]=p at*;generalize f[k]=q at*;have N:∀u,B_ wr u->Calls prog 54 #[.slice p.sa p.bs.length p.cap,.slice q.sa q.bs.length q.cap] u λe w'=>e=.returned (.bool (decide (p.bs=q.bs)))/\u=w':=λu T=>zww p.bs q.bs p.sa q.sa _ _ p.cap q.cap u rfl rfl (ae.below T) (af.below T) X Y;have y:Hid _:=N;clear N X Y;by_cases he:p.bs=q.bs;have H:Hid (p.bs=q.bs):=he;rw[dT_ he]at y
    rotate_left
    have H:Hid (¬p.bs=q.bs):=he;rw[dF_ he]at y
    rotate_left
    all_goals
     clear he;go_wp2_with fail
     go_region_held3 (λw'=>w'.cell? ⟨l,o+k,none⟩=some (.slice p.sa p.bs.length p.cap)/\w'.cell? ⟨r,s+k,none⟩=some (.slice q.sa q.bs.length q.cap)) (go_keep) ((go_at_call 54;refine(y.out _ ?_).mono ?_;exact(bR_ _ _).drew;rintro e w8⟨rfl,rfl⟩))
    .all_goals
      go_wp2_with fail
      go_roundw
      case rel=>
       have M:∃B:Nat,B<=b.length/\(Value.int .i64 ((k:Int)+1))=I_ B/\Hid (za0 (b.take B)=za0 (f.take B))/\B_ w wr.drew:=⟨k+1,by omega,by go_num,by show _=_;rw[U.out,V.out,E.out,H.out],g.drew⟩
       first|exact M|((repeat apply Exists.intro);exact⟨M,rfl⟩)
      case measure=>simp[intOf];omega
    .all_goals
      go_wp2_with fail
      go_ret;refine⟨zN (dF_ λe=>H.out ?_).symm,g.drew⟩;have z:=U.out;have h2:=V.out;have L:za0 (b.take (k+1))=za0 (f.take (k+1)):=by
       have e':(za0 b).take (k+1)=(za0 f).take (k+1):=by rw[e]
       simpa[za0,List.map_take]using e'
      rw[z,h2,E.out]at L;have h4:=List.append_cancel_left L
      simpa using h4
   .obtain rfl:k=b.length:=by omega
    have ad:¬(b.length:Int)<b.length:=by omega
    have aa:Hid (za0 b=za0 f):=by
     have z:=E.out;rw[tL_ (nR_ _),tL_ (by have:=A.out;omega)]at z;exact z
    go_wp2_with fail
    go_ret;exact⟨zN (dT_ aa.out).symm,g⟩
 .have ac:¬(b.length:Int)=f.length:=by omega
  have A:Hid (¬za0 b=za0 f):=λe=>hl (by have:=congrArg List.length e;simpa[za0]using this);have ag:((b.length:Int) == (f.length:Int))=false:=beq_eq_false_iff_ne.2 ac;clear F G;go_in;go_wp2_with fail
  go_ret;exact⟨zN (dF_ A.out).symm,bR_ _ _⟩
structure zuS (w:World)(ba:Option Addr)(bn bc:Nat)(bl:List zi)(pa:Option Addr)(pn pc:Nat)(pl:List zi):Prop where
 eb:bn=bl.length
 ep:pn=pl.length
 b3:bn<=1000
 p4:pn<=1000
 bat:zx w ba bc bl
 par:zx w pa pc pl
 bu:∀p∈bl,∀x∈p.bs,0<=x/\x<=255
 pu:∀p∈pl,∀x∈p.bs,0<=x/\x<=255
theorem zmK (au rd c l:Int)(B:Option Addr)(F D:Nat)(bl:List zi)(q:Option Addr)(u s:Nat)(pl:List zi)(C:Option Addr)(G E:Nat)(d:List zi)(r:Option Addr)(A t:Nat)(m:List zi)(w:World)(f:zuS w B F D bl q u s pl)(g:zuS w C G E d r A t m) :
  Calls prog 51 #[.agg #[I_ au,I_ rd,.slice B F D,.slice q u s],.agg #[I_ c,I_ l,.slice C G E,.slice r A t]] w λe w'=>e=.returned (.bool (decide (au=c/\rd=l/\za0 bl=za0 d/\za0 pl=za0 m)))/\B_ w w':=by
 have H:B_ w ((w.alloc (.cells #[I_ au,I_ rd,.slice B F D,.slice q u s] 56)).alloc (.cells #[I_ c,I_ l,.slice C G E,.slice r A t] 56)):=((bR_ _ _).alloc (nR_ _) _).alloc (by simp) _;have J:∀b,B_ w b->Calls prog 73 #[.slice B F D,.slice C G E] b λe w'=>e=.returned (.bool (decide (za0 bl=za0 d)))/\B_ b w':=λb h=>zju bl d B C F G D E b f.eb g.eb f.b3 g.b3 (f.bat.below h) (g.bat.below h) f.bu g.bu;have L:∀b,B_ w b->Calls prog 73 #[.slice q u s,.slice r A t] b λe w'=>e=.returned (.bool (decide (za0 pl=za0 m)))/\B_ b w':=λb h=>zju pl m q r u A s t b f.ep g.ep f.p4 g.p4 (f.par.below h) (g.par.below h) f.pu g.pu;have I:Hid _:=J;have N:Hid _:=L;clear J L f g;have o:Hid (decide (au=c/\rd=l/\za0 bl=za0 d/\za0 pl=za0 m)=(decide (au=c/\rd=l)&&decide (za0 bl=za0 d)&&decide (za0 pl=za0 m))):=by
  show _=_;by_cases h1:au=c<;>by_cases h2:rd=l<;>by_cases h3:za0 bl=za0 d<;>simp[h1,h2,h3]
 generalize decide (za0 bl=za0 d)=x at*;generalize decide (za0 pl=za0 m)=y at*;generalize decide (au=c/\rd=l/\za0 bl=za0 d/\za0 pl=za0 m)=z at*;by_cases h1:au=c
 .subst h1;by_cases h2:rd=l
  .subst h2;have p:Hid (z=(x&&y)):=by have:=o.out;show _=_;simpa using this
   clear o;cases x
   all_goals
    go_in;go_wp2_with fail
    refine(I.out _ H).mono ?_;rintro e T⟨rfl,j⟩
   .go_wp2_with fail
    go_ret;exact⟨zN (by rw[p.out];rfl),zS (zS j)⟩
   .have M:=zbK j;have R:=zbK (zS j);rw[zG]at M;replace j:=zS (zS j);have U:=zb R 3 (.slice q u s) rfl;have V:=zb M 3 (.slice r A t) rfl;go_wp2_with fail
    refine(N.out _ j).mono ?_;rintro e w2⟨rfl,O⟩;go_wp2_with fail
    go_ret;exact⟨zN (by rw[p.out];simp),j.trans (O.mono j.size)⟩
  .have p:Hid (z=false):=by have:=o.out;show _=_;simpa[h2]using this
   clear o;have Y:(rd == l)=false:=by simpa using h2
   go_in;go_wp2_with fail
   go_ret;exact⟨zN p.out.symm,H⟩
 .have p:Hid (z=false):=by have:=o.out;show _=_;simpa[h1]using this
  clear o;have X:(au == c)=false:=by simpa using h1
  go_in;go_wp2_with fail
  go_ret;exact⟨zN p.out.symm,H⟩
variable {qs:List zi}
structure zg2 (ps qs:List zi):Prop where
 same:zbm ps qs
 u8:∀p∈qs,∀x∈p.bs,0<=x/\x<=255
 le:qs.length<=1000
theorem zg2.length {b:List zi}(h:zg2 b qs):b.length=qs.length:=h.same.length
theorem zg2.u8' {b:List zi}(h:zg2 b qs):∀p∈b,∀x∈p.bs,0<=x/\x<=255:=by
 intro p j x d;have c:p.bs∈b.map (·.bs):=List.mem_map_of_mem j;have g:b.map (·.bs)=qs.map (·.bs):=h.same;rw[g]at c;obtain⟨q,l,e⟩:=List.mem_map.1 c;have f:q.bs=p.bs:=e;rw[<-f]at d;exact h.u8 q l x d
theorem zmL (au rd:Int)(o:Option Addr)(p:Nat)(d:List zi)(q:Option Addr)(r:Nat)(f:List zi)(g:Option Addr)(j:Nat)(bl:List zi)(l:Option Addr)(m:Nat)(pl:List zi)(w:World)(b:zg2 d bl)(c:zg2 f pl)(s:zx w o p d)(t:zx w q r f)(u:zx w g j bl)(y:zx w l m pl) :
  Calls prog 51 #[.agg #[I_ au,I_ rd,.slice o bl.length p,.slice q pl.length r],.agg #[I_ au,I_ rd,.slice g bl.length j,.slice l pl.length m]] w λe w'=>e=.returned (.bool true)/\B_ w w':=by
 have h:=zmK au rd au rd o bl.length p d q pl.length r f g bl.length j bl l pl.length m pl w ⟨b.length.symm,c.length.symm,b.le,c.le,s,t,b.u8',c.u8'⟩ ⟨rfl,rfl,b.le,c.le,u,y,b.u8,c.u8⟩;have z:decide (au=au/\rd=rd/\za0 d=za0 bl/\za0 f=za0 pl)=true:=dT_ ⟨rfl,rfl,b.same,c.same⟩;rw[z]at h;exact h
theorem zpx (vl:List Int)(o p:Option Addr)(c d:Nat)(w:World)(C:vl.length<=9000000000000000000)(u:zax w o vl)(y:zax w p vl) :
  Calls prog 52 #[.slice o vl.length c,.slice p vl.length d] w λe w'=>e=.returned (.bool true)/\B_ w w':=by
 go_in;go_wp2_with fail
 go_loopw [5] (λj wr=>∃k:Nat,k<=vl.length/\j=I_ k/\B_ w wr) (λj _=>vl.length-(intOf j).toNat)
 case atStart=>exact⟨0,nZ_ _,rfl,bR_ _ _⟩
 case round=>
  obtain⟨k,B,rfl,b⟩:=hrel;by_cases hlt2:k<vl.length
  .obtain⟨f,g,rfl,r⟩:∃f g,o=some ⟨f,g,none⟩/\∀j,j<vl.length->wr.cell? ⟨f,g+j,none⟩=some (I_ (vl.getD j 0)):=by
    rcases(u.below b).cells with h|h
    .subst h;simp at hlt2
    .exact h
   obtain⟨l,m,rfl,s⟩:∃l m,p=some ⟨l,m,none⟩/\∀j,j<vl.length->wr.cell? ⟨l,m+j,none⟩=some (I_ (vl.getD j 0)):=by
    rcases(y.below b).cells with h|h
    .subst h;simp at hlt2
    .exact h
   have D:=r k hlt2;have E:=s k hlt2;have z:(k:Int)<vl.length:=by omega
   have A:(0:Int)<=k:=by omega
   clear r s;generalize vl.getD k 0=x at*;go_wp2_with fail
   go_region
   all_goals
    go_wp2_with fail
    go_roundw
    case rel=>
     have q:∃t:Nat,t<=vl.length/\(Value.int .i64 ((k:Int)+1))=I_ t/\B_ w wr.drew:=⟨k+1,by omega,by go_num,b.drew⟩
     first|exact q|((repeat apply Exists.intro);exact⟨q,rfl⟩)
    case measure=>simp[intOf];omega
  .obtain rfl:k=vl.length:=by omega
   have z:¬(vl.length:Int)<vl.length:=by omega
   go_wp2_with fail
   go_ret;exact⟨rfl,b⟩
theorem zpy (au rd:Int)(m:Option Addr)(o:Nat)(y:List zi)(p:Option Addr)(q:Nat)(z:List zi)(r:Option Addr)(s:Nat)(b:List Int)(c:Option Addr)(d:Nat)(bl:List zi)(f:Option Addr)(g:Nat)(pl:List zi)(j:Option Addr)(l:Nat)(w:World)(A:zg2 y bl)(B:zg2 z pl)(U:b.length<=9000000000000000000)(J:zx w m o y)(L:zx w p q z)(M:zax w r b)(N:zx w c d bl)(O:zx w f g pl)(R:zax w j b) :
  Calls prog 28 #[.agg #[I_ au,I_ rd,.slice m y.length o,.slice p z.length q,.slice r b.length s],.agg #[I_ au,I_ rd,.slice c bl.length d,.slice f pl.length g,.slice j b.length l]] w λe w'=>e=.returned (.bool true)/\B_ w w':=by
 rw[A.length,B.length];refine kA_ ?A0 ?_;exact #[I_ au,I_ rd,.slice c bl.length d,.slice f pl.length g,.slice j b.length l];refine kO_ ?B0 ?_;exact Obj.cells #[I_ au,I_ rd,.slice m bl.length o,.slice p pl.length q,.slice r b.length s] 59;have t:B_ w ((w.alloc ?B0).alloc (.cells ?A0 59)):=((bR_ _ _).alloc (nR_ _) _).alloc (by rw[zG];omega) _;have E:=hX_ w ?B0 (.cells ?A0 59);have F:((w.alloc ?B0).alloc (.cells ?A0 59)).heap[w.heap.size+1]? = some (.cells ?A0 59 (0,0)):=by
  have:=hN_ (w.alloc ?B0) (.cells ?A0 59);rw[zG]at this;exact this
 have G:Hid _:=A;have H:Hid _:=B;clear A B;go_in;go_wp2_with fail
 generalize (w.alloc ?B0).alloc (.cells ?A0 59)=I at t E F|-;refine(zmL au rd m o y p q z c d bl f g pl I G.out H.out (J.below t) (L.below t) (N.below t) (O.below t)).mono ?_;rintro _ Y⟨rfl,C⟩;dsimp only;have V:=zk C E;have X:=zk C F;have Z:=zb V 4 _ rfl;have m4:=zb X 4 _ rfl;have u:=zm t C;go_wp2_with fail
 refine(zpx b r j s l Y U (M.below u) (R.below u)).mono ?_;rintro _ w2⟨rfl,T⟩;dsimp only;go_wp2_with fail
 go_ret;exact⟨rfl,u.trans (T.mono u.size)⟩
end Go.Proofs.YtdepbohhmfkjgaaGreatDoor
