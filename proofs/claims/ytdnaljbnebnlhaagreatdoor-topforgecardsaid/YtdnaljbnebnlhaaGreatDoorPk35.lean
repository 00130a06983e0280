import Derived.Test.YtdnaljbnebnlhaaGreatDoorPk34
set_option maxRecDepth 100000
set_option maxHeartbeats 4000000
namespace Go.Proofs.YtdnaljbnebnlhaaGreatDoor
open Go.RowKit Tryz
theorem zg9 (n:Int)(w:World)(c:-9223372036854775808<=n)(d:n<=9223372036854775807) :
  Calls prog 9 #[I_ n] w λe w'=>e=.returned (I_ (pk n 5-1))/\w=w':=by
 obtain⟨j,l⟩:=zW n 5 (by decide);have b:=zbI n 5 w c d (by decide) (by decide);generalize pk n 5=N at*;have g:IntKind.i64.wrap (N-1)=N-1:=by rw[IntKind.wrap_i64];omega
 go_in;go_wp2_with fail
 refine b.mono ?_;rintro _ m⟨rfl,rfl⟩;dsimp only;go_wp2_with fail
 go_ret;exact⟨rfl,rfl⟩
theorem zcZ (l m:List AV)(c:Option Addr)(o g:Nat)(d:Option Addr)(p j:Nat)(w:World)(B:o=l.length)(E:p=m.length)(A:zbq w c l)(C:zbq w d m)(u:c=none->l.length=0/\g=0)(y:d=none->m.length=0/\j=0)(I:l.length+m.length<=100000) :
  Calls prog 11 #[.slice c o g,.slice d p j] w λe w'=>∃v,e=.returned v/\w'.ownsRow w.heap.size 40 4 v (l++m).length (avs (l++m))/\B_ w w':=by
 subst B E;have t:Hid ((l++m).length=l.length+m.length):=lP_;go_in;go_upto_region 1 with fail
 go_wp2_with (at_builtin;refine zfB rfl _ _ rfl w.heap.size _ 0 [] rfl (oN_ _ _ _ _) c l.length g l rfl rfl A u (by omega) (nR_ _) ?_)
 intro G J f r;have b:=Below.grown (bR_ w.heap.size w) r.grown (nR_ _) (λq e=>by cases e)
 (try rw[List.nil_append,Nat.zero_add]at f)
 have D:=C.below b;go_wp2_with (at_builtin;refine zfB rfl _ _ rfl w.heap.size G l.length l rfl f d m.length j m rfl rfl D y (by omega) b.size ?_)
 intro H w2 F s;have z:=Below.grown b s.grown b.size (λq e=>(f.lt q e).1);go_wp2_with fail
 go_ret;exact⟨H,rfl,by rw[t.out];exact F,z⟩
theorem zwv (r:Int)(q:-1<=r/\r<=3)(l:List AV)(b:Option Addr)(n c:Nat)(w:World)(p:n=l.length)(d:l.length<=3000)(f:zbq w b l)(g:∀a∈l,a.e=0)(j:zcw w)(m:zbJ w) :
  Calls prog 20 #[I_ r,.slice b n c] w λe w'=>∃o:Om,e=.returned (.tuple #[.agg #[.slice o.na 4 o.nc,.slice o.ga o.gs.length o.gc,I_ o.aw,.slice o.ca o.cs.length o.cc],I_ 0])/\zex w' o/\o.v=((Fl.z r).run (l.map AV.ac)).told/\zjd o/\B_ w w':=
 zxJ znS r q l b n c w p d f g j m
theorem zjd.ok {o:Om}(h:zjd o):zwk o:=by
 intro v b;simp only[List.mem_cons,List.not_mem_nil,or_false]at b;rcases b with e|e|e|e<;>subst e
 .exact h.v0.dag
 .exact h.v1.dag
 .exact h.v2.dag
 .exact h.v3.dag
theorem zc4 (r:Int)(hr:-1<=r/\r<=3)(l:List AV)(C:Option Addr)(n E:Nat)(w:World)(hn:n=l.length)(h3:l.length<=3000)(hA:zbq w C l)(hE:∀a∈l,a.e=0)(p:zcw w)(hT:zbJ w) :
  Calls prog 10 #[I_ r,.slice C n E] w λe w'=>∃o:Om,e=.returned (.tuple #[.agg #[.slice o.na 4 o.nc,.slice o.ga o.gs.length o.gc,I_ o.aw,.slice o.ca o.cs.length o.cc],.bool true])/\zex w' o/\o.v=((Fl.z r).run (l.map AV.ac)).told/\zjd o/\B_ w w':=by
 subst hn;have b:=zC w (.cells #[O_,O_,I_ 0,O_] 28);have q:=hN_ w (.cells #[O_,O_,I_ 0,O_] 28);go_in;go_upto_region 1 with fail
 generalize w.alloc (.cells #[O_,O_,I_ 0,O_] 28)=W0 at b q|-;have N:=zwv r hr l C _ E W0 rfl h3 (hA.below b) hE (p.below b p.lt) (hT.below b);generalize F:w.heap.size=B at q|-;have Y:Hid (w.heap.size=B):=F;clear F;go_wp2_with fail
 refine N.mono ?_;rintro e m⟨o,he,J,T,O,z⟩;subst he;dsimp only;clear N;have Z:Hid _:=T;clear T;have A:=zk z q;have H:=zm b z;refine kA_ ?A0 ?_;exact(#[.slice o.na 4 o.nc,.slice o.ga o.gs.length o.gc,I_ o.aw,.slice o.ca o.cs.length o.cc]:Array Value);have c:=zC m (.cells ?A0 28);have s:=hN_ m (.cells ?A0 28);go_upto_region 2 with fail
 generalize m.alloc (.cells ?A0 28)=u at c s|-;have X:=zk c A;have L:=J.below c;have I:=zm H c;have R:m.heap.size≠B:=λe=>by have:=ze A;omega
 generalize m.heap.size=G at s R|-;have d:=dB_ u;have t:=zk d s;have g:=zk d X;have M:=L.below d;have y:=zm I d;have D:u.drew.cell? ⟨G,0,none⟩=some (.slice o.na 4 o.nc):=zb t 0 _ rfl;refine wR_ (S:=λw'=>R_ w' G ?A0 28/\w'.cell? ⟨G,0,none⟩=some (.slice o.na 4 o.nc)) (by kernel_rfl) ⟨t,D⟩ (λf=>?_);generalize u.drew=V at t g M y D f|-;clear J L c H z b q A s X d I;refine kW_ ?B0 ?_;exact V.setRow B ?A0;have ab:zex ?B0 o:=zex.put M O.ok g;have aa:B_ w ?B0:=(Upd.setRow (cs:=?A0) g).below y y.size (by rw[Y.out];exact nR_ _);have j:=setRow_heap V B _ ?A0 _ _ g;have d0:(?B0).cell? ⟨B,0,none⟩=some (.slice o.na 4 o.nc):=zb j 0 _ rfl;have d1:(?B0).cell? ⟨B,1,none⟩=some (.slice o.ga o.gs.length o.gc):=zb j 1 _ rfl;have d2:(?B0).cell? ⟨B,2,none⟩=some (I_ o.aw):=zb j 2 _ rfl;have d3:(?B0).cell? ⟨B,3,none⟩=some (.slice o.ca o.cs.length o.cc):=zb j 3 _ rfl;have U:(?B0).heap[G]? = some (.cells ?A0 28 (0,0)):=(setRow_other V B G ?A0 R).trans t;have k2:(?B0).cell? ⟨G,0,none⟩=some (.slice o.na 4 o.nc):=zb U 0 _ rfl;clear j;refine tQ_ 0 14 (.agg ?A0) rfl rfl (Or.inl ⟨by rfl,λw0 ac=>zL 28 _ rfl G rfl 28 ?A0 (0,0) _ ac.1 underlying28 rfl zli⟩) f ?_;simp only[zf];refine tks_ 8 [(1,15,I_ 0),(2,16,.bool true),(3,17,.bool true),(4,18,(P_ G 0)),(5,19,.slice o.na 4 o.nc),(6,20,I_ 4),(7,21,.bool true),(8,22,.bool true)] f ?_;simp only[tkf_,zf];refine zE 9 rfl (λK9 p=>?_);refine zdW rfl rfl 28 (.tmp 4) (.tmp 14) rfl B ?A0 rfl rfl 28 _ g zli rfl (by simp[Value.oneCell']) ?_;refine p.out _ _ ⟨U,k2⟩ (λf=>?_);refine zU 10 5 (.bool true) rfl rfl f ?_;simp only[zf];refine wD_ (by kernel_rfl) ?_ _;go_wp2_with fail
 exact bP_ (v:=.tuple #[.agg ?A0,.bool true]) (by simp[results,results10,go_sem,d0,d1,d2,d3]) rfl ⟨o,rfl,ab,Z.out,O,aa⟩
variable {w w':World}{n o B cap:Nat}{T:TypeId}{sa:Option Addr}{xs:List Value}
theorem zdd {b:Nat}{cs:List Value}(h:w.rangeAt b o cs)(d:B_ w w'):w'.rangeAt b o cs:=λj v c=>(d.cell (p:=⟨b,o+j,none⟩) (bL_ (h j v c))).trans (h j v c)
theorem zde {b:Nat}{cs:List Value}(h:w.rangeAt b o cs):w.drew.rangeAt b o cs:=λj v c=>h j v c
theorem zei {s:Nat}(h:w.ownsRow B T s (.slice sa n cap) n xs){k:Nat}(l:k<n){row:List Value}(y:row.length=s)(m:∀t,t<s->xs[k*s+t]? = row[t]?):∃b,sa=some ⟨b,0,none⟩/\w.rangeAt b (k*s) row:=by
 have A:=h.1;rcases h.2 with⟨e,z⟩|⟨g,o,p,e,u⟩
 .omega
 .cases e;refine⟨g,rfl,λj v c=>?_⟩;have f:j<s:=by
   rcases Nat.lt_or_ge j s with q|q
   .exact q
   .rw[List.getElem?_eq_none (by omega)]at c;cases c
  have d:k*s+j<n*s:=by
   have:(k+1)*s<=n*s:=Nat.mul_le_mul_right _ l;have r:(k+1)*s=k*s+s:=Nat.succ_mul k s;omega
  rw[World.ownsRow.cellAt h (k*s+j) d,m j f];exact c
def Om.y (o:Om)(i:Nat):Vm:=if i=0 then o.y0 else if i=1 then o.y1 else if i=2 then o.y2 else o.y3
theorem zsL {P:Nat->Prop}(b:P 0)(c:P 1)(d:P 2)(f:P 3):∀i,i<4->P i
 | 0,_=>b
 | 1,_=>c
 | 2,_=>d
 | 3,_=>f
theorem zex.vm {o:Om}(h:zex w o):∀i,i<4->zfX w (o.y i):=zsL h.e0 h.e1 h.e2 h.e3
theorem zjd.vw {o:Om}(h:zjd o):∀i,i<4->zlk (o.y i).v:=zsL h.v0 h.v1 h.v2 h.v3
theorem zex.row {o:Om}(h:zex w o){i:Nat}(c:i<4):∃b,o.na=some ⟨b,0,none⟩/\w.rangeAt b (i*6) (o.y i).cs:=by
 refine zei h.nd c (by rfl) (λt d=>?_);refine zsL (P:=λi=>(vmv [o.y0,o.y1,o.y2,o.y3])[i*6+t]? = (o.y i).cs[t]?) ?_ ?_ ?_ ?_ i c
 all_goals
  rcases(by omega:t=0\/t=1\/t=2\/t=3\/t=4\/t=5)with e|e|e|e|e|e<;>subst e<;>rfl
theorem zb0 {o:Om}{f:Fl}(h:o.v=f.told):∀i,i<4->(o.y i).v=f.view ((i:Nat):Int):=
 zsL (congrArg (λx:Ou=>x.v0) h) (congrArg (λx:Ou=>x.v1) h) (congrArg (λx:Ou=>x.v2) h) (congrArg (λx:Ou=>x.v3) h)
theorem zbd {v:Value}{l:List AV}(h:w.ownsRow B 40 4 v l.length (avs l))(r:∀a∈l,a.e=0/\a.t.size<=4000):∃c f,v=.slice c l.length f/\zbq w c l/\(c=none->l.length=0/\f=0):=by
 obtain⟨j,m,d,-,-,p⟩:=zpg h (λa q=>nT_ (r a q).2 (by decide));refine⟨j,m,d,p,λe=>?_⟩;rcases h.2 with⟨b,o⟩|⟨g,s,t,b,_⟩
 .rw[d]at b;simp only[Value.slice.injEq]at b;exact⟨o,b.2.2⟩
 .rw[d]at b;cases b;cases e
theorem zdw {b:Nat}{l:List AV}(h:R_ w b ((avs l).toArray) 40)(d:∀a∈l,a.e=0/\a.t.size<=4000):zbq w (some ⟨b,0,none⟩) l:=by
 refine⟨.inr ⟨b,0,rfl,λj m=>?_⟩,λa g=>nT_ (d a g).2 (by decide)⟩;have c:∀t,t<4->w.cell? ⟨b,0+j*4+t,none⟩=(l.getD j .z).cs[t]?:=λt d=>by
  rw[<-zkr l j t m d];have f:j*4+t<(avs l).length:=by rw[zg1];omega
  rw[List.getElem?_eq_getElem f,Nat.zero_add];exact zb h (j*4+t) _ (by simp[f])
 exact⟨c 0 (by decide),c 1 (by decide),c 2 (by decide),c 3 (by decide)⟩
theorem zc9 {l m:List AV}(h:∀a∈l,a.e=0/\a.t.size<=4000)(k:∀a∈m,a.e=0/\a.t.size<=4000):∀a∈l++m,a.e=0/\a.t.size<=4000:=λa b=>by
 rcases List.mem_append.1 b with g|g
 .exact h a g
 .exact k a g
end Go.Proofs.YtdnaljbnebnlhaaGreatDoor
