import Derived.Test.YtdnaljbnebnlhaaGreatDoorPk16
set_option maxRecDepth 100000
set_option maxHeartbeats 4000000
namespace Go.Proofs.YtdnaljbnebnlhaaGreatDoor
open Go.RowKit Tryz
variable {w w':World}{sa:Option Addr}
structure zdj (w:World)(sa:Option Addr)(sc:Nat)(gs:List Sg):Prop where
 tab:ze9 w sa sc gs
theorem zdj.sub {c:Nat}{b:List Sg}(h:zdj w sa c b)(k:Sub w w'):zdj w' sa c b:=⟨h.tab.sub k⟩
theorem zdj.below {c:Nat}{b:List Sg}(h:zdj w sa c b)(d:B_ w w'):zdj w' sa c b:=h.sub (Sub.below d)
theorem znc (s t:Sl)(w:World)(p:zg w s.p.sa s.p.cap s.p.bs)(q:zg w t.p.sa t.p.cap t.p.bs)(r:zaN s.p.bs)(u:zaN t.p.bs) :
  Calls prog 166 #[.agg #[I_ s.au,I_ s.rd,.slice s.p.sa s.p.bs.length s.p.cap],.agg #[I_ t.au,I_ t.rd,.slice t.p.sa t.p.bs.length t.p.cap]] w λe w'=>e=.returned (.bool (decide (s.v=t.v)))/\B_ w w':=by
 refine kO_ ?A0 ?_;exact Obj.cells #[I_ s.au,I_ s.rd,.slice s.p.sa s.p.bs.length s.p.cap] 53;refine kO_ ?B0 ?_;exact Obj.cells #[I_ t.au,I_ t.rd,.slice t.p.sa t.p.bs.length t.p.cap] 53;have b:B_ w ((w.alloc ?A0).alloc ?B0):=((bR_ _ _).alloc (nR_ _) _).alloc (by simp) _;have d:=hX_ w ?A0 ?B0;have f:=hY_ w ?A0 ?B0;go_in;go_upto_region 1 with fail
 generalize (w.alloc ?A0).alloc ?B0=l at b d f|-;have y:=zb d 0 _ rfl;have z:=zb d 1 _ rfl;have A:=zb d 2 _ rfl;have j:=zb f 0 _ rfl;have m:=zb f 1 _ rfl;have B:=zb f 2 _ rfl;by_cases e1:s.au=t.au
 .by_cases e2:s.rd=t.rd;have g:=zeI s.p.bs t.p.bs _ _ _ _ _ _ l rfl rfl (p.below b) (q.below b);have c:Hid (decide (txL s.p.bs=txL t.p.bs)=decide (s.v=t.v)):=by
   show _=_;refine decide_eq_decide.2 ?_;rw[zx1 r u];simp[Sl.v,e1,e2]
  rw[<-e1]at j;rw[<-e2]at m;clear e1 e2;go_wp2_with fail
  refine g.mono ?_;rintro _ E⟨rfl,rfl⟩;dsimp only;clear g
  rotate_left
  have D:(s.rd == t.rd)=false:=by simpa using e2
  have c:Hid (decide (s.v=t.v)=false):=by show _=_;exact dF_ (λh=>e2 (congrArg (λv=>v.2.1) h))
  rw[<-e1]at j;clear e1 e2
  rotate_left
  all_goals
   go_wp2_with fail
   go_ret;exact⟨by rw[c.out];rfl,b⟩
 .have C:(s.au == t.au)=false:=by simpa using e1
  have c:Hid (decide (s.v=t.v)=false):=by show _=_;exact dF_ (λh=>e1 (congrArg (λv=>v.1) h))
  clear e1;go_wp2_with fail
  go_ret;exact⟨by rw[c.out];rfl,b⟩
theorem zkM (c:Int)(b:List Sg)(d:Option Addr)(f:Nat)(j:Int)(s:Sl)(w:World)(t:zdj w d f b)(H:zg w s.p.sa s.p.cap s.p.bs)(I:zaN s.p.bs) :
  Calls prog 167 #[.agg #[I_ c,.slice d b.length f],I_ j,.agg #[I_ s.au,I_ s.rd,.slice s.p.sa s.p.bs.length s.p.cap]] w λe w'=>e=.returned (.bool (No.signed ⟨c,gvs b⟩ j s.v))/\B_ w w':=by
 refine kO_ ?A0 ?_;exact Obj.cells #[I_ s.au,I_ s.rd,.slice s.p.sa s.p.bs.length s.p.cap] 53;refine kO_ ?B0 ?_;exact Obj.cells #[I_ c,.slice d b.length f] 108;have g:B_ w ((w.alloc ?B0).alloc ?A0):=((bR_ _ _).alloc (nR_ _) _).alloc (by simp) _;have p:=hX_ w ?B0 ?A0;have o:=hY_ w ?B0 ?A0;have u:=t.tab.small;have m:Hid (No.signed ⟨c,gvs b⟩ j s.v=(decide ((zce (gvs b) c (Sg.v ⟨j,s.au,s.rd,s.p⟩)).2=0)&&(zce (gvs b) c (Sg.v ⟨j,s.au,s.rd,s.p⟩)).1)):=rfl;go_in;go_upto_region 1 with fail
 generalize (w.alloc ?B0).alloc ?A0=A at g p o|-;have B:=zb p 0 _ rfl;have C:=zb p 1 _ rfl;have D:=zb o 0 _ rfl;have E:=zb o 1 _ rfl;have F:=zb o 2 _ rfl;have l:=zrR b d _ f c ⟨j,s.au,s.rd,s.p⟩ A rfl u (t.tab.below g).slots ⟨H.below g,I⟩;dsimp only at l;generalize zce (gvs b) c (Sg.v ⟨j,s.au,s.rd,s.p⟩)=r at l m;obtain⟨L,y⟩:=r;dsimp only at l m;clear u;go_wp2_with fail
 refine l.mono ?_;rintro _ M⟨rfl,q⟩;dsimp only;clear l B C D E F;by_cases h0:y=0
 .subst h0;go_wp2_with fail
  go_ret;exact⟨by rw[m.out];rfl,g.trans (q.mono g.size)⟩
 .have J:(y == 0)=false:=by simpa using h0
  have z:Hid _:=h0;clear h0;go_wp2_with fail
  go_ret;exact⟨by rw[m.out,dF_ z.out];rfl,g.trans (q.mono g.size)⟩
theorem zqb (d:Int)(b:List Sg)(g:Option Addr)(j:Nat)(c:Ct)(w:World)(t:zdj w g j b)(I:za7 w c)(H:zbJ w) :
  Calls prog 172 #[.agg #[I_ d,.slice g b.length j],.agg #[I_ c.au,I_ c.rd,.slice c.ba c.bl.length c.bc,.slice c.pa c.pl.length c.pc,.slice c.va c.vl.length c.vc]] w λe w'=>e=.returned (.bool (No.proven ⟨d,gvs b⟩ c.v))/\B_ w w':=by
 refine kO_ ?A0 ?_;exact Obj.cells #[I_ c.au,I_ c.rd,.slice c.ba c.bl.length c.bc,.slice c.pa c.pl.length c.pc,.slice c.va c.vl.length c.vc] 64;refine kO_ ?B0 ?_;exact Obj.cells #[I_ d,.slice g b.length j] 108;have f:B_ w ((w.alloc ?B0).alloc ?A0):=((bR_ _ _).alloc (nR_ _) _).alloc (by simp) _;have q:=hX_ w ?B0 ?A0;have l:=hY_ w ?B0 ?A0;have u:=t.tab.small;have o:Hid (No.proven ⟨d,gvs b⟩ c.v=decide (zfl (gvs b) d c.au c.rd (zap c.au c.rd c.bl c.pl c.vl) (zaE c.au c.rd c.bl c.pl) c.vl=0)):=by
  show _=_;rw[Ct.f_v,Ct.d_v];rfl
 go_in;go_upto_region 1 with fail
 generalize (w.alloc ?B0).alloc ?A0=z at f q l|-;have A:=zb q 0 _ rfl;have B:=zb q 1 _ rfl;have C:=zb l 0 _ rfl;have D:=zb l 1 _ rfl;have E:=zb l 2 _ rfl;have F:=zb l 3 _ rfl;have G:=zb l 4 _ rfl;have m:=I.below f;have p:=zrz b g _ j d c.au c.rd c.ba c.bc c.bl c.pa c.pc c.pl c.va c.vc c.vl z rfl u (t.tab.below f).slots m.hat m.ints m.vle (H.below f);generalize zfl (gvs b) d c.au c.rd (zap c.au c.rd c.bl c.pl c.vl) (zaE c.au c.rd c.bl c.pl) c.vl=r at p o;clear u m;go_wp2_with fail
 refine p.mono ?_;rintro _ M⟨rfl,s⟩;dsimp only;clear p A B C D E F G;by_cases h0:r=0
 .subst h0;go_wp2_with fail
  go_ret;exact⟨by rw[o.out];rfl,f.trans (s.mono f.size)⟩
 .have L:(r == 0)=false:=by simpa using h0
  have y:Hid _:=h0;clear h0;go_wp2_with fail
  go_ret;exact⟨by rw[o.out,dF_ y.out];rfl,f.trans (s.mono f.size)⟩
variable {U U' U1:Nat->Bool}{F o:Nat}{fc fc':Array Value}{T:TypeId}{x:NM}{w2 w1:World}
theorem zo.other {g l:Nat}{r t p:NM}(y:zo w U F g T fc r)(o:zo w' U' F g T fc' t)(n:NTo U U' w w' F g fc fc' r t)(c:zo w U F l T fc p)(z:∀b,p.S b->¬r.S b)(A:l+19<=g\/g+19<=l):zo w' U' F l T fc' p:=by
 have d:Sub (zq U w) (zq U' w'):=n.sub y;have f:∀b,p.S b->w'.heap[b]? = w.heap[b]?:=λb e=>n.block b (c.bnd b (c.su b e).1) (z b e) (c.su b e).2;exact⟨o.blk,by rw[n.fsz];exact c.siz,λj u=>(n.far (l+j) (by omega)).trans (c.cel j u),o.fu,
  λb e=>⟨by rw[n.us b (c.bnd b (c.su b e).1)];exact(c.su b e).1,(c.su b e).2⟩,o.bnd,o.tabs,c.etx.sub d,
  zu c.rsh (λq e=>f q (.inr (.inr (.inr (.inl (zp e)))))),λs m=>(c.esh s m).sub d,
  zu c.rtb (λq e=>f q (.inr (.inr (.inr (.inr (.inl (zp e))))))),λs m=>(c.etb s m).sub d,
  c.stk.keep d n.us (λb e=>f b (by rcases e with e|e|e;exact .inl e;exact .inr (.inl e);exact .inr (.inr (.inl e)))),
  c.hdr.sub d,c.slt.sub d,zu c.rvo (λq e=>f q (.inr (.inr (.inr (.inr (.inr (.inl (zp e)))))))),c.tap.sub d,c.ems,
  zu c.rwa (λq e=>f q (.inr (.inr (.inr (.inr (.inr (.inr (zp e)))))))),λm e=>(c.ewa m e).sub d,c.inv⟩
theorem zo.goes (h:zo w U F o T fc x)(g:zao U U' w w')(f:w'.heap[F]? = w.heap[F]?)(d:∀b,x.S b->w'.heap[b]? = w.heap[b]?)(j:Bnd U' w'):zo w' U' F o T fc x:=by
 have c:Sub (zq U w) (zq U' w'):=g.sub;have l:F<w.heap.size:=ze h.blk;exact⟨f.trans h.blk,h.siz,h.cel,by rw[g.us F l];exact h.fu,
  λb e=>⟨by rw[g.us b (h.bnd b (h.su b e).1)];exact(h.su b e).1,(h.su b e).2⟩,j,h.tabs.sub c,h.etx.sub c,
  zu h.rsh (λq e=>d q (.inr (.inr (.inr (.inl (zp e)))))),λs m=>(h.esh s m).sub c,
  zu h.rtb (λq e=>d q (.inr (.inr (.inr (.inr (.inl (zp e))))))),λs m=>(h.etb s m).sub c,
  h.stk.keep c g.us (λb e=>d b (by rcases e with e|e|e;exact .inl e;exact .inr (.inl e);exact .inr (.inr (.inl e)))),
  h.hdr.sub c,h.slt.sub c,zu h.rvo (λq e=>d q (.inr (.inr (.inr (.inr (.inr (.inl (zp e)))))))),h.tap.sub c,h.ems,
  zu h.rwa (λq e=>d q (.inr (.inr (.inr (.inr (.inr (.inr (zp e)))))))),λm e=>(h.ewa m e).sub c,h.inv⟩
theorem zo.cellF (h:zo w U F o T fc x)(j:Nat)(v:Value)(g:o+19<=j):zo (w.setCell ⟨F,j,none⟩ v) U F o T (fc.setIfInBounds j v) x:=by
 refine kW_ ?A0 ?_;exact w.setCell ⟨F,j,none⟩ v;have f:zao U U w ?A0:=(zao.refl U w).set h.fu j v;have c:Sub (zq U w) (zq U ?A0):=f.sub;have d:∀b,x.S b->(?A0).heap[b]? = w.heap[b]?:=λb e=>hO_ w ⟨F,j,none⟩ b v (h.su b e).2;exact⟨zbb h.blk v,by simpa using h.siz,λk d=>by
   rw[sI_,if_neg (by omega)];exact h.cel k d,h.fu,h.su,h.bnd.mono (by simp),h.tabs.sub c,h.etx.sub c,
  zu h.rsh (λq e=>d q (.inr (.inr (.inr (.inl (zp e)))))),λs m=>(h.esh s m).sub c,
  zu h.rtb (λq e=>d q (.inr (.inr (.inr (.inr (.inl (zp e))))))),λs m=>(h.etb s m).sub c,
  h.stk.keep c (λ_ _=>rfl) (λb e=>d b (by rcases e with e|e|e;exact .inl e;exact .inr (.inl e);exact .inr (.inr (.inl e)))),
  h.hdr.sub c,h.slt.sub c,zu h.rvo (λq e=>d q (.inr (.inr (.inr (.inr (.inr (.inl (zp e)))))))),h.tap.sub c,h.ems,
  zu h.rwa (λq e=>d q (.inr (.inr (.inr (.inr (.inr (.inr (zp e)))))))),λm e=>(h.ewa m e).sub c,h.inv⟩
structure FM where
 (x:Nat->NM) (bad:Int) (ga:Option Addr) (gc:Nat) (gs:List Sg)
 (aa:Option Addr) (ac:Nat) (aw:List MV) (ca:Option Addr) (cc:Nat) (cs:List Int)
def FM.v (m:FM):Fl:=⟨[(m.x 0).v,(m.x 1).v,(m.x 2).v,(m.x 3).v],⟨m.bad,gvs m.gs⟩,m.aw.map MV.c,m.cs⟩
structure zJ (w:World)(U:Nat->Bool)(F:Nat)(fc:Array Value)(m:FM):Prop where
 nd:∀i,i<4->zo w U F (i*19) 120 fc (m.x i)
 siz:fc.size=80
 nu:∀i:Nat,i<4->(m.x i).nu=i
 sep:∀i j,i<4->j<4->i≠j->∀b,(m.x i).S b->¬(m.x j).S b
 bad:-1<=m.bad/\m.bad<=3
 c76:fc[76]? = some (I_ m.bad)
 c77:fc[77]? = some (.slice m.ga m.gs.length m.gc)
 c78:fc[78]? = some (.slice m.aa m.aw.length m.ac)
 c79:fc[79]? = some (.slice m.ca m.cs.length m.cc)
 sg:zdj (zq U w) m.ga m.gc m.gs
 raw:w.ownsRow 0 66 19 (.slice m.aa m.aw.length m.ac) m.aw.length (zY m.aw)
 uaw:∀q,ob m.aa=some q->U q=true/\q≠F/\∀i,i<4->¬(m.x i).S q
 eaw:∀a∈m.aw,GM (zq U w) a
 law:m.aw.length<=400
 rco:w.ownsRow 0 67 1 (.slice m.ca m.cs.length m.cc) m.cs.length (iv m.cs)
 uco:∀q,ob m.ca=some q->U q=true/\q≠F/\(∀i,i<4->¬(m.x i).S q)/\ob m.aa≠some q
def FM.set (m:FM)(i:Nat)(y:NM):FM:={ m with x:=λj=>if j=i then y else m.x j }
theorem FM.set_here (m:FM)(i:Nat)(y:NM):(m.set i y).x i=y:=if_pos rfl
theorem FM.set_there (m:FM){i j:Nat}(y:NM)(h:j≠i):(m.set i y).x j=m.x j:=if_neg h
theorem FM.set_v (m:FM)(i:Nat)(y:NM)(b:i<4):(m.set i y).v=m.v.set i y.v:=by
 have:i=0\/i=1\/i=2\/i=3:=by omega
 rcases this with e|e|e|e<;>subst e<;>rfl
theorem FM.node_v (m:FM)(i:Nat)(b:i<4):m.v.node i=(m.x i).v:=by
 have:i=0\/i=1\/i=2\/i=3:=by omega
 rcases this with e|e|e|e<;>subst e<;>rfl
structure FTo (U U':Nat->Bool)(w w':World):Prop where
 os:w'.os=w.os
 tape:w'.tape=w.tape
 output:w'.output=w.output
 size:w.heap.size<=w'.heap.size
 block:∀b,b<w.heap.size->U b=false->w'.heap[b]? = w.heap[b]?
 us:∀b,b<w.heap.size->U b=false->U' b=false
theorem FTo.refl (U:Nat->Bool)(w:World):FTo U U w w:=⟨rfl,rfl,rfl,nR_ _,λ_ _ _=>rfl,λ_ _ h=>h⟩
theorem FTo.trans {f:Nat->Bool}(h:FTo U U1 w w1)(k:FTo U1 f w1 w2):FTo U f w w2:=
 ⟨k.os.trans h.os,k.tape.trans h.tape,k.output.trans h.output,nT_ h.size k.size,
  λb c d=>(k.block b (nL_ c h.size) (h.us b c d)).trans (h.block b c d),
  λb c d=>k.us b (nL_ c h.size) (h.us b c d)⟩
theorem zao.fto (h:zao U U' w w'):FTo U U' w w':=⟨h.os,h.tape,h.output,h.size,h.block,λb c d=>(h.us b c).trans d⟩
theorem FTo.below (U:Nat->Bool)(h:B_ w w'):FTo U U w w':=(zao.below U h).fto
theorem FTo.sub (h:FTo U U' w w'):Sub (zq U w) (zq U' w'):=by
 refine⟨by rw[zch,zch];exact h.size,λa v e=>?_⟩;obtain⟨d,b⟩:=zhJ e;have c:=World.block_lt_of_cell? _ _ b;rw[cB_ (zdr (h.us _ c d)),cB_ (h.block _ c d)];exact b
theorem FTo.box (h:FTo U U' w w'){b:Nat}{d:Obj}(c:w.heap[b]? = some d)(f:U b=false):w'.heap[b]? = some d:=(h.block b (ze c) f).trans c
theorem FTo.owns (h:FTo U U' w w'){base n:Nat}{e:TypeId}{s:Nat}{v:Value}{c:List Value}(b:w.ownsRow base e s v n c)(d:∀q,v.ownBlock=some q->U q=false):w'.ownsRow base e s v n c:=zu b (λq e=>h.block q (b.lt q e).2 (d q e))
def zaa (w:World)(U:Nat->Bool)(F:Nat)(w':World)(f:Fl):Prop:=
 ∃U' fc' m',zJ w' U' F fc' m'/\FTo U U' w w'/\m'.v=f
theorem zaa.refl {m:FM}(h:zJ w U F fc m):zaa w U F w m.v:=⟨U,fc,m,h,FTo.refl _ _,rfl⟩
theorem zaa.after {f:Fl}(k:FTo U U1 w w1)(h:zaa w1 U1 F w' f):zaa w U F w' f:=by
 obtain⟨b,c,l,d,g,j⟩:=h;exact⟨b,c,l,d,k.trans g,j⟩
theorem zJ.below {m:FM}(h:zJ w U F fc m)(b:B_ w w'):zJ w' U F fc m:=
 have c:Sub (zq U w) (zq U w'):=(zao.below U b).sub
 ⟨λi f=>(h.nd i f).below b,h.siz,h.nu,h.sep,h.bad,h.c76,h.c77,h.c78,h.c79,h.sg.sub c,zw h.raw b,h.uaw,λa d=>(h.eaw a d).sub c,h.law,zw h.rco b,h.uco⟩
theorem zaa.quiet {m:FM}(h:zJ w U F fc m)(b:B_ w w'):zaa w U F w' m.v:=⟨U,fc,m,h.below b,FTo.below U b,rfl⟩
theorem zJ.node {m:FM}(h:zJ w U F fc m){i:Nat}(l:i<4){y:NM}(B:zo w' U' F (i*19) 120 fc' y)(n:NTo U U' w w' F (i*19) fc fc' (m.x i) y)(G:y.nu=i):zJ w' U' F fc' (m.set i y):=by
 have A:Sub (zq U w) (zq U' w'):=n.sub (h.nd i l);have z:∀j,j<4->∀b,(m.x j).S b->b<w.heap.size:=λj f b e=>(h.nd j f).bnd b ((h.nd j f).su b e).1;have s:∀k,76<=k->fc'[k]? = fc[k]?:=λk r=>n.far k (.inr (by omega));have H:∀q,ob m.aa=some q->w'.heap[q]? = w.heap[q]?:=λq e=>by
  obtain⟨a,b,c⟩:=h.uaw q e;exact n.block q ((h.nd i l).bnd q a) (c i l) b
 have I:∀q,ob m.ca=some q->w'.heap[q]? = w.heap[q]?:=λq e=>by
  obtain⟨a,b,c,_⟩:=h.uco q e;exact n.block q ((h.nd i l).bnd q a) (c i l) b
 have C:∀q,q<w.heap.size->(∀j,j<4->¬(m.x j).S q)->∀j,j<4->¬((m.set i y).x j).S q:=λq p u j f=>by
  by_cases e:j=i
  .subst e;rw[FM.set_here];intro D;rcases n.new q D with g|g
   .exact u j f g
   .omega
  .rw[FM.set_there _ _ e];exact u j f
 refine⟨λj f=>?_,by rw[n.fsz];exact h.siz,λj f=>?_,λj k f r t b o=>?_,h.bad,by rw[s 76 (by omega)];exact h.c76,by rw[s 77 (by omega)];exact h.c77,by rw[s 78 (by omega)];exact h.c78,by rw[s 79 (by omega)];exact h.c79,h.sg.sub A,
  zu h.raw (λq e=>H q (zp e)),λq e=>?_,λa E=>(h.eaw a E).sub A,h.law,zu h.rco (λq e=>I q (zp e)),λq e=>?_⟩
 .by_cases e:j=i
  .subst e;rw[FM.set_here];exact B
  .rw[FM.set_there _ _ e];exact(h.nd i l).other B n (h.nd j f) (h.sep j i f l e) (by omega)
 .by_cases e:j=i
  .subst e;rw[FM.set_here];exact G
  .rw[FM.set_there _ _ e];exact h.nu j f
 .by_cases e1:j=i
  .subst e1;rw[FM.set_here]at o;rw[FM.set_there _ _ (λe=>t e.symm)];intro g;rcases n.new b o with k1|k1
   .exact h.sep j k f r t b k1 g
   .have:=z k r b g;omega
  .rw[FM.set_there _ _ e1]at o;by_cases e2:k=i
   .subst e2;rw[FM.set_here];intro g;rcases n.new b g with k1|k1
    .exact h.sep j k f r t b o k1
    .have:=z j f b o;omega
   .rw[FM.set_there _ _ e2];exact h.sep j k f r t b o
 .obtain⟨a,b,c⟩:=h.uaw q e;have p:=(h.nd i l).bnd q a;exact⟨by rw[n.us q p];exact a,b,C q p c⟩
 .obtain⟨a,b,c,d⟩:=h.uco q e;have p:=(h.nd i l).bnd q a;exact⟨by rw[n.us q p];exact a,b,C q p c,d⟩
theorem zJ.acts {m:FM}(h:zJ w U F fc m){i:Nat}(b:i<4){n:Nd}(l:zal w U F (i*19) 120 fc (m.x i) w' n)(o:n.nu=i):zaa w U F w' (m.v.set i n):=by
 obtain⟨f,g,y,j,c,d⟩:=l;refine⟨f,g,m.set i y,h.node b j c (by rw[<-o,<-d];rfl),(c.goes (h.nd i b)).fto,?_⟩;rw[FM.set_v m i y b,d]
theorem zJ.cell {m:FM}(h:zJ w U F fc m)(j:Nat){v:Value}(b:fc[j]? = some v):w.cell? ⟨F,j,none⟩=some v:=zb (h.nd 0 (by decide)).blk j v b
theorem zJ.free {m:FM}(h:zJ w U F fc m)(j:Nat):w.frozen? ⟨F,j,none⟩=false:=zd (h.nd 0 (by decide)).blk j
theorem zJ.bnd {m:FM}(h:zJ w U F fc m):Bnd U w:=(h.nd 0 (by decide)).bnd
theorem zJ.fu {m:FM}(h:zJ w U F fc m):U F=true:=(h.nd 0 (by decide)).fu
theorem zJ.later {m:FM}(_:zJ w U F fc m)(b:B_ w w'):Sub (zq U w) (zq U w'):=(zao.below U b).sub
theorem zo.less {f:Nat->Bool}(h:zo w U F o T fc x)(l:∀b,f b=true->U b=true)(q:f F=true)(r:∀b,x.S b->f b=true):zo w f F o T fc x:=by
 have no:∀b,U b=false->f b=false:=λb g=>by
  cases e:f b with
  | false=>rfl
  | true=>rw[l b e]at g;cases g
 have d:Sub (zq U w) (zq f w):=FTo.sub ⟨rfl,rfl,rfl,nR_ _,λ_ _ _=>rfl,λb _ g=>no b g⟩;exact⟨h.blk,h.siz,h.cel,q,λb e=>⟨r b e,(h.su b e).2⟩,λb e=>h.bnd b (l b e),h.tabs.sub d,h.etx.sub d,h.rsh,λs m=>(h.esh s m).sub d,h.rtb,λs m=>(h.etb s m).sub d,
  ⟨h.stk.box,h.stk.rc,h.stk.rd,λc j=>(h.stk.ec c j).sub d,λp t=>(h.stk.ed p t).sub d,h.stk.same,λc j b g=>no b (h.stk.ic c j b g)⟩,
  h.hdr.sub d,h.slt.sub d,h.rvo,h.tap.sub d,h.ems,h.rwa,λm e=>(h.ewa m e).sub d,h.inv⟩
def zdx (U:Nat->Bool)(q:Option Nat)(b:Nat):Bool:=U b&&decide (q≠some b)
theorem zjV (U:Nat->Bool)(q:Option Nat)(w:World):FTo U (zdx U q) w w:=⟨rfl,rfl,rfl,nR_ _,λ_ _ _=>rfl,λb _ c=>by simp[zdx,c]⟩
theorem zlK (U:Nat->Bool)(b:Nat):zdx U (some b) b=false:=by simp[zdx]
theorem zJ.shows {m:FM}(h:zJ w U F fc m)(q:Option Nat)(o:q≠some F)(p:∀i,i<4->∀b,q=some b->¬(m.x i).S b)(r:∀b,q=some b->ob m.aa≠some b)(s:∀b,q=some b->ob m.ca≠some b):zJ w (zdx U q) F fc m:=by
 have f:Sub (zq U w) (zq (zdx U q) w):=(zjV U q w).sub;have on:∀b,U b=true->q≠some b->zdx U q b=true:=λb j l=>by simp[zdx,j,l]
 exact⟨λi c=>(h.nd i c).less (λb d=>by simp only[zdx,Bool.and_eq_true]at d;exact d.1) (on F h.fu o) (λb e=>on b ((h.nd i c).su b e).1 (λg=>p i c b g e)),
  h.siz,h.nu,h.sep,h.bad,h.c76,h.c77,h.c78,h.c79,h.sg.sub f,h.raw,λb e=>⟨on b (h.uaw b e).1 (λg=>r b g e),(h.uaw b e).2⟩,λa e=>(h.eaw a e).sub f,h.law,h.rco,
  λb e=>⟨on b (h.uco b e).1 (λg=>s b g e),(h.uco b e).2⟩⟩
variable {m:FM}{a':Option Addr}{c':Nat}
theorem zJ.nodes (h:zJ w U F fc m)(g:zao U U' w w2)(l:Bnd U' w2)(d:w2.heap[F]? = w.heap[F]?)(f:∀i,i<4->∀b,(m.x i).S b->w2.heap[b]? = w.heap[b]?)(j:Nat)(v:Value)(o:76<=j):∀i,i<4->zo (w2.setCell ⟨F,j,none⟩ v) U' F (i*19) 120 (fc.setIfInBounds j v) (m.x i):=
 λi c=>((h.nd i c).goes g d (f i c) l).cellF j v (by omega)
theorem zJ.more_aw {l':List MV}(h:zJ w U F fc m)(G:zV w (.slice m.aa m.aw.length m.ac) w2 (.slice a' l'.length c'))(r:w2.ownsRow 0 66 19 (.slice a' l'.length c') l'.length (zY l'))(C:∀s∈l',GM (zq (zaF U (ob a')) w2) s)(D:l'.length<=400):zaa w U F (w2.setCell ⟨F,78,none⟩ (.slice a' l'.length c')) { m.v with away:=l'.map MV.c }:=by
 have H:∀q,(Value.slice m.aa m.aw.length m.ac).ownBlock=some q->U q=true:=λq e=>(h.uaw q (zp e)).1;have f:zao U (zaF U (ob a')) w w2:=by
  have:=(zao.refl U w).grew G H
  rwa [zdb]at this
 have y:Bnd (zaF U (ob a')) w2:=by
  have:=h.bnd.grew G.grown.size r
  rwa [zdb]at this
 have keep:∀b,b<w.heap.size->ob m.aa≠some b->w2.heap[b]? = w.heap[b]?:=λb B E=>G.grown.block b B (λe=>E (zp e.symm));have z:F<w.heap.size:=ze (h.nd 0 (by decide)).blk;have j:ob m.aa≠some F:=λe=>(h.uaw F e).2.1 rfl;have p:∀i,i<4->∀b,(m.x i).S b->b<w.heap.size:=λi c b e=>h.bnd b ((h.nd i c).su b e).1;have o:∀i,i<4->∀b,(m.x i).S b->ob m.aa≠some b:=λi c b e g=>(h.uaw b g).2.2 i c e;have d:∀q,ob a'=some q->ob m.aa=some q\/w.heap.size<=q:=λq e=>by
  rcases G.fresh q (zaK _ _ e)with k|k
  .exact .inl (zp k)
  .exact .inr k
 have u:∀q,ob a'=some q->q≠F:=λq e g=>by
  rcases d q e with k|k
  .rw[g]at k;exact j k
  .omega
 refine kW_ ?A0 ?_;exact w2.setCell ⟨F,78,none⟩ (.slice a' l'.length c');have I:Sub (zq U w) (zq (zaF U (ob a')) ?A0):=(f.set (zaB h.fu) 78 _).sub;have J:zq (zaF U (ob a')) ?A0=zq (zaF U (ob a')) w2:=zb3 (zaB h.fu) _ _;refine⟨zaF U (ob a'),fc.setIfInBounds 78 (.slice a' l'.length c'),{ m with aa:=a',ac:=c',aw:=l' },⟨?_,by simpa using h.siz,h.nu,h.sep,h.bad,?_,?_,?_,?_,h.sg.sub I,zaQ r F 78 _ (λe=>u F (zp e) rfl),?_,λa A=>by rw[J];exact C a A,D,?_,?_⟩,(f.set (zaB h.fu) 78 _).fto,rfl⟩
 .exact h.nodes f y (keep F z j) (λi c b e=>keep b (p i c b e) (o i c b e)) 78 _ (by omega)
 .rw[sI_,if_neg (by decide)];exact h.c76
 .rw[sI_,if_neg (by decide)];exact h.c77
 .rw[sI_,if_pos rfl,if_pos (by rw[h.siz];decide)]
 .rw[sI_,if_neg (by decide)];exact h.c79
 .intro q e;refine⟨zeM e,u q e,λi c l=>?_⟩;rcases d q e with k|k
  .exact o i c q l k
  .have:=p i c q l;omega
 .refine zaQ (zu h.rco (λq e=>?_)) F 78 _ (λe=>(h.uco F (zp e)).2.1 rfl);have k:=h.uco q (zp e);exact keep q (h.bnd q k.1) k.2.2.2
 .intro q e;obtain⟨t,L,M,N⟩:=h.uco q e;refine⟨zaB t,L,M,λg=>?_⟩;rcases d q g with k|k
  .exact N k
  .have:=h.bnd q t;omega
theorem zJ.more_co {l':List Int}(h:zJ w U F fc m)(G:zV w (.slice m.ca m.cs.length m.cc) w2 (.slice a' l'.length c'))(r:w2.ownsRow 0 67 1 (.slice a' l'.length c') l'.length (iv l')):zaa w U F (w2.setCell ⟨F,79,none⟩ (.slice a' l'.length c')) { m.v with codes:=l' }:=by
 have C:∀q,(Value.slice m.ca m.cs.length m.cc).ownBlock=some q->U q=true:=λq e=>(h.uco q (zp e)).1;have f:zao U (zaF U (ob a')) w w2:=by
  have:=(zao.refl U w).grew G C
  rwa [zdb]at this
 have u:Bnd (zaF U (ob a')) w2:=by
  have:=h.bnd.grew G.grown.size r
  rwa [zdb]at this
 have keep:∀b,b<w.heap.size->ob m.ca≠some b->w2.heap[b]? = w.heap[b]?:=λb A B=>G.grown.block b A (λe=>B (zp e.symm));have y:F<w.heap.size:=ze (h.nd 0 (by decide)).blk;have j:ob m.ca≠some F:=λe=>(h.uco F e).2.1 rfl;have p:∀i,i<4->∀b,(m.x i).S b->b<w.heap.size:=λi c b e=>h.bnd b ((h.nd i c).su b e).1;have o:∀i,i<4->∀b,(m.x i).S b->ob m.ca≠some b:=λi c b e g=>(h.uco b g).2.2.1 i c e;have d:∀q,ob a'=some q->ob m.ca=some q\/w.heap.size<=q:=λq e=>by
  rcases G.fresh q (zaK _ _ e)with k|k
  .exact .inl (zp k)
  .exact .inr k
 have t:∀q,ob a'=some q->q≠F:=λq e g=>by
  rcases d q e with k|k
  .rw[g]at k;exact j k
  .omega
 have s:Sub (zq U w) (zq (zaF U (ob a')) (w2.setCell ⟨F,79,none⟩ (.slice a' l'.length c'))):=(f.set (zaB h.fu) 79 _).sub;refine⟨zaF U (ob a'),fc.setIfInBounds 79 (.slice a' l'.length c'),{ m with ca:=a',cc:=c',cs:=l' },⟨?_,by simpa using h.siz,h.nu,h.sep,h.bad,?_,?_,?_,?_,h.sg.sub s,?_,?_,λa z=>(h.eaw a z).sub s,h.law,zaQ r F 79 _ (λe=>t F (zp e) rfl),?_⟩,(f.set (zaB h.fu) 79 _).fto,rfl⟩
 .exact h.nodes f u (keep F y j) (λi c b e=>keep b (p i c b e) (o i c b e)) 79 _ (by omega)
 .rw[sI_,if_neg (by decide)];exact h.c76
 .rw[sI_,if_neg (by decide)];exact h.c77
 .rw[sI_,if_neg (by decide)];exact h.c78
 .rw[sI_,if_pos rfl,if_pos (by rw[h.siz];decide)]
 .refine zaQ (zu h.raw (λq e=>?_)) F 79 _ (λe=>(h.uaw F (zp e)).2.1 rfl);have k:=h.uaw q (zp e);exact keep q (h.bnd q k.1) (λg=>(h.uco q g).2.2.2 (zp e))
 .intro q e;obtain⟨D,E,H⟩:=h.uaw q e;exact⟨zaB D,E,H⟩
 .intro q e;refine⟨zeM e,t q e,λi c l=>?_,λg=>?_⟩
  .rcases d q e with k|k
   .exact o i c q l k
   .have:=p i c q l;omega
  .rcases d q e with k|k
   .exact(h.uco q k).2.2.2 g
   .have:=h.bnd q (h.uaw q g).1;omega
theorem zJ.put_sg {l':List Sg}(h:zJ w U F fc m)(d:B_ w w2)(j:zdj (zq U w2) a' c' l'):zaa w U F (w2.setCell ⟨F,77,none⟩ (.slice a' l'.length c')) { m.v with no:=⟨m.bad,gvs l'⟩ }:=by
 have b:=h.below d;refine kW_ ?A0 ?_;exact w2.setCell ⟨F,77,none⟩ (.slice a' l'.length c');have c:zao U U w2 ?A0:=(zao.refl U w2).set h.fu 77 _;have f:Sub (zq U w2) (zq U ?A0):=c.sub;refine⟨U,fc.setIfInBounds 77 (.slice a' l'.length c'),{ m with ga:=a',gc:=c',gs:=l' },⟨λi l=>(b.nd i l).cellF 77 _ (by omega),by simpa using h.siz,h.nu,h.sep,h.bad,?_,?_,?_,?_,j.sub f,zaQ b.raw F 77 _ (λe=>(h.uaw F (zp e)).2.1 rfl),h.uaw,λa g=>(b.eaw a g).sub f,h.law,zaQ b.rco F 77 _ (λe=>(h.uco F (zp e)).2.1 rfl),h.uco⟩,((zao.below U d).trans c).fto,rfl⟩
 .rw[sI_,if_neg (by decide)];exact h.c76
 .rw[sI_,if_pos rfl,if_pos (by rw[h.siz];decide)]
 .rw[sI_,if_neg (by decide)];exact h.c78
 .rw[sI_,if_neg (by decide)];exact h.c79
theorem zJ.none_aw (h:zJ w U F fc m):∃l,zJ (w.setCell ⟨F,78,none⟩ (O_)) (zdx U (ob m.aa)) F l { m with aa:=none,ac:=0,aw:=[] }/\FTo U (zdx U (ob m.aa)) w (w.setCell ⟨F,78,none⟩ (O_))/\(w.setCell ⟨F,78,none⟩ (O_)).ownsRow 0 66 19 (.slice m.aa m.aw.length m.ac) m.aw.length (zY m.aw)/\(∀q,ob m.aa=some q->zdx U (ob m.aa) q=false)/\∀a∈m.aw,GM (zq (zdx U (ob m.aa)) (w.setCell ⟨F,78,none⟩ (O_))) a:=by
 refine kW_ ?A0 ?_;exact w.setCell ⟨F,78,none⟩ (O_);have c:zao U U w ?A0:=(zao.refl U w).set h.fu 78 _;have p:=c.sub;have j:∀q,ob m.aa=some q->q≠F:=λq e=>(h.uaw q e).2.1;have o:zJ ?A0 U F (fc.setIfInBounds 78 (O_)) { m with aa:=none,ac:=0,aw:=[] }:=by
  refine⟨λi f=>(h.nd i f).cellF 78 _ (by omega),by simpa using h.siz,h.nu,h.sep,h.bad,?_,?_,?_,?_,h.sg.sub p,oN_ _ _ _ _,(λq e=>by cases e),(λa d=>by cases d),nZ_ _,zaQ h.rco F 78 _ (λe=>(h.uco F (zp e)).2.1 rfl),λq e=>⟨(h.uco q e).1,(h.uco q e).2.1,(h.uco q e).2.2.1,λg=>by cases g⟩⟩
  .rw[sI_,if_neg (by decide)];exact h.c76
  .rw[sI_,if_neg (by decide)];exact h.c77
  .rw[sI_,if_pos rfl,if_pos (by rw[h.siz];decide)];rfl
  .rw[sI_,if_neg (by decide)];exact h.c79
 have k:=zjV U (ob m.aa) ?A0;refine⟨_,o.shows (ob m.aa) (λe=>j F e rfl) (λi f b e=>(h.uaw b e).2.2 i f) (λb _ g=>by cases g) (λb e g=>(h.uco b g).2.2.2 e),c.fto.trans k,zaQ h.raw F 78 _ (λe=>j F (zp e) rfl),λq e=>by rw[e];exact zlK U q,λa d=>(h.eaw a d).sub (c.fto.trans k).sub⟩
def zd4 (cur:Array Value):Nat->List Value->Array Value
 | _,[]=>cur
 | o,v::r=>zd4 (cur.setIfInBounds o v) (o+1) r
theorem zcW (c:List Value)(b:Array Value)(o:Nat):(zd4 b o c).size=b.size:=by
 induction c generalizing b o with
 | nil=>rfl
 | cons v r ih=>rw[zd4,ih];simp
theorem zdP (c:List Value)(b:Array Value)(o j:Nat)(h:j<o\/o+c.length<=j):(zd4 b o c)[j]? = b[j]?:=by
 induction c generalizing b o with
 | nil=>rfl
 | cons v r ih=>
  rw[zd4,ih _ _ (by simp only[List.length_cons]at h;omega),sI_,if_neg (by simp only[List.length_cons]at h;omega)]
theorem zg8 (b:List Value)(c:Array Value)(o i:Nat)(d:i<b.length)(f:o+b.length<=c.size):(zd4 c o b)[o+i]? = b[i]?:=by
 induction b generalizing c o i with
 | nil=>simp at d
 | cons v r ih=>
  simp only[List.length_cons]at d f;rw[zd4];cases i with
  | zero=>
   rw[zdP _ _ _ _ (.inl (by omega)),sI_]
   simp
   omega
  | succ i=>
   rw[show o+(i+1)=o+1+i by omega,ih _ _ _ (by omega) (by simp;omega)]
   simp
theorem zb7 {g:Nat}{t:TypeId}(c:List Value)(w:World)(b:Array Value)(o:Nat)(h:w.heap[g]? = some (.cells b t (0,0))):(w.setCells g o c).heap[g]? = some (.cells (zd4 b o c) t (0,0)):=by
 induction c generalizing w b o with
 | nil=>exact h
 | cons v r ih=>exact ih _ _ _ (hS_ _ _ o _ _ v h)
theorem zbl {g b:Nat}(c:List Value)(w:World)(o:Nat)(d:b≠g):(w.setCells g o c).heap[b]? = w.heap[b]?:=by
 induction c generalizing w o with
 | nil=>rfl
 | cons v r ih=>exact(ih _ _).trans (hO_ w ⟨g,o,none⟩ b v d)
theorem zgL (g:Nat)(b:List Value)(w:World)(o:Nat):(w.setCells g o b).heap.size=w.heap.size:=by
 induction b generalizing w o with
 | nil=>rfl
 | cons v r ih=>exact(ih _ _).trans (by simp)
theorem zer (g:Nat)(b:List Value)(w:World)(o:Nat):(w.setCells g o b).os=w.os/\(w.setCells g o b).tape=w.tape/\(w.setCells g o b).output=w.output:=by
 induction b generalizing w o with
 | nil=>exact⟨rfl,rfl,rfl⟩
 | cons v r ih=>exact ih _ _
theorem ziq (g:Nat)(b:List Value)(w:World)(o:Nat):w.grownBy (w.setCells g o b) (some g):=
 ⟨(zer g b w o).1,(zer g b w o).2.1,(zer g b w o).2.2,by rw[zgL];exact nR_ _,λk _ c=>zbl b w o (λe=>c (by rw[e]))⟩
theorem zir (w:World)(t e ty:TypeId)(z:Value)(q:prog.underlying t=some (.slice e))(r:∀w,(zeroValue e).run prog w=.ok z w)(b o n c:Nat)(u:0<n)(d:List Value)(s:(Builtin.zeroCells z.cells n).toList=d)
  (l:∀j,j<d.length->(w.cell? ⟨b,o+j,none⟩).isSome=true) (p:∀j,j<d.length->w.frozen? ⟨b,o+j,none⟩=false) (g:∀v∈d,v.oneCell'=true) :
  (Builtin.clear_ #[t] ty #[.slice (some ⟨b,o,none⟩) n c]).run prog w=.ok (.tuple #[]) (w.setCells b o d):=by
 have f:=run_storeCells_cells (P:=prog) b o d 0 w (by simpa using l) (by simpa using p) g;simp only[Nat.add_zero]at f;obtain⟨m,rfl⟩:∃m,n=m+1:=⟨n-1,by omega⟩;simp[Builtin.clear_,run_underlying q,r,s,f]
theorem zo.moved {L u:Nat}{j:TypeId}{r:Array Value}{y:NM}(c:zo w U L u j r y)(g:zao U U w w')(f:∀b,y.S b->w'.heap[b]? = w.heap[b]?)(l:R_ w' F fc' T)(z:o+19<=fc'.size)(p:zio fc' o y)(t:U F=true)(A:∀b,y.S b->b≠F):zo w' U F o T fc' y:=by
 have d:Sub (zq U w) (zq U w'):=g.sub;exact⟨l,z,p,t,λb e=>⟨(c.su b e).1,A b e⟩,c.bnd.mono g.size,c.tabs.sub d,c.etx.sub d,
  zu c.rsh (λq e=>f q (.inr (.inr (.inr (.inl (zp e)))))),λs m=>(c.esh s m).sub d,
  zu c.rtb (λq e=>f q (.inr (.inr (.inr (.inr (.inl (zp e))))))),λs m=>(c.etb s m).sub d,
  c.stk.keep d (λ_ _=>rfl) (λb e=>f b (by rcases e with e|e|e;exact .inl e;exact .inr (.inl e);exact .inr (.inr (.inl e)))),
  c.hdr.sub d,c.slt.sub d,zu c.rvo (λq e=>f q (.inr (.inr (.inr (.inr (.inr (.inl (zp e)))))))),c.tap.sub d,c.ems,
  zu c.rwa (λq e=>f q (.inr (.inr (.inr (.inr (.inr (.inr (zp e)))))))),λm e=>(c.ewa m e).sub d,c.inv⟩
theorem zrT (f:U F=true)(w:World)(o:Nat)(c:List Value):zao U U w (w.setCells F o c):=
 ⟨(zer F c w o).1,(zer F c w o).2.1,(zer F c w o).2.2,by rw[zgL];exact nR_ _,λb _ d=>zbl c w o (λe=>by rw[e,f]at d;cases d),λ_ _=>rfl⟩
theorem zJ.put_node {L:Nat}{V:Array Value}(h:zJ w U F fc m){i:Nat}(hi:i<4){y:NM}(O:zo w' U' L 0 117 V y)(B:∀b,b<w.heap.size->U' b=U b)(s:∀b,y.S b->w.heap.size<=b)(o:B_ w w')(ab:y.nu=i):zaa w U F (w'.setCells F (i*19) y.cs) (m.v.set i y.v):=by
 have G:F<w.heap.size:=ze (h.nd 0 (by decide)).blk;have J:zao U U' w w':=⟨o.os,o.tape,o.output,o.size,λb I _=>o.block b I,B⟩;have D:U' F=true:=(B F G).trans h.fu;have E:=zrT D w' (i*19) y.cs;have M:zao U U' w (w'.setCells F (i*19) y.cs):=J.trans E;have Z:=(o.block F G).trans (h.nd 0 (by decide)).blk;have T:=zb7 y.cs w' fc (i*19) Z;have z:y.cs.length=19:=rfl;have keep:∀b,b<w.heap.size->b≠F->(w'.setCells F (i*19) y.cs).heap[b]? = w.heap[b]?:=λb I A=>(zbl y.cs w' (i*19) A).trans (o.block b I);have H:∀j,j<4->∀b,(m.x j).S b->b<w.heap.size:=λj l b e=>h.bnd b ((h.nd j l).su b e).1;have N:=M.sub;have C:∀k,76<=k->(zd4 fc (i*19) y.cs)[k]? = fc[k]?:=λk p=>zdP _ _ _ _ (.inr (by rw[z];omega));have R:∀q,q<w.heap.size->(∀j,j<4->¬(m.x j).S q)->∀j,j<4->¬((m.set i y).x j).S q:=λq r hn j l=>by
  by_cases e:j=i
  .subst e;rw[FM.set_here];intro X;have:=s q X;omega
  .rw[FM.set_there _ _ e];exact hn j l
 refine⟨U',zd4 fc (i*19) y.cs,m.set i y,⟨λj l=>?_,by rw[zcW];exact h.siz,λj l=>?_,λj k l p A b f=>?_,h.bad,by rw[C 76 (by omega)];exact h.c76,by rw[C 77 (by omega)];exact h.c77,by rw[C 78 (by omega)];exact h.c78,by rw[C 79 (by omega)];exact h.c79,h.sg.sub N,zu h.raw (λq e=>?_),λq e=>?_,λa Y=>(h.eaw a Y).sub N,h.law,zu h.rco (λq e=>?_),λq e=>?_⟩,M.fto,FM.set_v m i y hi⟩
 .by_cases e:j=i
  .subst e;rw[FM.set_here];refine O.moved E (λb f=>zbl y.cs w' (j*19) (λt=>by have:=s b f;omega)) T (by rw[zcW,h.siz];omega) (λk p=>?_) D (λb f t=>by have:=s b f;omega);rw[zg8 y.cs fc (j*19) k (by rw[z];exact p) (by rw[z,h.siz];omega)]
  .rw[FM.set_there _ _ e];have u:=h.nd j l;have aa:zo w' U' F (j*19) 120 fc (m.x j):=u.goes J (o.block F G) (λb f=>o.block b (H j l b f)) O.bnd;refine aa.moved E (λb f=>zbl y.cs w' (i*19) (u.su b f).2) T (by rw[zcW,h.siz];omega) (λk p=>?_) D (λb f=>(u.su b f).2);rw[zdP _ _ _ _ (by rw[z];omega)];exact u.cel k p
 .by_cases e:j=i
  .subst e;rw[FM.set_here];exact ab
  .rw[FM.set_there _ _ e];exact h.nu j l
 .by_cases e1:j=i
  .subst e1;rw[FM.set_here]at f;rw[FM.set_there _ _ (λe=>A e.symm)];intro g;have:=s b f;have:=H k p b g;omega
  .rw[FM.set_there _ _ e1]at f;by_cases t:k=i
   .subst t;rw[FM.set_here];intro g;have:=s b g;have:=H j l b f;omega
   .rw[FM.set_there _ _ t];exact h.sep j k l p A b f
 .have k:=h.uaw q (zp e);exact keep q (h.bnd q k.1) k.2.1
 .obtain⟨a,b,c⟩:=h.uaw q e;have r:=h.bnd q a;exact⟨(B q r).trans a,b,R q r c⟩
 .have k:=h.uco q (zp e);exact keep q (h.bnd q k.1) k.2.1
 .obtain⟨a,b,c,d⟩:=h.uco q e;have r:=h.bnd q a;exact⟨(B q r).trans a,b,R q r c,d⟩
variable {ops:Array Oper}{Q:Exit->Act->World->Prop}{a:Act}{K:Act->World->Prop}{E:Prop}
theorem zX {o:Oper}
  (d:o.guard=none) (c:o.dst=none) (w':World) (f:(execOp a.eval o).run prog w=.ok .skip w') (b:K a w') :
  if Region.wanted o (yielded ops a.tmps)=true then Oper.wp prog o a w K Q else E:=by
 have g:Region.wanted o (yielded ops a.tmps)=true:=by simp[Region.wanted,d]
 rw[if_pos g];unfold Oper.wp;rw[f,Oper.upon_skip,c];exact b
theorem zaz {o:Oper}
  (F:o.guard=none) (d:Nat) (D:o.dst=some d) (s x:Operand) (t:TypeId) (J:o.op=.call { callee:=.builtin .append,args:=#[s,x],argTypes:=#[t,t] })
  (base:Nat) (e:TypeId) (i:TypeInfo) (z:Value) (size g:Nat) (R:prog.underlying t=some (.slice e)) (G:prog.info? e=some i) (U:i.zero=some z)
  (N:i.size=size) (B:i.bytes=g) (V:z.cells.size=size) (O:0<size)
  (v:Value) (n:Nat) (p:List Value) (M:a.eval s=v) (L:w.ownsRow base e size v n p)
  (f:Addr) (m c:Nat) (b:List Value) (T:a.eval x=.slice (some f) m c) (H:b.length=m*size) (I:∀j u,b[j]? = some u->w.cell? (f.add j)=some u) (q:∀u∈b,u.oneCell'=true)
  (r:n+m<=maxLen) (C:(n+m)*g<=140737488355328) (A:base<=w.heap.size)
  (y:∀l w',w'.ownsRow base e size l (n+m) (p++b)->zV w v w' l->K (a.put (some d) l) w') :
  if Region.wanted o (yielded ops a.tmps)=true then Oper.wp prog o a w K Q else E:=
 zcc F s x t J base e i z size g R G U N B V O v n p M L f m c b T H I q r C A (by rw[D];exact y)
def Msg.ft (m:Msg)(a b:Int):Msg:={ m with fr:=a,tt:=b }
def MV.ft (x:MV)(a b:Int):MV:={ x with m:=x.m.ft a b }
theorem MV.ft_c (x:MV)(a b:Int):(x.ft a b).c=x.c.ft a b:=rfl
theorem MV.ft_at {x:MV}(h:MAt w x)(a b:Int):MAt w (x.ft a b):=⟨⟨h.at'.e1,h.at'.e2,h.at'.e3,h.at'.e4,h.at'.e5,h.at'.e6,h.at'.s1,h.at'.s6,h.at'.s7,h.at'.txs,h.at'.bat,h.at'.par,h.at'.cbat,h.at'.cpar,h.at'.vot⟩,h.dig,h.dn⟩
theorem GM.ft {x:MV}(h:GM w x){a b:Int}(f:0<=a/\a<4)(g:0<=b/\b<4):GM w (x.ft a b):=by
 obtain⟨_,_,c,d⟩:=zcB h.ok;exact⟨MV.ft_at h.lies a b,zh0 f g c ((zrl x.m a b).trans d),h.u8,⟨h.shp.b,h.shp.h,h.shp.c⟩⟩
theorem zeN (x:NM)(m:MV)(c:Int)(w:World)(U:Nat->Bool)(F o:Nat)(T:TypeId)(X:Array Value)(h:zo w U F o T X x)(hm:GM (zq U w) m)(ht:0<=c/\c<4) :
  Calls prog 146 #[P_ F o,I_ c,.agg (mrow_ m.m)] w λe w'=>(∃v,e=.returned v)/\zal w U F o T X x w' (x.v.send c m.c):=by
 have M:=zC w (.cells (mrow_ m.m) 66);have C:=hN_ w (.cells (mrow_ m.m) 66);go_in;go_upto_region 1 with fail
 generalize w.alloc (.cells (mrow_ m.m) 66)=V at M C|-;have h0:=h.below M;have ag:∀P:Prop,¬(U w.heap.size=true/\P):=λP k=>by have aq:=h.bnd.new (nR_ _);rw[aq]at k;cases k.1
 have af:w.heap.size≠F:=λe=>by have:=h.bnd F h.fu;omega
 generalize Z:w.heap.size=B at C ag af|-;have HB:Hid (w.heap.size=B):=Z;refine kW_ ?A0 ?_;exact(V.setCell ⟨B,0,none⟩ (I_ x.nu)).setCell ⟨B,1,none⟩ (I_ c);have Y:B_ w ?A0:=(M.setCell (Nat.le_of_eq Z) _).setCell (Nat.le_of_eq Z) _;clear Z;have q1:(?A0).heap[B]? = some (.cells (mrow_ (m.ft x.nu c).m) 66 (0,0)):=by
  simpa[MV.ft,Msg.ft]using hS_ _ _ 1 _ _ (I_ c) (hS_ _ _ 0 _ _ (I_ x.nu) C)
 have c0:V.cell? ⟨F,o,none⟩=some (I_ x.nu):=h0.cell 0 _ rfl;have an:=h0.cell 17 _ rfl;by_cases e1:c=x.nu
 .have L:Hid (x.v.send c m.c=x.v):=if_pos (.inl e1);subst e1;clear Y q1;go_wp2_with fail
  refine bP_ (results_none rfl _ _ _) rfl ?_;exact⟨⟨_,rfl⟩,by rw[L.out];exact zal.quiet h M⟩
 refine kO_ ?B0 ?_;exact Obj.cells (mrow_ (m.ft x.nu c).m) 66;refine kV_ ?C0 ?_;exact Value.slice x.wa x.wai.length x.wc
 .have ay:(c == x.nu)=false:=by simpa using e1
  by_cases e2:400<=x.wai.length
  .have L:Hid (x.v.send c m.c=x.v):=if_pos (.inr (by simpa[NM.v]using e2));have ao:(400:Int)<=x.wai.length:=by omega
   clear e2 e1 Y q1;go_wp2_with fail
   refine bP_ (results_none rfl _ _ _) rfl ?_;exact⟨⟨_,rfl⟩,by rw[L.out];exact zal.quiet h M⟩
  .have L:Hid (x.v.send c m.c={ x.v with wai:=x.v.wai++[m.c.ft x.nu c] }):=if_neg (by simp[NM.v];exact⟨e1,by omega⟩);have ao:¬(400:Int)<=x.wai.length:=by omega
   have b0:=zb C 0 _ rfl;have b1:=zb C 1 _ rfl;have f0:=zd C 0;have f1:=zd C 1;clear e1;go_upto_region 3 with fail
   generalize ?A0=W1 at Y q1|-;clear b0 b1 f0 f1 c0 an C;have ah:∀(A y:World) (r:Option Addr) (t:Nat),B_ w A->y.ownsRow 0 66 19 (.slice r (x.wai++[m.ft x.nu c]).length t) (x.wai++[m.ft x.nu c]).length (zY (x.wai++[m.ft x.nu c]))->zV A ?C0 y (.slice r (x.wai++[m.ft x.nu c]).length t)->(∃v,Ending.returned (.tuple #[])=.returned v)/\zal w U F o T X x (y.setCell ⟨F,o+17,none⟩ (.slice r (x.wai.length+1) t)) (x.v.send c m.c):=by
    intro A y r t hb ho G;refine⟨⟨_,rfl⟩,?_⟩;rw[L.out];have h1:=h.below hb;have au:(x.wai++[m.ft x.nu c]).length=x.wai.length+1:=by simp
    have ai:=h1.more_wai G ho (λs hs=>?_) ?_
    .rw[au]at ai;obtain⟨U',ap,x',k1,k2,k3⟩:=ai;exact⟨U',ap,x',k1,(NTo.below U X x hb).trans k2,by rw[k3];simp[NM.v,MV.ft_c]⟩
    .have k:=h1.grew_sub G (λq e=>.inr (.inr (.inr (.inr (.inr (.inr e))))));rcases List.mem_append.1 hs with g|g
     .exact(h1.ewa s g).sub k
     .obtain rfl:s=m.ft x.nu c:=by simpa using g
      exact((hm.sub (zao.below U hb).sub).ft h.inv.nu ht).sub k
    .exact h.inv.wai_ (by simp;omega)
   obtain⟨ti,aj,ak,al,am⟩:=info_parts zkn;have aa:B_ w W1.drew:=Y.drew;have ab:=dQ_ q1;refine wR_ (S:=λw'=>R_ w' B (mrow_ (m.ft x.nu c).m) 66) (by kernel_rfl) ab (λd=>?_);generalize W1.drew=l at aa ab d|-;have av:=h.below aa;refine tks_ 4 [(0,27,(P_ F o)),(1,28,(P_ F o)),(2,29,(P_ F o)),(3,30,(P_ F (o+17)))] d ?_;simp only[tkf_,zf];refine tQ_ 5 32 (.agg (mrow_ (m.ft x.nu c).m)) rfl rfl (Or.inl ⟨by rfl,λw0 ar=>zL 66 _ rfl B rfl 66 (mrow_ (m.ft x.nu c).m) (0,0) _ ar underlying66 rfl sMsg'⟩) d ?_;simp only[zf];refine wpAnyH_ready (rs:=[4,6]) (by kernel_rfl) (by simp) (AllReadyH.cons rfl (λE f=>?_) (AllReadyH.cons rfl (λE f=>?_) AllReadyH.nil));have ad:=av.cell 17 _ rfl;refine zy rfl 31 rfl ?C0 l (by go_simp) ?_;refine f.out _ _ d (λd=>?_);simp only[zf];clear ad;refine zE 6 rfl (λE f=>?_)
   all_goals
    refine zy rfl 33 rfl (.slice (some ⟨l.heap.size,0,none⟩) 1 1) (l.alloc ?B0) (by go_simp) ?_;have z:=zC l ?B0;have I:=zm aa z;have H:=hN_ l ?B0;have J:=zk z ab;refine f.out _ _ J (λd=>?_);simp only[zf];generalize l.alloc ?B0=A at z I H J d|-;clear z;generalize l.heap.size=nb at H|-;have p:=h.below I
   rotate_left
   refine zE 4 rfl (λE f=>?_);have ad:=p.cell 17 _ rfl;refine zy rfl 31 rfl ?C0 A (by go_simp) ?_;refine f.out _ _ d (λd=>?_);simp only[zf];clear ad
   rotate_left
   all_goals
    refine zE 7 rfl (λE f=>?_);refine zaz rfl 34 rfl (.tmp 31) (.tmp 33) 115 rfl 0 66 ti (.agg mz_) 19 264 underlying115 aj ak al am rfl (by decide) ?C0 x.wai.length (zY x.wai) rfl p.rwa ⟨nb,0,none⟩ 1 1 (zcR (m.ft x.nu c).m) rfl rfl (λj u hu=>by rw[zaP,Nat.zero_add];exact zb H j u (by rw[<-Array.getElem?_toList];exact hu)) (zfv _) (by unfold maxLen;omega) (by omega) (nZ_ _) ?_;intro v3 y O D;obtain⟨r,t,ac⟩:=zH O;subst ac;have R:=D.row J (λe=>ag _ (p.su _ (.inr (.inr (.inr (.inr (.inr (.inr (zp e)))))))));have N:=D.row p.blk (λe=>(p.su _ (.inr (.inr (.inr (.inr (.inr (.inr (zp e)))))))).2 rfl);refine f.out _ _ R (λd=>?_);simp only[zf];refine tks_ 2 [(8,35,(P_ F o)),(9,36,(P_ F (o+17)))] d ?_;simp only[tkf_,zf];refine zE 10 rfl (λE f=>?_);have aw:=zb N (o+17) _ (p.cel 17 (by decide));have ax:=zd N (o+17);refine zX rfl rfl (y.setCell ⟨F,o+17,none⟩ (.slice r (x.wai.length+1) t)) (by go_simp) ?_;have ae:=zh (b:=F) (j:=o+17) (v:=.slice r (x.wai.length+1) t) R (λe=>af e);refine f.out _ _ ae (λd=>?_);refine wD_ (by kernel_rfl) ?_ _;go_wp2_with fail
    go_end0;exact ah A y r t I (by rw[zfi];simpa using O) (by simpa using D)
end Go.Proofs.YtdnaljbnebnlhaaGreatDoor
