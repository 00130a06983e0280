import Derived.Test.YthnkppcncbjdiaaGreatDoorPkTopFaces0
set_option maxRecDepth 100000
set_option maxHeartbeats 4000000
namespace Go.Proofs.YthnkppcncbjdiaaGreatDoor
open Go.RowKit _root_.Go.Proofs.Tryz
theorem zBj:(prog.info? 55).map (·.size)=some 4:=by kernel_rfl
theorem zzX (M:Msg)(ss:Z_)(bl pl cbl cpl:List zi)(ds vl:L_)(w:World)(H:zeX w M ss bl pl cbl cpl vl)(A:zg w M.sda M.sdc ds)(l:M.sdn=ds.length) :
  Calls prog 12 #[I_ M.tt,.agg #[I_ M.fr,I_ 0,I_ M.ki,I_ M.bau,I_ M.bnu,.slice M.bta M.btn M.btc,I_ M.hau,I_ M.hrd,.slice M.hba M.hbn M.hbc,.slice M.hpa M.hpn M.hpc,I_ M.sau,I_ M.srd,.slice M.sda M.sdn M.sdc,I_ M.cau,I_ M.crd,.slice M.cba M.cbn M.cbc,.slice M.cpa M.cpn M.cpc,.slice M.cva M.cvn M.cvc,I_ M.ro]] w λe w'=>(∃T:ByteArray,T.size<=4000/\e=.returned (.agg #[I_ 9,I_ M.tt,I_ 0,.string T]))/\B_ w w':=by
 have u:Hid (∀V:World,B_ w V->Calls prog 25 #[.agg (mrow_ M)] V λe w'=>∃(v:Value) (n:Nat) (X:L_) (E:Int),e=.returned (.tuple #[v,I_ E])/\X.length<=4000/\w'.ownsRow V.heap.size 5 1 v n (ub X)/\B_ V w'):=λV z=>by
  refine(zlF M ss bl pl cbl cpl ds vl V (H.below z) (A.below z) l).mono ?_;rintro e w'⟨v,o,g,b⟩;refine⟨v,_,_,_,o,?_,g,b⟩;unfold zrH
  split
  rename_i h
  exact zsz l (zcB h).2.2.1;exact nZ_ _
 clear H A l;refine kO_ ?A0 ?_;exact Obj.cells #[I_ M.fr,I_ 0,I_ M.ki,I_ M.bau,I_ M.bnu,.slice M.bta M.btn M.btc,I_ M.hau,I_ M.hrd,.slice M.hba M.hbn M.hbc,.slice M.hpa M.hpn M.hpc,I_ M.sau,I_ M.srd,.slice M.sda M.sdn M.sdc,I_ M.cau,I_ M.crd,.slice M.cba M.cbn M.cbc,.slice M.cpa M.cpn M.cpc,.slice M.cva M.cvn M.cvc,I_ M.ro] 63;refine kO_ ?B0 ?_;exact Obj.cells #[I_ 0,I_ 0,I_ 0,.string ⟨#[]⟩] 55;have m:B_ w ((w.alloc ?A0).alloc ?B0):=((bR_ _ _).alloc (nR_ _) _).alloc (by simp) _;have c:=hX_ w ?A0 ?B0;have r:=hY_ w ?A0 ?B0;go_in;go_upto_region 1 with fail
 generalize ((w.alloc ?A0).alloc ?B0)=d at m c r|-;have D:=zb c 1 _ rfl;have N:=zd c 1;go_upto_region 2 with fail
 refine kW_ ?C0 ?_;exact d.setCell (p_ w.heap.size 1) (I_ M.tt);have f:B_ w ?C0:=m.setCell (p:=p_ w.heap.size 1) (nR_ _) _;have q:(?C0).heap[w.heap.size]? = some (.cells (mrow_ M) 63 (0,0)):=by simpa using hS_ _ _ 1 _ _ (I_ M.tt) c
 have s:(?C0).heap[w.heap.size+1]? = some _:=zh (j:=1) (v:=I_ M.tt) r (by omega);generalize ?C0=C at f q s|-;clear m c r D N;go_wp2_with (refine wpList_load_row rfl 63 _ rfl w.heap.size rfl 63 (mrow_ M) (0,0) _ q underlying63 rfl sMsg' ?_)
 refine(u.out C f).mono ?_;rintro e w2⟨v,n,X,E,o,F,g,b⟩;subst o;obtain⟨J,L,I,G,B⟩:=zeG g;subst I;subst G;dsimp only;have t:=zk b s;have y:=zm f b;have O:=zd8 w2 J X.length L X rfl B;clear u g b f q s B;go_wp2_with (refine wpList_store_row rfl 55 _ _ rfl (w.heap.size+1) #[I_ 9,I_ M.tt,I_ 0,.string (zai X)] rfl rfl 55 _ t zBj rfl (by simp[Value.oneCell']) ?_)
 exact bP_ (v:=.agg #[I_ 9,I_ M.tt,I_ 0,.string (zai X)]) (results_cell_row (fn:=Tryz.f12) (p:=4) (ty:=55) rfl _ _ (w.heap.size+1) 55 _ (0,0) _ rfl (setRow_heap _ _ _ _ _ _ t) underlying55 rfl zBj) rfl ⟨⟨_,by rw[zjb];exact F,rfl⟩,(Upd.setRow t).below y y.size (by omega)⟩
variable {w w' w2:World}{U:Nat->Bool}{qs:List zi}{ops:Array Oper}{ra:Q_}{Q:Exit->Act->World->Prop}{a:Act}{rc:Nat}{K:Act->World->Prop}{E:Prop}
def ze8 (w:World)(b:Nat)(c:X_)(t:TypeId):Prop:=w.heap[b]? = some (.cells c t (0,0))
theorem ze8.below {b:Nat}{c:X_}{t:TypeId}(h:ze8 w b c t)(d:B_ w w'):ze8 w' b c t:=zk d h
def zAJ (N:Nat)(v:Value)(m:List AV)(w:World):Prop:=w.ownsRow N 55 4 v m.length (avs m)
theorem zAJ.below {N:Nat}{v:Value}{m:List AV}(h:zAJ N v m w)(b:B_ w w'):zAJ N v m w':=zw h b
structure Gw (w W1:World)(U:Nat->Bool)(w':World)(v:Value)(m:List AV):Prop where
 low:B_ w w'
 size:W1.heap.size<=w'.heap.size
 far:∀b,b<W1.heap.size->U b=false->w'.heap[b]? = W1.heap[b]?
 own:zAJ w.heap.size v m w'
 blk:∀q,v.ownBlock=some q->U q=true\/W1.heap.size<=q
 good:∀a∈m,a.e=0/\a.t.size<=4000
theorem Gw.below {d:World}{v:Value}{m:List AV}(h:Gw w d U w' v m)(c:B_ w' w2):Gw w d U w2 v m:=
 ⟨h.low.trans (c.mono h.low.size),nT_ h.size c.size,λb f g=>(c.block b (nL_ f h.size)).trans (h.far b f g),h.own.below c,h.blk,h.good⟩
theorem Gw.grew {f:World}{v d:Value}{m l:List AV}(h:Gw w f U w' v m)(p:w2.ownsRow w.heap.size 55 4 d (m.length+l.length) (avs (m++l)))(G:zV w' v w2 d)(o:∀a∈l,a.e=0/\a.t.size<=4000):Gw w f U w2 d (m++l) where
 low:=h.low.trans (G.below h.low.size (λq e=>(h.own.lt q e).1))
 size:=nT_ h.size G.grown.size
 far:=λb j c=>(G.grown.block b (nL_ j h.size) (λe=>by
  rcases h.blk b e.symm with g|g
  .rw[g]at c;cases c
  .omega)).trans (h.far b j c)
 own:=by unfold zAJ;rw[lP_];exact p
 blk:=λq e=>by
  rcases G.fresh q e with g|g
  .exact h.blk q g
  .exact .inr (nT_ h.size g)
 good:=zc9 h.good o
theorem Gw.sub {b:World}{v:Value}{m:List AV}(h:Gw w b U w' v m):Sub (zq U b) w':=
 ⟨by rw[zch];exact h.size,λa u e=>by
  obtain⟨d,c⟩:=zhJ e
  exact(cB_ (h.far _ (World.block_lt_of_cell? _ _ c) d)).trans c⟩
theorem Gw.row {d:World}{v:Value}{m:List AV}(h:Gw w d U w' v m){b:Nat}{c:X_}{t:TypeId}(q:ze8 d b c t)(f:U b=false):ze8 w' b c t:=(h.far b (ze q) f).trans q
theorem zAK {N:Nat}(h:zx w ra rc qs)(f:za1 N ra qs)(g:∀b,N<=b->U b=false):zx (zq U w) ra rc qs:=
 zvH h ⟨λc d e _=>g c (f.row c d e),λp j c d e _=>g c (f.each p j c d e)⟩
theorem zzx {o:Oper}
  (t:o.guard=none) (d:Nat) (r:o.dst=some d) (s x:Operand) (z:o.op=.call { callee:=.builtin .append,args:=#[s,x],argTypes:=#[24,24] })
  (base:Nat) (v:Value) (n:Nat) (l:List AV) (C:a.eval s=v) (A:w.ownsRow base 55 4 v n (avs l))
  (c:Addr) (m f:Nat) (cs:List AV) (D:a.eval x=.slice (some c) m f) (y:m=cs.length) (B:zbq w (some c) cs)
  (I:n+m<=1000000) (q:base<=w.heap.size)
  (p:∀b w',w'.ownsRow base 55 4 b (n+m) (avs (l++cs))->zV w v w' b->K (a.put (some d) b) w') :
  if Region.wanted o (yielded ops a.tmps)=true then Oper.wp prog o a w K Q else E:=by
 obtain⟨i,u,F,G,H⟩:=info_parts zwM;exact zcc t s x 24 z base 55 i _ 4 40 underlying24 u F G H rfl (by decide) v n (avs l) C A c m f (avs cs) D (by rw[zg1,y];omega) (zsK B) (zxF cs) (by unfold maxLen;omega) (by omega) q (λb w' g j=>by rw[r];exact p b w' (by rw[zl5];exact g) j)
variable {k:Nat}{r:Int}
def HL (w:World)(c:Ct):Prop:=zx w c.ba c.bc c.bl/\zx w c.pa c.pc c.pl
theorem HL.sub {c:Ct}(h:HL w c)(k:Sub w w'):HL w' c:=⟨h.1.sub k,h.2.sub k⟩
theorem zBx:(prog.info? 50).map (·.size)=some 3:=by kernel_rfl
theorem zBF {b:Int}(h:0<=b/\b<4):zbk b 1 [⟨#[116,119,111]⟩]=0:=by
 unfold zbk;rw[if_neg (by omega),if_neg (by decide),if_pos (by decide)]
theorem zAR {b:Nat}{t:TypeId}(q:w.heap[b]? = some (.cells #[.string ⟨#[116,119,111]⟩] t (0,0))):zas w (some (p_ b 0)) [⟨#[116,119,111]⟩]:=
 ⟨.inr ⟨b,0,rfl,λj c=>by
  obtain rfl:j=0:=by simpa using c
  exact zb q 0 _ rfl⟩,λs d=>by rw[List.mem_singleton.1 d];decide⟩
theorem zBi {b d:Nat}{t:TypeId}{D:L_}(q:w.heap[b]? = some (.cells #[.slice (some (p_ d 0)) 32 32] t (0,0)))(h:zg w (some (p_ d 0)) 32 D)(f:D.length=32):zx w (some (p_ b 0)) 1 [⟨some (p_ d 0),32,D⟩]:=
 ⟨nR_ _,by decide,by show 1<=9000000000000000000;decide,.inr ⟨b,0,rfl⟩,⟨.inr ⟨b,0,rfl,λj c=>by
  obtain rfl:j=0:=by simpa using c
  rw[show([⟨some (p_ d 0),32,D⟩]:List zi)[0].bs.length=32 from f]
  exact zb q 0 _ rfl⟩,λp g=>by rw[List.mem_singleton.1 g];exact h⟩⟩
abbrev acF (k:Nat)(t:ByteArray):Value:=.agg #[I_ 9,I_ k,I_ 0,.string t]
abbrev msB (b:Int)(B:Nat):Value:=.agg #[I_ b,I_ 0,I_ 1,I_ b,I_ 1,.slice (some (p_ B 0)) 1 1,I_ 0,I_ 0,O_,O_,I_ 0,I_ 0,O_,I_ 0,I_ 0,O_,O_,O_,I_ 0]
abbrev msO (b:Int)(c:Ct):Value:=.agg #[I_ b,I_ 0,I_ 2,I_ 0,I_ 0,O_,I_ c.au,I_ c.rd,.slice c.ba c.bl.length c.bc,.slice c.pa c.pl.length c.pc,I_ 0,I_ 0,O_,I_ 0,I_ 0,O_,O_,O_,I_ 0]
abbrev msP (b:Int)(c:Ct)(va:Q_)(n vc:Nat):Value:=.agg #[I_ b,I_ 0,I_ 4,I_ 0,I_ 0,O_,I_ 0,I_ 0,O_,O_,I_ 0,I_ 0,O_,I_ c.au,I_ c.rd,.slice c.ba c.bl.length c.bc,.slice c.pa c.pl.length c.pc,.slice va n vc,I_ 0]
def zA3 (k:Nat)(V:World)(e:Ending)(w':World):Prop:=(∃T:ByteArray,T.size<=4000/\e=.returned (acF k T))/\B_ V w'
theorem zBk {i:Nat}(b:i<4){T:ByteArray}(h:T.size<=4000):(⟨9,i,0,T⟩:AV).e=0/\(⟨9,i,0,T⟩:AV).t.size<=4000:=
 ⟨zaL _ _ _ _ (by decide) (by omega) (by decide) (by omega) (λh=>by cases h) (λ_=>rfl) (λh=>by cases h),h⟩
theorem zBB (b:Int)(i B:Nat)(V:World)(h:zas V (some (p_ B 0)) [⟨#[116,119,111]⟩]) :
  Calls prog 12 #[I_ i,msB b B] V λe w'=>zA3 i V e w':=
 zzX ⟨b,i,1,b,1,0,0,0,0,0,0,0,some (p_ B 0),none,none,none,none,none,none,1,1,0,0,0,0,0,0,0,0,0,0,0,0⟩ [⟨#[116,119,111]⟩] [] [] [] [] [] [] V ⟨rfl,rfl,rfl,rfl,rfl,rfl,by decide,by decide,nZ_ _,h,zdy _,zdy _,zdy _,zdy _,⟨.inl rfl⟩⟩ (zgD _) rfl
theorem zBc (b:Int)(i:Nat)(c:Ct)(V:World)(h:HL V c) :
  Calls prog 12 #[I_ i,msO b c] V λe w'=>zA3 i V e w':=
 zzX ⟨b,i,2,0,0,c.au,c.rd,0,0,0,0,0,none,c.ba,c.pa,none,none,none,none,0,0,c.bl.length,c.bc,c.pl.length,c.pc,0,0,0,0,0,0,0,0⟩ [] c.bl c.pl [] [] [] [] V ⟨rfl,rfl,rfl,rfl,rfl,rfl,by decide,by decide,nZ_ _,⟨.inl rfl,λs d=>by cases d⟩,h.1,h.2,zdy _,zdy _,⟨.inl rfl⟩⟩ (zgD _) rfl
theorem zBd (b:Int)(i:Nat)(c:Ct)(d:Q_)(f:Nat)(vl:L_)(V:World)(h:HL V c)(j:zax V d vl)(l:vl.length<=100) :
  Calls prog 12 #[I_ i,msP b c d vl.length f] V λe w'=>zA3 i V e w':=
 zzX ⟨b,i,4,0,0,0,0,0,0,c.au,c.rd,0,none,none,none,none,c.ba,c.pa,d,0,0,0,0,0,0,0,0,c.bl.length,c.bc,c.pl.length,c.pc,vl.length,f⟩ [] [] [] c.bl c.pl [] vl V ⟨rfl,rfl,rfl,rfl,rfl,rfl,by decide,by omega,nZ_ _,⟨.inl rfl,λs g=>by cases g⟩,zdy _,zdy _,h.1,h.2,j⟩ (zgD _) rfl
theorem zkQ {o:Oper}
  (m:o.guard=none) (d:Nat) (l:o.dst=some d) (x y:Operand) (p:o.op=.call { callee:=.value (.func 12),args:=#[x,y],argTypes:=#[3,63] })
  (k:Nat) (M:Value) (q:a.eval x=I_ k) (r:a.eval y=M) (j:Calls prog 12 #[I_ k,M] w λe w'=>zA3 k w e w') (g:∀T w',T.size<=4000->B_ w w'->K (a.put (some d) (acF k T)) w') :
  if Region.wanted o (yielded ops a.tmps)=true then Oper.wp prog o a w K Q else E:=
 zj m d l 12 [x,y] #[3,63] p [I_ k,M] (by simp only[List.map_cons,List.map_nil,q,r]) (eO_ func12) (λv w'=>(∃T:ByteArray,T.size<=4000/\v=acF k T)/\B_ w w')
  (j.mono (λe w' h=>by obtain⟨⟨T,b,c⟩,f⟩:=h;exact⟨_,c,⟨T,b,rfl⟩,f⟩)) (λv w' h=>by obtain⟨⟨T,b,rfl⟩,c⟩:=h;exact g T w' b c)
theorem Gw.beside {f:World}{V d:World}{v o:Value}{m:List AV}(h:Gw w f U w' v m)(G:zV V v d o){b:Nat}{c:X_}{t:TypeId}(q:ze8 V b c t)(l:w'.heap.size<=b\/(b<f.heap.size/\U b=false)):ze8 d b c t:=
 (G.grown.block b (ze q) (λe=>by
  have r:=(World.ownsRow.lt h.own b e.symm).2
  rcases l with g|⟨p,j⟩
  .omega
  .rcases h.blk b e.symm with k|k
   .rw[k]at j;cases j
   .omega)).trans q
theorem zAZ (c:k<4):∀a∈[(⟨3,k,0,⟨#[]⟩⟩:AV)],a.e=0/\a.t.size<=4000:=
 λa b=>zAB (k+1) c a (List.mem_append_right _ (List.mem_cons_of_mem _ b))
theorem zBe {l:List AV}{o:Om}(h:o.v=((Fl.z r).run (l.map AV.ac)).told)(t:∀a∈l,a.e=0/\a.t.size<=4000):∀i k,i<4->k<4->∀c∈(o.y i).ls,∀d∈(o.y k).ls,c.v.au=d.v.au->c.v.rd=d.v.rd->c.v.d=d.v.d:=by
 intro i k q s c m d p g j;have b:c.v∈(((Fl.z r).run (l.map AV.ac)).view ((i:Nat):Int)).cs:=by rw[<-zb0 h i q];exact List.mem_map_of_mem m
 have f:d.v∈(((Fl.z r).run (l.map AV.ac)).view ((k:Nat):Int)).cs:=by rw[<-zb0 h k s];exact List.mem_map_of_mem p
 exact zBn r _ (ziz t) (by omega) (by omega) b f g j
theorem topFaces_walk (sa:Q_)(bc:Nat)(rs:List Ft)(n:Int)(m:Int)(w:World)(cZ:zfn w sa rs)(_hc_rs:rs.length<=bc)(n1:-9223372036854775808<=n)(n2:n<=9223372036854775807)(m1:-9223372036854775808<=m)(m2:m<=9223372036854775807)(hT:zcw w/\za2 w) :
  Calls prog 3 #[.slice sa rs.length bc,I_ n,I_ m] w λe w'=>e=.returned (.bool true)/\B_ w w':=by
 have HT:Hid (∀W:World,B_ w W->zcw W/\za2 W):=λW hW=>⟨hT.1.below hW hT.1.lt,hT.2.below hW⟩;clear hT;obtain⟨cT,cU⟩:=zW n 4 (by decide);obtain⟨c,hc⟩:∃k:Nat,pk n 4=k:=⟨(pk n 4).toNat,by omega⟩;have Hc:Hid (∀W:World,Calls prog 5 #[I_ n,I_ 4] W λe w'=>e=.returned (I_ (c:Int))/\W=w'):=λW=>by rw[<-hc];exact zbI n 4 W n1 n2 (by decide) (by decide)
 have cB:c<4:=by omega
 clear hc cT cU n1 n2;obtain⟨dq,dr⟩:=zW m 16 (by decide);obtain⟨z,hz⟩:∃k:Nat,pk m 16=k:=⟨(pk m 16).toNat,by omega⟩;have Hz:Hid (∀W:World,Calls prog 5 #[I_ m,I_ 16] W λe w'=>e=.returned (I_ (z:Int))/\W=w'):=λW=>by rw[<-hz];exact zbI m 16 W m1 m2 (by decide) (by decide)
 have zB:z<16:=by omega
 clear hz dq dr m1 m2;obtain⟨b,ad⟩:∃b:Int,b=(c:Int):=⟨_,rfl⟩;rw[<-ad]at Hc;have a3:-1<=b/\b<=3:=by omega
 have cj:0<=b/\b<4:=by omega
 clear ad;go_in;go_wp2_with fail
 refine(Hc.out _).mono ?_;rintro _ w0⟨rfl,rfl⟩;dsimp only;go_wp2_with fail
 refine(zeu rs sa _ bc 30 w rfl cZ (by decide)).mono ?_;rintro e dm⟨v,l,A,C,hl,dE,f⟩;subst A;dsimp only;obtain⟨aa,ac,Z,cp,cq⟩:=zbd C hl;subst Z;have cM:Hid _:=hl;have bP:Hid _:=cq;clear C hl cq;have bV:=f;clear f;go_wp2_with fail
 refine(zAO 5 (by omega) dm).mono ?_;rintro e dp⟨v,A,aQ,f⟩;subst A;dsimp only;obtain⟨ka,kc,Z,ar,aS⟩:=zbd aQ (zAg 5);subst Z;have aj:Hid ((zbJ 5).length=4+9*5/\∀a∈zbJ 5,a.e=0/\a.t.size<=4000):=⟨zAC _,zAg _⟩;have aX:Hid _:=aS;clear aQ aS;have be:=zm bV f;have bh:=cp.below f;clear bV cp;clear f;have aJ:=zcZ l (zbJ 5) aa _ ac ka _ kc dp rfl rfl bh ar bP.out aX.out (by have:=aj.out.1;omega);go_wp2_with fail
 refine aJ.mono ?_;rintro e a7⟨v,A,C,f⟩;subst A;dsimp only;clear aJ;have aE:Hid _:=zc9 cM.out aj.out.2;obtain⟨u,ai⟩:∃z9,z9=l++zbJ 5:=⟨_,rfl⟩;rw[<-ai]at C aE;have cR:Hid (u.length=l.length+(4+9*5)/\u=l++zbJ 5):=⟨by rw[ai,lP_,aj.out.1],ai⟩;clear ai;obtain⟨ua,uc,Z,bx,cE⟩:=zbd C aE.out;subst Z;have cS:Hid _:=cE;have cH:u.length<=90:=by have:=cR.out.1;omega
 have cf:zAJ w.heap.size (.slice ua u.length uc) u a7:=zcX C be.size;clear C cE;have a0:=zm be f;have ca:=bh.below f;have cb:=ar.below f;clear be bh ar;clear f;have aC:=zc4 b a3 u ua _ uc a7 rfl (by omega) bx (λa ha=>(aE.out a ha).1) (HT.out a7 a0).1 (HT.out a7 a0).2;go_wp2_with fail
 refine aC.mono ?_;rintro e a5⟨o,A,ct,cu,db,f⟩;subst A;dsimp only;clear aC;have cN:Hid _:=cu;clear cu;have bU:=zm a0 f;have b1:=ca.below f;have b2:=cb.below f;have b3:=bx.below f;have b4:=cf.below f;clear a0 ca cb bx cf;clear f;refine kO_ ?A0 ?_;exact Obj.cells #[.slice o.na 4 o.nc,.slice o.ga o.gs.length o.gc,I_ o.aw,.slice o.ca o.cs.length o.cc] 32;have ak:=zC a5 ?A0;have bE:=hN_ a5 ?A0;go_upto_region 4 with fail
 generalize a5.alloc ?A0=aF at ak bE|-;generalize a5.heap.size=Bo at bE|-;have cX:=zm bU ak;have cd:=ct.below ak;have du:=b1.below ak;have dv:=b2.below ak;have dw:=b3.below ak;have cY:=b4.below ak;clear bU ct b1 b2 b3 b4;clear ak;have cL:Hid (∀i,i<4->zlk (o.y i).v):=λi hi=>db.vw i hi;clear bP aj aX cS;go_upto_region 6 with fail
 have c4:(b+1).tmod 4=(b+1) % 4:=Int.tmod_eq_emod_of_nonneg (by omega);obtain⟨J,hJ⟩:∃J:Nat,(b+1) % 4=(J:Int):=⟨((b+1) % 4).toNat,by omega⟩;rw[hJ]at c4;have a1:J<4:=by omega
 have dA:(J:Int)<4:=by omega
 have cc:(J:Int)≠b:=by omega
 have bv:=(zAF a3 cN.out aE.out J a1).1 cc;clear hJ;obtain⟨vb,cr,bw⟩:=cd.row a1;have bB:=cd.vm J a1;have a4:=cL.out J a1;have c0:C_ aF Bo 0 (.slice (some (p_ vb 0)) 4 o.nc):=by rw[<-cr];exact zb bE 0 _ rfl
 clear cr;generalize o.y J=v at bw bB a4 bv;have dc:=zqm (l:=zI v.ls) a4.dag;rw[<-bv]at dc;clear bv cc;have Y:=zC aF (.cells (vrow_ v) 40);have qX:=hN_ aF (.cells (vrow_ v) 40);go_upto_region 7 with(refine wpList_load_mid rfl 40 _ rfl vb (J*6) rfl [.bool v.up,I_ v.rd,.slice v.ca v.ls.length v.cc,.slice v.ba v.bl.length v.bc,.slice v.ta v.tab.length v.tc,.slice v.pa v.txs.length v.pc] _ bw underlying40 rfl zck ?_)
 generalize aF.alloc (.cells (vrow_ v) 40)=V1 at Y qX|-;obtain⟨Bv,bZ⟩:∃B,B=aF.heap.size:=⟨_,rfl⟩;rw[<-bZ]at qX|-;clear bZ;have az:=zm cX Y;have dl:=bB.below Y;have bz:=cY.below Y;have c6:v.ls.length<=400:=by have:=zAY a4.dag;simpa[Vm.v,zI]using this
 have bK:=zAI v.ls v.ca _ v.cc (v.rd-1) V1 rfl (zBa dl c6) (HT.out V1 az).2;have x1:=zb qX 1 (I_ v.rd) rfl;have x2:=zb qX 2 (.slice v.ca v.ls.length v.cc) rfl;clear c0 bw Y bB;go_wp2_with fail
 refine bK.mono ?_;rintro e w2⟨al,aU⟩;rcases aU with⟨hz,_⟩|⟨_,pa,pc,pl,A,_,cx,cw⟩;rw[show zbV (zI v.ls)=0 from a4.dag]at hz;cases hz;subst A;dsimp only;clear bK x1 x2;have bD:=zk al qX;have ag:=zm az al;have cF:=bz.below al;obtain⟨U,hU⟩:∃U:Nat->Bool,U=λk=>decide ((Value.slice ua u.length uc).ownBlock=some k):=⟨_,rfl⟩;have bO:Hid (∀q,(Value.slice ua u.length uc).ownBlock=some q->U q=true):=by
  show ∀_,_;intro q e;rw[hU];exact dT_ e
 have bN:Hid (∀b,V1.heap.size<=b->U b=false):=by
  show ∀_,_;intro b f;rw[hU];exact dF_ (λe=>by have:=(World.ownsRow.lt bz b e).2;omega)
 clear hU;have x1:=zb bD 1 (I_ v.rd) rfl;go_upto_region 8 with fail
 go_upto_region 10 with fail
 refine kO_ ?C0 ?_;exact Obj.cells #[I_ b,I_ v.rd,O_,.slice pa pl.length pc] 48;have hH:=zC w2 ?C0;have qH:=hN_ w2 ?C0;go_upto_region 11 with fail
 have qV:=zk hH bD;generalize w2.alloc ?C0=V3 at hH qH qV|-;obtain⟨O,bY⟩:∃B,B=w2.heap.size:=⟨_,rfl⟩;have a9:Hid (w2.heap.size<=O):=by show _<=_;omega
 rw[<-bY]at qH|-;clear bY x1;have y1:=zb qV 1 (I_ v.rd) rfl;have z3:=zd qH 3;have y3:=zb qH 3 _ rfl;go_cut [69] (λu X=>u=.bool (decide (v.rd=1))/\V3=X)
 case first=>
  by_cases h7:v.rd=1
  .rw[h7]at y1|-;go_wp2_with fail
   go_meet
   case rel=>exact⟨by rw[dT_ h7],rfl⟩
  have dt:(v.rd == 1)=false:=by simpa using h7
  go_wp2_with fail
  go_meet
  case rel=>exact⟨by rw[dF_ h7],rfl⟩
 refine kO_ ?B0 ?_;exact Obj.cells #[.string ⟨#[116,119,111]⟩] 9
 case rest=>
  obtain⟨rfl,hw⟩:=hcut;subst hw;apply_assumption;go_upto_if 69 with fail
  go_cut [] (λX=>∃(T:Q_) (ql:List zi) (qc:Nat),R_ X O #[I_ b,I_ v.rd,O_,.slice T ql.length qc] 48/\zx X T qc ql/\za1 V1.heap.size T ql/\B_ w2 X)
  case first=>
   by_cases h7:v.rd=1
   .rw[dT_ h7];go_wp2_with fail
    go_meet
    case rel=>exact⟨none,[],0,by simpa using hS_ _ _ 3 _ _ (O_) qH,zdy _,⟨λ_ _ e=>(by cases e),λ_ hp=>(by cases hp)⟩,hH.setCell (p:=p_ O 3) a9.out _⟩
   rw[dF_ h7];go_wp2_with fail
   go_meet
   case rel=>exact⟨pa,pl,pc,qH,cx.below hH,cw,hH⟩
  case rest=>
   clear y1 z3 y3 qH qV cx cw hH;obtain⟨T,ql,qc,qH,bs,cC,ad⟩:=hcut;apply_assumption;obtain⟨V5,cg⟩:∃W,W=wc:=⟨_,rfl⟩;rw[<-cg]at qH bs ad|-;clear cg;have bl:=zm ag ad;have cG:=cF.below ad;have ba:Hid (V1.heap.size<=O/\V1.heap.size<=V5.heap.size):=by
    refine⟨nT_ al.size a9.out,nT_ al.size ad.size⟩
   clear a9 ag cF ad al bz az bD;refine kA_ ?G0 ?_;exact #[I_ b,I_ v.rd,O_,.slice T ql.length qc];have aK:=zC V5 (.cells ?G0 48);have qG:=hN_ V5 (.cells ?G0 48);go_upto_region 14 with(refine wpList_load_row rfl 48 _ rfl O rfl 48 ?G0 (0,0) _ qH underlying48 rfl zzD ?_)
   have bC:=zk aK qH;generalize V5.alloc (.cells ?G0 48)=R at aK qG bC|-;have bf:V5.heap.size<R.heap.size:=ze qG;obtain⟨E,aG⟩:∃B,B=V5.heap.size:=⟨_,rfl⟩;have da:O≠E:=by have:=ze qH;omega
   rw[<-aG]at qG bf|-;have cJ:Hid (E=V5.heap.size):=aG;clear qH aG;refine kO_ ?F0 ?_;exact Obj.cells #[I_ b,I_ 1,.slice (some (p_ R.heap.size 0)) 1 1] 50;have aL:B_ R ((R.alloc ?B0).alloc ?F0):=((bR_ _ _).alloc (nR_ _) _).alloc (by simp) _;have qT:=hX_ R ?B0 ?F0;have qB:=hY_ R ?B0 ?F0;go_upto_region 15 with fail
   generalize (R.alloc ?B0).alloc ?F0=V8 at aL qT qB|-;obtain⟨F,aH⟩:∃B,B=R.heap.size:=⟨_,rfl⟩;rw[<-aH]at qT qB|-;have aw:Hid (F=R.heap.size):=aH;clear aH;have ah:=zm aK aL;have ck:=zm bl ah;have a8:=zis b 1 (some (p_ F 0)) 1 1 [⟨#[116,119,111]⟩] V8 rfl (zAR qT) (zBF cj) cj (by decide) (by decide) (λs hs=>by rw[List.mem_singleton.1 hs];decide) (λsb so e=>by cases e;exact ze qT) (HT.out V8 ck).2;have bi:=zhW 1 (zbY b 1 [⟨#[116,119,111]⟩]);generalize zhV 1 (zbY b 1 [⟨#[116,119,111]⟩])=D at a8 bi;refine kA_ ?E0 ?_;exact #[I_ b,I_ 1,.slice (some (p_ F 0)) 1 1];go_wp2_with (refine wpList_load_row rfl 50 _ rfl (F+1) rfl 50 ?E0 (0,0) _ qB underlying50 rfl zBx ?_)
   refine a8.mono ?_;rintro e w9⟨bd,A,c5,aP,cm⟩;subst A;dsimp only;clear a8;refine kO_ ?H0 ?_;exact Obj.cells #[.slice (some (p_ bd 0)) 32 32] 51;have a2:=zC w9 ?H0;have qx:=hN_ w9 ?H0;have aO:=zm aP a2;have aN:=zm aL aO;have bm:=zm aK aN;have aW:=zk aN qG;have g2:=zb aW 2 (O_) rfl;have cI:=zd aW 2;go_upto_region 17 with fail
   have aG:=cJ.out;have aH:=aw.out;generalize w9.alloc ?H0=WB at a2 qx aO aN bm aW g2 cI|-;obtain⟨Bx,b0⟩:∃B,B=w9.heap.size:=⟨_,rfl⟩;rw[<-b0]at qx|-;have dd:R.heap.size<=V8.heap.size:=aL.size;have de:V8.heap.size<=w9.heap.size:=aP.size;refine kV_ ?I0 ?_;exact Value.slice (some (p_ Bx 0)) 1 1;have bo:=(zBi qx (cm.below a2) bi).setCell (B:=R.heap.size) ⟨λsb so e=>by cases e;omega,λp hp sb so e=>by rw[List.mem_singleton.1 hp]at e;cases e;omega⟩ E 2 ?I0 bf;refine kW_ ?D0 ?_;exact WB.setCell (p_ E 2) (.slice (some (p_ Bx 0)) 1 1);have aM:B_ V5 ?D0:=bm.setCell (p:=p_ E 2) (by show _<=E;omega) _;have bG:(?D0).heap[E]? = some (.cells #[I_ b,I_ v.rd,?I0,.slice T ql.length qc] 48 (0,0)):=by simpa using hS_ _ _ 2 _ _ ?I0 aW
   have bH:(?D0).heap[O]? = some (.cells ?G0 48 (0,0)):=zh (zk aN bC) da;have bF:(?D0).heap[F+1]? = some (.cells ?E0 50 (0,0)):=zh (zk aO qB) (by omega);have bI:(?D0).heap[F]? = some (.cells #[.string ⟨#[116,119,111]⟩] 9 (0,0)):=zh (zk aO qT) (by omega);have bt:=bs.below aM;have bA:=cG.below aM;have bn:=zm bl aM;generalize WB.setCell (p_ E 2) ?I0=I at bo aM bG bH bF bI bt bA bn|-;have ao:∀k,V1.heap.size<=k->U k=false:=bN.out;have df:=ba.out.2;have br:=zAK bt cC ao;have co:=zAK bo (show za1 V1.heap.size _ _ from⟨λsb so e=>by cases e;omega,λp hp sb so e=>by rw[List.mem_singleton.1 hp]at e;cases e;omega⟩) ao;have Hc:Hid (∃c:Ct,(ze8 I O (hrow_ c) 48/\U O=false)/\HL (zq U I) c):=⟨⟨b,v.rd,none,0,[],T,qc,ql,none,0,[]⟩,⟨bH,ao _ ba.out.1⟩,zdy _,br⟩;have Hg:Hid (∃g:Ct,(ze8 I E (hrow_ g) 48/\U E=false)/\HL (zq U I) g):=⟨⟨b,v.rd,some (p_ Bx 0),1,[⟨some (p_ bd 0),32,D⟩],T,qc,ql,none,0,[]⟩,⟨bG,ao _ (by omega)⟩,co,br⟩;have aB:Hid (ze8 I (F+1) ?E0 50/\U (F+1)=false):=⟨bF,ao _ (by omega)⟩;have bM:Hid (zas (zq U I) (some (p_ F 0)) [⟨#[116,119,111]⟩]):=(zAR bI).hid (λsb so e _=>by cases e;exact ao _ (by omega));have t:Gw w I U I (.slice ua u.length uc) u:=⟨bn,nR_ _,λ_ _ _=>rfl,bA,λq e=>.inl (bO.out q e),aE.out⟩;have cH:u.length<=90:=cH;clear br co ao df bt bA bn bo aM bG bH bF bI ck ah bl cG aK aL qG aW qT qB aP a2 qx aO aN bm g2 cI cm bi bs cC dd de bC bf aH aG b0 c5;obtain⟨c,ae,ax⟩:=Hc.out;obtain⟨g,af,ay⟩:=Hg.out;have ae:Hid _:=ae;have ax:Hid _:=ax;have af:Hid _:=af;have ay:Hid _:=ay;clear Hc Hg bN bO ba;go_wp2_with fail
   go_loopw [19,8] (λu v wr=>∃(k:Nat) (q:List AV),k<=4/\u=I_ k/\q.length<=90+3*k/\Gw w I U wr v q) (λu _ _=>4-(intOf u).toNat)
   case atStart=>exact⟨0,u,by omega,rfl,by omega,t⟩
   refine kO_ ?J0 ?_;exact Obj.cells (hrow_ c) 48
   case round=>
    clear t;obtain⟨k,q,hk,rfl,au,t⟩:=hrel;by_cases hlt:k<4
    .have aT:(k:Int)<4:=by omega
     have hh:=t.row ae.out.1 ae.out.2;have hg:=t.row af.out.1 af.out.2;have Y:B_ wr ((wr.alloc ?J0).alloc (.cells (hrow_ g) 48)):=((bR_ _ _).alloc (nR_ _) _).alloc (by simp) _;have q1:=hX_ wr ?J0 (.cells (hrow_ g) 48);have q2:=hY_ wr ?J0 (.cells (hrow_ g) 48);have cn:=zk ((bR_ _ _).alloc (nR_ _) ?J0) hg;go_upto_region 22 with(first|refine wpList_load_row rfl 48 _ rfl O rfl 48 (hrow_ c) (0,0) _ hh underlying48 rfl zzD ?_|refine wpList_load_row rfl 48 _ rfl E rfl 48 (hrow_ g) (0,0) _ cn underlying48 rfl zzD ?_)
     clear cn;have bp:=zk Y hh;have ap:=zk Y hg;generalize (wr.alloc ?J0).alloc (.cells (hrow_ g) 48)=V2 at Y q1 q2 bp ap|-;have c7:=ze hh;obtain⟨H,bS⟩:∃B,B=wr.heap.size:=⟨_,rfl⟩;rw[<-bS]at q1 q2 c7|-;have dD:wr.heap.size<=H:=by omega
     clear hh hg bS;go_cut [94] (λu X=>(∃bb:Bool,u=.bool bb)/\V2=X)
     case first=>
      have dC:¬(k:Int)<0:=by omega
      go_wp2_with fail
      refine(Hz.out _).mono ?_;rintro _ w0⟨rfl,rfl⟩;dsimp only;go_wp2_with fail
      go_meet
      case rel=>exact⟨⟨_,rfl⟩,rfl⟩
     case rest=>
      obtain⟨⟨bb,rfl⟩,hw⟩:=hcut;subst hw;apply_assumption;go_upto_if 94 with fail
      go_cut [] (λX=>∃c1 c2:Ct,ze8 X H (hrow_ c1) 48/\ze8 X (H+1) (hrow_ c2) 48/\HL (zq U I) c1/\HL (zq U I) c2/\B_ wr X)
      case first=>
       cases bb with
       | false=>
        go_wp2_with fail
        go_meet
        case rel=>exact⟨c,g,q1,q2,ax.out,ay.out,Y⟩
       | true=>
        have az:=(Upd.setRow (cs:=(hrow_ g)) q1).below Y Y.size (by omega);have q3:=(setRow_other V2 H (H+1) (hrow_ g) (by omega)).trans q2;have aq:=(setRow_other V2 H O (hrow_ g) (by omega)).trans bp;have al:=(Upd.setRow (cs:=(hrow_ c)) q3).below az az.size (by omega);go_wp2_with (first|refine wpList_load_row rfl 48 _ rfl E rfl 48 (hrow_ g) (0,0) _ ap underlying48 rfl zzD ?_|refine wpList_store_row rfl 48 _ _ rfl (H) (hrow_ g) rfl rfl 48 _ q1 zzD rfl (by simp[Value.oneCell']) ?_|refine wpList_load_row rfl 48 _ rfl O rfl 48 (hrow_ c) (0,0) _ aq underlying48 rfl zzD ?_|refine wpList_store_row rfl 48 _ _ rfl (H+1) (hrow_ c) rfl rfl 48 _ q3 zzD rfl (by simp[Value.oneCell']) ?_)
        go_meet
        case rel=>exact⟨g,c,(setRow_other (V2.setRow H (hrow_ g)) (H+1) H (hrow_ c) (by omega)).trans (setRow_heap V2 H _ (hrow_ g) _ _ q1),setRow_heap (V2.setRow H (hrow_ g)) (H+1) _ (hrow_ c) _ _ q3,ay.out,ax.out,al⟩
      case rest=>
       clear q1 q2 bp ap Y;obtain⟨c1,c2,r1,r2,l1,l2,ad⟩:=hcut;apply_assumption;obtain⟨V3,aI⟩:∃W,W=wc:=⟨_,rfl⟩;rw[<-aI]at r1 r2 ad|-;clear aI;have ab:=t.below ad;have ag:=ab.row aB.out.1 aB.out.2;have aw:Hid (F+1<I.heap.size):=ze aB.out.1;have l1:Hid _:=l1;have l2:Hid _:=l2;have d:=dB_ V3;refine wR_ (S:=λw'=>ze8 w' (F+1) ?E0 50/\ze8 w' H (hrow_ c1) 48/\ze8 w' (H+1) (hrow_ c2) 48) (by kernel_rfl) ⟨ag.below d,r1.below d,r2.below d⟩ (λy=>?_);generalize V3.drew=V at d y|-;refine tks_ 3 [(0,97,u8),(1,98,I_ k),(2,99,I_ b)] y ?_;simp only[tkf_,zf];refine tQ_ 3 100 (.agg ?E0) rfl rfl (Or.inl ⟨by rfl,λw0 h=>zL 50 _ rfl (F+1) rfl 50 ?E0 (0,0) _ h.1 underlying50 rfl zBx⟩) y ?_;simp only[zf];refine tks_ 3 [(4,101,msB b F),(6,103,I_ k),(7,104,I_ b)] y ?_;simp only[tkf_,zf];refine tQ_ 8 105 (.agg (hrow_ c1)) rfl rfl (Or.inl ⟨by rfl,λw0 h=>zL 48 _ rfl (H) rfl 48 (hrow_ c1) (0,0) _ h.2.1 underlying48 rfl zzD⟩) y ?_;simp only[zf];refine tks_ 3 [(9,106,msO b c1),(11,108,I_ k),(12,109,I_ b)] y ?_;simp only[tkf_,zf];refine tQ_ 13 110 (.agg (hrow_ c2)) rfl rfl (Or.inl ⟨by rfl,λw0 h=>zL 48 _ rfl (H+1) rfl 48 (hrow_ c2) (0,0) _ h.2.2 underlying48 rfl zzD⟩) y ?_;simp only[zf];refine zU 14 111 (msO b c2) rfl rfl y ?_;simp only[zf];refine zE 5 rfl (λK L=>?_);refine zkQ rfl 102 rfl (.tmp 98) (.tmp 101) rfl k _ rfl rfl (zBB b k F V (bM.out.sub (ab.below d).sub)) ?_;intro M V ya f;replace d:=d.trans (f.mono d.size);clear f;refine L.out _ _ ⟨ag.below d,r1.below d,r2.below d⟩ (λy=>?_);simp only[zf];refine zE 10 rfl (λK L=>?_);refine zkQ rfl 107 rfl (.tmp 103) (.tmp 106) rfl k _ rfl rfl (zBc b k c1 V (HL.sub l1.out (ab.below d).sub)) ?_;intro N V yb f;replace d:=d.trans (f.mono d.size);clear f;refine L.out _ _ ⟨ag.below d,r1.below d,r2.below d⟩ (λy=>?_);simp only[zf];refine zE 15 rfl (λK L=>?_);refine zkQ rfl 112 rfl (.tmp 108) (.tmp 111) rfl k _ rfl rfl (zBc b k c2 V (HL.sub l2.out (ab.below d).sub)) ?_;intro tc V yc f;replace d:=d.trans (f.mono d.size);clear f;refine L.out _ _ ⟨ag.below d,r1.below d,r2.below d⟩ (λy=>?_);simp only[zf];refine zE 16 rfl (λK L=>?_);refine kO_ ?K0 ?_;exact Obj.cells #[I_ 9,I_ k,I_ 0,.string M,I_ 9,I_ k,I_ 0,.string N,I_ 9,I_ k,I_ 0,.string tc] 55;refine zy rfl 113 rfl (.slice (some (p_ V.heap.size 0)) 3 3) (V.alloc ?K0) (by go_simp) ?_;have hA:=zC V ?K0;replace d:=d.trans (hA.mono d.size);have qs:=hN_ V ?K0;generalize V.alloc ?K0=V9 at d qs|-;clear hA;generalize V.heap.size=sb at qs|-;refine L.out _ _ ⟨ag.below d,r1.below d,r2.below d⟩ (λy=>?_);simp only[zf];have an:=ab.below d;have hL:∀a∈[(⟨9,k,0,M⟩:AV),(⟨9,k,0,N⟩:AV),(⟨9,k,0,tc⟩:AV)],a.e=0/\a.t.size<=4000:=λa ha=>by
        simp only[List.mem_cons,List.not_mem_nil,or_false]at ha;rcases ha with e|e|e<;>subst e<;>exact zBk hlt (by assumption)
       have aV:=zdw (l:=[(⟨9,k,0,M⟩:AV),(⟨9,k,0,N⟩:AV),(⟨9,k,0,tc⟩:AV)]) qs hL;refine zE 17 rfl (λK L=>?_);refine zzx rfl 114 rfl (.tmp 97) (.tmp 113) rfl w.heap.size u8 q.length q rfl an.own (p_ sb 0) 3 3 [(⟨9,k,0,M⟩:AV),(⟨9,k,0,N⟩:AV),(⟨9,k,0,tc⟩:AV)] rfl rfl aV (by omega) an.low.size ?_;intro v' W' C G;have bj:=an.grew C G hL;refine L.out _ _ ⟨t.beside G (ag.below d) (.inr ⟨aw.out,aB.out.2⟩),t.beside G (r1.below d) (.inl (by omega)),t.beside G (r2.below d) (.inl (by omega))⟩ (λy=>?_);simp only[zf];refine zU 18 8 (v') rfl rfl y ?_;simp only[zf];refine wD_ (by kernel_rfl) ?_ _;go_wp2_with fail
       go_roundw
       case rel=>exact⟨k+1,q++[(⟨9,k,0,M⟩:AV),(⟨9,k,0,N⟩:AV),(⟨9,k,0,tc⟩:AV)],by omega,by go_num,by rw[lP_];show _+3<=_;omega,bj⟩
       case measure=>simp[intOf];omega
    obtain rfl:k=4:=by omega
    have aT:¬((4:Nat):Int)<4:=by omega
    clear hlt hk;go_wp2_with fail
    go_loopw [22,8] (λu v wr=>∃(k:Nat) (p:List AV),k<=4/\u=I_ k/\p.length<=102+k/\Gw w I U wr v p) (λu _ _=>4-(intOf u).toNat)
    case atStart=>exact⟨0,q,by omega,rfl,by omega,t⟩
    case round=>
     clear t au;obtain⟨k,p,hk,rfl,au,t⟩:=hrel;by_cases hlt:k<4
     .have aT:(k:Int)<4:=by omega
      have hA:=zC wr (.cells #[I_ 3,I_ k,I_ 0,.string ⟨#[]⟩] 55);have qA:(wr.alloc (.cells #[I_ 3,I_ k,I_ 0,.string ⟨#[]⟩] 55)).heap[wr.heap.size]? = some (.cells (avs [(⟨3,k,0,⟨#[]⟩⟩:AV)]).toArray 55 (0,0)):=hN_ _ _;have bk:=t.below hA;have aV:=zdw qA (zAZ hlt);go_wp2_with (at_builtin;refine zfB rfl _ _ rfl w.heap.size _ p.length p rfl bk.own (some (p_ wr.heap.size 0)) 1 1 [(⟨3,k,0,⟨#[]⟩⟩:AV)] rfl rfl aV (λe=>by cases e) (by omega) bk.low.size ?_)
      intro v' w2 aU ap;go_wp2_with fail
      go_roundw
      case rel=>exact⟨k+1,p++[(⟨3,k,0,⟨#[]⟩⟩:AV)],by omega,by go_num,by rw[lP_];show _+1<=_;omega,bk.grew aU ap (zAZ hlt)⟩
      case measure=>simp[intOf];omega
     obtain rfl:k=4:=by omega
     have aT:¬((4:Nat):Int)<4:=by omega
     clear hlt hk;obtain⟨ti,dg,dh,dj,dk⟩:=info_parts zu4;go_wp2_with fail
     go_loopw [23,8] (λu v wr=>∃(k:Nat) (q:List AV),k<=4/\u=I_ k/\q.length<=106+10*k/\Gw w I U wr v q) (λu _ _=>4-(intOf u).toNat)
     case atStart=>exact⟨0,p,by omega,rfl,by omega,t⟩
     case round=>
      clear t au;obtain⟨k,q,hk,rfl,au,t⟩:=hrel;by_cases hlt:k<4
      .have aT:(k:Int)<4:=by omega
       go_wp2_with fail
       go_loopw [24,8] (λu v wr=>∃(j:Nat) (q:List AV),j<=5/\u=I_ j/\q.length<=106+10*k+2*j/\Gw w I U wr v q) (λu _ _=>5-(intOf u).toNat)
       case atStart=>exact⟨0,q,by omega,rfl,by omega,t⟩
       case round=>
        clear t au;obtain⟨j,q,hj,rfl,au,t⟩:=hrel;by_cases hlj:j<5
        .have c8:(j:Int)<5:=by omega
         obtain⟨W4,ch⟩:∃W,W=wr:=⟨_,rfl⟩;rw[<-ch]at t|-;clear ch;obtain⟨av,ci⟩:∃x,x=u8:=⟨_,rfl⟩;rw[<-ci]at t|-;clear ci;go_wp2_with fail
         go_loopw [26,25] (λu v X=>∃(i:Nat) (vl:L_),i<=4/\u=I_ i/\vl.length<=i/\X.ownsRow W4.heap.size 3 1 v vl.length (iv vl)/\B_ W4 X) (λu _ _=>4-(intOf u).toNat)
         case atStart=>exact⟨0,[],by omega,rfl,nR_ _,oN_ _ _ _ _,bR_ _ _⟩
         case round=>
          skip
          obtain⟨i,vl,hi,rfl,dG,C,f⟩:=hrel;by_cases hlti:i<4
          .have c9:(i:Int)<4:=by omega
           by_cases hij:i=j
           .subst hij;go_wp2_with fail
            go_roundw
            case rel=>exact⟨i+1,vl,by omega,by go_num,by omega,C,f⟩
            case measure=>simp[intOf];omega
           have dB:((i:Int) == (j:Int))=false:=beq_eq_false_iff_ne.2 (by omega);have hA:B_ W4 (wr.alloc (.cells #[I_ i] 3)):=f.alloc f.size _;have cl:=hA.size;go_wp2_with (at_builtin;refine wpList_append_own_at _ rfl _ _ 59 rfl W4.heap.size 3 ti (I_ 0) 1 8 underlying59 dg dh dj dk rfl (by decide) _ vl.length (iv vl) rfl (oA_ C _) (p_ wr.heap.size 0) 1 1 [I_ i] rfl rfl (zag _ _ _) (zs5 [_]) (by unfold maxLen;omega) (by omega) cl ?_)
           intro v' w2 aU ap _ _;go_wp2_with fail
           go_roundw
           case rel=>exact⟨i+1,vl++[(i:Int)],by omega,by go_num,by rw[lP_];show _+1<=_;omega,by simpa[iv]using aU,Below.grown hA ap cl (λq e=>(C.lt q e).1)⟩
           case measure=>simp[intOf];omega
          obtain rfl:i=4:=by omega
          have c9:¬((4:Nat):Int)<4:=by omega
          clear hlti hi;obtain⟨va,vc,Z,_,hI,_⟩:=zeW C;subst Z;clear C;obtain⟨V3,aI⟩:∃W,W=wr:=⟨_,rfl⟩;rw[<-aI]at f hI|-;clear aI;have ab:=t.below f;have aq:=ab.row ae.out.1 ae.out.2;have aR:=ab.row af.out.1 af.out.2;have aw:Hid (O<I.heap.size/\E<I.heap.size):=⟨ze ae.out.1,ze af.out.1⟩;go_wp2_with fail
          have d:=dB_ V3;refine wR_ (S:=λw'=>ze8 w' O (hrow_ c) 48/\ze8 w' E (hrow_ g) 48) (by kernel_rfl) ⟨aq.below d,aR.below d⟩ (λy=>?_);generalize V3.drew=V at d y|-;refine tks_ 3 [(0,143,av),(1,144,I_ k),(2,145,I_ b)] y ?_;simp only[tkf_,zf];refine tQ_ 3 146 (.agg (hrow_ c)) rfl rfl (Or.inl ⟨by rfl,λw0 h=>zL 48 _ rfl (O) rfl 48 (hrow_ c) (0,0) _ h.1 underlying48 rfl zzD⟩) y ?_;simp only[zf];refine tks_ 5 [(4,147,.slice va vl.length vc),(5,148,.agg #[I_ c.au,I_ c.rd,.slice c.ba c.bl.length c.bc,.slice c.pa c.pl.length c.pc,.slice va vl.length vc]),(6,149,msP b c va vl.length vc),(8,151,I_ k),(9,152,I_ b)] y ?_;simp only[tkf_,zf];refine tQ_ 10 153 (.agg (hrow_ g)) rfl rfl (Or.inl ⟨by rfl,λw0 h=>zL 48 _ rfl (E) rfl 48 (hrow_ g) (0,0) _ h.2 underlying48 rfl zzD⟩) y ?_;simp only[zf];refine tks_ 3 [(11,154,.slice va vl.length vc),(12,155,.agg #[I_ g.au,I_ g.rd,.slice g.ba g.bl.length g.bc,.slice g.pa g.pl.length g.pc,.slice va vl.length vc]),(13,156,msP b g va vl.length vc)] y ?_;simp only[tkf_,zf];refine zE 7 rfl (λK L=>?_);refine zkQ rfl 150 rfl (.tmp 144) (.tmp 149) rfl k _ rfl rfl (zBd b k c va vc vl V (HL.sub ax.out (ab.below d).sub) (hI.below d) (by omega)) ?_;intro M V ya f;replace d:=d.trans (f.mono d.size);clear f;refine L.out _ _ ⟨aq.below d,aR.below d⟩ (λy=>?_);simp only[zf];refine zE 14 rfl (λK L=>?_);refine zkQ rfl 157 rfl (.tmp 151) (.tmp 156) rfl k _ rfl rfl (zBd b k g va vc vl V (HL.sub ay.out (ab.below d).sub) (hI.below d) (by omega)) ?_;intro N V yb f;replace d:=d.trans (f.mono d.size);clear f;refine L.out _ _ ⟨aq.below d,aR.below d⟩ (λy=>?_);simp only[zf];refine zE 15 rfl (λK L=>?_);refine kO_ ?L0 ?_;exact Obj.cells #[I_ 9,I_ k,I_ 0,.string M,I_ 9,I_ k,I_ 0,.string N] 55;refine zy rfl 158 rfl (.slice (some (p_ V.heap.size 0)) 2 2) (V.alloc ?L0) (by go_simp) ?_;have hA:=zC V ?L0;replace d:=d.trans (hA.mono d.size);have qs:=hN_ V ?L0;generalize V.alloc ?L0=V9 at d qs|-;clear hA;generalize V.heap.size=sb at qs|-;refine L.out _ _ ⟨aq.below d,aR.below d⟩ (λy=>?_);simp only[zf];have an:=ab.below d;have hL:∀a∈[(⟨9,k,0,M⟩:AV),(⟨9,k,0,N⟩:AV)],a.e=0/\a.t.size<=4000:=λa ha=>by
           simp only[List.mem_cons,List.not_mem_nil,or_false]at ha;rcases ha with e|e<;>subst e<;>exact zBk hlt (by assumption)
          have aV:=zdw (l:=[(⟨9,k,0,M⟩:AV),(⟨9,k,0,N⟩:AV)]) qs hL;refine zE 16 rfl (λK L=>?_);refine zzx rfl 159 rfl (.tmp 143) (.tmp 158) rfl w.heap.size av q.length q rfl an.own (p_ sb 0) 2 2 [(⟨9,k,0,M⟩:AV),(⟨9,k,0,N⟩:AV)] rfl rfl aV (by omega) an.low.size ?_;intro v' W' C G;have bj:=an.grew C G hL;refine L.out _ _ ⟨t.beside G (aq.below d) (.inr ⟨aw.out.1,ae.out.2⟩),t.beside G (aR.below d) (.inr ⟨aw.out.2,af.out.2⟩)⟩ (λy=>?_);simp only[zf];refine zU 17 8 (v') rfl rfl y ?_;simp only[zf];refine wD_ (by kernel_rfl) ?_ _;go_wp2_with fail
          go_roundw
          case rel=>exact⟨j+1,q++[(⟨9,k,0,M⟩:AV),(⟨9,k,0,N⟩:AV)],by omega,by go_num,by rw[lP_];show _+2<=_;omega,bj⟩
          case measure=>simp[intOf];omega
        obtain rfl:j=5:=by omega
        have c8:¬((5:Nat):Int)<5:=by omega
        clear hlj hj;go_wp2_with fail
        go_roundw
        case rel=>exact⟨k+1,q,by omega,by go_num,by omega,t⟩
        case measure=>simp[intOf];omega
      obtain rfl:k=4:=by omega
      have aT:¬((4:Nat):Int)<4:=by omega
      clear hlt hk;obtain⟨T,qc,Z,cz,cA⟩:=zbd t.own t.good;subst Z;have cP:Hid _:=cA;have cO:Hid _:=t.good;have bT:=t.low;have au:q.length<=146:=by omega
      clear t cA ae af ax ay aB bM;go_wp2_with fail
      refine(zAO 5 (by omega) wr).mono ?_;rintro e dn⟨v,A,aQ,f⟩;subst A;dsimp only;obtain⟨ka,kc,Z,ar,aS⟩:=zbd aQ (zAg 5);subst Z;have aj:Hid ((zbJ 5).length=4+9*5/\∀a∈zbJ 5,a.e=0/\a.t.size<=4000):=⟨zAC _,zAg _⟩;have aX:Hid _:=aS;clear aQ aS;have bW:=zm bT f;have bg:=cz.below f;clear bT cz;clear f;have aJ:=zcZ q (zbJ 5) T _ qc ka _ kc dn rfl rfl bg ar cP.out aX.out (by have:=aj.out.1;omega);go_wp2_with fail
      refine aJ.mono ?_;rintro e bJ⟨v,A,C,f⟩;subst A;dsimp only;clear aJ;have aD:Hid _:=zc9 cO.out aj.out.2;obtain⟨r,ai⟩:∃z9,z9=q++zbJ 5:=⟨_,rfl⟩;rw[<-ai]at C aD;have cQ:Hid (r.length=q.length+(4+9*5)/\r=q++zbJ 5):=⟨by rw[ai,lP_,aj.out.1],ai⟩;clear ai;obtain⟨ra,rc,Z,bu,cD⟩:=zbd C aD.out;subst Z;have ds:Hid _:=cD;have dF:r.length<=195:=by have:=cQ.out.1;omega
      clear C cD;have aY:=zm bW f;have b5:=bg.below f;have b6:=ar.below f;clear bW bg ar;clear f;have aC:=zc4 b a3 r ra _ rc bJ rfl (by omega) bu (λa ha=>(aD.out a ha).1) (HT.out bJ aY).1 (HT.out bJ aY).2;go_wp2_with fail
      refine aC.mono ?_;rintro e a6⟨p,A,cv,cy,bq,f⟩;subst A;dsimp only;clear aC;have bQ:Hid _:=cy;clear cy;have bX:=zm aY f;have b7:=b5.below f;have b8:=b6.below f;have b9:=bu.below f;clear aY b5 b6 bu;clear f;refine kO_ ?M0 ?_;exact Obj.cells #[.slice p.na 4 p.nc,.slice p.ga p.gs.length p.gc,I_ p.aw,.slice p.ca p.cs.length p.cc] 32;have am:=zC a6 ?M0;have aA:=hN_ a6 ?M0;go_upto_region 44 with fail
      generalize a6.alloc ?M0=bR at am aA|-;generalize a6.heap.size=Bp at aA|-;have aZ:=zm bX am;have ce:=cv.below am;have dx:=b7.below am;have dy:=b8.below am;have dz:=b9.below am;clear bX cv b7 b8 b9;clear am;have bL:=zBr p bR ce (λi hi=>bq.vw i hi) (zBe bQ.out aD.out) (HT.out _ aZ).2;have cK:Hid (∀V,B_ bR V->_):=λV d=>zBb b p V (ce.below d) (λi hi=>bq.vw i hi) bq.gs (λi hi=>zAF a3 bQ.out aD.out i hi) (HT.out _ (aZ.trans (d.mono aZ.size))).2;have c0:=zb aA 0 (.slice p.na 4 p.nc) rfl;have c1:=zb aA 1 (.slice p.ga p.gs.length p.gc) rfl;have c2:=zb aA 2 (I_ p.aw) rfl;have c3:=zb aA 3 (.slice p.ca p.cs.length p.cc) rfl;go_wp2_with fail
      refine bL.mono ?_;rintro _ w8⟨rfl,ah⟩;dsimp only;clear bL;have cV:=zm aZ ah;have d0:=zr ah c0;have d1:=zr ah c1;have d2:=zr ah c2;have d3:=zr ah c3;clear c0 c1 c2 c3;go_wp2_with fail
      refine(cK.out _ ah).mono ?_;rintro _ w9⟨rfl,aP⟩;dsimp only;have cW:=zm cV aP;go_wp2_with fail
      go_ret;exact⟨rfl,cW⟩
end Go.Proofs.YthnkppcncbjdiaaGreatDoor
