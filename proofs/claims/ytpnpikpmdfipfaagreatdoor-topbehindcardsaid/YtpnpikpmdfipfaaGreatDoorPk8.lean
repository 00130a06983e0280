import Derived.Test.YtpnpikpmdfipfaaGreatDoorPk7
set_option maxRecDepth 100000
set_option maxHeartbeats 4000000
namespace Go.Proofs.YtpnpikpmdfipfaaGreatDoor
open Go.RowKit Tryz
theorem zi1 (au rd:Int)(c:Q_)(d:Nat)(bl:List zi)(f:Q_)(g:Nat)(pl:List zi)(w:World)(h:HAt w c d bl f g pl)(y:zO au rd bl pl=0)(G:za2 w) :
  Calls prog 85 #[.agg #[I_ au,I_ rd,.slice c bl.length d,.slice f pl.length g]] w λe w'=>∃b,e=.returned (.tuple #[.agg #[I_ au,I_ rd,.slice (some (p_ b 0)) 32 32],I_ 0])/\w.heap.size<=b/\b<w'.heap.size/\zg w' (some (p_ b 0)) 32 (zaE au rd bl pl)/\B_ w w':=by
 refine kO_ ?A0 ?_;exact Obj.cells #[I_ au,I_ rd,.slice c bl.length d,.slice f pl.length g] 60;refine kO_ ?B0 ?_;exact Obj.cells #[I_ 0,I_ 0,O_] 63;have l:B_ w ((w.alloc ?A0).alloc ?B0):=((bR_ _ _).alloc (nR_ _) _).alloc (by simp) _;have B:=hX_ w ?A0 ?B0;have s:((w.alloc ?A0).alloc ?B0).heap[w.heap.size+1]? = some (.cells #[I_ 0,I_ 0,O_] 63 (0,0)):=by
  have:=hN_ (w.alloc ?A0) ?B0;rw[zG]at this;exact this
 go_in;go_wp2_with fail
 generalize (w.alloc ?A0).alloc ?B0=u at l B s|-;refine(zea (h.below l) y (G.below l)).mono ?_;rintro e J⟨b,rfl,z,o,A⟩;have q:=ze s;have C:=zk o B;have j:=zk o s;have L:=zb C 0 (I_ au) rfl;have M:=zb C 1 (I_ rd) rfl;have D:=zb j 0 _ rfl;have E:=zb j 1 _ rfl;have F:=zb j 2 _ rfl;have N:=zd j 0;have O:=zd j 1;have R:=zd j 2;have H:=zm l o;have I:b<J.heap.size:=by
  rcases A.bytes with p|⟨m,t,e,p⟩;have:=zbD au rd bl pl;rw[p]at this;simp at this;cases e;exact bL_ (p 0 (by rw[zbD];decide))
 clear y;go_wp2_with fail
 refine bodyPost_ret (v:=.tuple #[.agg #[I_ au,I_ rd,.slice (some (p_ b 0)) 32 32],I_ 0]) (by simp[results,results85,go_sem,D,E,F]) rfl ⟨b,rfl,nT_ l.size z,by simpa using I,?_,?_⟩;have r:∀m t,(some (p_ b 0):Q_)=some (p_ m t)->u.heap.size<=m:=λm t e=>by cases e;exact z
 exact ze1 (ze1 (ze1 A r _ _ _ q) r _ _ _ q) r _ _ _ q;exact((H.setCell (lS_ _) _).setCell (lS_ _) _).setCell (lS_ _) _
theorem zrR (b:List Sg)(y:Q_)(n A:Nat)(c:Int)(t:Sg)(w:World)(g:n=b.length)(I:b.length<=2932031007400)(J:zcz w y b)(L:zg w t.p.sa t.p.cap t.p.bs/\zaN t.p.bs) :
  Calls prog 144 #[.slice y n A,I_ c,.agg #[I_ t.nd,I_ t.au,I_ t.rd,.slice t.p.sa t.p.bs.length t.p.cap]] w λe w'=>e=.returned (.tuple #[.bool (zce (zA b) c t.v).1,I_ (zce (zA b) c t.v).2])/\B_ w w':=by
 subst g;refine kO_ ?A0 ?_;exact Obj.cells #[I_ t.nd,I_ t.au,I_ t.rd,.slice t.p.sa t.p.bs.length t.p.cap] 194;have l:=(bR_ w.heap.size w).alloc (nR_ _) ?A0;have M:=hN_ w ?A0;go_in;go_wp2_with fail
 generalize w.alloc ?A0=O at l M|-;have p:=zkF b y _ A c O rfl I (J.below l);by_cases hs:zcM (zA b) c=0;rw[hs]at p
 rotate_left
 have f:Hid (zce (zA b) c t.v=(false,zcM (zA b) c)):=zpV hs;generalize zcM (zA b) c=x at*;have U:(x != 0)=true:=by simpa using hs
 rotate_left
 all_goals
  refine p.mono ?_;rintro _ N⟨rfl,q⟩;dsimp only
 .have B:=zm l q;have o:=zk q M;have E:=zb o 0 _ rfl;have F:=zb o 1 _ rfl;have G:=zb o 2 _ rfl;have H:=zb o 3 _ rfl;have j:=zgF t.nd t.au t.rd t.p.sa t.p.bs.length t.p.cap N
  change Calls _ _ _ _ λe w'=>e=.returned (I_ (gF t.v))/\_ at j
  have z:Hid (zcM (zA b) c=0):=hs;clear hs p;by_cases hg:gF t.v=0;rw[hg]at j;have C:Hid (gF t.v=0):=hg;clear hg
  rotate_left
  have f:Hid (zce (zA b) c t.v=(false,gF t.v)):=zom z.out hg;generalize gF t.v=x at*;have U:(x != 0)=true:=by simpa using hg
  rotate_left
  all_goals
   go_wp2_with fail
   refine j.mono ?_;rintro _ w2⟨rfl,s⟩;dsimp only
  .clear E F G H j;have u:=zk s o;have E:=zb u 0 _ rfl;have F:=zb u 1 _ rfl;have G:=zb u 2 _ rfl;have H:=zb u 3 _ rfl;have m:=zm B s;by_cases g:t.nd=c
   .have f:Hid (zce (zA b) c t.v=(true,0)):=by
     show _=_;rw[zlw z.out C.out];simp[Sg.v,g]
    have T:(t.nd == c)=true:=by simpa using g
    clear g;go_wp2_with fail
    go_ret2;exact⟨by rw[f.out];rfl,m⟩
   have D:=zmf b y _ A t w2 rfl I (J.below m) ⟨L.1.below m,L.2⟩;have f:Hid (zce (zA b) c t.v=(decide (t.v∈zA b),0)):=by
    show _=_;rw[zlw z.out C.out];have:¬t.v.1=c:=g;simp[this]
   have T:(t.nd == c)=false:=by simpa using g
   generalize decide (t.v∈zA b)=r at D f;clear g;go_wp2_with fail
   refine D.mono ?_;rintro _ V⟨rfl,R⟩;dsimp only;go_wp2_with fail
   go_ret2;exact⟨by rw[f.out];rfl,m.trans (R.mono m.size)⟩
  go_wp2_with fail
  go_ret2;exact⟨by rw[f.out];rfl,B.trans (s.mono B.size)⟩
 go_wp2_with fail
 go_ret2;exact⟨by rw[f.out];rfl,l.trans (q.mono l.size)⟩
theorem zxc (s:Ct)(au rd:Int)(b c:Nat)(w:World)(d:C_ w b 0 (I_ au))(f:C_ w c 0 (I_ rd)) :
  Calls prog 129 #[.agg (crow_ s),(P_ b 0),(P_ c 0)] w λe w'=>e=.returned (.bool (decide (s.au=au/\s.rd=rd)))/\B_ w w':=by
 have g:=bL_ d;have j:=bL_ f;have l:b≠w.heap.size:=by simp at g;omega
 have m:c≠w.heap.size:=by simp at j;omega
 go_in;go_wp2_with fail
 all_goals (go_ret;exact⟨by first|(simp_all;done)|(simp_all;rfl),(bR_ _ _).alloc (nR_ _) _⟩)
theorem znK (b:List Ct)(r:Q_)(n t:Nat)(au rd:Int)(j l:Nat)(w:World)(f:n=b.length)(J:n<=3000000000000000000)(B:zba w r b)(u:C_ w j 0 (I_ au))(C:C_ w l 0 (I_ rd)) :
  Calls prog 130 #[.slice r n t,.func (.func 129) #[] #[P_ j 0,(P_ l 0)]] w λe w'=>e=.returned (I_ (cOf (zI b) au rd))/\B_ w w':=by
 subst f;go_in;go_wp2_with fail
 go_loopw [8] (λi wr=>∃m:Nat,m<=b.length/\i=I_ m/\zaC (zfp (zI b) au rd) m=-1/\B_ w wr) (λi _=>b.length-(intOf i).toNat)
 case atStart=>exact⟨0,nZ_ _,rfl,rfl,bR_ _ _⟩
 case round=>
  obtain⟨m,M,rfl,g,d⟩:=hrel;by_cases hlt:m<b.length
  .obtain⟨N,O,rfl,E,F,G,H,I⟩:=(B.below d).at m hlt;have p:=zvx b au rd m hlt;have y:=zr d u;have D:=zr d C;have L:(m:Int)<b.length:=by omega
   have c:Hid (decide ((b[m]).au=au/\(b[m]).rd=rd)=true->cOf (zI b) au rd=m):=by
    show _->_;intro h;exact zgc _ m _ g (by rw[p];exact h) (by rw[zbv];exact hlt)
   have o:Hid (decide ((b[m]).au=au/\(b[m]).rd=rd)=false->zaC (zfp (zI b) au rd) (m+1)=-1):=by
    show _->_;intro h;exact zgv _ m g (by rw[p];exact h)
   clear g p;generalize b[m]=s at*;go_wp2_with fail
   refine(zxc s au rd j l wr y D).mono ?_;rintro _ R⟨rfl,z⟩;dsimp only;have q:=zm d z;generalize decide (s.au=au/\s.rd=rd)=x at*;cases x
   .have f:Hid _:=o.out rfl;clear c o;go_wp2_with fail
    go_roundw
    case rel=>exact⟨m+1,by omega,by go_num,f.out,q⟩
    case measure=>simp[intOf];omega
   have f:Hid _:=c.out rfl;clear c o;go_wp2_with fail
   go_ret;exact⟨zt f.out.symm,q⟩
  obtain rfl:m=b.length:=by omega
  have c:Hid (cOf (zI b) au rd=-1):=by
   show zaC _ _=-1;rw[zbv];exact g
  clear g;go_wp2_with fail
  go_ret;exact⟨zt c.out.symm,d⟩
theorem ztI (d:List Ct)(s:Nat)(f:Q_)(j:Nat)(q:Q_)(r:Nat)(ds:List zi)(au rd:Int)(w:World)(c:zee w s d f j q r ds) :
  Calls prog 77 #[P_ s 0,I_ au,I_ rd] w λe w'=>e=.returned (I_ (cOf (zI d) au rd))/\B_ w w':=by
 have B:∀(fn:Fn) (first g:X_) (w:World),(Instr.makeFunc fn first g).run prog w=.ok (.func fn first g) w:=λ_ _ _ _=>rfl;have C:=c.at'.small;have y:=c.at'.certs;have u:=c.box;clear c;refine kW_ ?A0 ?_;exact(w.alloc (.cells #[I_ au] 3)).alloc (.cells #[I_ rd] 3);have b:B_ w ?A0:=((bR_ _ _).alloc (nR_ _) _).alloc (by rw[zG];omega) _;have l:(?A0).cell? (p_ w.heap.size 0)=some (I_ au):=zb (zR (hN_ w _)) 0 _ rfl;have m:(?A0).cell? (p_ (w.heap.size+1) 0)=some (I_ rd):=by
  have:=zhz (w.alloc (.cells #[I_ au] 3)) #[I_ rd] 3 0 _ rfl;rw[zG]at this;exact this
 have A:=zb (zR (o:=.cells #[I_ rd] 3) (zR (o:=.cells #[I_ au] 3) u)) 0 _ rfl;go_in;go_wp2_with fail
 generalize (w.alloc (.cells #[I_ au] 3)).alloc (.cells #[I_ rd] 3)=p at b l m A|-;refine(znK d f d.length j au rd _ _ p rfl (by omega) (y.below b) l m).mono ?_;rintro _ D⟨rfl,t⟩;dsimp only;go_wp2_with fail
 go_ret;exact⟨rfl,b.trans (t.mono b.size)⟩
theorem zoK (b ys:L_)(f j:Q_)(n m c d g:Nat)(w:World)(r:n=b.length)(q:m=ys.length)(l:zg w f c b)(o:zg w j d ys)(s:C_ w g 0 (.slice j m d)) :
  Calls prog 205 #[.slice f n c,(P_ g 0)] w λe w'=>e=.returned (.bool (decide (txL b=txL ys)))/\w=w':=by
 go_in;go_wp2_with fail
 refine(zeI b ys _ _ _ _ _ _ w (by first|exact r|rfl) (by first|exact q|rfl) l o).mono ?_;rintro _ t⟨rfl,rfl⟩;dsimp only;go_wp2_with fail
 go_ret;exact⟨rfl,rfl⟩
theorem zoL (l:List CV)(ds:List zi)(u:Q_)(n B:Nat)(bs:L_)(r:Q_)(z s g:Nat)(w:World)(G:n=ds.length)(o:zT ds=l.map CV.d)(J:n<=3000000000000000000)(y:zbT w u ds)(F:z=bs.length)(E:zg w r s bs)(D:C_ w g 0 (.slice r z s)) :
  Calls prog 172 #[.slice u n B,.func (.func 205) #[] #[P_ g 0]] w λe w'=>e=.returned (I_ (pOf l bs))/\w=w':=by
 subst G F;have t:Hid (ds.length=l.length):=zhZ o;have A:Hid (zT ds=l.map CV.d):=o;clear o;go_in;go_wp2_with fail
 go_loop [8] (λi=>∃m:Nat,m<=ds.length/\i=I_ m/\zaC (zmi l bs) m=-1) (λi=>ds.length-(intOf i).toNat)
 case atStart=>exact⟨0,nZ_ _,rfl,rfl⟩
 case round=>
  obtain⟨m,M,rfl,c⟩:=hrel;by_cases hlt:m<ds.length
  .rcases y.cells with d|⟨N,O,rfl,d⟩;subst d;simp at hlt;have I:=d m hlt;have H:=y.each (ds[m]) (gM_ hlt);have L:(m:Int)<ds.length:=by omega
   have q:=zov A.out m hlt;have f:Hid (txL (ds[m]).bs=txL bs->pOf l bs=m):=by
    show _->_;intro h;exact zgc _ m _ c (by rw[zmi,q];simpa using h) (by rw[<-t.out];exact hlt)
   have j:Hid (¬txL (ds[m]).bs=txL bs->zaC (zmi l bs) (m+1)=-1):=by
    show _->_;intro h;exact zgv _ m c (by rw[zmi,q];simpa using h)
   clear c q d;generalize ds[m]=p at*;go_wp2_with fail
   refine(zoK p.bs bs p.sa r _ _ p.cap s g w rfl rfl H E D).mono ?_;rintro _ R⟨rfl,rfl⟩;dsimp only;by_cases h:txL p.bs=txL bs
   .have b:Hid (pOf l bs=m):=f.out h;rw[dT_ h];clear f j h;go_wp2_with fail
    go_ret;exact⟨zt b.out.symm,rfl⟩
   have b:Hid (zaC (zmi l bs) (m+1)=-1):=j.out h;rw[dF_ h];clear f j h;go_wp2_with fail
   go_round
   case rel=>exact⟨m+1,by omega,by go_num,b.out⟩
   case measure=>simp[intOf];omega
  obtain rfl:m=ds.length:=by omega
  have b:Hid (pOf l bs=-1):=by
   show zaC _ _=-1;rw[<-t.out];exact c
  clear c;go_wp2_with fail
  go_ret;exact⟨zt b.out.symm,rfl⟩
theorem zmw (f:List Ct)(s:Nat)(u:Q_)(y:Nat)(l:Q_)(m:Nat)(ds:List zi)(bs:L_)(b:Q_)(q c:Nat)(w:World)(d:zee w s f u y l m ds)(E:q=bs.length)(D:zg w b c bs) :
  Calls prog 181 #[P_ s 0,.slice b q c] w λe w'=>e=.returned (I_ (pOf (zI f) bs))/\B_ w w':=by
 have G:∀(fn:Fn) (first j:X_) (w:World),(Instr.makeFunc fn first j).run prog w=.ok (.func fn first j) w:=λ_ _ _ _=>rfl;have H:=d.at'.small;subst E;have B:Hid (f.length=ds.length):=by
  show _=_;rw[d.at'.len]
 have A:=d.at'.digs.parts;have r:Hid (zT ds=(zI f).map CV.d):=d.at'.same;have z:=d.box;clear d;refine kV_ ?A0 ?_;exact Value.slice b bs.length c;have g:=zC w (.cells #[?A0] 61);have p:(w.alloc (.cells #[?A0] 61)).cell? (p_ w.heap.size 0)=some ?A0:=by simp
 have F:=zb (zR (o:=.cells #[?A0] 61) z) 1 _ rfl;go_in;go_wp2_with fail
 generalize w.alloc (.cells #[?A0] 61)=t at g p F|-;refine(zoL (zI f) ds l f.length m bs b bs.length c _ t B.out r.out (by omega) (A.below g) rfl (D.below g) p).mono ?_;rintro _ I⟨rfl,rfl⟩;dsimp only;go_wp2_with fail
 go_ret;exact⟨rfl,g⟩
theorem zmx (b:List Ct)(s:Nat)(c:Q_)(d:Nat)(f:Q_)(g:Nat)(ds:List zi)(au rd:Int)(w:World)(m:zee w s b c d f g ds) :
  Calls prog 45 #[P_ s 0,I_ au,I_ rd] w λe w'=>e=.returned (.bool (decide (0<=cOf (zI b) au rd)))/\B_ w w':=by
 go_in;go_wp2_with fail
 refine(ztI b s c d f g ds au rd w m).mono ?_;rintro _ o⟨rfl,j⟩;dsimp only;go_wp2_with fail
 go_ret;exact⟨rfl,j⟩
variable {w w':World}{U:Nat->Bool}{F o:Nat}{fc:X_}{T:TypeId}{sa:Q_}{x:NM}
def zi2 (l:List BW)(d:L_)(j:Nat):Bool:=decide (zai (l.getD j ⟨0,0,[]⟩).d=zai d)
def sOf (l:List BW)(d:L_):Int:=zaC (zi2 l d) l.length
theorem zoN {a b:L_}:txL a=txL b↔zai a=zai b:=⟨λh=>zhf h,λh=>by rw[txL,h];rfl⟩
theorem zb6 (l:List Sh):(shw l).length=l.length:=by simp[shw]
theorem zxd (l:List Sh)(k:Nat)(h:k<l.length):(shw l).getD k ⟨0,0,[]⟩=(l[k]).b.v:=by simp[shw,List.getD,h]
theorem ztJ (l:List BW)(d:L_):(sOf l d=-1/\zb1 l d=false/\bOf l d=none)\/∃k,∃h:k<l.length,sOf l d=k/\zb1 l d=true/\bOf l d=some l[k]:=by
 have q:∀m,m<=l.length->(zaC (zi2 l d) m=-1/\(l.take m).find? (λb=>decide (zai b.d=zai d))=none)\/∃k,∃h:k<l.length,k<m/\zaC (zi2 l d) m=k/\(l.take m).find? (λb=>decide (zai b.d=zai d))=some l[k]:=by
  intro m
  induction m with
  | zero=>intro _;exact .inl ⟨rfl,by simp⟩
  | succ m ih=>
   intro s;have j:m<l.length:=by omega
   have o:l.take (m+1)=l.take m++[l[m]]:=by rw[List.take_add_one];simp[j]
   have p:l.getD m ⟨0,0,[]⟩=l[m]:=by simp[List.getD,j]
   rcases ih (by omega)with⟨f,c⟩|⟨k,g,r,f,c⟩;by_cases hd:zai (l[m]).d=zai d;refine .inr ⟨m,j,by omega,zgc _ m _ f (by rw[zi2,p];exact dT_ hd) (by omega),?_⟩;rw[o,List.find?_append,c];simp[hd];refine .inl ⟨zgv _ m f (by rw[zi2,p];exact dF_ hd),?_⟩;rw[o,List.find?_append,c];simp[hd];refine .inr ⟨k,g,by omega,?_,?_⟩;rw[zaC,f];simp;rw[o,List.find?_append,c];rfl
 rcases q l.length (nR_ _)with⟨f,c⟩|⟨k,g,_,f,c⟩;rw[List.take_length]at c;exact .inl ⟨f,zk5.1 c,c⟩;rw[List.take_length]at c;exact .inr ⟨k,g,f,by rw[<-zvA,bOf,c];rfl,c⟩
structure zhK (w:World)(sa:Q_)(ls:List Sh):Prop where
 cells:ls=[]\/∃sb so,sa=some (p_ sb so)/\∀j (h:j<ls.length),w.cell? (p_ sb (so+j*4))=some (I_ (ls[j]).b.v.au)/\w.cell? (p_ sb (so+j*4+1))=some (I_ (ls[j]).b.v.nu)/\w.cell? (p_ sb (so+j*4+2))=some (.slice (ls[j]).b.ta (ls[j]).b.v.ss.length (ls[j]).b.tc)/\w.cell? (p_ sb (so+j*4+3))=some (.slice (ls[j]).d.sa (ls[j]).d.bs.length (ls[j]).d.cap)
 each:∀s∈ls,zd3 w s
theorem zhK.below {c:List Sh}(h:zhK w sa c)(d:B_ w w'):zhK w' sa c:=by
 have k:=Sub.below d;refine⟨?_,λs f=>(h.each s f).sub k⟩;rcases h.cells with h|⟨g,l,e,h⟩;exact .inl h;exact .inr ⟨g,l,e,λj b=>⟨k.cell _ _ (h j b).1,k.cell _ _ (h j b).2.1,k.cell _ _ (h j b).2.2.1,k.cell _ _ (h j b).2.2.2⟩⟩
theorem zhK.at {b:List Sh}(h:zhK w sa b)(m:Nat)(f:m<b.length):∃c d,sa=some (p_ c d)/\C_ w c (d+m*4) (I_ (b[m]).b.v.au)/\C_ w c (d+m*4+1) (I_ (b[m]).b.v.nu)/\C_ w c (d+m*4+2) (.slice (b[m]).b.ta (b[m]).b.v.ss.length (b[m]).b.tc)/\C_ w c (d+m*4+3) (.slice (b[m]).d.sa (b[m]).d.bs.length (b[m]).d.cap):=by
 rcases h.cells with h|⟨c,d,e,h⟩;subst h;simp at f;exact⟨c,d,e,h m f⟩
theorem zp9 {a:Q_}{c:Nat}{b:List Sh}(h:w.ownsRow 0 102 4 (.slice a b.length c) b.length (shv b))(d:∀s∈b,zd3 w s):zhK w a b:=by
 refine⟨?_,d⟩;rcases h.2 with⟨_,m⟩|⟨g,o,p,e,_⟩;exact .inl (eN_ m);cases e;refine .inr ⟨g,0,rfl,λj l=>?_⟩;have e:∀i,i<4->w.cell? (p_ g (j*4+i))=(b[j]).cs[i]?:=λi f=>by rw[World.ownsRow.cellAt h (j*4+i) (by omega),zxa b j i l f]
 simp only[zA_];exact⟨e 0 (by omega),e 1 (by omega),e 2 (by omega),e 3 (by omega)⟩
theorem zo.shs (h:zo w U F o T fc x):zhK w x.sa x.sh:=zp9 h.rsh (λs m=>(h.esh s m).sub (zK U w))
theorem zrS (s:Sh)(ys:L_)(d:Q_)(f g:Nat)(w:World)(c:zd3 w s)(q:zg w d f ys)(p:C_ w g 0 (.slice d ys.length f)) :
  Calls prog 164 #[.agg #[I_ s.b.v.au,I_ s.b.v.nu,.slice s.b.ta s.b.v.ss.length s.b.tc,.slice s.d.sa s.d.bs.length s.d.cap],(P_ g 0)] w λe w'=>e=.returned (.bool (decide (zai s.b.v.d=zai ys)))/\B_ w w':=by
 refine kO_ ?A0 ?_;exact Obj.cells #[I_ s.b.v.au,I_ s.b.v.nu,.slice s.b.ta s.b.v.ss.length s.b.tc,.slice s.d.sa s.d.bs.length s.d.cap] 102;have b:=zC w ?A0;have j:=hN_ w ?A0;go_in;go_upto_region 1 with fail
 generalize w.alloc ?A0=l at b j|-;have r:=zb j 3 _ rfl;have t:=zr b p;have m:Hid (decide (txL s.d.bs=txL ys)=decide (zai s.b.v.d=zai ys)):=by show _=_;rw[c.e];exact decide_eq_decide.2 zoN
 go_wp2_with fail
 refine(zeI s.d.bs ys _ _ _ _ _ _ l rfl rfl (c.d.below b) (q.below b)).mono ?_;rintro _ u⟨rfl,rfl⟩;dsimp only;go_wp2_with fail
 go_ret;exact⟨by rw[m.out];rfl,b⟩
theorem zqa (b:List Sh)(u:Q_)(n y:Nat)(ys:L_)(p:Q_)(q g:Nat)(w:World)(f:n=b.length)(J:n<=800)(t:zhK w u b)(D:zg w p q ys)(B:C_ w g 0 (.slice p ys.length q)) :
  Calls prog 165 #[.slice u n y,.func (.func 164) #[] #[P_ g 0]] w λe w'=>e=.returned (I_ (sOf (shw b) ys))/\B_ w w':=by
 subst f;go_in;go_wp2_with fail
 go_loopw [8] (λi wr=>∃m:Nat,m<=b.length/\i=I_ m/\zaC (zi2 (shw b) ys) m=-1/\B_ w wr) (λi _=>b.length-(intOf i).toNat)
 case atStart=>exact⟨0,nZ_ _,rfl,rfl,bR_ _ _⟩
 case round=>
  obtain⟨m,M,rfl,j,c⟩:=hrel;by_cases hlt:m<b.length
  .obtain⟨N,O,rfl,F,G,H,I⟩:=(t.below c).at m hlt;have E:=(t.below c).each _ (gM_ hlt);have C:=zr c B;have L:(m:Int)<b.length:=by omega
   have o:zi2 (shw b) ys m=decide (zai (b[m]).b.v.d=zai ys):=by rw[zi2,zxd b m hlt]
   have d:Hid (decide (zai (b[m]).b.v.d=zai ys)=true->sOf (shw b) ys=m):=by
    show _->_;intro h;exact zgc _ m _ j (by rw[o];exact h) (by rw[zb6];exact hlt)
   have l:Hid (decide (zai (b[m]).b.v.d=zai ys)=false->zaC (zi2 (shw b) ys) (m+1)=-1):=by
    show _->_;intro h;exact zgv _ m j (by rw[o];exact h)
   clear j o;generalize b[m]=s at*;go_wp2_with fail
   refine(zrS s ys p q g wr E (D.below c) C).mono ?_;rintro _ R⟨rfl,z⟩;dsimp only;have r:=zm c z;generalize decide (zai s.b.v.d=zai ys)=x at*;cases x
   .have f:Hid _:=l.out rfl;clear d l;go_wp2_with fail
    go_roundw
    case rel=>exact⟨m+1,by omega,by go_num,f.out,r⟩
    case measure=>simp[intOf];omega
   have f:Hid _:=d.out rfl;clear d l;go_wp2_with fail
   go_ret;exact⟨zt f.out.symm,r⟩
  obtain rfl:m=b.length:=by omega
  have d:Hid (sOf (shw b) ys=-1):=by
   show zaC _ _=-1;rw[zb6];exact j
  clear j;go_wp2_with fail
  go_ret;exact⟨zt d.out.symm,c⟩
theorem znb (x:NM)(ys:L_)(b:Q_)(j c:Nat)(w:World)(U:Nat->Bool)(F o:Nat)(T:TypeId)(q:X_)(h:zo w U F o T q x)(y:j=ys.length)(u:zg w b c ys) :
  Calls prog 122 #[P_ F o,.slice b j c] w λe w'=>e=.returned (I_ (sOf (shw x.sh) ys))/\B_ w w':=by
 subst y;have A:∀(fn:Fn) (first f:X_) (w:World),(Instr.makeFunc fn first f).run prog w=.ok (.func fn first f) w:=λ_ _ _ _=>rfl;refine kO_ ?A0 ?_;exact Obj.cells #[.slice b ys.length c] 61;have d:=zC w ?A0;have l:=hN_ w ?A0;have r:x.sh.length<=800:=by have:=h.inv.sh;simpa[NM.v,shw]using this
 go_in;go_upto_region 2 with fail
 generalize w.alloc ?A0=m at d l|-;have g:=h.below d;have z:=g.cell 4 _ rfl;have p:=zb l 0 _ rfl;go_wp2_with fail
 refine(zqa x.sh _ _ _ ys b c _ m rfl r g.shs (u.below d) p).mono ?_;rintro _ B⟨rfl,s⟩;dsimp only;go_wp2_with fail
 go_ret;exact⟨rfl,d.trans (s.mono d.size)⟩
theorem zgX (x:NM)(ys:L_)(f:Q_)(q g:Nat)(w:World)(U:Nat->Bool)(F o:Nat)(T:TypeId)(j:X_)(h:zo w U F o T j x)(t:q=ys.length)(p:zg w f g ys) :
  Calls prog 69 #[P_ F o,.slice f q g] w λe w'=>e=.returned (.bool (!zb1 (shw x.sh) ys))/\B_ w w':=by
 subst t;have c:Hid _:=ztJ (shw x.sh) ys;have l:=znb x ys f _ g w U F o T j h rfl p;generalize sOf (shw x.sh) ys=r at c l;clear h p;go_in;go_wp2_with fail
 refine l.mono ?_;rintro _ y⟨rfl,m⟩;dsimp only;rcases c.out with⟨rfl,b,-⟩|⟨k,-,rfl,b,-⟩;have d:Hid _:=b
 rotate_left
 have d:Hid _:=b;have u:¬((k:Int)<0):=by omega
 rotate_left
 all_goals
  clear b c;go_wp2_with fail
  go_ret;exact⟨by rw[d.out];rfl,m⟩
structure zdj (w:World)(sa:Q_)(sc:Nat)(gs:List Sg):Prop where
 tab:ze9 w sa sc gs
theorem zdj.sub {c:Nat}{b:List Sg}(h:zdj w sa c b)(k:Sub w w'):zdj w' sa c b:=⟨h.tab.sub k⟩
theorem zdj.below {c:Nat}{b:List Sg}(h:zdj w sa c b)(d:B_ w w'):zdj w' sa c b:=h.sub (Sub.below d)
theorem znc (s t:Sl)(w:World)(p:zg w s.p.sa s.p.cap s.p.bs)(q:zg w t.p.sa t.p.cap t.p.bs)(r:zaN s.p.bs)(u:zaN t.p.bs) :
  Calls prog 96 #[.agg #[I_ s.au,I_ s.rd,.slice s.p.sa s.p.bs.length s.p.cap],.agg #[I_ t.au,I_ t.rd,.slice t.p.sa t.p.bs.length t.p.cap]] w λe w'=>e=.returned (.bool (decide (s.v=t.v)))/\B_ w w':=by
 refine kO_ ?A0 ?_;exact Obj.cells #[I_ s.au,I_ s.rd,.slice s.p.sa s.p.bs.length s.p.cap] 63;refine kO_ ?B0 ?_;exact Obj.cells #[I_ t.au,I_ t.rd,.slice t.p.sa t.p.bs.length t.p.cap] 63;have b:B_ w ((w.alloc ?A0).alloc ?B0):=((bR_ _ _).alloc (nR_ _) _).alloc (by simp) _;have d:=hX_ w ?A0 ?B0;have f:=hY_ w ?A0 ?B0;go_in;go_upto_region 1 with fail
 generalize (w.alloc ?A0).alloc ?B0=l at b d f|-;have y:=zb d 0 _ rfl;have z:=zb d 1 _ rfl;have A:=zb d 2 _ rfl;have j:=zb f 0 _ rfl;have m:=zb f 1 _ rfl;have B:=zb f 2 _ rfl;by_cases e1:s.au=t.au
 .by_cases e2:s.rd=t.rd;have g:=zeI s.p.bs t.p.bs _ _ _ _ _ _ l rfl rfl (p.below b) (q.below b);have c:Hid (decide (txL s.p.bs=txL t.p.bs)=decide (s.v=t.v)):=by
   show _=_;refine decide_eq_decide.2 ?_;rw[zx1 r u];simp[Sl.v,e1,e2]
  rw[<-e1]at j;rw[<-e2]at m;clear e1 e2;go_wp2_with fail
  refine g.mono ?_;rintro _ E⟨rfl,rfl⟩;dsimp only;clear g
  rotate_left
  have D:(s.rd == t.rd)=false:=by simpa using e2
  have c:Hid (decide (s.v=t.v)=false):=by show _=_;exact dF_ (λh=>e2 (cA_ (λv=>v.2.1) h))
  rw[<-e1]at j;clear e1 e2
  rotate_left
  all_goals
   go_wp2_with fail
   go_ret;exact⟨by rw[c.out];rfl,b⟩
 have C:(s.au == t.au)=false:=by simpa using e1
 have c:Hid (decide (s.v=t.v)=false):=by show _=_;exact dF_ (λh=>e1 (cA_ (λv=>v.1) h))
 clear e1;go_wp2_with fail
 go_ret;exact⟨by rw[c.out];rfl,b⟩
theorem zkM (c:Int)(b:List Sg)(d:Q_)(f:Nat)(j:Int)(s:Sl)(w:World)(t:zdj w d f b)(H:zg w s.p.sa s.p.cap s.p.bs)(I:zaN s.p.bs) :
  Calls prog 97 #[.agg #[I_ c,.slice d b.length f],I_ j,.agg #[I_ s.au,I_ s.rd,.slice s.p.sa s.p.bs.length s.p.cap]] w λe w'=>e=.returned (.bool (No.signed ⟨c,zA b⟩ j s.v))/\B_ w w':=by
 refine kO_ ?A0 ?_;exact Obj.cells #[I_ s.au,I_ s.rd,.slice s.p.sa s.p.bs.length s.p.cap] 63;refine kO_ ?B0 ?_;exact Obj.cells #[I_ c,.slice d b.length f] 53;have g:B_ w ((w.alloc ?B0).alloc ?A0):=((bR_ _ _).alloc (nR_ _) _).alloc (by simp) _;have p:=hX_ w ?B0 ?A0;have o:=hY_ w ?B0 ?A0;have u:=t.tab.small;have m:Hid (No.signed ⟨c,zA b⟩ j s.v=(decide ((zce (zA b) c (Sg.v ⟨j,s.au,s.rd,s.p⟩)).2=0)&&(zce (zA b) c (Sg.v ⟨j,s.au,s.rd,s.p⟩)).1)):=rfl;go_in;go_upto_region 1 with fail
 generalize (w.alloc ?B0).alloc ?A0=A at g p o|-;have B:=zb p 0 _ rfl;have C:=zb p 1 _ rfl;have D:=zb o 0 _ rfl;have E:=zb o 1 _ rfl;have F:=zb o 2 _ rfl;have l:=zrR b d _ f c ⟨j,s.au,s.rd,s.p⟩ A rfl u (t.tab.below g).slots ⟨H.below g,I⟩;dsimp only at l;generalize zce (zA b) c (Sg.v ⟨j,s.au,s.rd,s.p⟩)=r at l m;obtain⟨L,y⟩:=r;dsimp only at l m;clear u;go_wp2_with fail
 refine l.mono ?_;rintro _ M⟨rfl,q⟩;dsimp only;clear l B C D E F;by_cases h0:y=0
 .subst h0;go_wp2_with fail
  go_ret;exact⟨by rw[m.out];rfl,g.trans (q.mono g.size)⟩
 have J:(y == 0)=false:=by simpa using h0
 have z:Hid _:=h0;clear h0;go_wp2_with fail
 go_ret;exact⟨by rw[m.out,dF_ z.out];rfl,g.trans (q.mono g.size)⟩
theorem zqb (d:Int)(b:List Sg)(g:Q_)(j:Nat)(c:Ct)(w:World)(t:zdj w g j b)(I:za7 w c)(H:za2 w) :
  Calls prog 102 #[.agg #[I_ d,.slice g b.length j],.agg #[I_ c.au,I_ c.rd,.slice c.ba c.bl.length c.bc,.slice c.pa c.pl.length c.pc,.slice c.va c.vl.length c.vc]] w λe w'=>e=.returned (.bool (No.proven ⟨d,zA b⟩ c.v))/\B_ w w':=by
 refine kO_ ?A0 ?_;exact Obj.cells #[I_ c.au,I_ c.rd,.slice c.ba c.bl.length c.bc,.slice c.pa c.pl.length c.pc,.slice c.va c.vl.length c.vc] 88;refine kO_ ?B0 ?_;exact Obj.cells #[I_ d,.slice g b.length j] 53;have f:B_ w ((w.alloc ?B0).alloc ?A0):=((bR_ _ _).alloc (nR_ _) _).alloc (by simp) _;have q:=hX_ w ?B0 ?A0;have l:=hY_ w ?B0 ?A0;have u:=t.tab.small;have o:Hid (No.proven ⟨d,zA b⟩ c.v=decide (zfl (zA b) d c.au c.rd (zap c.au c.rd c.bl c.pl c.vl) (zaE c.au c.rd c.bl c.pl) c.vl=0)):=by
  show _=_;rw[Ct.f_v,Ct.d_v];rfl
 go_in;go_upto_region 1 with fail
 generalize (w.alloc ?B0).alloc ?A0=z at f q l|-;have A:=zb q 0 _ rfl;have B:=zb q 1 _ rfl;have C:=zb l 0 _ rfl;have D:=zb l 1 _ rfl;have E:=zb l 2 _ rfl;have F:=zb l 3 _ rfl;have G:=zb l 4 _ rfl;have m:=I.below f;have p:=zrz b g _ j d c.au c.rd c.ba c.bc c.bl c.pa c.pc c.pl c.va c.vc c.vl z rfl u (t.tab.below f).slots m.hat m.ints m.vle (H.below f);generalize zfl (zA b) d c.au c.rd (zap c.au c.rd c.bl c.pl c.vl) (zaE c.au c.rd c.bl c.pl) c.vl=r at p o;clear u m;go_wp2_with fail
 refine p.mono ?_;rintro _ M⟨rfl,s⟩;dsimp only;clear p A B C D E F G;by_cases h0:r=0
 .subst h0;go_wp2_with fail
  go_ret;exact⟨by rw[o.out];rfl,f.trans (s.mono f.size)⟩
 have L:(r == 0)=false:=by simpa using h0
 have y:Hid _:=h0;clear h0;go_wp2_with fail
 go_ret;exact⟨by rw[o.out,dF_ y.out];rfl,f.trans (s.mono f.size)⟩
variable {rd au:Int}{k:Nat}{l:List SV}
theorem zrM (l:List SV)(s:SV):(za6 l s=(l,0)/\∃m,zbp l s.1 s.2.1 l.length=some m)\/za6 l s=([],7)\/za6 l s=([],6)\/(za6 l s=(l++[s],0)/\zbp l s.1 s.2.1 l.length=none/\l.length<400):=by
 cases h:zbp l s.1 s.2.1 l.length with
 | none=>
  by_cases hl:400<=l.length;exact .inr (.inr (.inl (ziH h hl)));exact .inr (.inr (.inr ⟨zjL h hl,rfl,by omega⟩))
 | some m=>
  by_cases he:txL (zd1 l m).2.2=txL s.2.2;exact .inl ⟨ziG h he,m,rfl⟩;exact .inr (.inl (zhY h he))
theorem zm8 (h:zbp l au rd k=none):∀j,j<k->hit l au rd j=false:=by
 induction k with
 | zero=>intro j b;omega
 | succ k ih=>
  rw[zbp]at h;cases h1:zbp l au rd k with
  | some m=>rw[h1]at h;cases h
  | none=>
   rw[h1]at h;intro j b;rcases lG_ j k with g|g;exact ih h1 j g;obtain rfl:j=k:=by omega
   cases h2:hit l au rd j with
   | false=>rfl
   | true=>rw[h2]at h;simp at h
theorem zt9 (l m:List SV)(k:Nat)(h:k<l.length):zd1 (l++m) k=zd1 l k:=by simp[zd1,List.getD,List.getElem?_append_left h]
theorem zz8 (l m:List SV)(au rd:Int)(k:Nat)(h:k<l.length):hit (l++m) au rd k=hit l au rd k:=by rw[hit,hit,zt9 l m k h]
theorem zqR (l m:List SV)(au rd:Int)(k:Nat)(h:k<=l.length):zff (l++m) au rd k=zff l au rd k:=by
 unfold zff;have:∀(b:List Nat),(∀x∈b,x<k)->b.any (hit (l++m) au rd)=b.any (hit l au rd):=by
  intro b
  induction b with
  | nil=>intro _;rfl
  | cons x b ih=>
   intro c;have f:=c x (List.mem_cons_self ..);rw[List.any_cons,List.any_cons,zz8 l m au rd x (by omega),ih (λy d=>c y (mC_ _ d))]
 exact this _ (λx c=>List.mem_range.1 c)
theorem zzU (l m:List SV)(k:Nat)(h:k<l.length):zeD (l++m) k=zeD l k:=by
 rw[zeD,zeD,zt9 l m k h,zqR l m _ _ k (by omega)]
theorem zAh {s:SV}(h:zdt l=0)(m:l.length<400)(f:zbf s.1 s.2.1 s.2.2.length=0)(d:zbp l s.1 s.2.1 l.length=none):zdt (l++[s])=0:=by
 refine zwX _ (by simp;omega) λk c=>?_;rcases lG_ k l.length with g|g;rw[zzU l [s] k g];exact(zmY h).2 k g;obtain rfl:k=l.length:=by simp at c;omega
 have e:zd1 (l++[s]) l.length=s:=by simp[zd1,List.getD]
 rw[zeD,e,f,zqR l [s] _ _ _ (nR_ _)];have:zff l s.1 s.2.1 l.length=false:=by
  simp only[zff,List.any_eq_false];intro j b;rw[zm8 d j (by simpa using b)];simp
 rw[this];rfl
theorem zAn:zdt []=0:=by decide
theorem zrN {m:Nat}(h:zbp l au rd k=some m):m<k/\hit l au rd m=true/\∀j,j<m->hit l au rd j=false:=by
 induction k with
 | zero=>cases h
 | succ k ih=>
  rw[zbp]at h;cases h1:zbp l au rd k with
  | some n=>
   rw[h1]at h;obtain rfl:n=m:=by simpa using h
   obtain⟨a,b,c⟩:=ih h1;exact⟨by omega,b,c⟩
  | none=>
   rw[h1]at h;cases h2:hit l au rd k with
   | false=>rw[h2]at h;simp at h
   | true=>
    rw[h2]at h;obtain rfl:k=m:=by simpa using h
    exact⟨by omega,h2,zm8 h1⟩
variable {i j:Int}
structure Ac where
 (k i p:Int) (t:ByteArray)
def Fl.does (f:Fl)(a:Ac):Fl:=f.act a.k a.i a.p a.t
def Fl.run (f:Fl)(l:List Ac):Fl:=l.foldl Fl.does f
theorem Fl.run_append (f:Fl)(l m:List Ac):f.run (l++m)=(f.run l).run m:=List.foldl_append
theorem Fl.zwo (f:Fl)(l:List Ac)(a:Ac):f.run (l++[a])=(f.run l).does a:=by rw[Fl.run_append];rfl
theorem Fl.run_cons (f:Fl)(a:Ac)(l:List Ac):f.run (a::l)=(f.does a).run l:=rfl
theorem zuX {f:Fl}{a:Ac}(h:a.k=4\/a.k=5\/a.k=6):f.does a=f.pick a.k a.p:=iP_ h
theorem zuY {f:Fl}{a:Ac}(h:a.k=10):f.does a=f.flow:=by
 rw[Fl.does,Fl.act,iN_ (by omega),iP_ h]
theorem zp3 {f:Fl}{a:Ac}(h:a.k=1):f.does a=f.submit a.i a.t:=by
 rw[Fl.does,Fl.act,iN_ (by omega),iN_ (by omega),iP_ h]
theorem zBd {f:Fl}{a:Ac}(h:a.k=2):f.does a=if f.runs a.i then f.set a.i (f.node a.i).work else f:=by
 rw[Fl.does,Fl.act,iN_ (by omega),iN_ (by omega),iN_ (by omega),iN_ (by omega),iN_ (by omega),iP_ (by omega),iP_ h]
theorem zgB {f:Fl}{a:Ac}(h:a.k=3):f.does a=if f.runs a.i then f.sync a.i else f:=by
 rw[Fl.does,Fl.act,iN_ (by omega),iN_ (by omega),iN_ (by omega),iN_ (by omega),iN_ (by omega),iP_ (by omega),iN_ (show ¬a.k=2 by omega),iP_ h]
def Ac.ok (a:Ac):Prop:=1<=a.k/\a.k<=10/\0<=a.i/\a.i<4/\0<=a.p/\a.p<=400000
theorem zau (f:Fl)(i:Int)(n:Nd):(f.set i n).nd.length=f.nd.length:=by simp[Fl.set]
theorem zCM (f:Fl)(i:Int)(n:Nd):(f.set i n).no=f.no:=rfl
theorem set_here {f:Fl}(n:Nd)(b:f.nd.length=4)(c:0<=i/\i<4):(f.set i n).node i=n:=by
 have:i.toNat<f.nd.length:=by omega
 simp[Fl.set,Fl.node,List.getD,this]
theorem set_there {f:Fl}(n:Nd)(b:0<=i)(c:0<=j)(d:j≠i):(f.set i n).node j=f.node j:=by
 have:i.toNat≠j.toNat:=by omega
 simp[Fl.set,Fl.node,List.getD,this]
theorem zdO (l:List MC)(f:Fl):(l.foldl Fl.out f).nd=f.nd:=by
 induction l generalizing f with
 | nil=>rfl
 | cons m l ih=>rw[List.foldl_cons,ih];rfl
theorem ztz (l:List MC)(f:Fl):(l.foldl Fl.out f).codes=f.codes:=by
 induction l generalizing f with
 | nil=>rfl
 | cons m l ih=>rw[List.foldl_cons,ih];rfl
theorem zhv (o:No)(m:MC):(o.sign m).bad=o.bad:=by
 unfold No.sign
 split
 split<;>rfl
 split<;>rfl
theorem zha (l:List MC)(f:Fl):(l.foldl Fl.out f).no.bad=f.no.bad:=by
 induction l generalizing f with
 | nil=>rfl
 | cons m l ih=>rw[List.foldl_cons,ih];exact zhv _ _
theorem zev {f g:Fl}(h:f.nd=g.nd)(i:Int):f.node i=g.node i:=by rw[Fl.node,Fl.node,h]
theorem zcj (f:Fl)(i:Int)(m:MC):(f.come i m).away=f.away:=by unfold Fl.come;split<;>rfl
theorem zew (f:Fl)(i:Int)(m:MC):(f.come i m).no=f.no:=by unfold Fl.come;split<;>rfl
theorem ziZ (f:Fl)(i:Int)(m:MC):(f.come i m).codes=f.codes:=by unfold Fl.come;split<;>rfl
theorem zca (f:Fl)(i:Int)(m:MC):(f.come i m).nd.length=f.nd.length:=by unfold Fl.come;split;exact zau _ _ _;rfl
theorem zfD (f:Fl)(l:List MC)(i:Int)(m:MC):({ f with away:=l }:Fl).come i m={ f.come i m with away:=l }:=by
 unfold Fl.come;show(if f.runs i then _ else _)=_
 split<;>rfl
def comes (f:Fl)(l:List MC):Fl:=l.foldl (λg m=>g.come m.tt m) f
theorem zlo (l:List MC)(f:Fl):(comes f l).no=f.no:=by
 induction l generalizing f with
 | nil=>rfl
 | cons m l ih=>exact(ih _).trans (zew _ _ _)
theorem zp4 (l:List MC)(f:Fl):(comes f l).codes=f.codes:=by
 induction l generalizing f with
 | nil=>rfl
 | cons m l ih=>exact(ih _).trans (ziZ _ _ _)
theorem zej (l:List MC)(f:Fl):(comes f l).away=f.away:=by
 induction l generalizing f with
 | nil=>rfl
 | cons m l ih=>exact(ih _).trans (zcj _ _ _)
theorem zeT (l:List MC)(f:Fl):(comes f l).nd.length=f.nd.length:=by
 induction l generalizing f with
 | nil=>rfl
 | cons m l ih=>exact(ih _).trans (zca _ _ _)
theorem zfw (f:Fl):f.flow=comes { f with away:=[] } f.away:=rfl
theorem zBS {P:Fl->Prop}{f:Fl}(a:Ac)(d:P f)(c:∀p,0<=p->P (f.pick 4 p)/\P (f.pick 5 p)/\P (f.pick 6 p))(g:P f.flow)(o:∀t,P (f.submit a.i t))(j:∀t,P (f.forge a.i t))(m:P (f.start a.i))
  (l:f.runs a.i=true->P (f.set a.i (f.node a.i).work)/\P (f.sync a.i)/\(0<=a.p->P (f.set a.i ((f.node a.i).crash a.p)))) (b:0<=a.p):P (f.does a):=by
 unfold Fl.does Fl.act
 split
 rename_i e
 rcases e with e|e|e<;>rw[e];exact(c a.p b).1;exact(c a.p b).2.1;exact(c a.p b).2.2
 split
 exact g
 split
 exact o _
 split
 exact j _
 split
 exact m
 split
 split
 rename_i e
 obtain⟨q,r,s⟩:=l e
 split
 exact q
 split
 exact r;exact s b;exact d;exact d
theorem zcq {P:Fl->Prop}{f:Fl}(i:Int)(t:ByteArray)(b:P f)(c:∀m,P (f.come i m)):P (f.forge i t):=by
 unfold Fl.forge
 split
 split
 exact b;exact c _;exact b
theorem zfs (f:Fl)(a:Ac):(f.does a).nd.length=f.nd.length:=by
 unfold Fl.does Fl.act
 split
 unfold Fl.pick
 split
 rfl
 split
 rfl
 split
 exact zca _ _ _
 rfl
 split
 exact zeT _ _
 split
 unfold Fl.submit
 split
 rfl
 split
 exact zau _ _ _
 rfl
 split
 exact zcq (P:=λg=>g.nd.length=f.nd.length) _ _ rfl (λm=>zca _ _ _)
 split
 unfold Fl.start
 split
 rfl
 exact zau _ _ _
 split
 split
 split
 exact zau _ _ _
 split
 unfold Fl.sync;rw[zdO];exact zau _ _ _;exact zau _ _ _
 rfl
 rfl
theorem zgk (l:List Ac)(f:Fl):(f.run l).nd.length=f.nd.length:=by
 induction l generalizing f with
 | nil=>rfl
 | cons a l ih=>rw[Fl.run_cons,ih,zfs]
theorem zdQ (f:Fl)(a:Ac):(f.does a).no.bad=f.no.bad:=by
 unfold Fl.does Fl.act
 split
 unfold Fl.pick
 split
 rfl
 split
 rfl
 split
 rw[zew]
 rfl
 split
 rw[zfw,zlo]
 split
 unfold Fl.submit
 split
 rfl
 split<;>rfl
 split
 exact zcq (P:=λg=>g.no.bad=f.no.bad) _ _ rfl (λm=>by rw[zew])
 split
 unfold Fl.start
 split<;>rfl
 split
 split
 split
 rfl
 split
 unfold Fl.sync;rw[zha];rfl
 rfl
 rfl
 rfl
theorem zxU (l:List Ac)(f:Fl):(f.run l).no.bad=f.no.bad:=by
 induction l generalizing f with
 | nil=>rfl
 | cons a l ih=>rw[Fl.run_cons,ih,zdQ]
theorem zrO (f:Fl)(a:Ac):(f.does a).codes.length=f.codes.length+(if a.k=1 then 1 else 0):=by
 by_cases h1:a.k=1;rw[iP_ h1,zp3 h1];unfold Fl.submit
 split
 simp
 split<;>simp
 rw[iN_ h1,Nat.add_zero];unfold Fl.does Fl.act
 split
 unfold Fl.pick
 split
 rfl
 split
 rfl
 split
 rw[ziZ]
 rfl
 split
 rw[zfw,zp4]
 split
 exact zcq (P:=λg=>g.codes.length=f.codes.length) _ _ rfl (λm=>by rw[ziZ])
 split
 unfold Fl.start
 split<;>rfl
 split
 split
 split
 rfl
 split
 unfold Fl.sync;rw[ztz];rfl
 rfl
 rfl
 rfl
theorem zsT (f:Fl)(m:MC)(l:List MC):({ f with away:=m::l }:Fl).pick 4 0={ f.come m.tt m with away:=l }:=by
 unfold Fl.pick;rw[iN_ (by simp),iN_ (by decide),iP_ rfl];have e:(0:Int).toNat % (m::l).length=0:=by simp
 show(({ f with away:=(m::l).eraseIdx ((0:Int).toNat % (m::l).length) }:Fl).come ((m::l).getD ((0:Int).toNat % (m::l).length) MC.z).tt ((m::l).getD ((0:Int).toNat % (m::l).length) MC.z))=_;rw[e];exact zfD f l m.tt m
theorem zhS {f:Fl}(c:f.nd.length=4)(b:0<=i/\i<4)(d:0<=j/\j<4):(f.sync i).node j=if j=i then { f.node i with wai:=[],syn:=(zae (f.node i).recs).length } else f.node j:=by
 rw[Fl.sync,zev (zdO _ _)]
 split
 rename_i e;subst e;exact set_here _ c b
 rename_i e;exact set_there _ b.1 d.1 e
theorem zlm (f:Fl)(i:Int):(f.sync i).no.bad=f.no.bad:=by rw[Fl.sync,zha];rfl
variable {w2 w1:World}{U' U1:Nat->Bool}{fc':X_}
theorem zo.other {g l:Nat}{r t p:NM}(y:zo w U F g T fc r)(o:zo w' U' F g T fc' t)(n:zl U U' w w' F g fc fc' r t)(c:zo w U F l T fc p)(z:∀b,p.S b->¬r.S b)(A:l+19<=g\/g+19<=l):zo w' U' F l T fc' p:=by
 have d:=n.sub y;have f:=λb e=>n.block b (c.bnd b (c.su b e).1) (z b e) (c.su b e).2;exact⟨o.blk,by rw[n.fsz];exact c.siz,λj u=>(n.far (l+j) (by omega)).trans (c.cel j u),o.fu,
  λb e=>⟨by rw[n.us b (c.bnd b (c.su b e).1)];exact(c.su b e).1,(c.su b e).2⟩,o.bnd,o.tabs,c.etx.sub d,
  zu c.rsh (λq e=>f q (.inr (.inr (.inr (.inl (zp e)))))),λs m=>(c.esh s m).sub d,
  zu c.rtb (λq e=>f q (.inr (.inr (.inr (.inr (.inl (zp e))))))),λs m=>(c.etb s m).sub d,
  c.stk.keep d n.us (λb e=>f b (by rcases e with e|e|e;exact .inl e;exact .inr (.inl e);exact .inr (.inr (.inl e)))),
  c.hdr.sub d,c.slt.sub d,zu c.rvo (λq e=>f q (.inr (.inr (.inr (.inr (.inr (.inl (zp e)))))))),c.tap.sub d,c.ems,
  zu c.rwa (λq e=>f q (.inr (.inr (.inr (.inr (.inr (.inr (zp e)))))))),λm e=>(c.ewa m e).sub d,c.inv⟩
theorem zo.goes (h:zo w U F o T fc x)(g:zao U U' w w')(f:w'.heap[F]? = w.heap[F]?)(d:∀b,x.S b->w'.heap[b]? = w.heap[b]?)(j:Bnd U' w'):zo w' U' F o T fc x:=by
 have c:=g.sub;have l:=ze h.blk;exact⟨f.trans h.blk,h.siz,h.cel,by rw[g.us F l];exact h.fu,
  λb e=>⟨by rw[g.us b (h.bnd b (h.su b e).1)];exact(h.su b e).1,(h.su b e).2⟩,j,h.tabs.sub c,h.etx.sub c,
  zu h.rsh (λq e=>d q (.inr (.inr (.inr (.inl (zp e)))))),λs m=>(h.esh s m).sub c,
  zu h.rtb (λq e=>d q (.inr (.inr (.inr (.inr (.inl (zp e))))))),λs m=>(h.etb s m).sub c,
  h.stk.keep c g.us (λb e=>d b (by rcases e with e|e|e;exact .inl e;exact .inr (.inl e);exact .inr (.inr (.inl e)))),
  h.hdr.sub c,h.slt.sub c,zu h.rvo (λq e=>d q (.inr (.inr (.inr (.inr (.inr (.inl (zp e)))))))),h.tap.sub c,h.ems,
  zu h.rwa (λq e=>d q (.inr (.inr (.inr (.inr (.inr (.inr (zp e)))))))),λm e=>(h.ewa m e).sub c,h.inv⟩
theorem zo.cellF (h:zo w U F o T fc x)(j:Nat)(v:Value)(g:o+19<=j):zo (w.setCell (p_ F j) v) U F o T (fc.setIfInBounds j v) x:=by
 refine kW_ ?A0 ?_;exact w.setCell (p_ F j) v;have f:=(zao.refl U w).set h.fu j v;have c:=f.sub;have d:=λb e=>hO_ w (p_ F j) b v (h.su b e).2;exact⟨zbb h.blk v,by simpa using h.siz,λk d=>by
   rw[sI_,iN_ (by omega)];exact h.cel k d,h.fu,h.su,h.bnd.mono (by simp),h.tabs.sub c,h.etx.sub c,
  zu h.rsh (λq e=>d q (.inr (.inr (.inr (.inl (zp e)))))),λs m=>(h.esh s m).sub c,
  zu h.rtb (λq e=>d q (.inr (.inr (.inr (.inr (.inl (zp e))))))),λs m=>(h.etb s m).sub c,
  h.stk.keep c (λ_ _=>rfl) (λb e=>d b (by rcases e with e|e|e;exact .inl e;exact .inr (.inl e);exact .inr (.inr (.inl e)))),
  h.hdr.sub c,h.slt.sub c,zu h.rvo (λq e=>d q (.inr (.inr (.inr (.inr (.inr (.inl (zp e)))))))),h.tap.sub c,h.ems,
  zu h.rwa (λq e=>d q (.inr (.inr (.inr (.inr (.inr (.inr (zp e)))))))),λm e=>(h.ewa m e).sub c,h.inv⟩
structure FM where
 (x:Nat->NM) (bad:Int) (ga:Q_) (gc:Nat) (gs:List Sg)
 (aa:Q_) (ac:Nat) (aw:List MV) (ca:Q_) (cc:Nat) (cs:L_)
def FM.v (m:FM):Fl:=⟨[(m.x 0).v,(m.x 1).v,(m.x 2).v,(m.x 3).v],⟨m.bad,zA m.gs⟩,m.aw.map MV.c,m.cs⟩
structure zJ (w:World)(U:Nat->Bool)(F:Nat)(fc:X_)(m:FM):Prop where
 nd:∀i,i<4->zo w U F (i*19) 72 fc (m.x i)
 siz:fc.size=80
 nu:∀i:Nat,i<4->(m.x i).nu=i
 sep:∀i j,i<4->j<4->i≠j->∀b,(m.x i).S b->¬(m.x j).S b
 bad:-1<=m.bad/\m.bad<=3
 c76:fc[76]? = some (I_ m.bad)
 c77:fc[77]? = some (.slice m.ga m.gs.length m.gc)
 c78:fc[78]? = some (.slice m.aa m.aw.length m.ac)
 c79:fc[79]? = some (.slice m.ca m.cs.length m.cc)
 sg:zdj (zq U w) m.ga m.gc m.gs
 raw:w.ownsRow 0 90 19 (.slice m.aa m.aw.length m.ac) m.aw.length (zY m.aw)
 uaw:∀q,ob m.aa=some q->U q=true/\q≠F/\∀i,i<4->¬(m.x i).S q
 eaw:∀a∈m.aw,GM (zq U w) a
 law:m.aw.length<=400
 rco:w.ownsRow 0 43 1 (.slice m.ca m.cs.length m.cc) m.cs.length (iv m.cs)
 uco:∀q,ob m.ca=some q->U q=true/\q≠F/\(∀i,i<4->¬(m.x i).S q)/\ob m.aa≠some q
def FM.set (m:FM)(i:Nat)(y:NM):FM:={ m with x:=λj=>if j=i then y else m.x j }
theorem FM.set_here (m:FM)(i:Nat)(y:NM):(m.set i y).x i=y:=iP_ rfl
theorem FM.set_there (m:FM){i j:Nat}(y:NM)(h:j≠i):(m.set i y).x j=m.x j:=iN_ h
theorem FM.set_v (m:FM)(i:Nat)(y:NM)(b:i<4):(m.set i y).v=m.v.set i y.v:=by
 have:i=0\/i=1\/i=2\/i=3:=by omega
 rcases this with e|e|e|e<;>subst e<;>rfl
theorem FM.node_v (m:FM)(i:Nat)(b:i<4):m.v.node i=(m.x i).v:=by
 have:i=0\/i=1\/i=2\/i=3:=by omega
 rcases this with e|e|e|e<;>subst e<;>rfl
structure FTo (U U':Nat->Bool)(w w':World):Prop where
 os:w'.os=w.os
 tape:w'.tape=w.tape
 output:w'.output=w.output
 size:w.heap.size<=w'.heap.size
 block:∀b,b<w.heap.size->U b=false->w'.heap[b]? = w.heap[b]?
 us:∀b,b<w.heap.size->U b=false->U' b=false
theorem FTo.refl (U:Nat->Bool)(w:World):FTo U U w w:=⟨rfl,rfl,rfl,nR_ _,λ_ _ _=>rfl,λ_ _ h=>h⟩
theorem FTo.trans {f:Nat->Bool}(h:FTo U U1 w w1)(k:FTo U1 f w1 w2):FTo U f w w2:=
 ⟨k.os.trans h.os,k.tape.trans h.tape,k.output.trans h.output,nT_ h.size k.size,
  λb c d=>(k.block b (nL_ c h.size) (h.us b c d)).trans (h.block b c d),
  λb c d=>k.us b (nL_ c h.size) (h.us b c d)⟩
theorem zao.fto (h:zao U U' w w'):FTo U U' w w':=⟨h.os,h.tape,h.output,h.size,h.block,λb c d=>(h.us b c).trans d⟩
theorem FTo.below (U:Nat->Bool)(h:B_ w w'):FTo U U w w':=(zao.below U h).fto
theorem FTo.sub (h:FTo U U' w w'):Sub (zq U w) (zq U' w'):=by
 refine⟨by rw[zch,zch];exact h.size,λa v e=>?_⟩;obtain⟨d,b⟩:=zhJ e;have c:=World.block_lt_of_cell? _ _ b;rw[cB_ (zdr (h.us _ c d)),cB_ (h.block _ c d)];exact b
theorem FTo.box (h:FTo U U' w w'){b:Nat}{d:Obj}(c:w.heap[b]? = some d)(f:U b=false):w'.heap[b]? = some d:=(h.block b (ze c) f).trans c
theorem FTo.owns (h:FTo U U' w w'){base n:Nat}{e:TypeId}{s:Nat}{v:Value}{c:List Value}(b:w.ownsRow base e s v n c)(d:∀q,v.ownBlock=some q->U q=false):w'.ownsRow base e s v n c:=zu b (λq e=>h.block q (b.lt q e).2 (d q e))
def zaa (w:World)(U:Nat->Bool)(F:Nat)(w':World)(f:Fl):Prop:=
 ∃U' fc' m',zJ w' U' F fc' m'/\FTo U U' w w'/\m'.v=f
theorem zaa.refl {m:FM}(h:zJ w U F fc m):zaa w U F w m.v:=⟨U,fc,m,h,FTo.refl _ _,rfl⟩
theorem zaa.after {f:Fl}(k:FTo U U1 w w1)(h:zaa w1 U1 F w' f):zaa w U F w' f:=by
 obtain⟨b,c,l,d,g,j⟩:=h;exact⟨b,c,l,d,k.trans g,j⟩
theorem zJ.below {m:FM}(h:zJ w U F fc m)(b:B_ w w'):zJ w' U F fc m:=
 have c:Sub (zq U w) (zq U w'):=(zao.below U b).sub
 ⟨λi f=>(h.nd i f).below b,h.siz,h.nu,h.sep,h.bad,h.c76,h.c77,h.c78,h.c79,h.sg.sub c,zw h.raw b,h.uaw,λa d=>(h.eaw a d).sub c,h.law,zw h.rco b,h.uco⟩
theorem zaa.quiet {m:FM}(h:zJ w U F fc m)(b:B_ w w'):zaa w U F w' m.v:=⟨U,fc,m,h.below b,FTo.below U b,rfl⟩
theorem zJ.node {m:FM}(h:zJ w U F fc m){i:Nat}(l:i<4){y:NM}(B:zo w' U' F (i*19) 72 fc' y)(n:zl U U' w w' F (i*19) fc fc' (m.x i) y)(G:y.nu=i):zJ w' U' F fc' (m.set i y):=by
 have A:=n.sub (h.nd i l);have z:=λj f b e=>(h.nd j f).bnd b ((h.nd j f).su b e).1;have s:∀k,76<=k->fc'[k]? = fc[k]?:=λk r=>n.far k (.inr (by omega));have H:∀q,ob m.aa=some q->w'.heap[q]? = w.heap[q]?:=λq e=>by
  obtain⟨a,b,c⟩:=h.uaw q e;exact n.block q ((h.nd i l).bnd q a) (c i l) b
 have I:∀q,ob m.ca=some q->w'.heap[q]? = w.heap[q]?:=λq e=>by
  obtain⟨a,b,c,_⟩:=h.uco q e;exact n.block q ((h.nd i l).bnd q a) (c i l) b
 have C:∀q,q<w.heap.size->(∀j,j<4->¬(m.x j).S q)->∀j,j<4->¬((m.set i y).x j).S q:=λq p u j f=>by
  by_cases e:j=i;subst e;rw[FM.set_here];intro D;rcases n.new q D with g|g;exact u j f g;omega;rw[FM.set_there _ _ e];exact u j f
 refine⟨λj f=>?_,by rw[n.fsz];exact h.siz,λj f=>?_,λj k f r t b o=>?_,h.bad,by rw[s 76 (by omega)];exact h.c76,by rw[s 77 (by omega)];exact h.c77,by rw[s 78 (by omega)];exact h.c78,by rw[s 79 (by omega)];exact h.c79,h.sg.sub A,
  zu h.raw (λq e=>H q (zp e)),λq e=>?_,λa E=>(h.eaw a E).sub A,h.law,zu h.rco (λq e=>I q (zp e)),λq e=>?_⟩
 by_cases e:j=i;subst e;rw[FM.set_here];exact B;rw[FM.set_there _ _ e];exact(h.nd i l).other B n (h.nd j f) (h.sep j i f l e) (by omega);by_cases e:j=i;subst e;rw[FM.set_here];exact G;rw[FM.set_there _ _ e];exact h.nu j f;by_cases e1:j=i;subst e1;rw[FM.set_here]at o;rw[FM.set_there _ _ (λe=>t e.symm)];intro g;rcases n.new b o with k1|k1;exact h.sep j k f r t b k1 g;have:=z k r b g;omega;rw[FM.set_there _ _ e1]at o;by_cases e2:k=i;subst e2;rw[FM.set_here];intro g;rcases n.new b g with k1|k1;exact h.sep j k f r t b o k1;have:=z j f b o;omega;rw[FM.set_there _ _ e2];exact h.sep j k f r t b o;obtain⟨a,b,c⟩:=h.uaw q e;have p:=(h.nd i l).bnd q a;exact⟨by rw[n.us q p];exact a,b,C q p c⟩;obtain⟨a,b,c,d⟩:=h.uco q e;have p:=(h.nd i l).bnd q a;exact⟨by rw[n.us q p];exact a,b,C q p c,d⟩
theorem zJ.acts {m:FM}(h:zJ w U F fc m){i:Nat}(b:i<4){n:Nd}(l:zal w U F (i*19) 72 fc (m.x i) w' n)(o:n.nu=i):zaa w U F w' (m.v.set i n):=by
 obtain⟨f,g,y,j,c,d⟩:=l;refine⟨f,g,m.set i y,h.node b j c (by rw[<-o,<-d];rfl),(c.goes (h.nd i b)).fto,?_⟩;rw[FM.set_v m i y b,d]
theorem zJ.cell {m:FM}(h:zJ w U F fc m)(j:Nat){v:Value}(b:fc[j]? = some v):C_ w F j v:=zb (h.nd 0 (by decide)).blk j v b
theorem zJ.free {m:FM}(h:zJ w U F fc m)(j:Nat):w.frozen? (p_ F j)=false:=zd (h.nd 0 (by decide)).blk j
theorem zJ.bnd {m:FM}(h:zJ w U F fc m):Bnd U w:=(h.nd 0 (by decide)).bnd
theorem zJ.fu {m:FM}(h:zJ w U F fc m):U F=true:=(h.nd 0 (by decide)).fu
theorem zJ.later {m:FM}(_:zJ w U F fc m)(b:B_ w w'):Sub (zq U w) (zq U w'):=(zao.below U b).sub
theorem zo.less {f:Nat->Bool}(h:zo w U F o T fc x)(l:∀b,f b=true->U b=true)(q:f F=true)(r:∀b,x.S b->f b=true):zo w f F o T fc x:=by
 have no:∀b,U b=false->f b=false:=λb g=>by
  cases e:f b with
  | false=>rfl
  | true=>rw[l b e]at g;cases g
 have d:Sub (zq U w) (zq f w):=FTo.sub ⟨rfl,rfl,rfl,nR_ _,λ_ _ _=>rfl,λb _ g=>no b g⟩;exact⟨h.blk,h.siz,h.cel,q,λb e=>⟨r b e,(h.su b e).2⟩,λb e=>h.bnd b (l b e),h.tabs.sub d,h.etx.sub d,h.rsh,λs m=>(h.esh s m).sub d,h.rtb,λs m=>(h.etb s m).sub d,
  ⟨h.stk.box,h.stk.rc,h.stk.rd,λc j=>(h.stk.ec c j).sub d,λp t=>(h.stk.ed p t).sub d,h.stk.same,λc j b g=>no b (h.stk.ic c j b g)⟩,
  h.hdr.sub d,h.slt.sub d,h.rvo,h.tap.sub d,h.ems,h.rwa,λm e=>(h.ewa m e).sub d,h.inv⟩
def zdx (U:Nat->Bool)(q:Option Nat)(b:Nat):Bool:=U b&&decide (q≠some b)
theorem zjV (U:Nat->Bool)(q:Option Nat)(w:World):FTo U (zdx U q) w w:=⟨rfl,rfl,rfl,nR_ _,λ_ _ _=>rfl,λb _ c=>by simp[zdx,c]⟩
theorem zlK (U:Nat->Bool)(b:Nat):zdx U (some b) b=false:=by simp[zdx]
theorem zJ.shows {m:FM}(h:zJ w U F fc m)(q:Option Nat)(o:q≠some F)(p:∀i,i<4->∀b,q=some b->¬(m.x i).S b)(r:∀b,q=some b->ob m.aa≠some b)(s:∀b,q=some b->ob m.ca≠some b):zJ w (zdx U q) F fc m:=by
 have f:=(zjV U q w).sub;have on:∀b,U b=true->q≠some b->zdx U q b=true:=λb j l=>by simp[zdx,j,l]
 exact⟨λi c=>(h.nd i c).less (λb d=>by simp only[zdx,Bool.and_eq_true]at d;exact d.1) (on F h.fu o) (λb e=>on b ((h.nd i c).su b e).1 (λg=>p i c b g e)),
  h.siz,h.nu,h.sep,h.bad,h.c76,h.c77,h.c78,h.c79,h.sg.sub f,h.raw,λb e=>⟨on b (h.uaw b e).1 (λg=>r b g e),(h.uaw b e).2⟩,λa e=>(h.eaw a e).sub f,h.law,h.rco,
  λb e=>⟨on b (h.uco b e).1 (λg=>s b g e),(h.uco b e).2⟩⟩
variable {m:FM}{a':Q_}{c':Nat}
theorem zJ.nodes (h:zJ w U F fc m)(g:zao U U' w w2)(l:Bnd U' w2)(d:w2.heap[F]? = w.heap[F]?)(f:∀i,i<4->∀b,(m.x i).S b->w2.heap[b]? = w.heap[b]?)(j:Nat)(v:Value)(o:76<=j):∀i,i<4->zo (w2.setCell (p_ F j) v) U' F (i*19) 72 (fc.setIfInBounds j v) (m.x i):=
 λi c=>((h.nd i c).goes g d (f i c) l).cellF j v (by omega)
theorem zJ.more_aw {l':List MV}(h:zJ w U F fc m)(G:zV w (.slice m.aa m.aw.length m.ac) w2 (.slice a' l'.length c'))(r:w2.ownsRow 0 90 19 (.slice a' l'.length c') l'.length (zY l'))(C:∀s∈l',GM (zq (zaF U (ob a')) w2) s)(D:l'.length<=400):zaa w U F (w2.setCell (p_ F 78) (.slice a' l'.length c')) { m.v with away:=l'.map MV.c }:=by
 have H:∀q,(Value.slice m.aa m.aw.length m.ac).ownBlock=some q->U q=true:=λq e=>(h.uaw q (zp e)).1;have f:zao U (zaF U (ob a')) w w2:=by
  have:=(zao.refl U w).grew G H
  rwa [zdb]at this
 have y:Bnd (zaF U (ob a')) w2:=by
  have:=h.bnd.grew G.grown.size r
  rwa [zdb]at this
 have keep:∀b,b<w.heap.size->ob m.aa≠some b->w2.heap[b]? = w.heap[b]?:=λb B E=>G.grown.block b B (λe=>E (zp e.symm));have z:=ze (h.nd 0 (by decide)).blk;have j:ob m.aa≠some F:=λe=>(h.uaw F e).2.1 rfl;have p:=λi c b e=>h.bnd b ((h.nd i c).su b e).1;have o:∀i,i<4->∀b,(m.x i).S b->ob m.aa≠some b:=λi c b e g=>(h.uaw b g).2.2 i c e;have d:∀q,ob a'=some q->ob m.aa=some q\/w.heap.size<=q:=λq e=>by
  rcases G.fresh q (zaK _ _ e)with k|k;exact .inl (zp k);exact .inr k
 have u:∀q,ob a'=some q->q≠F:=λq e g=>by
  rcases d q e with k|k;rw[g]at k;exact j k;omega
 refine kW_ ?A0 ?_;exact w2.setCell (p_ F 78) (.slice a' l'.length c');have I:Sub (zq U w) (zq (zaF U (ob a')) ?A0):=(f.set (zaB h.fu) 78 _).sub;have J:zq (zaF U (ob a')) ?A0=zq (zaF U (ob a')) w2:=zb3 (zaB h.fu) _ _;refine⟨zaF U (ob a'),fc.setIfInBounds 78 (.slice a' l'.length c'),{ m with aa:=a',ac:=c',aw:=l' },⟨?_,by simpa using h.siz,h.nu,h.sep,h.bad,?_,?_,?_,?_,h.sg.sub I,zaQ r F 78 _ (λe=>u F (zp e) rfl),?_,λa A=>by rw[J];exact C a A,D,?_,?_⟩,(f.set (zaB h.fu) 78 _).fto,rfl⟩;exact h.nodes f y (keep F z j) (λi c b e=>keep b (p i c b e) (o i c b e)) 78 _ (by omega);rw[sI_,iN_ (by decide)];exact h.c76;rw[sI_,iN_ (by decide)];exact h.c77;rw[sI_,iP_ rfl,iP_ (by rw[h.siz];decide)];rw[sI_,iN_ (by decide)];exact h.c79;intro q e;refine⟨zeM e,u q e,λi c l=>?_⟩;rcases d q e with k|k;exact o i c q l k;have:=p i c q l;omega;refine zaQ (zu h.rco (λq e=>?_)) F 78 _ (λe=>(h.uco F (zp e)).2.1 rfl);have k:=h.uco q (zp e);exact keep q (h.bnd q k.1) k.2.2.2;intro q e;obtain⟨t,L,M,N⟩:=h.uco q e;refine⟨zaB t,L,M,λg=>?_⟩;rcases d q g with k|k;exact N k;have:=h.bnd q t;omega
theorem zJ.more_co {l':L_}(h:zJ w U F fc m)(G:zV w (.slice m.ca m.cs.length m.cc) w2 (.slice a' l'.length c'))(r:w2.ownsRow 0 43 1 (.slice a' l'.length c') l'.length (iv l')):zaa w U F (w2.setCell (p_ F 79) (.slice a' l'.length c')) { m.v with codes:=l' }:=by
 have C:∀q,(Value.slice m.ca m.cs.length m.cc).ownBlock=some q->U q=true:=λq e=>(h.uco q (zp e)).1;have f:zao U (zaF U (ob a')) w w2:=by
  have:=(zao.refl U w).grew G C
  rwa [zdb]at this
 have u:Bnd (zaF U (ob a')) w2:=by
  have:=h.bnd.grew G.grown.size r
  rwa [zdb]at this
 have keep:∀b,b<w.heap.size->ob m.ca≠some b->w2.heap[b]? = w.heap[b]?:=λb A B=>G.grown.block b A (λe=>B (zp e.symm));have y:=ze (h.nd 0 (by decide)).blk;have j:ob m.ca≠some F:=λe=>(h.uco F e).2.1 rfl;have p:=λi c b e=>h.bnd b ((h.nd i c).su b e).1;have o:∀i,i<4->∀b,(m.x i).S b->ob m.ca≠some b:=λi c b e g=>(h.uco b g).2.2.1 i c e;have d:∀q,ob a'=some q->ob m.ca=some q\/w.heap.size<=q:=λq e=>by
  rcases G.fresh q (zaK _ _ e)with k|k;exact .inl (zp k);exact .inr k
 have t:∀q,ob a'=some q->q≠F:=λq e g=>by
  rcases d q e with k|k;rw[g]at k;exact j k;omega
 have s:Sub (zq U w) (zq (zaF U (ob a')) (w2.setCell (p_ F 79) (.slice a' l'.length c'))):=(f.set (zaB h.fu) 79 _).sub;refine⟨zaF U (ob a'),fc.setIfInBounds 79 (.slice a' l'.length c'),{ m with ca:=a',cc:=c',cs:=l' },⟨?_,by simpa using h.siz,h.nu,h.sep,h.bad,?_,?_,?_,?_,h.sg.sub s,?_,?_,λa z=>(h.eaw a z).sub s,h.law,zaQ r F 79 _ (λe=>t F (zp e) rfl),?_⟩,(f.set (zaB h.fu) 79 _).fto,rfl⟩;exact h.nodes f u (keep F y j) (λi c b e=>keep b (p i c b e) (o i c b e)) 79 _ (by omega);rw[sI_,iN_ (by decide)];exact h.c76;rw[sI_,iN_ (by decide)];exact h.c77;rw[sI_,iN_ (by decide)];exact h.c78;rw[sI_,iP_ rfl,iP_ (by rw[h.siz];decide)];refine zaQ (zu h.raw (λq e=>?_)) F 79 _ (λe=>(h.uaw F (zp e)).2.1 rfl);have k:=h.uaw q (zp e);exact keep q (h.bnd q k.1) (λg=>(h.uco q g).2.2.2 (zp e));intro q e;obtain⟨D,E,H⟩:=h.uaw q e;exact⟨zaB D,E,H⟩;intro q e;refine⟨zeM e,t q e,λi c l=>?_,λg=>?_⟩;rcases d q e with k|k;exact o i c q l k;have:=p i c q l;omega;rcases d q e with k|k;exact(h.uco q k).2.2.2 g;have:=h.bnd q (h.uaw q g).1;omega
theorem zJ.put_sg {l':List Sg}(h:zJ w U F fc m)(d:B_ w w2)(j:zdj (zq U w2) a' c' l'):zaa w U F (w2.setCell (p_ F 77) (.slice a' l'.length c')) { m.v with no:=⟨m.bad,zA l'⟩ }:=by
 have b:=h.below d;refine kW_ ?A0 ?_;exact w2.setCell (p_ F 77) (.slice a' l'.length c');have c:zao U U w2 ?A0:=(zao.refl U w2).set h.fu 77 _;have f:=c.sub;refine⟨U,fc.setIfInBounds 77 (.slice a' l'.length c'),{ m with ga:=a',gc:=c',gs:=l' },⟨λi l=>(b.nd i l).cellF 77 _ (by omega),by simpa using h.siz,h.nu,h.sep,h.bad,?_,?_,?_,?_,j.sub f,zaQ b.raw F 77 _ (λe=>(h.uaw F (zp e)).2.1 rfl),h.uaw,λa g=>(b.eaw a g).sub f,h.law,zaQ b.rco F 77 _ (λe=>(h.uco F (zp e)).2.1 rfl),h.uco⟩,((zao.below U d).trans c).fto,rfl⟩;rw[sI_,iN_ (by decide)];exact h.c76;rw[sI_,iP_ rfl,iP_ (by rw[h.siz];decide)];rw[sI_,iN_ (by decide)];exact h.c78;rw[sI_,iN_ (by decide)];exact h.c79
theorem zJ.none_aw (h:zJ w U F fc m):∃l,zJ (w.setCell (p_ F 78) (O_)) (zdx U (ob m.aa)) F l { m with aa:=none,ac:=0,aw:=[] }/\FTo U (zdx U (ob m.aa)) w (w.setCell (p_ F 78) (O_))/\(w.setCell (p_ F 78) (O_)).ownsRow 0 90 19 (.slice m.aa m.aw.length m.ac) m.aw.length (zY m.aw)/\(∀q,ob m.aa=some q->zdx U (ob m.aa) q=false)/\∀a∈m.aw,GM (zq (zdx U (ob m.aa)) (w.setCell (p_ F 78) (O_))) a:=by
 refine kW_ ?A0 ?_;exact w.setCell (p_ F 78) (O_);have c:zao U U w ?A0:=(zao.refl U w).set h.fu 78 _;have p:=c.sub;have j:=λq e=>(h.uaw q e).2.1;have o:zJ ?A0 U F (fc.setIfInBounds 78 (O_)) { m with aa:=none,ac:=0,aw:=[] }:=by
  refine⟨λi f=>(h.nd i f).cellF 78 _ (by omega),by simpa using h.siz,h.nu,h.sep,h.bad,?_,?_,?_,?_,h.sg.sub p,oN_ _ _ _ _,(λq e=>by cases e),(λa d=>by cases d),nZ_ _,zaQ h.rco F 78 _ (λe=>(h.uco F (zp e)).2.1 rfl),λq e=>⟨(h.uco q e).1,(h.uco q e).2.1,(h.uco q e).2.2.1,λg=>by cases g⟩⟩;rw[sI_,iN_ (by decide)];exact h.c76;rw[sI_,iN_ (by decide)];exact h.c77;rw[sI_,iP_ rfl,iP_ (by rw[h.siz];decide)];rfl;rw[sI_,iN_ (by decide)];exact h.c79
 have k:=zjV U (ob m.aa) ?A0;refine⟨_,o.shows (ob m.aa) (λe=>j F e rfl) (λi f b e=>(h.uaw b e).2.2 i f) (λb _ g=>by cases g) (λb e g=>(h.uco b g).2.2.2 e),c.fto.trans k,zaQ h.raw F 78 _ (λe=>j F (zp e) rfl),λq e=>by rw[e];exact zlK U q,λa d=>(h.eaw a d).sub (c.fto.trans k).sub⟩
def zd4 (cur:X_):Nat->List Value->X_
 | _,[]=>cur
 | o,v::r=>zd4 (cur.setIfInBounds o v) (o+1) r
theorem zcW (c:List Value)(b:X_)(o:Nat):(zd4 b o c).size=b.size:=by
 induction c generalizing b o with
 | nil=>rfl
 | cons v r ih=>rw[zd4,ih];simp
theorem zdP (c:List Value)(b:X_)(o j:Nat)(h:j<o\/o+c.length<=j):(zd4 b o c)[j]? = b[j]?:=by
 induction c generalizing b o with
 | nil=>rfl
 | cons v r ih=>
  rw[zd4,ih _ _ (by simp only[List.length_cons]at h;omega),sI_,iN_ (by simp only[List.length_cons]at h;omega)]
theorem zg8 (b:List Value)(c:X_)(o i:Nat)(d:i<b.length)(f:o+b.length<=c.size):(zd4 c o b)[o+i]? = b[i]?:=by
 induction b generalizing c o i with
 | nil=>simp at d
 | cons v r ih=>
  simp only[List.length_cons]at d f;rw[zd4];cases i with
  | zero=>
   rw[zdP _ _ _ _ (.inl (by omega)),sI_]
   simp
   omega
  | succ i=>
   rw[show o+(i+1)=o+1+i by omega,ih _ _ _ (by omega) (by simp;omega)]
   simp
theorem zb7 {g:Nat}{t:TypeId}(c:List Value)(w:World)(b:X_)(o:Nat)(h:w.heap[g]? = some (.cells b t (0,0))):(w.setCells g o c).heap[g]? = some (.cells (zd4 b o c) t (0,0)):=by
 induction c generalizing w b o with
 | nil=>exact h
 | cons v r ih=>exact ih _ _ _ (hS_ _ _ o _ _ v h)
theorem zbl {g b:Nat}(c:List Value)(w:World)(o:Nat)(d:b≠g):(w.setCells g o c).heap[b]? = w.heap[b]?:=by
 induction c generalizing w o with
 | nil=>rfl
 | cons v r ih=>exact(ih _ _).trans (hO_ w (p_ g o) b v d)
theorem zgL (g:Nat)(b:List Value)(w:World)(o:Nat):(w.setCells g o b).heap.size=w.heap.size:=by
 induction b generalizing w o with
 | nil=>rfl
 | cons v r ih=>exact(ih _ _).trans (by simp)
theorem zer (g:Nat)(b:List Value)(w:World)(o:Nat):(w.setCells g o b).os=w.os/\(w.setCells g o b).tape=w.tape/\(w.setCells g o b).output=w.output:=by
 induction b generalizing w o with
 | nil=>exact⟨rfl,rfl,rfl⟩
 | cons v r ih=>exact ih _ _
theorem ziq (g:Nat)(b:List Value)(w:World)(o:Nat):w.grownBy (w.setCells g o b) (some g):=
 ⟨(zer g b w o).1,(zer g b w o).2.1,(zer g b w o).2.2,by rw[zgL];exact nR_ _,λk _ c=>zbl b w o (λe=>c (by rw[e]))⟩
theorem zir (w:World)(t e ty:TypeId)(z:Value)(q:prog.underlying t=some (.slice e))(r:∀w,(zeroValue e).run prog w=.ok z w)(b o n c:Nat)(u:0<n)(d:List Value)(s:(Builtin.zeroCells z.cells n).toList=d)
  (l:∀j,j<d.length->(w.cell? (p_ b (o+j))).isSome=true) (p:∀j,j<d.length->w.frozen? (p_ b (o+j))=false) (g:∀v∈d,v.oneCell'=true) :
  (Builtin.clear_ #[t] ty #[.slice (some (p_ b o)) n c]).run prog w=.ok (.tuple #[]) (w.setCells b o d):=by
 have f:=run_storeCells_cells (P:=prog) b o d 0 w (by simpa using l) (by simpa using p) g;simp only[Nat.add_zero]at f;obtain⟨m,rfl⟩:∃m,n=m+1:=⟨n-1,by omega⟩;simp[Builtin.clear_,run_underlying q,r,s,f]
theorem zo.moved {L u:Nat}{j:TypeId}{r:X_}{y:NM}(c:zo w U L u j r y)(g:zao U U w w')(f:∀b,y.S b->w'.heap[b]? = w.heap[b]?)(l:R_ w' F fc' T)(z:o+19<=fc'.size)(p:zio fc' o y)(t:U F=true)(A:∀b,y.S b->b≠F):zo w' U F o T fc' y:=by
 have d:=g.sub;exact⟨l,z,p,t,λb e=>⟨(c.su b e).1,A b e⟩,c.bnd.mono g.size,c.tabs.sub d,c.etx.sub d,
  zu c.rsh (λq e=>f q (.inr (.inr (.inr (.inl (zp e)))))),λs m=>(c.esh s m).sub d,
  zu c.rtb (λq e=>f q (.inr (.inr (.inr (.inr (.inl (zp e))))))),λs m=>(c.etb s m).sub d,
  c.stk.keep d (λ_ _=>rfl) (λb e=>f b (by rcases e with e|e|e;exact .inl e;exact .inr (.inl e);exact .inr (.inr (.inl e)))),
  c.hdr.sub d,c.slt.sub d,zu c.rvo (λq e=>f q (.inr (.inr (.inr (.inr (.inr (.inl (zp e)))))))),c.tap.sub d,c.ems,
  zu c.rwa (λq e=>f q (.inr (.inr (.inr (.inr (.inr (.inr (zp e)))))))),λm e=>(c.ewa m e).sub d,c.inv⟩
theorem zrT (f:U F=true)(w:World)(o:Nat)(c:List Value):zao U U w (w.setCells F o c):=
 ⟨(zer F c w o).1,(zer F c w o).2.1,(zer F c w o).2.2,by rw[zgL];exact nR_ _,λb _ d=>zbl c w o (λe=>by rw[e,f]at d;cases d),λ_ _=>rfl⟩
theorem zJ.put_node {L:Nat}{V:X_}(h:zJ w U F fc m){i:Nat}(hi:i<4){y:NM}(O:zo w' U' L 0 69 V y)(B:∀b,b<w.heap.size->U' b=U b)(s:∀b,y.S b->w.heap.size<=b)(o:B_ w w')(ab:y.nu=i):zaa w U F (w'.setCells F (i*19) y.cs) (m.v.set i y.v):=by
 have G:=ze (h.nd 0 (by decide)).blk;have J:zao U U' w w':=⟨o.os,o.tape,o.output,o.size,λb I _=>o.block b I,B⟩;have D:=(B F G).trans h.fu;have E:=zrT D w' (i*19) y.cs;have M:=J.trans E;have Z:=(o.block F G).trans (h.nd 0 (by decide)).blk;have T:=zb7 y.cs w' fc (i*19) Z;have z:y.cs.length=19:=rfl;have keep:∀b,b<w.heap.size->b≠F->(w'.setCells F (i*19) y.cs).heap[b]? = w.heap[b]?:=λb I A=>(zbl y.cs w' (i*19) A).trans (o.block b I);have H:=λj l b e=>h.bnd b ((h.nd j l).su b e).1;have N:=M.sub;have C:∀k,76<=k->(zd4 fc (i*19) y.cs)[k]? = fc[k]?:=λk p=>zdP _ _ _ _ (.inr (by rw[z];omega));have R:∀q,q<w.heap.size->(∀j,j<4->¬(m.x j).S q)->∀j,j<4->¬((m.set i y).x j).S q:=λq r hn j l=>by
  by_cases e:j=i;subst e;rw[FM.set_here];intro X;have:=s q X;omega;rw[FM.set_there _ _ e];exact hn j l
 refine⟨U',zd4 fc (i*19) y.cs,m.set i y,⟨λj l=>?_,by rw[zcW];exact h.siz,λj l=>?_,λj k l p A b f=>?_,h.bad,by rw[C 76 (by omega)];exact h.c76,by rw[C 77 (by omega)];exact h.c77,by rw[C 78 (by omega)];exact h.c78,by rw[C 79 (by omega)];exact h.c79,h.sg.sub N,zu h.raw (λq e=>?_),λq e=>?_,λa Y=>(h.eaw a Y).sub N,h.law,zu h.rco (λq e=>?_),λq e=>?_⟩,M.fto,FM.set_v m i y hi⟩;by_cases e:j=i;subst e;rw[FM.set_here];refine O.moved E (λb f=>zbl y.cs w' (j*19) (λt=>by have:=s b f;omega)) T (by rw[zcW,h.siz];omega) (λk p=>?_) D (λb f t=>by have:=s b f;omega);rw[zg8 y.cs fc (j*19) k (by rw[z];exact p) (by rw[z,h.siz];omega)];rw[FM.set_there _ _ e];have u:=h.nd j l;have aa:=u.goes J (o.block F G) (λb f=>o.block b (H j l b f)) O.bnd;refine aa.moved E (λb f=>zbl y.cs w' (i*19) (u.su b f).2) T (by rw[zcW,h.siz];omega) (λk p=>?_) D (λb f=>(u.su b f).2);rw[zdP _ _ _ _ (by rw[z];omega)];exact u.cel k p;by_cases e:j=i;subst e;rw[FM.set_here];exact ab;rw[FM.set_there _ _ e];exact h.nu j l;by_cases e1:j=i;subst e1;rw[FM.set_here]at f;rw[FM.set_there _ _ (λe=>A e.symm)];intro g;have:=s b f;have:=H k p b g;omega;rw[FM.set_there _ _ e1]at f;by_cases t:k=i;subst t;rw[FM.set_here];intro g;have:=s b g;have:=H j l b f;omega;rw[FM.set_there _ _ t];exact h.sep j k l p A b f;have k:=h.uaw q (zp e);exact keep q (h.bnd q k.1) k.2.1;obtain⟨a,b,c⟩:=h.uaw q e;have r:=h.bnd q a;exact⟨(B q r).trans a,b,R q r c⟩;have k:=h.uco q (zp e);exact keep q (h.bnd q k.1) k.2.1;obtain⟨a,b,c,d⟩:=h.uco q e;have r:=h.bnd q a;exact⟨(B q r).trans a,b,R q r c,d⟩
variable {ops:Array Oper}{Q:Exit->Act->World->Prop}{a:Act}{K:Act->World->Prop}{E:Prop}
theorem zX {o:Oper}
  (d:o.guard=none) (c:o.dst=none) (w':World) (f:(execOp a.eval o).run prog w=.ok .skip w') (b:K a w') :
  if Region.wanted o (yielded ops a.tmps)=true then Oper.wp prog o a w K Q else E:=by
 have g:Region.wanted o (yielded ops a.tmps)=true:=by simp[Region.wanted,d]
 rw[iP_ g];unfold Oper.wp;rw[f,Oper.upon_skip,c];exact b
theorem zaz {o:Oper}
  (F:o.guard=none) (d:Nat) (D:o.dst=some d) (s x:Operand) (t:TypeId) (J:o.op=.call { callee:=.builtin .append,args:=#[s,x],argTypes:=#[t,t] })
  (base:Nat) (e:TypeId) (i:TypeInfo) (z:Value) (size g:Nat) (R:prog.underlying t=some (.slice e)) (G:prog.info? e=some i) (U:i.zero=some z)
  (N:i.size=size) (B:i.bytes=g) (V:z.cells.size=size) (O:0<size)
  (v:Value) (n:Nat) (p:List Value) (M:a.eval s=v) (L:w.ownsRow base e size v n p)
  (f:Addr) (m c:Nat) (b:List Value) (T:a.eval x=.slice (some f) m c) (H:b.length=m*size) (I:∀j u,b[j]? = some u->w.cell? (f.add j)=some u) (q:∀u∈b,u.oneCell'=true)
  (r:n+m<=maxLen) (C:(n+m)*g<=140737488355328) (A:base<=w.heap.size)
  (y:∀l w',w'.ownsRow base e size l (n+m) (p++b)->zV w v w' l->K (a.put (some d) l) w') :
  if Region.wanted o (yielded ops a.tmps)=true then Oper.wp prog o a w K Q else E:=
 zcc F s x t J base e i z size g R G U N B V O v n p M L f m c b T H I q r C A (by rw[D];exact y)
def Msg.ft (m:Msg)(a b:Int):Msg:={ m with fr:=a,tt:=b }
def MV.ft (x:MV)(a b:Int):MV:={ x with m:=x.m.ft a b }
theorem MV.ft_c (x:MV)(a b:Int):(x.ft a b).c=x.c.ft a b:=rfl
theorem MV.ft_at {x:MV}(h:MAt w x)(a b:Int):MAt w (x.ft a b):=⟨⟨h.at'.e1,h.at'.e2,h.at'.e3,h.at'.e4,h.at'.e5,h.at'.e6,h.at'.s1,h.at'.s6,h.at'.s7,h.at'.txs,h.at'.bat,h.at'.par,h.at'.cbat,h.at'.cpar,h.at'.vot⟩,h.dig,h.dn⟩
theorem GM.ft {x:MV}(h:GM w x){a b:Int}(f:0<=a/\a<4)(g:0<=b/\b<4):GM w (x.ft a b):=by
 obtain⟨_,_,c,d⟩:=zcB h.ok;exact⟨MV.ft_at h.lies a b,zh0 f g c ((zrl x.m a b).trans d),h.u8,⟨h.shp.b,h.shp.h,h.shp.c⟩⟩
theorem zeN (x:NM)(m:MV)(c:Int)(w:World)(U:Nat->Bool)(F o:Nat)(T:TypeId)(X:X_)(h:zo w U F o T X x)(hm:GM (zq U w) m)(ht:0<=c/\c<4) :
  Calls prog 80 #[P_ F o,I_ c,.agg (mrow_ m.m)] w λe w'=>(∃v,e=.returned v)/\zal w U F o T X x w' (x.v.send c m.c):=by
 have M:=zC w (.cells (mrow_ m.m) 90);have C:=hN_ w (.cells (mrow_ m.m) 90);go_in;go_upto_region 1 with fail
 generalize w.alloc (.cells (mrow_ m.m) 90)=V at M C|-;have h0:=h.below M;have ag:∀P:Prop,¬(U w.heap.size=true/\P):=λP k=>by have aq:=h.bnd.new (nR_ _);rw[aq]at k;cases k.1
 have af:w.heap.size≠F:=λe=>by have:=h.bnd F h.fu;omega
 generalize Z:w.heap.size=B at C ag af|-;have HB:Hid (w.heap.size=B):=Z;refine kW_ ?A0 ?_;exact(V.setCell (p_ B 0) (I_ x.nu)).setCell (p_ B 1) (I_ c);have Y:B_ w ?A0:=(M.setCell (Nat.le_of_eq Z) _).setCell (Nat.le_of_eq Z) _;clear Z;have q1:(?A0).heap[B]? = some (.cells (mrow_ (m.ft x.nu c).m) 90 (0,0)):=by
  simpa[MV.ft,Msg.ft]using hS_ _ _ 1 _ _ (I_ c) (hS_ _ _ 0 _ _ (I_ x.nu) C)
 have c0:C_ V F o (I_ x.nu):=h0.cell 0 _ rfl;have an:=h0.cell 17 _ rfl;by_cases e1:c=x.nu
 .have L:Hid (x.v.send c m.c=x.v):=iP_ (.inl e1);subst e1;clear Y q1;go_wp2_with fail
  refine bP_ (results_none rfl _ _ _) rfl ?_;exact⟨⟨_,rfl⟩,by rw[L.out];exact zal.quiet h M⟩
 refine kO_ ?B0 ?_;exact Obj.cells (mrow_ (m.ft x.nu c).m) 90;refine kV_ ?C0 ?_;exact Value.slice x.wa x.wai.length x.wc;have ay:(c == x.nu)=false:=by simpa using e1
 by_cases e2:400<=x.wai.length
 .have L:Hid (x.v.send c m.c=x.v):=iP_ (.inr (by simpa[NM.v]using e2));have ao:(400:Int)<=x.wai.length:=by omega
  clear e2 e1 Y q1;go_wp2_with fail
  refine bP_ (results_none rfl _ _ _) rfl ?_;exact⟨⟨_,rfl⟩,by rw[L.out];exact zal.quiet h M⟩
 have L:Hid (x.v.send c m.c={ x.v with wai:=x.v.wai++[m.c.ft x.nu c] }):=iN_ (by simp[NM.v];exact⟨e1,by omega⟩);have ao:¬(400:Int)<=x.wai.length:=by omega
 have b0:=zb C 0 _ rfl;have b1:=zb C 1 _ rfl;have f0:=zd C 0;have f1:=zd C 1;clear e1;go_upto_region 3 with fail
 generalize ?A0=W1 at Y q1|-;clear b0 b1 f0 f1 c0 an C;have ah:∀(A y:World) (r:Q_) (t:Nat),B_ w A->y.ownsRow 0 90 19 (.slice r (x.wai++[m.ft x.nu c]).length t) (x.wai++[m.ft x.nu c]).length (zY (x.wai++[m.ft x.nu c]))->zV A ?C0 y (.slice r (x.wai++[m.ft x.nu c]).length t)->(∃v,Ending.returned (.tuple #[])=.returned v)/\zal w U F o T X x (y.setCell (p_ F (o+17)) (.slice r (x.wai.length+1) t)) (x.v.send c m.c):=by
  intro A y r t hb ho G;refine⟨⟨_,rfl⟩,?_⟩;rw[L.out];have h1:=h.below hb;have au:(x.wai++[m.ft x.nu c]).length=x.wai.length+1:=by simp
  have ai:=h1.more_wai G ho (λs hs=>?_) ?_;rw[au]at ai;obtain⟨U',ap,x',k1,k2,k3⟩:=ai;exact⟨U',ap,x',k1,(zl.below U X x hb).trans k2,by rw[k3];simp[NM.v,MV.ft_c]⟩;have k:=h1.grew_sub G (λq e=>.inr (.inr (.inr (.inr (.inr (.inr e))))));rcases mA_.1 hs with g|g;exact(h1.ewa s g).sub k;obtain rfl:s=m.ft x.nu c:=by simpa using g
  exact((hm.sub (zao.below U hb).sub).ft h.inv.nu ht).sub k;exact h.inv.wai_ (by simp;omega)
 obtain⟨ti,aj,ak,al,am⟩:=info_parts zkn;have aa:=Y.drew;have ab:=dQ_ q1;refine wR_ (S:=λw'=>R_ w' B (mrow_ (m.ft x.nu c).m) 90) (by kernel_rfl) ab (λd=>?_);generalize W1.drew=l at aa ab d|-;have av:=h.below aa;refine tks_ 4 [(0,27,(P_ F o)),(1,28,(P_ F o)),(2,29,(P_ F o)),(3,30,(P_ F (o+17)))] d ?_;simp only[tkf_,zf];refine tQ_ 5 32 (.agg (mrow_ (m.ft x.nu c).m)) rfl rfl (Or.inl ⟨by rfl,λw0 ar=>zL 90 _ rfl B rfl 90 (mrow_ (m.ft x.nu c).m) (0,0) _ ar underlying90 rfl sMsg'⟩) d ?_;simp only[zf];refine rY_ (rs:=[4,6]) (by kernel_rfl) (by simp) (rA_ rfl (λE f=>?_) (rA_ rfl (λE f=>?_) rN_));have ad:=av.cell 17 _ rfl;refine zy rfl 31 rfl ?C0 l (by go_simp) ?_;refine f.out _ _ d (λd=>?_);simp only[zf];clear ad;refine zE 6 rfl (λE f=>?_)
 all_goals
  refine zy rfl 33 rfl (.slice (some (p_ l.heap.size 0)) 1 1) (l.alloc ?B0) (by go_simp) ?_;have z:=zC l ?B0;have I:=zm aa z;have H:=hN_ l ?B0;have J:=zk z ab;refine f.out _ _ J (λd=>?_);simp only[zf];generalize l.alloc ?B0=A at z I H J d|-;clear z;generalize l.heap.size=nb at H|-;have p:=h.below I
 rotate_left
 refine zE 4 rfl (λE f=>?_);have ad:=p.cell 17 _ rfl;refine zy rfl 31 rfl ?C0 A (by go_simp) ?_;refine f.out _ _ d (λd=>?_);simp only[zf];clear ad
 rotate_left
 all_goals
  refine zE 7 rfl (λE f=>?_);refine zaz rfl 34 rfl (.tmp 31) (.tmp 33) 67 rfl 0 90 ti (.agg mz_) 19 264 underlying67 aj ak al am rfl (by decide) ?C0 x.wai.length (zY x.wai) rfl p.rwa (p_ nb 0) 1 1 (zcR (m.ft x.nu c).m) rfl rfl (λj u hu=>by rw[zaP,zA_];exact zb H j u (by rw[<-Array.getElem?_toList];exact hu)) (zfv _) (by unfold maxLen;omega) (by omega) (nZ_ _) ?_;intro v3 y O D;obtain⟨r,t,ac⟩:=zH O;subst ac;have R:=D.row J (λe=>ag _ (p.su _ (.inr (.inr (.inr (.inr (.inr (.inr (zp e)))))))));have N:=D.row p.blk (λe=>(p.su _ (.inr (.inr (.inr (.inr (.inr (.inr (zp e)))))))).2 rfl);refine f.out _ _ R (λd=>?_);simp only[zf];refine tks_ 2 [(8,35,(P_ F o)),(9,36,(P_ F (o+17)))] d ?_;simp only[tkf_,zf];refine zE 10 rfl (λE f=>?_);have aw:=zb N (o+17) _ (p.cel 17 (by decide));have ax:=zd N (o+17);refine zX rfl rfl (y.setCell (p_ F (o+17)) (.slice r (x.wai.length+1) t)) (by go_simp) ?_;have ae:=zh (b:=F) (j:=o+17) (v:=.slice r (x.wai.length+1) t) R (λe=>af e);refine f.out _ _ ae (λd=>?_);refine wD_ (by kernel_rfl) ?_ _;go_wp2_with fail
  go_end0;exact ah A y r t I (by rw[zfi];simpa using O) (by simpa using D)
variable {qs pl bl:List zi}{vl:L_}
theorem ztK {b:List zi}(h:zbm b qs)(k:Nat):(zcT b k).bs=(zcT qs k).bs:=by
 have c:(b.map (·.bs))[k]? = (qs.map (·.bs))[k]?:=by rw[h]
 simp only[List.getElem?_map]at c;simp only[zcT,List.getD];cases h1:b[k]?<;>cases h2:qs[k]?<;>simp_all
theorem zvI {b:List zi}(h:zbm b qs)(k:Nat):zbn b k=zbn qs k:=by
 induction k with
 | zero=>rfl
 | succ k ih=>
  have c:zcF b k=zcF qs k:=by
   have d:zgm b k=zgm qs k:=by
    simp only[zgm,ztK h]
   rw[zcF,zcF,d,ztK h k]
  rw[zbn,zbn,ih,c]
theorem ztL {b:List zi}(h:zbm b qs):zb8 b=zb8 qs:=by
 rw[zb8,zb8,h.length,zvI h]
theorem znd {b f:List zi}(c:zbm bl b)(d:zbm pl f):zO au rd bl pl=zO au rd b f:=by
 rw[zO,zO,ztL c,ztL d,c.length,d.length]
theorem zxe {b c:List zi}(d:zbm bl b)(f:zbm pl c):zap au rd bl pl vl=zap au rd b c vl:=by
 rw[zap,zap,znd d f]
theorem zxf {x y:MV}(b:MAt w x)(c:MAt w' y)(h:y.c=x.c):zP y.m y.car=zP x.m x.car:=by
 simp only[MV.c,MC.mk.injEq]at h;obtain⟨J,M,F,m,o,G,p,q,H,B,d,f,L,g,j,C,D,E,l⟩:=h;have s:y.m.btn=x.m.btn:=by rw[c.at'.e1,b.at'.e1,G]
 have n2:y.m.hbn=x.m.hbn:=by rw[c.at'.e2,b.at'.e2];exact zbm.length H
 have t:y.m.hpn=x.m.hpn:=by rw[c.at'.e3,b.at'.e3];exact zbm.length B
 have u:y.m.cbn=x.m.cbn:=by rw[c.at'.e4,b.at'.e4];exact zbm.length C
 have z:y.m.cpn=x.m.cpn:=by rw[c.at'.e5,b.at'.e5];exact zbm.length D
 have A:y.m.cvn=x.m.cvn:=by rw[c.at'.e6,b.at'.e6,E]
 have r:y.m.sdn=x.m.sdn:=by rw[c.dn,b.dn,L]
 have N:zO y.m.hau y.m.hrd y.bl y.pl=zO x.m.hau x.m.hrd x.bl x.pl:=by rw[p,q];exact znd H B
 have O:zap y.m.cau y.m.crd y.cbl y.cpl y.vl=zap x.m.cau x.m.crd x.cbl x.cpl x.vl:=by rw[g,j,E];exact zxe C D
 have I:y.car=x.car:=by
  show zD y.m y.ss y.bl y.pl y.cbl y.cpl y.vl=zD x.m x.ss x.bl x.pl x.cbl x.cpl x.vl;rw[zD,zD,N,O,F,m,o,G,d,f,r,l]
 have R:zaq (zab y.m)=zaq (zab x.m):=by
  rw[zab,zab,F];by_cases k1:x.m.ki=1;rw[iP_ k1,iP_ k1];simp only[zaq,p,q,d,f,g,j,l,n2,t,u,z,A,r];rw[iN_ k1,iN_ k1];by_cases k2:x.m.ki=2;rw[iP_ k2,iP_ k2];simp only[zaq,m,o,d,f,g,j,l,s,u,z,A,r];rw[iN_ k2,iN_ k2];by_cases k3:x.m.ki=3;rw[iP_ k3,iP_ k3];simp only[zaq,m,o,p,q,g,j,l,s,n2,t,u,z,A];rw[iN_ k3,iN_ k3];by_cases k4:x.m.ki=4;rw[iP_ k4,iP_ k4];simp only[zaq,m,o,p,q,d,f,l,s,n2,t,r];rw[iN_ k4,iN_ k4];simp only[zaq,m,o,p,q,d,f,g,j,s,n2,t,u,z,A,r]
 rw[zP,zP,J,M,I,R]
def zfr (b:Bc):MV:=⟨⟨0,0,1,b.v.au,b.v.nu,0,0,0,0,0,0,0,b.ta,none,none,none,none,none,none,b.v.ss.length,b.tc,0,0,0,0,0,0,0,0,0,0,0,0⟩,b.v.ss,[],[],[],[],[],[]⟩
theorem zmy (b:Bc)(w:World):Calls prog 71 #[.agg #[I_ b.v.au,I_ b.v.nu,.slice b.ta b.v.ss.length b.tc]] w λe w'=>e=.returned (.agg (mrow_ (zfr b).m))/\B_ w w':=by
 refine kO_ ?B0 ?_;exact Obj.cells #[I_ b.v.au,I_ b.v.nu,.slice b.ta b.v.ss.length b.tc] 86;have c:=hY_ w ?B0 (.cells mz_ 90);have d:B_ w ((w.alloc ?B0).alloc (.cells mz_ 90)):=((bR_ _ _).alloc (nR_ _) _).alloc (by simp) _;go_in;refine kA_ ?A0 ?_;exact #[I_ 0,I_ 0,I_ (1),I_ (b.v.au),I_ (b.v.nu),.slice b.ta b.v.ss.length b.tc,I_ 0,I_ 0,O_,O_,I_ 0,I_ 0,O_,I_ 0,I_ 0,O_,O_,O_,I_ 0];go_wp2_with (refine wS_ rfl 90 _ _ rfl (w.heap.size+1) ?A0 rfl rfl 90 _ c sMsg' rfl (by simp[Value.oneCell']) ?_)
 exact bP_ (v:=.agg ?A0) (rC_ (fn:=Tryz.f71) (p:=2) (ty:=90) rfl _ _ (w.heap.size+1) 90 _ (0,0) _ rfl (sH_ _ _ _ _ _ _ c) underlying90 rfl sMsg') rfl ⟨rfl,(Upd.setRow c).below d d.size (by omega)⟩
def zeO (h:Ct):MV:=⟨⟨0,0,2,0,0,h.au,h.rd,0,0,0,0,0,none,h.ba,h.pa,none,none,none,none,0,0,h.bl.length,h.bc,h.pl.length,h.pc,0,0,0,0,0,0,0,0⟩,[],h.bl,h.pl,[],[],[],[]⟩
theorem zmz (h:Ct)(w:World):Calls prog 75 #[.agg (hrow_ h)] w λe w'=>e=.returned (.agg (mrow_ (zeO h).m))/\B_ w w':=by
 have b:=hY_ w (.cells (hrow_ h) 60) (.cells mz_ 90);have c:B_ w ((w.alloc (.cells (hrow_ h) 60)).alloc (.cells mz_ 90)):=((bR_ _ _).alloc (nR_ _) _).alloc (by simp) _;go_in;refine kA_ ?A0 ?_;exact #[I_ 0,I_ 0,I_ (2),I_ 0,I_ 0,O_,I_ (h.au),I_ (h.rd),.slice h.ba h.bl.length h.bc,.slice h.pa h.pl.length h.pc,I_ 0,I_ 0,O_,I_ 0,I_ 0,O_,O_,O_,I_ 0];go_wp2_with (refine wS_ rfl 90 _ _ rfl (w.heap.size+1) ?A0 rfl rfl 90 _ b sMsg' rfl (by simp[Value.oneCell']) ?_)
 exact bP_ (v:=.agg ?A0) (rC_ (fn:=Tryz.f75) (p:=2) (ty:=90) rfl _ _ (w.heap.size+1) 90 _ (0,0) _ rfl (sH_ _ _ _ _ _ _ b) underlying90 rfl sMsg') rfl ⟨rfl,(Upd.setRow b).below c c.size (by omega)⟩
def z7 (s:Sl):MV:=⟨⟨0,0,3,0,0,0,0,s.au,s.rd,0,0,0,none,none,none,s.p.sa,none,none,none,0,0,0,0,0,0,s.p.bs.length,s.p.cap,0,0,0,0,0,0⟩,[],[],[],[],[],s.p.bs,[]⟩
theorem zmA (s:Sl)(w:World):Calls prog 95 #[.agg (srow_ s)] w λe w'=>e=.returned (.agg (mrow_ (z7 s).m))/\B_ w w':=by
 have b:=hY_ w (.cells (srow_ s) 63) (.cells mz_ 90);have c:B_ w ((w.alloc (.cells (srow_ s) 63)).alloc (.cells mz_ 90)):=((bR_ _ _).alloc (nR_ _) _).alloc (by simp) _;go_in;refine kA_ ?A0 ?_;exact #[I_ 0,I_ 0,I_ (3),I_ 0,I_ 0,O_,I_ 0,I_ 0,O_,O_,I_ (s.au),I_ (s.rd),.slice s.p.sa s.p.bs.length s.p.cap,I_ 0,I_ 0,O_,O_,O_,I_ 0];go_wp2_with (refine wS_ rfl 90 _ _ rfl (w.heap.size+1) ?A0 rfl rfl 90 _ b sMsg' rfl (by simp[Value.oneCell']) ?_)
 exact bP_ (v:=.agg ?A0) (rC_ (fn:=Tryz.f95) (p:=2) (ty:=90) rfl _ _ (w.heap.size+1) 90 _ (0,0) _ rfl (sH_ _ _ _ _ _ _ b) underlying90 rfl sMsg') rfl ⟨rfl,(Upd.setRow b).below c c.size (by omega)⟩
def zef (c:Ct):MV:=⟨⟨0,0,4,0,0,0,0,0,0,c.au,c.rd,0,none,none,none,none,c.ba,c.pa,c.va,0,0,0,0,0,0,0,0,c.bl.length,c.bc,c.pl.length,c.pc,c.vl.length,c.vc⟩,[],[],[],c.bl,c.pl,[],c.vl⟩
theorem zx9 (c:Ct):(zef c).c=zdh c.v:=rfl
theorem zmB (c:Ct)(w:World):Calls prog 100 #[.agg (crow_ c)] w λe w'=>e=.returned (.agg (mrow_ (zef c).m))/\B_ w w':=by
 have b:=hY_ w (.cells (crow_ c) 88) (.cells mz_ 90);have d:B_ w ((w.alloc (.cells (crow_ c) 88)).alloc (.cells mz_ 90)):=((bR_ _ _).alloc (nR_ _) _).alloc (by simp) _;go_in;refine kA_ ?A0 ?_;exact #[I_ 0,I_ 0,I_ (4),I_ 0,I_ 0,O_,I_ 0,I_ 0,O_,O_,I_ 0,I_ 0,O_,I_ (c.au),I_ (c.rd),.slice c.ba c.bl.length c.bc,.slice c.pa c.pl.length c.pc,.slice c.va c.vl.length c.vc,I_ 0];go_wp2_with (refine wS_ rfl 90 _ _ rfl (w.heap.size+1) ?A0 rfl rfl 90 _ b sMsg' rfl (by simp[Value.oneCell']) ?_)
 exact bP_ (v:=.agg ?A0) (rC_ (fn:=Tryz.f100) (p:=2) (ty:=90) rfl _ _ (w.heap.size+1) 90 _ (0,0) _ rfl (sH_ _ _ _ _ _ _ b) underlying90 rfl sMsg') rfl ⟨rfl,(Upd.setRow b).below d d.size (by omega)⟩
def zz (r:Int):MV:=⟨⟨0,0,5,0,0,0,0,0,0,0,0,r,none,none,none,none,none,none,none,0,0,0,0,0,0,0,0,0,0,0,0,0,0⟩,[],[],[],[],[],[],[]⟩
theorem zqU (r:Int)(w:World):Calls prog 82 #[I_ r] w λe w'=>e=.returned (.agg (mrow_ (zz r).m))/\B_ w w':=by
 have b:=hN_ w (.cells mz_ 90);have c:=zC w (.cells mz_ 90);go_in;refine kA_ ?A0 ?_;exact #[I_ 0,I_ 0,I_ (5),I_ 0,I_ 0,O_,I_ 0,I_ 0,O_,O_,I_ 0,I_ 0,O_,I_ 0,I_ 0,O_,O_,O_,I_ (r)];go_wp2_with (refine wS_ rfl 90 _ _ rfl w.heap.size ?A0 rfl rfl 90 _ b sMsg' rfl (by simp[Value.oneCell']) ?_)
 exact bP_ (v:=.agg ?A0) (rC_ (fn:=Tryz.f82) (p:=2) (ty:=90) rfl _ _ w.heap.size 90 _ (0,0) _ rfl (sH_ _ _ _ _ _ _ b) underlying90 rfl sMsg') rfl ⟨rfl,(Upd.setRow b).below c c.size (by omega)⟩
theorem zdy (w:World):zx w none 0 []:=zaj w
theorem zn0 (w:World):zax w none []:=⟨.inl rfl⟩
theorem zhL (w:World):zas w none []:=⟨.inl rfl,λs b=>by cases b⟩
theorem zkN {b:BW}(h:b.f=0):b.ss.length<=4:=by
 unfold BW.f zbk at h
 split at h
 simp at h
 split at h
 simp at h
 omega
theorem ztM {b:Bc}(h:zcN w b)(c:b.v.ss.length<=4):MAt w (zfr b):=
 ⟨⟨rfl,rfl,rfl,rfl,rfl,rfl,nT_ c (by decide),by simp[zfr],by simp[zfr],h.strs,zdy _,zdy _,zdy _,zdy _,zn0 _⟩,zgD _,rfl⟩
theorem ztN {h:Ct}(b:HAt w h.ba h.bc h.bl h.pa h.pc h.pl):MAt w (zeO h):=
 ⟨⟨rfl,rfl,rfl,rfl,rfl,rfl,by simp[zeO],by simp[zeO],by simp[zeO],zhL _,b.lb,b.lp,zdy _,zdy _,zn0 _⟩,zgD _,rfl⟩
theorem ztO {s:Sl}(h:zg w s.p.sa s.p.cap s.p.bs)(b:s.p.bs.length<=32):MAt w (z7 s):=
 ⟨⟨rfl,rfl,rfl,rfl,rfl,rfl,by simp[z7],by simp[z7],nT_ b (by decide),zhL _,zdy _,zdy _,zdy _,zdy _,zn0 _⟩,h,rfl⟩
theorem ztP {c:Ct}(h:za7 w c):MAt w (zef c):=
 ⟨⟨rfl,rfl,rfl,rfl,rfl,rfl,by simp[zef],h.vle,by simp[zef],zhL _,zdy _,zdy _,h.hat.lb,h.hat.lp,h.ints⟩,zgD _,rfl⟩
theorem zya (w:World)(r:Int):MAt w (zz r):=
 ⟨⟨rfl,rfl,rfl,rfl,rfl,rfl,by simp[zz],by simp[zz],by simp[zz],zhL _,zdy _,zdy _,zdy _,zdy _,zn0 _⟩,zgD _,rfl⟩
theorem zc3 {α:Type}{P:α->Prop}:∀p∈([]:List α),P p:=λp b=>by cases b
theorem zqV {b:Bc}(h:b.v.f=0):zaT (zfr b):=⟨h,rfl,rfl,rfl,by show(1:Int)≠5;decide⟩
theorem zqW {h:Ct}(b:zO h.au h.rd h.bl h.pl=0):zaT (zeO h):=⟨b,rfl,rfl,rfl,by show(2:Int)≠5;decide⟩
theorem zqX {s:Sl}(h:zbf s.au s.rd s.p.bs.length=0):zaT (z7 s):=⟨h,rfl,rfl,rfl,by show(3:Int)≠5;decide⟩
theorem zqY {c:Ct}(h:zap c.au c.rd c.bl c.pl c.vl=0):zaT (zef c):=⟨h,rfl,rfl,rfl,by show(4:Int)≠5;decide⟩
def U8L (l:List zi):Prop:=∀p∈l,∀x∈p.bs,0<=x/\x<=255
theorem ztQ (b:Bc):U8M (zfr b).bl (zfr b).pl (zfr b).cbl (zfr b).cpl (zfr b).ds:=⟨zc3,zc3,zc3,zc3,zc3⟩
theorem ztR {h:Ct}(b:U8L h.bl)(c:U8L h.pl):U8M (zeO h).bl (zeO h).pl (zeO h).cbl (zeO h).cpl (zeO h).ds:=⟨b,c,zc3,zc3,zc3⟩
theorem ztS {s:Sl}(h:∀x∈s.p.bs,0<=x/\x<=255):U8M (z7 s).bl (z7 s).pl (z7 s).cbl (z7 s).cpl (z7 s).ds:=⟨zc3,zc3,zc3,zc3,h⟩
theorem ztT {c:Ct}(b:U8L c.bl)(d:U8L c.pl):U8M (zef c).bl (zef c).pl (zef c).cbl (zef c).cpl (zef c).ds:=⟨zc3,zc3,b,d,zc3⟩
theorem zyb (r:Int):U8M (zz r).bl (zz r).pl (zz r).cbl (zz r).cpl (zz r).ds:=⟨zc3,zc3,zc3,zc3,zc3⟩
theorem zgY (w:World):HAt w none 0 [] none 0 []:=⟨zdy w,zdy w,(λ_ _ e=>by cases e),(λ_ _ e=>by cases e)⟩
theorem zn1 (w:World):zcN w ⟨⟨0,0,[]⟩,none,0⟩:=⟨zhL w,nR_ _,nZ_ _,(λ_=>rfl),(λ_ _ e=>by cases e)⟩
theorem ztU {b:Bc}(h:zcN w b)(c:b.v.f=0):GM w (zfr b):=⟨ztM h (zkN c),(zqV c).check,ztQ b,⟨h,zgY w,zgY w⟩⟩
theorem ztV {h:Ct}(b:HAt w h.ba h.bc h.bl h.pa h.pc h.pl)(f:zO h.au h.rd h.bl h.pl=0)(c:U8L h.bl)(d:U8L h.pl):GM w (zeO h):=⟨ztN b,(zqW f).check,ztR c d,⟨zn1 w,b,zgY w⟩⟩
theorem ztW {s:Sl}(h:zg w s.p.sa s.p.cap s.p.bs)(b:zbf s.au s.rd s.p.bs.length=0)(c:∀x∈s.p.bs,0<=x/\x<=255):GM w (z7 s):=⟨ztO h (by have:=(zho b).2.2;omega),(zqX b).check,ztS c,⟨zn1 w,zgY w,zgY w⟩⟩
theorem ztX {c:Ct}(h:za7 w c)(f:zap c.au c.rd c.bl c.pl c.vl=0)(b:U8L c.bl)(d:U8L c.pl):GM w (zef c):=⟨ztP h,(zqY f).check,ztT b d,⟨zn1 w,zgY w,h.hat⟩⟩
theorem zyc (w:World){r:Int}(h:1<=r/\r<=1048576):GM w (zz r):=⟨zya w r,zh0 (by show(0:Int)<=0/\(0:Int)<4;decide) (by show(0:Int)<=0/\(0:Int)<4;decide) (by show(if 1<=r/\r<=1048576 then(0:Int)else 2)=0;rw[iP_ h]) rfl,zyb r,⟨zn1 w,zgY w,zgY w⟩⟩
theorem zoO (x:MV):x.onTape=x.c.onTape:=by
 have d:zbm x.bl (pz (x.bl.map (·.bs))):=(zcH x.bl).symm;have f:zbm x.pl (pz (x.pl.map (·.bs))):=(zcH x.pl).symm;have g:zbm x.cbl (pz (x.cbl.map (·.bs))):=(zcH x.cbl).symm;have j:zbm x.cpl (pz (x.cpl.map (·.bs))):=(zcH x.cpl).symm;have l:x.bytes=x.c.mv.bytes:=by
  have b:=zhX (au:=x.m.hau) (rd:=x.m.hrd) d f;have c:=zhX (au:=x.m.cau) (rd:=x.m.crd) g j;simp only[MV.bytes,zeL,zcG,MC.mv,MV.c];rw[<-b];simp only[zeE];rw[<-c]
  rfl
 simp only[MC.onTape,MV.onTape,l]
theorem zes (l:List MV):zv l=zae (l.map MV.c):=by
 induction l with
 | nil=>rfl
 | cons x l ih=>simp only[zv,zae,List.flatMap_cons,List.map_cons]at ih|-;rw[ih,zoO]
end Go.Proofs.YtpnpikpmdfipfaaGreatDoor
