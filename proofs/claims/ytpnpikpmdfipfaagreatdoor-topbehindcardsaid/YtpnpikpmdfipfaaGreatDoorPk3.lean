import Derived.Test.YtpnpikpmdfipfaaGreatDoorPk2
set_option maxRecDepth 100000
set_option maxHeartbeats 4000000
namespace Go.Proofs.YtpnpikpmdfipfaaGreatDoor
open Go.RowKit Tryz
variable {qs:List zi}
theorem zbm.bsAt {b:List zi}(h:zbm b qs)(k:Nat):(zcT b k).bs=(zcT qs k).bs:=by
 have c:(b.map (·.bs))[k]? = (qs.map (·.bs))[k]?:=by rw[h]
 simp only[List.getElem?_map]at c;simp only[zcT,List.getD];cases h1:b[k]?<;>cases h2:qs[k]?<;>simp_all
theorem zpR {b:List zi}(h:zbm b qs)(k:Nat):zbn b k=zbn qs k:=by
 induction k with
 | zero=>rfl
 | succ k ih=>
  have c:zcF b k=zcF qs k:=by
   have d:zgm b k=zgm qs k:=by
    simp only[zgm,h.bsAt]
   rw[zcF,zcF,d,h.bsAt k]
  rw[zbn,zbn,ih,c]
theorem zmX {b:List zi}(h:zbm b qs):zb8 b=zb8 qs:=by
 rw[zb8,zb8,h.length,zpR h]
variable {w w':World}{rd au:Int}{ra:Q_}{pl bl:List zi}{rc:Nat}
theorem zkC (b ys:List zi)(h:zbm b ys):zat b=zat ys:=by
 have h':b.map (·.bs)=ys.map (·.bs):=h;clear h
 induction b generalizing ys with
 | nil=>cases ys with
  | nil=>rfl
  | cons y ys=>simp at h'
 | cons x b ih=>cases ys with
  | nil=>simp at h'
  | cons y ys=>
   simp only[List.map_cons,List.cons.injEq]at h';rw[zat,zat,h'.1,ih ys h'.2]
theorem zhX {d f:List zi}(b:zbm d bl)(c:zbm f pl):zaZ au rd d f=zaZ au rd bl pl:=by
 rw[zaZ,zaZ,zbh,zbh,zbh,zbh,zkC _ _ b,zkC _ _ c,b.length,c.length]
theorem zfk {d f:List zi}(b:zbm d bl)(c:zbm f pl):zO au rd d f=zO au rd bl pl:=by
 rw[zO,zO,zmX b,zmX c,b.length,c.length]
theorem zjK (h:zx w ra rc qs)(l:∀b c,ra=some (p_ b c)->b<w.heap.size)(j:∀p∈qs,p.bs.length=32):Off w (O_) ra qs:=
 ⟨λb c e=>⟨l b c e,λh=>by cases h⟩,λp f b c e=>⟨by
  have m:=h.parts.each p f
  rcases m.bytes with d|⟨o,q,g,d⟩
  .have:=j p f;rw[d]at this;simp at this
  .rw[e]at g;cases g;exact bL_ (d 0 (by rw[j p f];decide)),λh=>by cases h⟩⟩
structure HAt (w:World)(ba:Q_)(bc:Nat)(bl:List zi)(pa:Q_)(pc:Nat)(pl:List zi):Prop where
 lb:zx w ba bc bl
 lp:zx w pa pc pl
 rb:∀sb so,ba=some (p_ sb so)->sb<w.heap.size
 rp:∀sb so,pa=some (p_ sb so)->sb<w.heap.size
theorem HAt.below {f:Q_}{g:Nat}{j:Q_}{l:Nat}(h:HAt w f g bl j l pl)(b:B_ w w'):HAt w' f g bl j l pl:=
 ⟨h.lb.below b,h.lp.below b,λc d e=>nL_ (h.rb c d e) b.size,λc d e=>nL_ (h.rp c d e) b.size⟩
def zaE (au rd:Int)(bl pl:List zi):L_:=zhV 2 (zaZ au rd bl pl)
theorem zbD (au rd:Int)(bl pl:List zi):(zaE au rd bl pl).length=32:=zhW _ _
theorem zea {c:Q_}{d:Nat}{f:Q_}{g:Nat}(h:HAt w c d bl f g pl)(j:zO au rd bl pl=0)(o:za2 w) :
  Calls prog 134 #[.agg #[I_ au,I_ rd,.slice c bl.length d,.slice f pl.length g]] w λe w'=>∃b,e=.returned (.tuple #[.slice (some (p_ b 0)) 32 32,I_ 0])/\w.heap.size<=b/\B_ w w'/\zg w' (some (p_ b 0)) 32 (zaE au rd bl pl):=by
 obtain⟨p,q,s,r,l,m⟩:=zbi j;exact zlu au rd c bl.length d bl f pl.length g pl w rfl rfl h.lb h.lp (zjK h.lb h.rb l) (zjK h.lp h.rp m) j p ⟨by omega,q.2⟩ (by omega) r l m o
def zaC (p:Nat->Bool):Nat->Int
 | 0=>-1
 | k+1=>if 0<=zaC p k then zaC p k else if p k=true then(k:Int)else -1
theorem zkl (p:Nat->Bool)(k:Nat):-1<=zaC p k/\zaC p k<k:=by
 induction k with
 | zero=>exact⟨by simp[zaC],by simp[zaC]⟩
 | succ k ih=>
  rw[zaC]
  split
  omega
  split<;>omega
theorem zm5 (p:Nat->Bool)(m k:Nat)(h:0<=zaC p m)(b:m<=k):zaC p k=zaC p m:=by
 induction k with
 | zero=>
  obtain rfl:m=0:=by omega
  rfl
 | succ k ih=>
  rcases lG_ m (k+1)with g|g;rw[zaC,ih (by omega),iP_ h];obtain rfl:m=k+1:=by omega
  rfl
theorem zgc (p:Nat->Bool)(m k:Nat)(h:zaC p m=-1)(c:p m=true)(b:m<k):zaC p k=m:=by
 have e:zaC p (m+1)=m:=by rw[zaC,h];simp[c]
 rw[zm5 p (m+1) k (by rw[e];omega) b,e]
theorem zgv (p:Nat->Bool)(m:Nat)(h:zaC p m=-1)(b:p m=false):zaC p (m+1)=-1:=by rw[zaC,h];simp[b]
theorem zrB (p q:Nat->Bool)(k:Nat)(h:∀j,j<k->p j=q j):zaC p k=zaC q k:=by
 induction k with
 | zero=>rfl
 | succ k ih=>rw[zaC,zaC,ih (λj b=>h j (by omega)),h k (by omega)]
theorem zoq (p:Nat->Bool)(k:Nat)(h:0<=zaC p k):p (zaC p k).toNat=true:=by
 induction k with
 | zero=>simp[zaC]at h
 | succ k ih=>
  rw[zaC]at h|-
  split
  rename_i g
  exact ih g
  rename_i g
  rw[iN_ g]at h
  split
  rename_i b
  simpa using b
  rename_i b
  rw[iN_ b]at h;omega
theorem zqP (p:Nat->Bool)(k:Nat)(h:zaC p k<0)(j:Nat)(c:j<k):p j=false:=by
 induction k with
 | zero=>omega
 | succ k ih=>
  rw[zaC]at h
  split at h
  omega
  rename_i g
  split at h
  omega
  rename_i b
  rcases lG_ j k with q|q;exact ih (by omega) q;obtain rfl:j=k:=by omega
  simpa using b
variable {sa:Q_}{vl:L_}
structure Ct where
 au:Int
 rd:Int
 ba:Q_
 bc:Nat
 bl:List zi
 pa:Q_
 pc:Nat
 pl:List zi
 va:Q_
 vc:Nat
 vl:L_
abbrev crow_ (x:Ct):X_:=#[.int .i64 x.au,.int .i64 x.rd,.slice x.ba x.bl.length x.bc,.slice x.pa x.pl.length x.pc,.slice x.va x.vl.length x.vc]
abbrev hrow_ (x:Ct):X_:=#[.int .i64 x.au,.int .i64 x.rd,.slice x.ba x.bl.length x.bc,.slice x.pa x.pl.length x.pc]
structure CV where
 au:Int
 rd:Int
 bl:List (L_)
 pl:List (L_)
 vl:L_
def zT (l:List zi):List (L_):=l.map (·.bs)
theorem zcQ (l:List zi):(zT l).length=l.length:=by simp[zT]
def pz (l:List (L_)):List zi:=l.map λb=>⟨none,0,b⟩
theorem zcH (l:List zi):zbm (pz (zT l)) l:=by
 show(pz (zT l)).map (·.bs)=l.map (·.bs);simp[pz,zT]
theorem zw5 (l:List zi)(k:Nat)(h:k<l.length):(zT l).getD k []=(l[k]).bs:=by simp[zT,h]
theorem zor {l m:List zi}(h:zbm l m):zT l=zT m:=h
def Ct.v (c:Ct):CV:=⟨c.au,c.rd,zT c.bl,zT c.pl,c.vl⟩
def CV.f (c:CV):Int:=zap c.au c.rd (pz c.bl) (pz c.pl) c.vl
def CV.hf (c:CV):Int:=zO c.au c.rd (pz c.bl) (pz c.pl)
def CV.d (c:CV):L_:=zaE c.au c.rd (pz c.bl) (pz c.pl)
theorem ziL {b c:List zi}(vl:L_)(d:zbm b bl)(f:zbm c pl):zap au rd b c vl=zap au rd bl pl vl:=by
 rw[zap,zap,zfk d f]
theorem Ct.f_v (c:Ct):zap c.au c.rd c.bl c.pl c.vl=c.v.f:=(ziL c.vl (zcH c.bl) (zcH c.pl)).symm
theorem Ct.hf_v (c:Ct):zO c.au c.rd c.bl c.pl=c.v.hf:=(zfk (zcH c.bl) (zcH c.pl)).symm
theorem Ct.d_v (c:Ct):zaE c.au c.rd c.bl c.pl=c.v.d:=by
 rw[CV.d,zaE,zaE];show zhV 2 _=zhV 2 (zaZ c.au c.rd (pz (zT c.bl)) (pz (zT c.pl)));rw[zhX (zcH c.bl) (zcH c.pl)]
theorem CV.d_length (c:CV):c.d.length=32:=zbD _ _ _ _
theorem zfO (h:zap au rd bl pl vl=0):zO au rd bl pl=0:=by
 rw[zap]at h
 split at h
 exact h
 rename_i g
 simpa using g
def zI (ls:List Ct):List CV:=ls.map Ct.v
theorem zbv (b:List Ct):(zI b).length=b.length:=by simp[zI]
theorem zvw (b:List Ct)(k:Nat):zI (b.take k)=(zI b).take k:=by simp[zI,List.map_take]
def zaM (l:List CV)(k:Nat):CV:=l.getD k ⟨0,0,[],[],[]⟩
theorem zk4 (b:List Ct)(k:Nat)(h:k<b.length):zaM (zI b) k=(b[k]).v:=by simp[zaM,zI,h]
theorem zBY (l:List CV)(k j:Nat)(h:j<k):zaM (l.take k) j=zaM l j:=by simp[zaM,List.getD,h]
def zfp (l:List CV)(au rd:Int)(j:Nat):Bool:=decide ((zaM l j).au=au/\(zaM l j).rd=rd)
theorem zvx (b:List Ct)(au rd:Int)(k:Nat)(h:k<b.length):zfp (zI b) au rd k=decide ((b[k]).au=au/\(b[k]).rd=rd):=by rw[zfp,zk4 b k h];rfl
def cOf (l:List CV)(au rd:Int):Int:=zaC (zfp l au rd) l.length
def zmi (l:List CV)(d:L_)(j:Nat):Bool:=decide (txL (zaM l j).d=txL d)
def pOf (l:List CV)(d:L_):Int:=zaC (zmi l d) l.length
theorem zrC (l:List CV)(d:L_):-1<=pOf l d/\pOf l d<l.length:=zkl _ _
theorem zlB (l:List CV)(au rd:Int):-1<=cOf l au rd/\cOf l au rd<l.length:=zkl _ _
def ziM (l:List CV)(rd:Int)(d:L_):Int:=if pOf l d<0 then 8 else if(zaM l (pOf l d).toNat).rd≠rd-1 then 9 else 0
def zb5 (l:List CV)(rd:Int)(pl:List (L_)):Nat->Int
 | 0=>0
 | m+1=>if zb5 l rd pl m=9 then 9 else if ziM l rd (pl.getD m [])=0 then zb5 l rd pl m else ziM l rd (pl.getD m [])
def zdz (l:List CV)(rd:Int)(pl:List (L_)):Int:=zb5 l rd pl pl.length
theorem zlC (l:List CV)(rd:Int)(pl:List (L_))(m k:Nat)(h:zb5 l rd pl m=9)(b:m<=k):zb5 l rd pl k=9:=by
 induction k with
 | zero=>
  obtain rfl:m=0:=by omega
  exact h
 | succ k ih=>
  rcases lG_ m (k+1)with g|g;rw[zb5,iP_ (ih (by omega))];obtain rfl:m=k+1:=by omega
  exact h
theorem zlD (l:List CV)(rd:Int)(pl:List (L_))(m:Nat)(h:zb5 l rd pl m≠9)(b:pOf l (pl.getD m [])<0):zb5 l rd pl (m+1)=8:=by
 rw[zb5,iN_ h,ziM,iP_ b]
 rfl
theorem zpW (l:List CV)(rd:Int)(pl:List (L_))(m:Nat)(c:¬pOf l (pl.getD m [])<0)(d:(zaM l (pOf l (pl.getD m [])).toNat).rd≠rd-1)(b:m<pl.length):zdz l rd pl=9:=by
 have e:zb5 l rd pl (m+1)=9:=by
  rw[zb5,ziM,iN_ c,iP_ d]
  split
  rfl
  rfl
 exact zlC l rd pl (m+1) _ e b
theorem zos (l:List CV)(rd:Int)(pl:List (L_))(m:Nat)(b:¬pOf l (pl.getD m [])<0)(c:(zaM l (pOf l (pl.getD m [])).toNat).rd=rd-1):zb5 l rd pl (m+1)=zb5 l rd pl m:=by
 have e:ziM l rd (pl.getD m [])=0:=by rw[ziM,iN_ b,iN_ (λh=>h c)]
 rw[zb5,iP_ e]
 split
 rename_i h
 exact h.symm
 rfl
def zdL (l:List CV)(pl:List (L_)):Nat->List (L_)
 | 0=>[]
 | m+1=>if pOf l (pl.getD m [])<0 then zdL l pl m++[pl.getD m []]else zdL l pl m
def zmj (l:List CV)(pl:List (L_)):List (L_):=zdL l pl pl.length
theorem zot (l:List CV)(pl:List (L_))(m:Nat):(zdL l pl m).length<=m:=by
 induction m with
 | zero=>simp[zdL]
 | succ m ih=>
  rw[zdL]
  split
  simp;omega
  omega
theorem zm6 (l:List CV)(rd:Int)(pl:List (L_))(m:Nat)(h:zb5 l rd pl m≠9):zb5 l rd pl m=if(zdL l pl m).length=0 then 0 else 8:=by
 induction m with
 | zero=>rfl
 | succ m ih=>
  have h':zb5 l rd pl m≠9:=λe=>h (zlC l rd pl m (m+1) e (by omega));by_cases hp:pOf l (pl.getD m [])<0;rw[zlD l rd pl m h' hp,zdL,iP_ hp,iN_ (by simp)];by_cases hr:(zaM l (pOf l (pl.getD m [])).toNat).rd=rd-1;rw[zos l rd pl m hp hr,zdL,iN_ hp];exact ih h'
  exfalso
  apply h
  rw[zb5,ziM,iN_ hp,iP_ hr]
  split
  rfl
  rfl
def zfc (l:List CV)(au rd:Int)(pl:List (L_)):Int:=if 0<=cOf l au rd then 7 else zdz l rd pl
def zgH (l:List CV)(k:Nat):Bool:=decide ((zaM l k).f≠0)||decide (zfc (l.take k) (zaM l k).au (zaM l k).rd (zaM l k).pl≠0)
def zbV (l:List CV):Int:=if 400<l.length\/(List.range l.length).any (zgH l)=true then 12 else 0
theorem zzC (l:List CV)(k:Nat)(b:k<l.length)(h:zgH l k=true):zbV l=12:=by
 rw[zbV,iP_]
 right
 simp only[aT_];exact⟨k,by simpa using b,h⟩
theorem zw6 (l:List CV)(c:l.length<=400)(h:∀k,k<l.length->zgH l k=false):zbV l=0:=by
 rw[zbV,iN_];rintro(g|g);omega;simp only[aT_]at g;obtain⟨k,b,e⟩:=g;rw[h k (by simpa using b)]at e;cases e
theorem zgw {l:List CV}(h:zbV l=0):l.length<=400/\∀k,k<l.length->zgH l k=false:=by
 rw[zbV]at h
 split at h
 cases h
 rename_i g
 refine⟨by omega,λk b=>?_⟩;cases e:zgH l k with
 | false=>rfl
 | true=>exact absurd (.inr (aT_.2 ⟨k,by simpa using b,e⟩)) g
theorem zx4 (l:List CV)(k:Nat)(h:zgH l k=false):(zaM l k).f=0:=by
 simp only[zgH,Bool.or_eq_false_iff,decide_eq_false_iff_not,ne_eq,Decidable.not_not]at h;exact h.1
structure zba (w:World)(sa:Q_)(ls:List Ct):Prop where
 cells:ls=[]\/∃sb so,sa=some (p_ sb so)/\∀j (h:j<ls.length),w.cell? (p_ sb (so+j*5))=some (I_ (ls[j]).au)/\w.cell? (p_ sb (so+j*5+1))=some (I_ (ls[j]).rd)/\w.cell? (p_ sb (so+j*5+2))=some (.slice (ls[j]).ba (ls[j]).bl.length (ls[j]).bc)/\w.cell? (p_ sb (so+j*5+3))=some (.slice (ls[j]).pa (ls[j]).pl.length (ls[j]).pc)/\w.cell? (p_ sb (so+j*5+4))=some (.slice (ls[j]).va (ls[j]).vl.length (ls[j]).vc)
theorem zba.below {l:List Ct}(h:zba w sa l)(d:B_ w w'):zba w' sa l:=by
 refine⟨?_⟩;rcases h.cells with h|⟨b,c,rfl,s⟩;exact .inl h;refine .inr ⟨b,c,rfl,λj t=>?_⟩;obtain⟨g,m,o,q,r⟩:=s j t;have f:b<w.heap.size:=bL_ g;exact⟨(d.cell (p:=p_ b (c+j*5)) f).trans g,(d.cell (p:=p_ b (c+j*5+1)) f).trans m,(d.cell (p:=p_ b (c+j*5+2)) f).trans o,(d.cell (p:=p_ b (c+j*5+3)) f).trans q,(d.cell (p:=p_ b (c+j*5+4)) f).trans r⟩
theorem zba.take {b:List Ct}(h:zba w sa b)(k:Nat):zba w sa (b.take k):=by
 refine⟨?_⟩;rcases h.cells with h|⟨g,l,rfl,c⟩
 left;simp[h]
 refine .inr ⟨g,l,rfl,λj d=>?_⟩;have f:j<b.length:=by simp at d;omega
 have:=c j f
 simpa[List.getElem_take]using this
theorem zba.at {b:List Ct}(h:zba w sa b)(m:Nat)(f:m<b.length):∃c d,sa=some (p_ c d)/\C_ w c (d+m*5) (I_ (b[m]).au)/\C_ w c (d+m*5+1) (I_ (b[m]).rd)/\C_ w c (d+m*5+2) (.slice (b[m]).ba (b[m]).bl.length (b[m]).bc)/\C_ w c (d+m*5+3) (.slice (b[m]).pa (b[m]).pl.length (b[m]).pc)/\C_ w c (d+m*5+4) (.slice (b[m]).va (b[m]).vl.length (b[m]).vc):=by
 rcases h.cells with h|⟨c,d,rfl,g⟩;rw[h]at f;simp at f;exact⟨c,d,rfl,g m f⟩
structure za7 (w:World)(c:Ct):Prop where
 hat:HAt w c.ba c.bc c.bl c.pa c.pc c.pl
 ints:zax w c.va c.vl
 vle:c.vl.length<=9000000000000000000
theorem za7.below {c:Ct}(h:za7 w c)(b:B_ w w'):za7 w' c:=⟨h.hat.below b,h.ints.below b,h.vle⟩
structure zy5 (w:World)(sa:Q_)(cap:Nat)(ls:List Ct):Prop where
 le:ls.length<=cap
 max:cap<=9223372036854775807
 small:ls.length<=3000000000000000000
 some:cap=0\/∃sb so,sa=some (p_ sb so)
 certs:zba w sa ls
 each:∀c∈ls,za7 w c
variable {n B cap base:Nat}{w2:World}{bs:L_}{ls:List Ct}{xs:List Value}{v1:Value}{va:Q_}
def zfq (c:Ct)(b:Nat):Prop:=(∃so,c.ba=some (p_ b so))\/(∃so,c.pa=some (p_ b so))\/(∃p,p∈c.bl++c.pl/\p.bs≠[]/\∃so,p.sa=some (p_ b so))\/(c.vl≠[]/\∃so,c.va=some (p_ b so))
theorem zfU (h:zg w sa cap bs)(g:∀b c,bs≠[]->sa=some (p_ b c)->w'.heap[b]? = w.heap[b]?):zg w' sa cap bs:=by
 refine⟨h.le,h.max,h.some,h.nil,?_⟩;rcases h.bytes with d|⟨f,c,e,d⟩;exact .inl d;by_cases hn:bs=[];exact .inl hn;exact .inr ⟨f,c,e,λk j=>(cB_ (g f c hn e)).trans (d k j)⟩
theorem zgg (h:zg w sa cap bs)(f:bs≠[])(b g:Nat)(e:sa=some (p_ b g)):b<w.heap.size:=by
 rcases h.bytes with c|⟨j,m,d,c⟩;exact absurd c f;rw[e]at d;cases d;exact bL_ (c 0 (by cases bs with|nil=>exact absurd rfl f|cons a l=>simp))
theorem zna {f:List zi}(h:zx w sa cap f)(o:∀b c,sa=some (p_ b c)->w'.heap[b]? = w.heap[b]?)(m:∀p,p∈f->∀b c,p.bs≠[]->p.sa=some (p_ b c)->w'.heap[b]? = w.heap[b]?):zx w' sa cap f:=by
 refine⟨h.le,h.max,h.small,h.some,⟨?_,λp g=>zfU (h.parts.each p g) (m p g)⟩⟩;rcases h.parts.cells with d|⟨j,c,e,d⟩;exact .inl d;exact .inr ⟨j,c,e,λk l=>(cB_ (o j c e)).trans (d k l)⟩
theorem ztG (h:zax w va vl)(j:∀b c,vl≠[]->va=some (p_ b c)->w'.heap[b]? = w.heap[b]?):zax w' va vl:=by
 refine⟨?_⟩;rcases h.cells with d|⟨f,c,e,d⟩;exact .inl d;by_cases hn:vl=[];exact .inl hn;exact .inr ⟨f,c,e,λk g=>(cB_ (j f c hn e)).trans (d k g)⟩
theorem za7.keep {c:Ct}(h:za7 w c)(m:w.heap.size<=w'.heap.size)(f:∀b,zfq c b->w'.heap[b]? = w.heap[b]?):za7 w' c:=
 ⟨⟨zna h.hat.lb (λb d e=>f b (.inl ⟨d,e⟩)) (λp j b d g e=>f b (.inr (.inr (.inl ⟨p,List.mem_append_left _ j,g,d,e⟩)))),zna h.hat.lp (λb d e=>f b (.inr (.inl ⟨d,e⟩))) (λp j b d g e=>f b (.inr (.inr (.inl ⟨p,List.mem_append_right _ j,g,d,e⟩)))),λl d e=>nL_ (h.hat.rb l d e) m,λl d e=>nL_ (h.hat.rp l d e) m⟩,ztG h.ints (λb d g e=>f b (.inr (.inr (.inr ⟨g,d,e⟩)))),h.vle⟩
theorem za7.block_lt {c:Ct}(h:za7 w c)(b:Nat)(o:zfq c b):b<w.heap.size:=by
 rcases o with⟨d,e⟩|⟨d,e⟩|⟨p,g,f,d,e⟩|⟨f,d,e⟩;exact h.hat.rb b d e;exact h.hat.rp b d e;rcases mA_.1 g with g|g;exact zgg (h.hat.lb.parts.each p g) f b d e;exact zgg (h.hat.lp.parts.each p g) f b d e;rcases h.ints.cells with j|⟨r,s,m,j⟩;exact absurd j f;rw[e]at m;cases m;exact bL_ (j 0 (by cases q:c.vl with|nil=>exact absurd q f|cons a l=>simp))
def zgy (w:World)(B:Nat)(v:Value)(ks:List Ct):Prop:=∀c∈ks,za7 w c/\∀b,zfq c b->B<=b/\v.ownBlock≠some b
theorem zgy.more {C:World}{v:Value}{A:List Ct}{c:Ct}{o:Obj}{F:Nat}{e:TypeId}(h:zgy w B v A)(I:B<=w.heap.size)(E:w.ownsRow B e F v n xs)(s:B_ w w2)
  (t:∀b,zfq c b->w.heap.size<=b) (z:za7 w2 c) (G:zV (w2.alloc o) v C v1):zgy C B v1 (A++[c]):=by
 have r:B_ w2 (w2.alloc o):=(bR_ _ _).alloc (nR_ _) _;have J:w2.heap.size<(w2.alloc o).heap.size:=by rw[zG];omega
 have q:=G.grown.size;have D:=s.size;intro d j;rcases mA_.1 j with j|j;obtain⟨y,p⟩:=h d j;have l:=(y.below s).below r;refine⟨l.keep q (λb f=>G.grown.block b (l.block_lt b f) (λe=>(p b f).2 e.symm)),λb f=>⟨(p b f).1,λm=>?_⟩⟩;have:=y.block_lt b f;rcases G.fresh b m with g|g;exact(p b f).2 g;omega;obtain rfl:d=c:=by simpa using j
 have u:∀b,zfq d b->v.ownBlock≠some b:=λb f m=>by
  have H:=(E.lt b m).2;have D:=t b f;omega
 have l:=z.below r;refine⟨l.keep q (λb f=>G.grown.block b (l.block_lt b f) (λe=>u b f e.symm)),λb f=>⟨by have:=t b f;omega,λm=>?_⟩⟩;have:=z.block_lt b f;rcases G.fresh b m with g|g;exact u b f g;omega
theorem zoI:(prog.info? 88).map (λi=>(i.zero,i.size,i.bytes))=some (some (.agg #[I_ 0,I_ 0,O_,O_,O_]),5,88):=by kernel_rfl
def Ct.cs (c:Ct):List Value:=[I_ c.au,I_ c.rd,.slice c.ba c.bl.length c.bc,.slice c.pa c.pl.length c.pc,.slice c.va c.vl.length c.vc]
def ctv:List Ct->List Value
 | []=>[]
 | s::r=>s.cs++ctv r
theorem zvF (b:List Ct)(s:Ct):ctv (b++[s])=ctv b++s.cs:=by
 induction b with
 | nil=>simp[ctv]
 | cons x r ih=>simp[ctv,ih]
theorem ze3 (b:List Ct):(ctv b).length=b.length*5:=by
 induction b with
 | nil=>rfl
 | cons x r ih=>simp[ctv,ih,Ct.cs];omega
theorem zfx (b:List Ct)(j i:Nat)(h:j<b.length)(c:i<5):(ctv b)[j*5+i]? = (b[j]).cs[i]?:=by
 induction b generalizing j with
 | nil=>cases h
 | cons x r ih=>
  cases j with
  | zero=>simp only[ctv,Nat.zero_mul,zA_,List.getElem_cons_zero];rw[List.getElem?_append_left (by simp[Ct.cs];exact c)]
  | succ j=>
   have h':j<r.length:=by simpa using h
   simp only[ctv,List.getElem_cons_succ];rw[List.getElem?_append_right (by simp[Ct.cs];omega),<-ih j h']
   congr 1
   simp[Ct.cs];omega
theorem zp8 {v:Value}(h:w.ownsRow base 88 5 v n (ctv ls))(y:zgy w base v ls):∃c rc,v=.slice c n rc/\n=ls.length/\(n<=3000000000000000000->zy5 w c rc ls)/\(∀b f,c=some (p_ b f)->base<=b/\b<w.heap.size):=by
 have C:n=ls.length:=by have:=h.1;rw[ze3]at this;omega
 rcases h.2 with⟨rfl,D⟩|⟨g,l,G,rfl,d⟩;have z:ls=[]:=eN_ (by omega);subst D z;exact⟨none,0,rfl,rfl,λ_=>⟨nR_ _,by decide,by decide,.inl rfl,⟨.inl rfl⟩,λp E=>by cases E⟩,(λ_ _ e=>by cases e)⟩;refine⟨some (p_ g 0),l,rfl,C,λI=>⟨?_,?_,by omega,.inr ⟨g,0,rfl⟩,⟨.inr ⟨g,0,rfl,λj B=>?_⟩⟩,λs F=>(y s F).1⟩,(λb f e=>by cases e;exact h.lt _ rfl)⟩;obtain⟨_,_,H,_⟩:=d;omega;obtain⟨_,_,_,u,_⟩:=d;exact u;have e:∀i,i<5->w.cell? (p_ g (j*5+i))=(ls[j]).cs[i]?:=λi A=>by rw[World.ownsRow.cellAt h (j*5+i) (by omega),zfx ls j i B A]
 have m:=e 0 (by omega);have o:=e 1 (by omega);have q:=e 2 (by omega);have r:=e 3 (by omega);have t:=e 4 (by omega);exact⟨by simpa[Ct.cs]using m,by simpa[Ct.cs]using o,by simpa[Ct.cs]using q,by simpa[Ct.cs]using r,by simpa[Ct.cs]using t⟩
variable {k:Nat}{r:Int}
structure Sl where
 au:Int
 rd:Int
 p:zi
abbrev srow_ (x:Sl):X_:=#[.int .i64 x.au,.int .i64 x.rd,.slice x.p.sa x.p.bs.length x.p.cap]
abbrev SV:=Int×Int×L_
def Sl.v (s:Sl):SV:=(s.au,s.rd,s.p.bs)
def vs (ls:List Sl):List SV:=ls.map Sl.v
theorem zay (b:List Sl):(vs b).length=b.length:=by simp[vs]
def zd1 (l:List SV)(k:Nat):SV:=l.getD k (0,0,[])
theorem zhl (b:List Sl)(k:Nat)(h:k<b.length):zd1 (vs b) k=(b[k]).v:=by simp[zd1,vs,h]
def hit (l:List SV)(au rd:Int)(j:Nat):Bool:=decide ((zd1 l j).1=au/\(zd1 l j).2.1=rd)
theorem zwW (b:List Sl)(au rd:Int)(k:Nat)(h:k<b.length):hit (vs b) au rd k=decide ((b[k]).au=au/\(b[k]).rd=rd):=by rw[hit,zhl b k h];rfl
def zhC (l:List SV)(au rd:Int)(k:Nat)(r:Int):Prop:=(∃m:Nat,m<k/\r=m/\hit l au rd m=true/\∀j,j<m->hit l au rd j=false)\/(r=-1/\∀j,j<k->hit l au rd j=false)
def zff (l:List SV)(au rd:Int)(k:Nat):Bool:=(List.range k).any (hit l au rd)
theorem zhC.neg {l:List SV}(h:zhC l au rd k r):(zff l au rd k=true/\0<=r)\/(zff l au rd k=false/\r=-1):=by
 rcases h with⟨m,f,rfl,b,_⟩|⟨rfl,c⟩;refine .inl ⟨?_,by omega⟩;simp only[zff,List.any_eq_true];exact⟨m,by simpa using f,b⟩;refine .inr ⟨?_,rfl⟩;simp only[zff,List.any_eq_false];intro j d;rw[c j (by simpa using d)];simp
def zeD (l:List SV)(k:Nat):Bool:=decide (zbf (zd1 l k).1 (zd1 l k).2.1 (zd1 l k).2.2.length≠0)||zff l (zd1 l k).1 (zd1 l k).2.1 k
def zdt (l:List SV):Int:=if 400<l.length\/(List.range l.length).any (zeD l)=true then 12 else 0
theorem zth (l:List SV)(h:400<l.length):zdt l=12:=by simp[zdt,h]
theorem zvi (l:List SV)(k:Nat)(b:k<l.length)(h:zeD l k=true):zdt l=12:=by
 rw[zdt,if_pos]
 right
 simp only[List.any_eq_true];exact⟨k,by simpa using b,h⟩
theorem zwX (l:List SV)(c:l.length<=400)(h:∀k,k<l.length->zeD l k=false):zdt l=0:=by
 rw[zdt,if_neg];rintro(g|g);omega;simp only[List.any_eq_true]at g;obtain⟨k,b,e⟩:=g;rw[h k (by simpa using b)]at e;cases e
theorem zmY {l:List SV}(h:zdt l=0):l.length<=400/\∀k,k<l.length->zeD l k=false:=by
 rw[zdt]at h
 split at h
 cases h
 rename_i g
 refine⟨by omega,λk b=>?_⟩;cases e:zeD l k with
 | false=>rfl
 | true=>exact absurd (.inr (List.any_eq_true.2 ⟨k,by simpa using b,e⟩)) g
theorem zwY (l:List SV):zdt l=0\/zdt l=12:=by
 rw[zdt];split;exact .inr rfl;exact .inl rfl
structure zgb (w:World)(sa:Q_)(ls:List Sl):Prop where
 cells:ls=[]\/∃sb so,sa=some (p_ sb so)/\∀j (h:j<ls.length),w.cell? (p_ sb (so+j*3))=some (I_ (ls[j]).au)/\w.cell? (p_ sb (so+j*3+1))=some (I_ (ls[j]).rd)/\w.cell? (p_ sb (so+j*3+2))=some (.slice (ls[j]).p.sa (ls[j]).p.bs.length (ls[j]).p.cap)
 each:∀s∈ls,zg w s.p.sa s.p.cap s.p.bs
theorem zgb.below {m:List Sl}(h:zgb w sa m)(b:B_ w w'):zgb w' sa m:=by
 refine⟨?_,λp r=>(h.each p r).below b⟩;rcases h.cells with h|⟨c,d,rfl,o⟩;exact .inl h;refine .inr ⟨c,d,rfl,λj q=>?_⟩;obtain⟨f,g,l⟩:=o j q;exact⟨(b.cell (p:=p_ c (d+j*3)) (block_lt_of_cell f)).trans f,(b.cell (p:=p_ c (d+j*3+1)) (block_lt_of_cell g)).trans g,(b.cell (p:=p_ c (d+j*3+2)) (block_lt_of_cell l)).trans l⟩
structure zeb (w:World)(sa:Q_)(cap:Nat)(ls:List Sl):Prop where
 le:ls.length<=cap
 max:cap<=9223372036854775807
 small:ls.length<=3000000000000000000
 some:cap=0\/∃sb so,sa=some (p_ sb so)
 slots:zgb w sa ls
theorem zeb.below {b:List Sl}(h:zeb w sa cap b)(c:B_ w w'):zeb w' sa cap b:=⟨h.le,h.max,h.small,h.some,h.slots.below c⟩
theorem zhf {a b:ByteArray}(h:a.toList=b.toList):a=b:=by
 rw[ByteArray.toList_eq,ByteArray.toList_eq]at h;exact Go.WideShapes.bytes_inj h
theorem zgr (bs:L_):(zai bs).data.toList=bs.map λn=>UInt8.ofNat n.toNat:=by
 have h:∀(l:L_) (r:ByteArray),(l.foldl (λr n=>r.push (UInt8.ofNat n.toNat)) r).data.toList=r.data.toList++l.map λn=>UInt8.ofNat n.toNat:=by
  intro l
  induction l with
  | nil=>simp
  | cons x l ih=>intro r;rw[List.foldl_cons,ih];simp[ByteArray.push]
 rw[zai,h]
 simp
theorem ziD {c ys:L_}(d:∀x∈c,0<=x/\x<=255)(m:∀x∈ys,0<=x/\x<=255)(h:zai c=zai ys):c=ys:=by
 have g:c.map (λn=>UInt8.ofNat n.toNat)=ys.map (λn=>UInt8.ofNat n.toNat):=by rw[<-zgr,<-zgr,h]
 have f:∀l:L_,(∀x∈l,0<=x/\x<=255)->(l.map (λn=>UInt8.ofNat n.toNat)).map (λb=>(b.toNat:Int))=l:=by
  intro l j;rw[List.map_map]
  conv=>rhs;rw[<-List.map_id l]
  refine List.map_congr_left λx d=>?_;have:=j x d;simp only[Function.comp,id];rw[UInt8.toNat_ofNat',Nat.mod_eq_of_lt (by omega)];omega
 rw[<-f c d,<-f ys m,g]
structure Sg where
 nd:Int
 au:Int
 rd:Int
 p:zi
abbrev GV:=Int×Int×Int×L_
def Sg.v (s:Sg):GV:=(s.nd,s.au,s.rd,s.p.bs)
def zA (ls:List Sg):List GV:=ls.map Sg.v
theorem zfM (b:List Sg):(zA b).length=b.length:=by simp[zA]
def zhD (nd au rd:Int)(n:Nat):Int:=if ¬(0<=nd/\nd<4)then 2 else zbf au rd n
def gF (g:GV):Int:=zhD g.1 g.2.1 g.2.2.1 g.2.2.2.length
def zbF (l:List GV):Int:=if(∀g∈l,gF g=0)/\l.Nodup then 0 else 12
theorem zmZ (l:List GV):zbF l=0\/zbF l=12:=by
 rw[zbF];split;exact .inl rfl;exact .inr rfl
theorem zpT {l:List GV}(h:zbF l=0):(∀g∈l,gF g=0)/\l.Nodup:=by
 rw[zbF]at h
 split at h
 assumption
 cases h
theorem ztl {l:List GV}(h:(∀g∈l,gF g=0)/\l.Nodup):zbF l=0:=by rw[zbF,iP_ h]
theorem zoj {l:List GV}(h:¬l.Nodup):zbF l=12:=by
 rw[zbF,iN_];intro k;exact h k.2
structure zcz (w:World)(sa:Q_)(ls:List Sg):Prop where
 cells:ls=[]\/∃sb so,sa=some (p_ sb so)/\∀j (h:j<ls.length),w.cell? (p_ sb (so+j*4))=some (I_ (ls[j]).nd)/\w.cell? (p_ sb (so+j*4+1))=some (I_ (ls[j]).au)/\w.cell? (p_ sb (so+j*4+2))=some (I_ (ls[j]).rd)/\w.cell? (p_ sb (so+j*4+3))=some (.slice (ls[j]).p.sa (ls[j]).p.bs.length (ls[j]).p.cap)
 each:∀s∈ls,zg w s.p.sa s.p.cap s.p.bs/\zaN s.p.bs
theorem zcz.below {q:List Sg}(h:zcz w sa q)(b:B_ w w'):zcz w' sa q:=by
 refine⟨?_,λp o=>⟨(h.each p o).1.below b,(h.each p o).2⟩⟩;rcases h.cells with h|⟨c,d,rfl,r⟩;exact .inl h;refine .inr ⟨c,d,rfl,λj s=>?_⟩;obtain⟨f,g,l,m⟩:=r j s;exact⟨(b.cell (p:=p_ c (d+j*4)) (block_lt_of_cell f)).trans f,(b.cell (p:=p_ c (d+j*4+1)) (block_lt_of_cell g)).trans g,(b.cell (p:=p_ c (d+j*4+2)) (block_lt_of_cell l)).trans l,(b.cell (p:=p_ c (d+j*4+3)) (block_lt_of_cell m)).trans m⟩
structure ze9 (w:World)(sa:Q_)(cap:Nat)(ls:List Sg):Prop where
 le:ls.length<=cap
 max:cap<=9223372036854775807
 small:ls.length<=2932031007400
 some:cap=0\/∃sb so,sa=some (p_ sb so)
 slots:zcz w sa ls
theorem ze9.below {b:List Sg}(h:ze9 w sa cap b)(c:B_ w w'):ze9 w' sa cap b:=⟨h.le,h.max,h.small,h.some,h.slots.below c⟩
theorem zx1 {b ys:L_}(c:zaN b)(d:zaN ys):txL b=txL ys↔b=ys:=⟨λh=>ziD c d (zhf h),λh=>by rw[h]⟩
theorem znC {α:Type}{l:List α}{x:α}(b:k<l.length):x∈l.take (k+1)↔x∈l.take k\/x=l[k]:=by
 rw[tS_ b,mA_,mS_]
variable {ss:Z_}
theorem zjR {b:Int}(h:zbk au b ss=0):(0<=au/\au<4)/\(1<=b/\b<=1048576)/\(1<=ss.length/\ss.length<=4)/\∀s∈ss,1<=s.size/\s.size<=20:=by
 unfold zbk at h
 split at h
 cases h
 split at h
 cases h
 split at h
 rename_i f g c
 refine⟨by omega,by omega,by omega,λs d=>?_⟩;have:=List.all_eq_true.1 c s d
 simpa[zbM]using this
 cases h
variable {ops:Array Oper}{Q:Exit->Act->World->Prop}{a:Act}
def tb (s:ByteArray):L_:=s.data.toList.map λb=>(b.toNat:Int)
theorem zeK (s:ByteArray):(tb s).length=s.size:=by simp[tb]
theorem zpY (s:ByteArray):Lib.strCells s=ub (tb s):=by simp[Lib.strCells,ub,tb]
theorem znH (w:World)(ty:TypeId)(base:Nat)(v:Value)(n:Nat)(bs:L_)(b:w.ownsRow base 5 1 v n (ub bs))(s:ByteArray)(y:n+s.size<=140737488355328)(E:base<=w.heap.size) :
  ∃d w',(Builtin.append_ #[61,9] ty #[v,.string s]).run prog w=.ok d w'/\w'.ownsRow base 5 1 d (n+s.size) (ub (bs++tb s))/\zV w v w' d:=by
 obtain⟨i,f,r,m,t⟩:=info_parts zek;have z:n+s.size<=maxLen:=by unfold maxLen;omega
 obtain⟨d,w',l,B,C,_⟩:=Lib.run_append_own_string (P:=prog) w base 61 9 ty 5 i underlying61 underlying9 f r m t v n (ub bs) b s z y E;refine⟨d,w',l,by rw[show ub (bs++tb s)=ub bs++ub (tb s) by simp[ub],<-zpY];exact B,⟨C,?_⟩⟩;intro q p;rcases b.2 with⟨rfl,G⟩|⟨g,o,A,rfl,O,F,L,M,D,N⟩;subst G;have H:bs=[]:=by have:=b.1;rw[zcb]at this;exact eN_ (by omega)
 subst H;obtain⟨R,w2,c,J,_,_⟩:=Lib.run_append_own_string (P:=prog) w w.heap.size 61 9 ty 5 i underlying61 underlying9 f r m t (O_) 0 [] (oN_ _ _ _ _) s z y (nR_ _);have e:=l.symm.trans c;cases e;exact .inr (J.lt q p).1;by_cases hroom:n+s.size<=o;have c:=Lib.run_append_room_string (P:=prog) w 61 9 ty 5 i underlying61 underlying9 f m g n o A F s hroom (by simp at D;omega);have e:=l.symm.trans c;cases e;exact .inl p;have I:=b.cells (g:=g) rfl;have c:=Lib.run_append_grow_string (P:=prog) w 61 9 ty 5 i (.int .u8 0) underlying61 underlying9 f r (p_ g 0) n o (ub bs) (by rw[m];simpa using b.1) I s (by omega) (by omega) (by rw[t];exact growslice_fits (by omega) (by omega));have e:=l.symm.trans c;cases e;cases p;exact .inr (nR_ _)
theorem zkx {rest:List Oper}{o:Oper}(l:o.guard=none)(c x:Operand)
  (p:o.op=.call { callee:=.builtin .append,args:=#[c,x],argTypes:=#[61,9] })
  (base:Nat) (v:Value) (n:Nat) (bs:L_) (t:a.eval c=v) (q:w.ownsRow base 5 1 v n (ub bs)) (s:ByteArray) (u:a.eval x=.string s) (m:n+s.size<=140737488355328) (j:base<=w.heap.size)
  (h:∀b w',w'.ownsRow base 5 1 b (n+s.size) (ub (bs++tb s))->zV w v w' b->wpList prog ops Q rest (a.put o.dst b) w'):wpList prog ops Q (o::rest) a w:=by
 refine wpList_plain l λK g=>?_;obtain⟨b,w',r,d,f⟩:=znH w o.type base v n bs q s m j;unfold Oper.wp execOp;simp only[p,resolve,invoke,builtin,Sem.run_bind,Sem.run_pure,Result.andThen_ok,List.map_toArray,List.map_cons,List.map_nil,t,u,r];exact g _ _ (h b w' d f)
def zbc:Z_->L_
 | []=>[]
 | s::l=>(s.size:Int)::(tb s++zbc l)
theorem zm7 (l:Z_)(s:ByteArray):zbc (l++[s])=zbc l++((s.size:Int)::tb s):=by
 induction l with
 | nil=>simp[zbc]
 | cons x l ih=>simp[zbc,ih]
theorem zmm (l:Z_)(h:∀s∈l,s.size<=20):(zbc l).length<=21*l.length:=by
 induction l with
 | nil=>simp[zbc]
 | cons x l ih=>
  have c:=h x (by simp);have d:=ih (λs b=>h s (by simp[b]));simp[zbc,zeK];omega
def zbY (au nu:Int)(ss:Z_):L_:=[au]++rd3 nu++[(ss.length:Int)]++zbc ss
theorem zhE (base:Nat)(v:Value)(k:Nat)(bs:L_)(au b:Int)(f:Q_)(n u:Nat)(ss:Z_)(w:World)(ha:0<=au/\au<4)(hr:0<=b/\b<=1048576)(hn:n=ss.length)(hl:ss.length<=4)(hz:∀s∈ss,s.size<=20)(hs:zas w f ss)(am:∀c l,f=some (p_ c l)->c<w.heap.size/\v.ownBlock≠some c)
  (d:w.ownsRow base 5 1 v k (ub bs)) (o:base<=w.heap.size) (hk:k<=90000) :
  Calls prog 121 #[v,.agg #[I_ au,I_ b,.slice f n u]] w λe w'=>∃N,e=.returned N/\w'.ownsRow base 5 1 N (k+(zbY au b ss).length) (ub (bs++zbY au b ss))/\zV w v w' N:=by
 subst hn;obtain⟨i,E,J,L,M⟩:=info_parts zek;obtain⟨av,aw⟩:=ha;have ai:v.ownBlock≠some w.heap.size:=λe=>by have:=(d.lt _ e).2;omega
 go_in;go_wp2_with (at_builtin;refine wpList_append_own_at _ rfl _ _ 61 rfl base 5 i (.int .u8 0) 1 1 underlying61 E J L M rfl (by decide) _ k _ rfl (oA_ (oA_ d _) _) (p_ (w.heap.size+1) 0) 1 1 [.int .u8 au] rfl rfl (by have:=zag (w.alloc (.cells #[I_ au,I_ b,.slice f ss.length u] 86)) [.int .u8 au] 5;rw[zG]at this;exact this) (zds [_]) (by unfold maxLen;omega) (by omega) (zB (zB o _) _) ?_;intro O w1 ad aa _ X;have p:=zV.of aa X;have z:=p.row (hX_ w _ _) ai;have c1:C_ w1 w.heap.size 1 (I_ b):=zb z 1 _ rfl)
 have an:w1.ownsRow base 5 1 O (k+1) (ub (bs++[au])):=by simpa[ub]using ad
 have H:O.ownBlock≠some w.heap.size:=λe=>by
  rcases p.fresh _ e with g|g;exact ai g;rw[zG,zG]at g;omega
 have B:=p.alloc.alloc;clear ad aa X p;refine(zeA base O (k+1) _ b _ hr an (nT_ o B.grown.size) (by omega)).mono ?_;rintro e w2⟨v2,rfl,ae,q⟩;have A:=q.row z H;have c2:=zb A 2 (.slice f ss.length u) rfl;have I:v2.ownBlock≠some w.heap.size:=λe=>by
  rcases q.fresh _ e with g|g;exact H g;have:=ze z;omega
 have C:=B.trans q;clear z c1;go_wp2_with (at_builtin;refine wpList_append_own_at _ rfl _ _ 61 rfl base 5 i (.int .u8 0) 1 1 underlying61 E J L M rfl (by decide) _ (k+1+3) _ rfl (oA_ ae _) (p_ w2.heap.size 0) 1 1 [.int .u8 (ss.length:Int)] rfl rfl (zag _ _ _) (zds [_]) (by unfold maxLen;omega) (by omega) (zB (nT_ o C.grown.size) _) ?_;intro v3 w3 af ab _ Y;have r:=(zV.of ab Y).alloc;have r3:=r.row A I;have c3:C_ w3 w.heap.size 2 (.slice f ss.length u):=zb r3 2 _ rfl)
 have ag:w3.ownsRow base 5 1 v3 (k+1+3+1) (ub (bs++[au]++rd3 b++[(ss.length:Int)])):=by simpa[ub]using af
 have R:=C.trans r;have ar:v3.ownBlock≠some w.heap.size:=λe=>by
  rcases r.fresh _ e with g|g;exact I g;have:=ze A;omega
 clear A c2 af ab Y r ae q B C I H;go_loopw [27,0] (λj t wr=>∃m:Nat,m<=ss.length/\j=I_ m/\wr.ownsRow base 5 1 t (k+1+3+1+(zbc (ss.take m)).length) (ub (bs++[au]++rd3 b++[(ss.length:Int)]++zbc (ss.take m)))/\zV w v wr t) (λj _ _=>ss.length-(intOf j).toNat)
 case atStart=>exact⟨0,nZ_ _,rfl,by simpa[zbc]using ag,R⟩
 case round=>
  clear ag R r3 c3 ar;obtain⟨m,hm,rfl,d,G⟩:=hrel;by_cases hlt:m<ss.length
  .obtain⟨c,l,rfl,hc⟩:∃c l,f=some (p_ c l)/\∀j,j<ss.length->C_ w c (l+j) (.string (ss.getD j ByteArray.empty)):=by
    rcases hs.cells with h|h;rw[h]at hlt;simp at hlt;exact h
   have D:=hc m hlt;have ck:=(cB_ (G.grown.block c (bL_ D) (λe=>(am c l rfl).2 e.symm))).trans D;have aq:(ss.getD m ByteArray.empty).size<=20:=hz _ (by simp[List.getD,hlt]);have F:Hid (zbc (ss.take (m+1))=zbc (ss.take m)++(((ss.getD m ByteArray.empty).size:Int)::tb (ss.getD m ByteArray.empty))):=by
    show _=_;rw[tS_ hlt,zm7];simp only[List.getD,List.getElem?_eq_getElem hlt,Option.getD_some]
   have ak:(zbc (ss.take m)).length<=84:=by
    have h1:=zmm (ss.take m) (λs h=>hz s (List.mem_of_mem_take h));have h2:(ss.take m).length<=4:=by rw[lT9_];omega
    omega
   have al:(m:Int)<ss.length:=by omega
   clear hc D;generalize ss.getD m ByteArray.empty=x at ck F aq;generalize zbc (ss.take m)=T at d F ak;have aj:=nT_ o G.grown.size;go_wp2_with (at_builtin;first|(refine wpList_append_own_at _ rfl _ _ 61 rfl base 5 i (.int .u8 0) 1 1 underlying61 E J L M rfl (by decide) _ (k+1+3+1+T.length) _ rfl (oA_ d _) (p_ wr.heap.size 0) 1 1 [.int .u8 (x.size:Int)] rfl rfl (zag _ _ _) (zds [_]) (by unfold maxLen;omega) (by omega) (zB aj _) ?_;intro v4 w4 ah ac _ Z;have U:=G.trans (zV.of ac Z).alloc;have ao:w4.ownsRow base 5 1 v4 (k+1+3+1+T.length+1) (ub (bs++[au]++rd3 b++[(ss.length:Int)]++T++[(x.size:Int)])):=(by simpa[ub]using ah);clear ah ac Z)|(refine zkx rfl _ _ rfl base _ (k+1+3+1+T.length+1) _ rfl ao x rfl (by omega) (nT_ o U.grown.size) ?_;intro v5 w5 ap G5))
   go_roundw
   case rel=>
    have V:∃y:Nat,y<=ss.length/\(Value.int .i64 ((m:Int)+1))=I_ y/\w5.ownsRow base 5 1 v5 (k+1+3+1+(zbc (ss.take y)).length) (ub (bs++[au]++rd3 b++[(ss.length:Int)]++zbc (ss.take y)))/\zV w v w5 v5:=
     ⟨m+1,by omega,by go_num,by rw[F.out];simp only[lP_,List.length_cons,zeK];rw[show k+1+3+1+(T.length+(x.size+1))=k+1+3+1+T.length+1+x.size by omega];simpa using ap,U.trans G5⟩
    first|exact V|((repeat apply Exists.intro);exact⟨V,rfl⟩)
   case measure=>simp[intOf];omega
  obtain rfl:m=ss.length:=by omega
  rw[tL_ (nR_ _)]at d;have al:¬(ss.length:Int)<ss.length:=by omega
  go_wp2_with fail
  go_ret;refine⟨_,rfl,?_,G⟩;have e:k+(zbY au b ss).length=k+1+3+1+(zbc ss).length:=by simp[zbY,rd3];omega
  rw[e,show bs++zbY au b ss=bs++[au]++rd3 b++[(ss.length:Int)]++zbc ss by simp[zbY]];exact d
structure BW where
 (au nu:Int) (ss:Z_)
def BW.d (b:BW):L_:=zhV 1 (zbY b.au b.nu b.ss)
def BW.f (b:BW):Int:=zbk b.au b.nu b.ss
structure Bc where
 v:BW
 ta:Q_
 tc:Nat
def Bc.cs (b:Bc):List Value:=[I_ b.v.au,I_ b.v.nu,.slice b.ta b.v.ss.length b.tc]
structure zcN (w:World)(b:Bc):Prop where
 strs:zas w b.ta b.v.ss
 le:b.v.ss.length<=b.tc
 max:b.tc<=maxLen
 nil:b.ta=none->b.tc=0
 lt:∀sb so,b.ta=some (p_ sb so)->sb<w.heap.size
theorem zcN.below {b:Bc}(h:zcN w b)(c:B_ w w'):zcN w' b:=⟨h.strs.below c,h.le,h.max,h.nil,λd f e=>nL_ (h.lt d f e) c.size⟩
def zb1 (l:List BW)(d:L_):Bool:=l.any λb=>decide (zai b.d=zai d)
def bOf (l:List BW)(d:L_):Option BW:=l.find? λb=>decide (zai b.d=zai d)
theorem zk5 {l:List BW}{d:L_}:bOf l d=none↔zb1 l d=false:=by
 unfold bOf zb1;rw[List.find?_eq_none,List.any_eq_false]
theorem zvA {l:List BW}{d:L_}:(bOf l d).isSome=zb1 l d:=by
 cases h:bOf l d with
 | none=>rw[zk5.1 h];rfl
 | some b=>
  cases h2:zb1 l d with
  | false=>rw[zk5.2 h2]at h;cases h
  | true=>rfl
theorem zkf:(prog.info? 9).map (λi=>(i.zero,i.size,i.bytes))=some (some (.string ByteArray.empty),1,16):=by kernel_rfl
def sv (ss:Z_):List Value:=ss.map Value.string
theorem zjB (ss:Z_):(sv ss).length=ss.length:=by simp[sv]
theorem zs7 (ss:Z_):∀u∈sv ss,u.oneCell'=true:=by
 intro u b;simp[sv]at b;obtain⟨x,_,rfl⟩:=b;rfl
theorem zf6 {v:Value}(h:w.ownsRow base 9 1 v n (sv ss))(d:∀s∈ss,s.size<=maxLen):∃b rc,v=.slice b n rc/\n=ss.length/\zas w b ss/\∀c f,b=some (p_ c f)->base<=c:=by
 have p:n=ss.length:=by have:=h.1;rw[zjB]at this;omega
 rcases h.2 with⟨rfl,q⟩|⟨g,l,r,rfl,_⟩;have m:ss=[]:=eN_ (by omega);subst q m;exact⟨none,0,rfl,rfl,⟨.inl rfl,d⟩,λ_ _ e=>by cases e⟩;refine⟨some (p_ g 0),l,rfl,p,⟨.inr ⟨g,0,rfl,λj o=>?_⟩,d⟩,λc f e=>by cases e;exact(h.lt _ rfl).1⟩;rw[zA_,World.ownsRow.cellAt h j (by omega)];simp[sv,o]
variable {q:Nat}
def inS (s:ByteArray)(ss:Z_):Bool:=ss.any λx=>decide (x=s)
theorem zon {s:ByteArray}(h:s∈ss):inS s ss=true:=by simp[inS,h]
theorem zm2 {s:ByteArray}(h:s ∉ ss):inS s ss=false:=by
 rw[inS,List.any_eq_false];intro x b;simp only[dE_];exact λe=>h (e ▸ b)
def zen (ss:Z_):Bool:=ss.all zbM&&decide ss.Nodup
def zaO (nx:Int)(ss:Z_):Int:=if ¬(1<=nx/\nx<=1048577)\/40<ss.length then 12 else if zen ss=true then 0 else 12
theorem zdJ :zen ss=true↔(∀s∈ss,zbM s=true)/\ss.Nodup:=by simp[zen]
theorem zif (b:q<ss.length):ss.getD q ByteArray.empty=ss[q]:=by simp[List.getD,b]
theorem zkG {s:ByteArray}:s∈ss.take q↔∃i,∃h:i<ss.length,i<q/\ss[i]=s:=by
 rw[List.mem_iff_getElem]
 constructor
 rintro⟨i,c,rfl⟩;have b:i<q/\i<ss.length:=by rw[lT9_]at c;omega
 exact⟨i,b.2,b.1,by simp⟩;rintro⟨i,h,d,rfl⟩;exact⟨i,by rw[lT9_];omega,by simp⟩
theorem zts (h:∀q,q<ss.length->zbM (ss.getD q ByteArray.empty)=true/\ss.getD q ByteArray.empty ∉ ss.take q):zen ss=true:=by
 refine zdJ.2 ⟨λs g=>?_,?_⟩;obtain⟨i,b,rfl⟩:=List.mem_iff_getElem.1 g;have:=(h i b).1
 rwa [zif b]at this
 rw[List.Nodup,List.pairwise_iff_getElem];intro i j b c f d;refine(h j c).2 ?_;rw[zif c,zkG];exact⟨i,b,f,d⟩
theorem zoo (b:q<ss.length)(h:zbM (ss.getD q ByteArray.empty)=false):zen ss=false:=by
 rw[Bool.eq_false_iff];intro e;have:=(zdJ.1 e).1 ss[q] (gM_ b);rw[zif b]at h;rw[h]at this;cases this
theorem zop (b:q<ss.length)(h:ss.getD q ByteArray.empty∈ss.take q):zen ss=false:=by
 rw[Bool.eq_false_iff];intro e;rw[zif b,zkG]at h;obtain⟨i,d,f,c⟩:=h;have:=(zdJ.1 e).2;rw[List.Nodup,List.pairwise_iff_getElem]at this;exact this i q d b f c
structure zbu (w:World)(sa:Q_)(cap:Nat)(ss:Z_):Prop where
 le:ss.length<=cap
 max:cap<=maxLen
 nil:sa=none->cap=0
 strs:zas w sa ss
theorem zbu.below (h:zbu w sa cap ss)(b:B_ w w'):zbu w' sa cap ss:=⟨h.le,h.max,h.nil,h.strs.below b⟩
theorem zjo {v:Value}(h:w.ownsRow base 9 1 v n (sv ss))(m:∀s∈ss,s.size<=maxLen):∃b rc,v=.slice b ss.length rc/\n=ss.length/\zbu w b rc ss/\∀f o,b=some (p_ f o)->base<=f:=by
 obtain⟨b,rc,rfl,c,d,l⟩:=zf6 h m;refine⟨b,rc,by rw[c],c,?_,l⟩;rcases h.2 with⟨e,t⟩|⟨g,p,q,e,_,_,r,j,_,_⟩;cases e;exact⟨by omega,by decide,λ_=>rfl,d⟩;cases e;exact⟨by omega,j,(λe=>by cases e),d⟩
theorem zas.take (h:zas w sa ss)(k:Nat):zas w sa (ss.take k):=by
 refine⟨?_,λs f=>h.size s (List.mem_of_mem_take f)⟩;rcases h.cells with h|⟨g,l,rfl,c⟩;subst h;simp;refine .inr ⟨g,l,rfl,λj d=>?_⟩;have b:j<k/\j<ss.length:=by rw[lT9_]at d;omega
 rw[c j b.2];simp[List.getD,b.1]
theorem zas.drop {c d:Nat}(h:zas w (some (p_ c d)) ss)(k:Nat):zas w (some (p_ c (d+k))) (ss.drop k):=by
 refine⟨?_,λs m=>h.size s (List.mem_of_mem_drop m)⟩;rcases h.cells with h|⟨b,o,e,f⟩;subst h;simp;cases e;refine .inr ⟨c,d+k,rfl,λj g=>?_⟩;have l:k+j<ss.length:=by simp at g;omega
 rw[Nat.add_assoc,f (k+j) l];simp[List.getD]
end Go.Proofs.YtpnpikpmdfipfaaGreatDoor
